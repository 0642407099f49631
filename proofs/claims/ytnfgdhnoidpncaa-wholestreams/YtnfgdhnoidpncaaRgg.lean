/- A drawn region with guards, slot by slot. -/
import Derived.Test.YtnfgdhnoidpncaaOps
namespace Go.Proofs.Ytnfgdhnoidpncaa
open Go.RowKit

theorem wpOp_of_stepOkG {P : Program} {ops : Array Oper} {Q : Exit → Act → World → Prop} {i : Nat} {o : Oper} {a : Act} {w : World} {R : Value → World → Prop} {K : Act → World → Prop}
    (hi : ops[i]? = some o) (hw : Region.wanted o (yielded ops a.tmps) = true) (h : StepOkR P o a w R) (hK : ∀ v w', R v w' → K (a.put o.dst v) w') : wpOp P ops Q i K a w := by
  unfold wpOp
  simp only [hi, hw, if_true]
  refine .inl ?_
  unfold Oper.wp
  rcases h with ⟨v, w', hr, h1⟩ | ⟨w', hr, h1⟩ | ⟨f, args, hr, hc⟩
  · rw [hr]; exact hK _ _ h1
  · rw [hr]; exact hK _ _ h1
  · rw [hr]
    exact hc.mono fun e w'' ⟨v, he, h1⟩ => by subst he; exact hK _ _ h1

/-- The region, slot by slot, where operations have guards: each is told to be wanted. -/
theorem region_slotsG {P : Program} {id : Nat} {ops : Array Oper} {Q : Exit → Act → World → Prop} {a : Act} {w : World} (V : Nat → Value → Prop) (C : Array Bool → Act → World → Prop)
    (hm : P.follows .mixedOrders = true)
    (hback : (List.range ops.size).all (fun i => ((ops[i]?).map fun o => o.after.all fun e => !Region.binds .any e || decide (e.on < i)).getD true) = true)
    (hdst : (List.range ops.size).all (fun i => (List.range ops.size).all fun j => decide (i = j) || ((ops[i]?).bind (·.dst)).isNone || decide ((ops[i]?).bind (·.dst) ≠ (ops[j]?).bind (·.dst))) = true)
    (n : Nat) (hbase : (List.range ops.size).all (fun i => (((ops[i]?).bind (·.dst)).map fun d => decide (d < n)).getD true) = true)
    (h0 : a.tmps.size = n) (hC0 : C (Array.replicate ops.size false) a w.drew)
    (hs : ∀ (listed : Array Bool) (a' : Act) (w' : World) i o, SlotInv ops a V C listed a' w' → ops[i]? = some o → listed.size = ops.size → listed.getD i true = false → (∀ e ∈ o.after, Region.binds .any e = true → listed.getD e.on false = true) →
      Region.wanted o (yielded ops a'.tmps) = true ∧ StepOkR P o a' w' (fun v w'' => (∀ d, o.dst = some d → V d v) ∧ C (listed.setIfInBounds i true) (a'.put o.dst v) w''))
    (he : ∀ (listed : Array Bool) (a' : Act) (w' : World), SlotInv ops a V C listed a' w' → (∀ i, i < ops.size → listed.getD i false = true) → Q .normal a' w') :
    (Code.region id ops true).wp P Q a w := by
  have HB : ∀ i o, ops[i]? = some o → ∀ e ∈ o.after, Region.binds .any e = true → e.on < i := by
    intro i o ho
    have hi : i < ops.size := (Array.getElem?_eq_some_iff.1 ho).1
    have h1 := List.all_eq_true.1 hback i (by simpa using hi)
    rw [ho] at h1
    simp only [Option.map_some, Option.getD_some, Array.all_eq_true_iff_forall_mem] at h1
    intro e he1 hb
    have := h1 e he1
    simpa [hb] using this
  have HD : ∀ (i j : Nat) (o o' : Oper) (d : Nat), ops[i]? = some o → ops[j]? = some o' → o.dst = some d → o'.dst = some d → i = j := by
    intro i j o o' d ho ho' hd hd'
    have hi : i < ops.size := (Array.getElem?_eq_some_iff.1 ho).1
    have hj : j < ops.size := (Array.getElem?_eq_some_iff.1 ho').1
    have h1 := List.all_eq_true.1 (List.all_eq_true.1 hdst i (by simpa using hi)) j (by simpa using hj)
    rw [ho, ho'] at h1
    simpa [hd, hd'] using h1
  have HN : ∀ (i : Nat) (o : Oper) (d : Nat), ops[i]? = some o → o.dst = some d → d < n := by
    intro i o d ho hd
    have hi : i < ops.size := (Array.getElem?_eq_some_iff.1 ho).1
    have h1 := List.all_eq_true.1 hbase i (by simpa using hi)
    rw [ho] at h1
    simp only [Option.bind_some, hd, Option.map_some, Option.getD_some] at h1
    simpa using h1
  refine wp_region_any hm ?_
  refine wpAny_inv (fun i o ho => HB i o ho) (fun listed a' w' => listed.size = ops.size ∧ SlotInv ops a V C listed a' w') ?_ (fun listed a' w' h h1 => he listed a' w' h.2 h1) ops.size _ a _ (by simp) (Nat.le_trans (Array.countP_le_size) (by simp)) ?_
  · intro listed a' w' i o hI ho hl hd
    obtain ⟨hsz, hI⟩ := hI
    have hi : i < ops.size := (Array.getElem?_eq_some_iff.1 ho).1
    obtain ⟨hwn, hst⟩ := hs listed a' w' i o hI ho hsz hl hd
    refine wpOp_of_stepOkG ho hwn hst ?_
    intro v w'' hvC
    obtain ⟨hv, hC⟩ := hvC
    refine ⟨by simpa using hsz, ?_⟩
    have hne : ∀ t d, o.dst = some d → t ≠ d → (a'.put o.dst v).eval (.tmp t) = a'.eval (.tmp t) := by
      intro t d hd1 hne
      refine Act.eval_put ?_
      intro d' hd' e
      rw [hd1] at hd'
      cases hd'
      cases e
      exact hne rfl
    have hnone : ∀ t, o.dst = none → (a'.put o.dst v).eval (.tmp t) = a'.eval (.tmp t) := by
      intro t hd1
      rw [hd1]; rfl
    have hother : ∀ t, o.dst ≠ some t → (a'.put o.dst v).eval (.tmp t) = a'.eval (.tmp t) := by
      intro t ht
      cases hdd : o.dst with
      | none => rw [← hdd]; exact hnone t hdd
      | some d => rw [← hdd]; exact hne t d hdd (fun e => ht (by rw [hdd, e]))
    have hlt : i < listed.size := by omega
    have hset : (listed.setIfInBounds i true).getD i false = true := by simp [hlt]
    refine ⟨?_, ?_, ?_, ?_, ?_, ?_, hC⟩
    · cases hdd : o.dst with
      | none => simpa [Act.put] using hI.size
      | some d => simpa [Act.put] using hI.size
    · cases hdd : o.dst with
      | none => simpa [Act.put] using hI.defers
      | some d => simpa [Act.put] using hI.defers
    · intro t ht
      rw [hother t ?_]
      · exact hI.base t ht
      · have := Array.all_eq_true_iff_forall_mem.1 ht o (Array.mem_of_getElem? ho)
        simpa using this
    · intro j o' d' ho' hd' hl'
      have hji : j ≠ i := by
        rintro rfl
        rw [hset] at hl'; cases hl'
      rw [getD_set_ne false (Ne.symm hji)] at hl'
      rw [hother d' (fun hd1 => hji (HD j i o' o d' ho' ho hd' hd1))]
      exact hI.pre j o' d' ho' hd' hl'
    · intro j o' d' ho' hd' hl'
      by_cases hji : j = i
      · subst hji
        rw [ho] at ho'; cases ho'
        have hlt : d' < a'.tmps.size := by rw [hI.size, h0]; exact HN j o d' ho hd'
        have : (a'.put o.dst v).eval (.tmp d') = v := by
          rw [hd']; simp [Act.put, Act.eval, hlt]
        rw [this]
        exact hv d' hd'
      · rw [getD_set_ne false (Ne.symm hji)] at hl'
        rw [hother d' (fun hd1 => hji (HD j i o' o d' ho' ho hd' hd1))]
        exact hI.slot j o' d' ho' hd' hl'
    · intro j o' ho' hl' e he1 hb
      have mono : ∀ k, listed.getD k false = true → (listed.setIfInBounds i true).getD k false = true := fun k hk => getD_set_true hk
      by_cases hji : j = i
      · subst hji
        rw [ho] at ho'; cases ho'
        exact mono _ (hd e he1 hb)
      · rw [getD_set_ne false (Ne.symm hji)] at hl'
        exact mono _ (hI.closed j o' ho' hl' e he1 hb)
  · have hrep : ∀ i, (Array.replicate ops.size false).getD i false = false := by
      intro i
      rw [Array.getD_eq_getD_getElem?, Array.getElem?_replicate]
      split <;> rfl
    refine ⟨by simp, rfl, rfl, fun _ _ => rfl, fun _ _ _ _ _ _ => rfl, ?_, ?_, hC0⟩
    · intro i o d ho hd hl
      rw [hrep] at hl; cases hl
    · intro i o ho hl
      rw [hrep] at hl; cases hl

end Go.Proofs.Ytnfgdhnoidpncaa
