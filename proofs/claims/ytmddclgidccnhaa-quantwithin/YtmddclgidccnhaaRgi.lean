/- A region that draws its order, by what each of its slots comes to hold: if every operation, whenever it comes up, leaves a value with its slot's property and a world with the region's, then so does the region. -/
import Derived.Test.YtmddclgidccnhaaRows
import Derived.Test.YtmddclgidccnhaaNum
import Derived.WalkKit
namespace Go.Proofs.Ytmddclgidccnhaa
open Go.RowKit

theorem wpAny_inv {P : Program} {ops : Array Oper} {Q : Exit → Act → World → Prop} {md : Region.Mode}
    (hback : ∀ i o, ops[i]? = some o → ∀ e ∈ o.after, Region.binds md e = true → e.on < i)
    (I : Array Bool → Act → World → Prop)
    (hs : ∀ listed a w i o, I listed a w → ops[i]? = some o → listed.getD i true = false → (∀ e ∈ o.after, Region.binds md e = true → listed.getD e.on false = true) → wpOp P ops Q i (I (listed.setIfInBounds i true)) a w)
    (he : ∀ listed a w, I listed a w → (∀ i, i < ops.size → listed.getD i false = true) → Q .normal a w) :
    ∀ fuel (listed : Array Bool) a w, listed.size = ops.size → listed.countP (fun b => !b) ≤ fuel → I listed a w → wpAny P md ops Q fuel listed a w := by
  have hall : ∀ listed : Array Bool, listed.size = ops.size → Region.ready md ops listed = [] → ∀ i, i < ops.size → listed.getD i false = true := by
    intro listed hsz hr i
    induction i using Nat.strongRecOn with
    | _ i ih =>
      intro hi
      cases hl : listed.getD i false with
      | true => rfl
      | false =>
        have hlt : i < listed.size := by omega
        have hl' : listed.getD i true = false := by
          rw [Array.getD_eq_getD_getElem?, Array.getElem?_eq_getElem hlt] at hl ⊢
          exact hl
        have hm : i ∈ Region.ready md ops listed := mem_ready.2 ⟨hl', ops[i], Array.getElem?_eq_getElem hi, fun e he1 hb => ?_⟩
        · rw [hr] at hm; cases hm
        · have hb2 := hback i _ (Array.getElem?_eq_getElem hi) e he1 hb
          exact ih e.on hb2 (by omega)
  intro fuel
  induction fuel with
  | zero =>
    intro listed a w hsz hc hI
    have h1 : ∀ i, i < ops.size → listed.getD i false = true := by
      intro i hi
      have hlt : i < listed.size := by omega
      have h0 : listed.countP (fun b => !b) = 0 := by omega
      have := Array.countP_eq_zero.1 h0 listed[i] (Array.getElem_mem hlt)
      rw [Array.getD_eq_getD_getElem?, Array.getElem?_eq_getElem hlt]
      simpa using this
    refine ⟨?_, he listed a w hI h1⟩
    apply List.eq_nil_iff_forall_not_mem.2
    intro j hj
    obtain ⟨h2, o, ho, _⟩ := mem_ready.1 hj
    have hj1 : j < ops.size := (Array.getElem?_eq_some_iff.1 ho).1
    have h3 := h1 j hj1
    have hlt : j < listed.size := by omega
    rw [Array.getD_eq_getD_getElem?, Array.getElem?_eq_getElem hlt] at h2 h3
    simp at h2 h3
    rw [h2] at h3; cases h3
  | succ fuel ih =>
    intro listed a w hsz hc hI
    refine ⟨fun hr => he listed a w hI (hall listed hsz hr), fun i hi => ?_⟩
    obtain ⟨h2, o, ho, hd⟩ := mem_ready.1 hi
    have hi1 : i < ops.size := (Array.getElem?_eq_some_iff.1 ho).1
    have hlt : i < listed.size := by omega
    refine wpOp_mono (fun a' w' hI' => ih _ a' w' (by simpa using hsz) ?_ hI') (hs listed a w i o hI ho h2 hd)
    have hli : listed[i] = false := by
      rw [Array.getD_eq_getD_getElem?, Array.getElem?_eq_getElem hlt] at h2
      simpa using h2
    have hset : listed.setIfInBounds i true = listed.set i true := by simp [Array.setIfInBounds, hlt]
    rw [hset, Array.countP_set]
    simp [hli]
    have : 0 < listed.countP (fun b => !b) := by
      rw [Array.countP_pos_iff]
      exact ⟨listed[i], Array.getElem_mem hlt, by simp [hli]⟩
    omega

/-- What one operation may come to: a value, nothing, or a call's answer. -/
def StepOkR (P : Program) (o : Oper) (a : Act) (w : World) (R : Value → World → Prop) : Prop :=
  (∃ v w', (execOp a.eval o).run P w = .ok (.value v) w' ∧ R v w') ∨
  (∃ w', (execOp a.eval o).run P w = .ok .skip w' ∧ R undef w') ∨
  (∃ f args, (execOp a.eval o).run P w = .ok (.enter f args) w ∧ Calls P f args w fun e w' => ∃ v, e = .returned v ∧ R v w')
/-- .. where value and world are told apart. -/
def StepOk (P : Program) (o : Oper) (a : Act) (w : World) (V : Value → Prop) (C : World → Prop) : Prop := StepOkR P o a w fun v w' => V v ∧ C w'

theorem wpOp_of_stepOk {P : Program} {ops : Array Oper} {Q : Exit → Act → World → Prop} {i : Nat} {o : Oper} {a : Act} {w : World} {R : Value → World → Prop} {K : Act → World → Prop}
    (hi : ops[i]? = some o) (hg : o.guard = none) (h : StepOkR P o a w R) (hK : ∀ v w', R v w' → K (a.put o.dst v) w') : wpOp P ops Q i K a w := by
  unfold wpOp
  have hw : Region.wanted o (yielded ops a.tmps) = true := by simp [Region.wanted, hg]
  simp only [hi, hw, if_true]
  refine .inl ?_
  unfold Oper.wp
  rcases h with ⟨v, w', hr, h1⟩ | ⟨w', hr, h1⟩ | ⟨f, args, hr, hc⟩
  · rw [hr]; exact hK _ _ h1
  · rw [hr]; exact hK _ _ h1
  · rw [hr]
    exact hc.mono fun e w'' ⟨v, he, h1⟩ => by subst he; exact hK _ _ h1

/-- What holds of a region's frame while it goes on: 'a0', the frame that it began with. -/
structure SlotInv (ops : Array Oper) (a0 : Act) (V : Nat → Value → Prop) (C : Array Bool → Act → World → Prop) (listed : Array Bool) (a : Act) (w : World) : Prop where
  size : a.tmps.size = a0.tmps.size
  defers : a.defers = a0.defers
  base : ∀ t, (ops.all fun o => o.dst != some t) = true → a.eval (.tmp t) = a0.eval (.tmp t)
  pre : ∀ i o d, ops[i]? = some o → o.dst = some d → listed.getD i false = false → a.eval (.tmp d) = a0.eval (.tmp d)
  slot : ∀ i o d, ops[i]? = some o → o.dst = some d → listed.getD i false = true → V d (a.eval (.tmp d))
  closed : ∀ i o, ops[i]? = some o → listed.getD i false = true → ∀ e ∈ o.after, Region.binds .any e = true → listed.getD e.on false = true
  world : C listed a w

/-- The region, slot by slot: no slot is written twice. -/
theorem region_slotsA {P : Program} {id : Nat} {ops : Array Oper} {Q : Exit → Act → World → Prop} {a : Act} {w : World} (V : Nat → Value → Prop) (C : Array Bool → Act → World → Prop)
    (hm : P.follows .mixedOrders = true)
    (hback : (List.range ops.size).all (fun i => ((ops[i]?).map fun o => o.guard.isNone && o.after.all fun e => !Region.binds .any e || decide (e.on < i)).getD true) = true)
    (hdst : (List.range ops.size).all (fun i => (List.range ops.size).all fun j => decide (i = j) || ((ops[i]?).bind (·.dst)).isNone || decide ((ops[i]?).bind (·.dst) ≠ (ops[j]?).bind (·.dst))) = true)
    (n : Nat) (hbase : (List.range ops.size).all (fun i => (((ops[i]?).bind (·.dst)).map fun d => decide (d < n)).getD true) = true)
    (h0 : a.tmps.size = n) (hC0 : C (Array.replicate ops.size false) a w.drew)
    (hs : ∀ (listed : Array Bool) (a' : Act) (w' : World) i o, SlotInv ops a V C listed a' w' → ops[i]? = some o → listed.size = ops.size → listed.getD i true = false → (∀ e ∈ o.after, Region.binds .any e = true → listed.getD e.on false = true) →
      StepOkR P o a' w' (fun v w'' => (∀ d, o.dst = some d → V d v) ∧ C (listed.setIfInBounds i true) (a'.put o.dst v) w''))
    (he : ∀ (listed : Array Bool) (a' : Act) (w' : World), SlotInv ops a V C listed a' w' → (∀ i, i < ops.size → listed.getD i false = true) → Q .normal a' w') :
    (Code.region id ops true).wp P Q a w := by
  have HB : ∀ i o, ops[i]? = some o → o.guard = none ∧ ∀ e ∈ o.after, Region.binds .any e = true → e.on < i := by
    intro i o ho
    have hi : i < ops.size := (Array.getElem?_eq_some_iff.1 ho).1
    have h1 := List.all_eq_true.1 hback i (by simpa using hi)
    rw [ho] at h1
    simp only [Option.map_some, Option.getD_some, Bool.and_eq_true, Array.all_eq_true_iff_forall_mem] at h1
    refine ⟨by simpa using h1.1, fun e he1 hb => ?_⟩
    have := h1.2 e he1
    simpa [hb] using this
  have HD : ∀ (i j : Nat) (o o' : Oper) (d : Nat), ops[i]? = some o → ops[j]? = some o' → o.dst = some d → o'.dst = some d → i = j := by
    intro i j o o' d ho ho' hd hd'
    have hi : i < ops.size := (Array.getElem?_eq_some_iff.1 ho).1
    have hj : j < ops.size := (Array.getElem?_eq_some_iff.1 ho').1
    have h1 := List.all_eq_true.1 (List.all_eq_true.1 hdst i (by simpa using hi)) j (by simpa using hj)
    rw [ho, ho'] at h1
    simpa [hd, hd'] using h1
  have HN : ∀ (i : Nat) (o : Oper) (d : Nat), ops[i]? = some o → o.dst = some d → d < n := by
    intro i o d ho hd
    have hi : i < ops.size := (Array.getElem?_eq_some_iff.1 ho).1
    have h1 := List.all_eq_true.1 hbase i (by simpa using hi)
    rw [ho] at h1
    simp only [Option.bind_some, hd, Option.map_some, Option.getD_some] at h1
    simpa using h1
  refine wp_region_any hm ?_
  refine wpAny_inv (fun i o ho => (HB i o ho).2) (fun listed a' w' => listed.size = ops.size ∧ SlotInv ops a V C listed a' w') ?_ (fun listed a' w' h h1 => he listed a' w' h.2 h1) ops.size _ a _ (by simp) (Nat.le_trans (Array.countP_le_size) (by simp)) ?_
  · intro listed a' w' i o hI ho hl hd
    obtain ⟨hsz, hI⟩ := hI
    have hi : i < ops.size := (Array.getElem?_eq_some_iff.1 ho).1
    refine wpOp_of_stepOk ho (HB i o ho).1 (hs listed a' w' i o hI ho hsz hl hd) ?_
    intro v w'' hvC
    obtain ⟨hv, hC⟩ := hvC
    refine ⟨by simpa using hsz, ?_⟩
    have hne : ∀ t d, o.dst = some d → t ≠ d → (a'.put o.dst v).eval (.tmp t) = a'.eval (.tmp t) := by
      intro t d hd1 hne
      refine Act.eval_put ?_
      intro d' hd' e
      rw [hd1] at hd'
      cases hd'
      cases e
      exact hne rfl
    have hnone : ∀ t, o.dst = none → (a'.put o.dst v).eval (.tmp t) = a'.eval (.tmp t) := by
      intro t hd1
      rw [hd1]; rfl
    have hother : ∀ t, o.dst ≠ some t → (a'.put o.dst v).eval (.tmp t) = a'.eval (.tmp t) := by
      intro t ht
      cases hdd : o.dst with
      | none => rw [← hdd]; exact hnone t hdd
      | some d => rw [← hdd]; exact hne t d hdd (fun e => ht (by rw [hdd, e]))
    have hlt : i < listed.size := by omega
    have hset : (listed.setIfInBounds i true).getD i false = true := by simp [hlt]
    refine ⟨?_, ?_, ?_, ?_, ?_, ?_, hC⟩
    · cases hdd : o.dst with
      | none => simpa [Act.put] using hI.size
      | some d => simpa [Act.put] using hI.size
    · cases hdd : o.dst with
      | none => simpa [Act.put] using hI.defers
      | some d => simpa [Act.put] using hI.defers
    · intro t ht
      rw [hother t ?_]
      · exact hI.base t ht
      · have := Array.all_eq_true_iff_forall_mem.1 ht o (Array.mem_of_getElem? ho)
        simpa using this
    · intro j o' d' ho' hd' hl'
      have hji : j ≠ i := by
        rintro rfl
        rw [hset] at hl'; cases hl'
      rw [getD_set_ne false (Ne.symm hji)] at hl'
      rw [hother d' (fun hd1 => hji (HD j i o' o d' ho' ho hd' hd1))]
      exact hI.pre j o' d' ho' hd' hl'
    · intro j o' d' ho' hd' hl'
      by_cases hji : j = i
      · subst hji
        rw [ho] at ho'; cases ho'
        have hlt : d' < a'.tmps.size := by rw [hI.size, h0]; exact HN j o d' ho hd'
        have : (a'.put o.dst v).eval (.tmp d') = v := by
          rw [hd']; simp [Act.put, Act.eval, hlt]
        rw [this]
        exact hv d' hd'
      · rw [getD_set_ne false (Ne.symm hji)] at hl'
        rw [hother d' (fun hd1 => hji (HD j i o' o d' ho' ho hd' hd1))]
        exact hI.slot j o' d' ho' hd' hl'
    · intro j o' ho' hl' e he1 hb
      have mono : ∀ k, listed.getD k false = true → (listed.setIfInBounds i true).getD k false = true := fun k hk => getD_set_true hk
      by_cases hji : j = i
      · subst hji
        rw [ho] at ho'; cases ho'
        exact mono _ (hd e he1 hb)
      · rw [getD_set_ne false (Ne.symm hji)] at hl'
        exact mono _ (hI.closed j o' ho' hl' e he1 hb)
  · have hrep : ∀ i, (Array.replicate ops.size false).getD i false = false := by
      intro i
      rw [Array.getD_eq_getD_getElem?, Array.getElem?_replicate]
      split <;> rfl
    refine ⟨by simp, rfl, rfl, fun _ _ => rfl, fun _ _ _ _ _ _ => rfl, ?_, ?_, hC0⟩
    · intro i o d ho hd hl
      rw [hrep] at hl; cases hl
    · intro i o ho hl
      rw [hrep] at hl; cases hl

/-- .. where what is kept of the world does not hang on the frame. -/
theorem region_slots {P : Program} {id : Nat} {ops : Array Oper} {Q : Exit → Act → World → Prop} {a : Act} {w : World} (V : Nat → Value → Prop) (C : Array Bool → World → Prop)
    (hm : P.follows .mixedOrders = true)
    (hback : (List.range ops.size).all (fun i => ((ops[i]?).map fun o => o.guard.isNone && o.after.all fun e => !Region.binds .any e || decide (e.on < i)).getD true) = true)
    (hdst : (List.range ops.size).all (fun i => (List.range ops.size).all fun j => decide (i = j) || ((ops[i]?).bind (·.dst)).isNone || decide ((ops[i]?).bind (·.dst) ≠ (ops[j]?).bind (·.dst))) = true)
    (n : Nat) (hbase : (List.range ops.size).all (fun i => (((ops[i]?).bind (·.dst)).map fun d => decide (d < n)).getD true) = true)
    (h0 : a.tmps.size = n) (hC0 : C (Array.replicate ops.size false) w.drew)
    (hs : ∀ (listed : Array Bool) (a' : Act) (w' : World) i o, SlotInv ops a V (fun l _ w => C l w) listed a' w' → ops[i]? = some o → listed.size = ops.size → listed.getD i true = false → (∀ e ∈ o.after, Region.binds .any e = true → listed.getD e.on false = true) →
      StepOk P o a' w' (fun v => ∀ d, o.dst = some d → V d v) (C (listed.setIfInBounds i true)))
    (he : ∀ (listed : Array Bool) (a' : Act) (w' : World), SlotInv ops a V (fun l _ w => C l w) listed a' w' → (∀ i, i < ops.size → listed.getD i false = true) → Q .normal a' w') :
    (Code.region id ops true).wp P Q a w := region_slotsA V (fun l _ w => C l w) hm hback hdst n hbase h0 hC0 hs he

/-- A frame, slot by slot. -/
theorem act_lit (a : Act) (n : Nat) (h : a.tmps.size = n) : a = ⟨((List.range n).map fun t => a.eval (.tmp t)).toArray, a.defers⟩ := by
  obtain ⟨tmps, df⟩ := a
  congr 1
  apply Array.ext
  · simpa using h
  · intro i h1 h2
    simp [Act.eval, h1]

end Go.Proofs.Ytmddclgidccnhaa
