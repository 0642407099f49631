/- Sums of whole fractions; regions whose end is told by the frame too. -/
import Derived.Test.YtlajalfdcfkmpabNu
namespace Go.Proofs.Ytlajalfdcfkmpab
open Go.RowKit Go.Maps

theorem add0_any {v1 v2 : Value} {z1 z2 : Int} {w : World} (h1 : QA w v1 z1 0) (h2 : QA w v2 z2 0) (b1 : z1.natAbs < 2 ^ 80) (b2 : z2.natAbs < 2 ^ 80) :
    Calls Try.prog 48 #[v1, v2] w fun e w' => ∃ v, e = .returned v ∧ QA w' v (z1 + z2) 0 ∧ Below w.heap.size w w' := by
  refine (addQ_any h1 h2 (lt_b400 b1) (lt_b400 b2) (by omega) (.inr (.inl (by omega)))).mono ?_
  rintro e w' ⟨v, z, t, rfl, hq, h3, h4, hB⟩
  obtain rfl : t = 0 := by omega
  simp only [Nat.add_zero, Nat.sub_zero, Int.pow_zero, Int.mul_one] at h4
  rw [h4] at hq
  exact ⟨v, rfl, hq, hB⟩
theorem sub0_any {v1 v2 : Value} {z1 z2 : Int} {w : World} (h1 : QA w v1 z1 0) (h2 : QA w v2 z2 0) (b1 : z1.natAbs < 2 ^ 80) (b2 : z2.natAbs < 2 ^ 80) :
    Calls Try.prog 50 #[v1, v2] w fun e w' => ∃ v, e = .returned v ∧ QA w' v (z1 - z2) 0 ∧ Below w.heap.size w w' := by
  refine (subQ_any h1 h2 (lt_b400 b1) (lt_b400 b2) (by omega) (.inr (.inl (by omega)))).mono ?_
  rintro e w' ⟨v, z, t, rfl, hq, h3, h4, hB⟩
  obtain rfl : t = 0 := by omega
  simp only [Nat.add_zero, Nat.sub_zero, Int.pow_zero, Int.mul_one] at h4
  rw [h4, ← Int.sub_eq_add_neg] at hq
  exact ⟨v, rfl, hq, hB⟩

def kD (W : World) (k : Nat) (ps : List Pd) (F : Act → World → Prop) (listed : Array Bool) (a : Act) (w : World) : Prop :=
  (listed.getD k false = false → Below W.heap.size W w ∧ ∀ c ∈ ps, listed.getD c.op false = true → c.p w (a.eval (.tmp c.slot))) ∧ (listed.getD k false = true → F a w)
section
variable {W w w' : World} {k : Nat} {ps : List Pd} {F : Act → World → Prop} {listed : Array Bool} {a : Act} {o : Oper}
theorem kD.toC (h : kD W k ps F listed a w) : kC W k ps (fun _ => True) listed a w := ⟨h.1, fun _ => trivial⟩
theorem kD.ofC {b : Act} (h : kC W k ps (fun _ => True) listed b w) (hk : listed.getD k false = false) : kD W k ps F listed b w := ⟨h.1, fun g => by rw [hk] at g; cases g⟩
theorem kD.start {n : Nat} : kD W k ps F (Array.replicate n false) a W.drew := kD.ofC kC.start (getD_rep2 _ _)
theorem kD.same (h : kD W k ps F listed a w) (hk : listed.getD k false = false) (i : Nat) {d : Nat} {u : Value} (hd : o.dst = some d) (hik : i ≠ k) (hp : ∀ c ∈ ps, c.op ≠ i ∧ d ≠ c.slot) : kD W k ps F (listed.setIfInBounds i true) (a.put o.dst u) w :=
  kD.ofC ((h.toC).same i hd hik hp) (by rw [getD_set_ne false hik]; exact hk)
theorem kD.made (h : kD W k ps F listed a w) (hk : listed.getD k false = false) (i : Nat) {d n : Nat} {u : Value} (hn : a.tmps.size = n) (hdn : d < n) (hd : o.dst = some d) (hik : i ≠ k) (hB : Below w.heap.size w w')
    (hnew : ∀ c ∈ ps, c.op = i → c.slot = d ∧ c.p w' u) (hold : ∀ c ∈ ps, c.op ≠ i → d ≠ c.slot ∧ ∀ x, c.p w x → c.p w' x) : kD W k ps F (listed.setIfInBounds i true) (a.put o.dst u) w' :=
  kD.ofC ((h.toC).made hk i hn hdn hd hik hB hnew hold) (by rw [getD_set_ne false hik]; exact hk)
theorem kD.last (hk : k < listed.size) {b : Act} (hF : F b w') : kD W k ps F (listed.setIfInBounds k true) b w' := by
  have h2 : (listed.setIfInBounds k true).getD k false = true := by simp [hk]
  exact ⟨fun h => (by rw [h2] at h; cases h), fun _ => hF⟩
end
/-- A block of the call's own that holds a fraction's cells of nothing. -/
def PA (W : World) (w : World) (v : Value) : Prop := ∃ N, v = .pointer (some ⟨N, 0, none⟩) ∧ W.heap.size ≤ N ∧ Blk w N zQ 92
theorem PA.keep {W : World} (w w' : World) (hb : Below w.heap.size w w') : ∀ v, PA W w v → PA W w' v := fun _ ⟨N, h1, h2, h3⟩ => ⟨N, h1, h2, h3.below hb h3.lt⟩
theorem PA.new {W w : World} (hb : Below W.heap.size W w) : PA W (w.alloc (.cells zQ 92)) (.pointer (some ⟨w.heap.size, 0, none⟩)) := ⟨_, rfl, hb.size, Blk.alloc⟩
theorem okR_allocQ {o : Oper} {a : Act} {w : World} {R : Value → World → Prop} (hop : o.op = .alloc 92) (h : R (.pointer (some ⟨w.heap.size, 0, none⟩)) (w.alloc (.cells zQ 92))) : StepOkR Try.prog o a w R := by
  refine .inl ⟨_, _, ?_, h⟩
  unfold zQ
  simp only [execOp, hop]
  go_simp
theorem enter_product (xs : Array Value) (w : World) : (callFunc 49 xs).run Try.prog w = .ok (.enter 49 xs) w := by go_simp
theorem enter_scale (xs : Array Value) (w : World) : (callFunc 53 xs).run Try.prog w = .ok (.enter 53 xs) w := by go_simp
theorem enter_QuoQ (xs : Array Value) (w : World) : (callFunc 52 xs).run Try.prog w = .ok (.enter 52 xs) w := by go_simp
theorem enter_Round (xs : Array Value) (w : World) : (callFunc 51 xs).run Try.prog w = .ok (.enter 51 xs) w := by go_simp
theorem enter_Kept (xs : Array Value) (w : World) : (callFunc 54 xs).run Try.prog w = .ok (.enter 54 xs) w := by go_simp
end Go.Proofs.Ytlajalfdcfkmpab
