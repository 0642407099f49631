/- A region that calls run.Step, lays the answer into a slot and the next state into a block of its own. -/
import Derived.Test.YthafffnebaaeiaaGdc
namespace Go.Proofs.Ythafffnebaaeiaa
open Go.RowKit

/-- What is kept of the world while such a region goes on: the old blocks; and, once it is laid (operation ia, slot s), the state's block, with the state in it once it is stored (operation is). -/
def g5C (s ia is : Nat) (W : World) (z1 z2 : C2) (listed : Array Bool) (a : Act) (w : World) : Prop :=
  W.grownBy w none ∧ (listed.getD ia false = true → ∃ N, a.eval (.tmp s) = .pointer (some ⟨N, 0, none⟩) ∧ W.heap.size ≤ N ∧ N < w.heap.size ∧ w.there N 0 2 ∧ (listed.getD is false = true → ∃ p q, w.rangeAt N 0 [p, q] ∧ CIs p z1 ∧ CIs q z2))
theorem g5C.same {s ia is : Nat} {W w : World} {z1 z2 : C2} {listed : Array Bool} {a : Act} (h : g5C s ia is W z1 z2 listed a w) (i d : Nat) {o : Oper} (hd : o.dst = some d) (h1 : i ≠ ia) (h2 : i ≠ is) (h3 : s ≠ d) : ∀ u, g5C s ia is W z1 z2 (listed.setIfInBounds i true) (a.put o.dst u) w := by
  intro u
  unfold g5C
  rw [hd, put_other h3, getD_set_ne false h1, getD_set_ne false h2]
  exact h
theorem g5C.call {s ia is : Nat} {W w w' : World} {z1 z2 : C2} {listed : Array Bool} {a : Act} (h : g5C s ia is W z1 z2 listed a w) (i d : Nat) {o : Oper} (hd : o.dst = some d) (h1 : i ≠ ia) (h2 : i ≠ is) (h3 : s ≠ d) (hb : Below w.heap.size w w') {u : Value} : g5C s ia is W z1 z2 (listed.setIfInBounds i true) (a.put o.dst u) w' := by
  unfold g5C
  rw [hd, put_other h3, getD_set_ne false h1, getD_set_ne false h2]
  refine ⟨grown_trans h.1 (below_grown hb none), fun ha => ?_⟩
  obtain ⟨N, e, n1, n2, ht, hs⟩ := h.2 ha
  refine ⟨N, e, n1, Nat.lt_of_lt_of_le n2 hb.size, there_grown ht (below_grown hb none) n2 (by simp), fun hl => ?_⟩
  obtain ⟨p, q, hr, hp, hq⟩ := hs hl
  exact ⟨p, q, fun j v hv => (below_grown hb none).cell (hr j v hv) (by simp), hp, hq⟩
theorem run_alloc_st (w : World) : (Instr.alloc 57 true (.tuple #[])).run Try.prog w = .ok (.pointer (some ⟨w.heap.size, 0, none⟩)) (w.alloc (.cells #[.complex .f64 0 0, .complex .f64 0 0] 57)) := by go_simp
theorem g5C.alloc {s ia is n : Nat} {W w : World} {z1 z2 : C2} {listed : Array Bool} {a : Act} (h : g5C s ia is W z1 z2 listed a w) (hn : a.tmps.size = n) (hs : s < n) {o : Oper} (hd : o.dst = some s) (h2 : ia ≠ is) (hu : listed.getD is false = false) :
    g5C s ia is W z1 z2 (listed.setIfInBounds ia true) (a.put o.dst (.pointer (some ⟨w.heap.size, 0, none⟩))) (w.alloc (.cells #[.complex .f64 0 0, .complex .f64 0 0] 57)) := by
  unfold g5C
  rw [hd, put_same (by omega), getD_set_ne false h2]
  refine ⟨grown_trans h.1 (World.grownBy_alloc _ _ _), fun _ => ⟨w.heap.size, rfl, h.1.size, by simp, fun j hj => ?_, fun hl => ?_⟩⟩
  · rw [Nat.zero_add, cell_of_row _ w.heap.size _ _ _ _ (heap_alloc_new _ _), frozen_of_row _ _ _ _ _ (heap_alloc_new _ _)]
    rcases (by omega : j = 0 ∨ j = 1) with rfl | rfl <;> exact ⟨rfl, rfl⟩
  · rw [hu] at hl; cases hl
theorem g5C.store {s ia is N : Nat} {W w : World} {z1 z2 : C2} {listed : Array Bool} {a : Act} (h : g5C s ia is W z1 z2 listed a w) {o : Oper} (hd : o.dst = none) (ha : listed.getD ia false = true) (hN : a.eval (.tmp s) = .pointer (some ⟨N, 0, none⟩)) {p q : Value} (hp : CIs p z1) (hq : CIs q z2) :
    g5C s ia is W z1 z2 (listed.setIfInBounds is true) (a.put o.dst undef) (w.setCells N 0 [p, q]) := by
  obtain ⟨N', e, n1, n2, ht, hs⟩ := h.2 ha
  have : N' = N := by rw [e] at hN; simpa using hN
  subst this
  have hev : (a.put o.dst undef).eval (.tmp s) = a.eval (.tmp s) := by rw [hd]; rfl
  have hg : w.grownBy (w.setCells N' 0 [p, q]) (some N') := grown_setCells (grown_refl _ _)
  unfold g5C
  rw [hev]
  refine ⟨⟨hg.os.trans h.1.os, hg.tape.trans h.1.tape, hg.output.trans h.1.output, Nat.le_trans h.1.size hg.size, fun k hk _ => (hg.block k (Nat.lt_of_lt_of_le hk h.1.size) (by intro e; have := Option.some.inj e; omega)).trans (h.1.block k hk (by simp))⟩, fun _ => ⟨N', e, n1, Nat.lt_of_lt_of_le n2 hg.size, there_set ht, fun _ => ⟨p, q, ?_, hp, hq⟩⟩⟩
  exact World.rangeAt_setCells_same w N' 0 [p, q] ht
theorem okR_sto {o : Oper} {a : Act} {w w' : World} {x y : Operand} {u v : Value} {t : TypeId} {R : Value → World → Prop} (hop : o.op = .store t x y) (hx : a.eval x = u) (hy : a.eval y = v) (hr : (Instr.storeAt t u v).run Try.prog w = .ok () w') (h : R undef w') : StepOkR Try.prog o a w R :=
  .inr (.inl ⟨w', by simp [execOp, hop, hx, hy, hr], h⟩)
theorem okR_rstep {o : Oper} {a : Act} {w : World} {x y z : Operand} {u v r : Value} {tys : Array TypeId} {R : Value → World → Prop} (hop : o.op = .call { callee := .value (.func 41), args := #[x, y, z], argTypes := tys }) (hx : a.eval x = u) (hy : a.eval y = v) (hz : a.eval z = r)
    (hc : Calls Try.prog 41 #[u, v, r] w fun e w' => ∃ v, e = .returned v ∧ R v w') : StepOkR Try.prog o a w R := by
  refine .inr (.inr ⟨41, #[a.eval x, a.eval y, a.eval z], ?_, ?_⟩)
  · simp [execOp, hop]
    go_simp
  · rw [hx, hy, hz]
    exact hc
theorem field_grd0 (b : Nat) (w : World) : (Instr.fieldAt 73 (.pointer (some ⟨b, 0, none⟩)) 2).run Try.prog w = .ok (.pointer (some ⟨b, 3, none⟩)) w := by go_simp
theorem index_secs (b n c k : Nat) (w : World) (h : k < n) (_hn : n ≤ 100) : (Instr.indexAt 35 (.slice (some ⟨b, 0, none⟩) n c) (.int .i64 k)).run Try.prog w = .ok (.pointer (some ⟨b, k * 5, none⟩)) w := by
  have h' : (k : Int) < (n : Int) := by omega
  go_simp
theorem index_sts (b n c k : Nat) (w : World) (h : k < n) (_hn : n ≤ 100) : (Instr.indexAt 53 (.slice (some ⟨b, 0, none⟩) n c) (.int .i64 k)).run Try.prog w = .ok (.pointer (some ⟨b, k * 2, none⟩)) w := by
  have h' : (k : Int) < (n : Int) := by omega
  go_simp
end Go.Proofs.Ythafffnebaaeiaa
