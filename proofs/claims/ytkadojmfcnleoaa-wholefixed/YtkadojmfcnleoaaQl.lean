/- A region that makes a list of noughts, runs a section over it and lays the state behind it into a new block, whatever its order. -/
import Derived.Test.YtkadojmfcnleoaaQk
import Derived.Test.YtkadojmfcnleoaaQr
import Derived.Test.YtkadojmfcnleoaaQh
namespace Go.Proofs.Ytkadojmfcnleoaa
open Go.RowKit Go.Maps

theorem sN_zero (f : Fx) (s : St) (k : Nat) : sN f s (fun _ => 0) k = so f s k := by
  induction k with
  | zero => rfl
  | succ k ih => rw [sN, ih]; rfl

theorem InAt_own {w : World} {base g n : Nat} (h : w.ownsRow base 2 1 (.slice (some ⟨g, 0, none⟩) n n) n (List.replicate n (.int .i64 0))) : InAt w (some ⟨g, 0, none⟩) n (fun _ => 0) := fun j hj =>
  ⟨g, 0, rfl, (h.lt g rfl).2, by rw [Nat.zero_add, h.cellAt j (by omega), List.getElem?_replicate, if_pos hj]⟩

/-- .. what is kept while it goes on. -/
def mkC (d dm : Nat) (W : World) (s : St) (n : Nat) (listed : Array Bool) (a : Act) (w : World) : Prop :=
  alC d 9 11 W s listed a w ∧ (listed.getD 3 false = true → listed.getD 11 false = false → ∃ g, a.eval (.tmp dm) = .slice (some ⟨g, 0, none⟩) n n ∧ InAt w (some ⟨g, 0, none⟩) n (fun _ => 0))
theorem mkC.start {d dm n m : Nat} {W : World} {s : St} {a : Act} : mkC d dm W s n (Array.replicate m false) a W.drew := by
  refine ⟨alC.start, fun h => ?_⟩
  rw [Array.getD_eq_getD_getElem?, Array.getElem?_replicate] at h
  split at h <;> cases h
theorem mkC.same {d dm n : Nat} {W w w' : World} {s : St} {listed : Array Bool} {a : Act} (h : mkC d dm W s n listed a w) (i : Nat) {e : Nat} {o : Oper} (hd : o.dst = some e) (h1 : i ≠ 9) (h2 : i ≠ 11) (h4 : i ≠ 3) (h3 : d ≠ e) (h5 : dm ≠ e) (hb : Below w.heap.size w w') {u : Value} :
    mkC d dm W s n (listed.setIfInBounds i true) (a.put o.dst u) w' := by
  refine ⟨h.1.same i hd h1 h2 h3 hb, ?_⟩
  rw [hd, putOther h5, getD_set_ne false h4, getD_set_ne false h2]
  intro g1 g2
  obtain ⟨g, e1, e2⟩ := h.2 g1 g2
  exact ⟨g, e1, e2.below hb⟩
theorem mkC.alloc {d dm n m : Nat} {W w : World} {s : St} {listed : Array Bool} {a : Act} (h : mkC d dm W s n listed a w) (hn : a.tmps.size = m) (hs : d < m) {o : Oper} (hd : o.dst = some d) (h5 : dm ≠ d) (hu : listed.getD 11 false = false) :
    mkC d dm W s n (listed.setIfInBounds 9 true) (a.put o.dst (.pointer (some ⟨w.heap.size, 0, none⟩))) (w.alloc (.cells (aS zSt) 35)) := by
  refine ⟨h.1.alloc hn hs hd (by omega) hu, ?_⟩
  rw [hd, putOther h5, getD_set_ne false (by omega), getD_set_ne false (by omega)]
  intro g1 g2
  obtain ⟨g, e1, e2⟩ := h.2 g1 g2
  exact ⟨g, e1, e2.below (Joins.below_alloc1 _ _)⟩
theorem mkC.make {d dm n m : Nat} {W w w' : World} {s : St} {listed : Array Bool} {a : Act} (h : mkC d dm W s n listed a w) (hn : a.tmps.size = m) (hs : dm < m) {o : Oper} (hd : o.dst = some dm) (h5 : d ≠ dm) {g : Nat} (hb : Below w.heap.size w w') (hin : InAt w' (some ⟨g, 0, none⟩) n (fun _ => 0)) :
    mkC d dm W s n (listed.setIfInBounds 3 true) (a.put o.dst (.slice (some ⟨g, 0, none⟩) n n)) w' := by
  refine ⟨h.1.same 3 hd (by omega) (by omega) h5 hb, fun _ _ => ⟨g, ?_, hin⟩⟩
  rw [hd, putSame (by omega)]
theorem mkC.store {d dm n N : Nat} {W w : World} {s : St} {listed : Array Bool} {a : Act} (h : mkC d dm W s n listed a w) {o : Oper} (hd : o.dst = none) (ha : listed.getD 9 false = true) (hN : a.eval (.tmp d) = .pointer (some ⟨N, 0, none⟩)) (hi : 11 < listed.size) :
    mkC d dm W s n (listed.setIfInBounds 11 true) (a.put o.dst undef) (w.setCells N 0 (aS s).toList) := by
  refine ⟨h.1.store hd ha hN hi, fun _ hu => ?_⟩
  rw [lset rfl hi] at hu
  cases hu

theorem okR_make {o : Oper} {a : Act} {w : World} {R : Value → World → Prop} {x y : Operand} {n : Nat} (hop : o.op = .makeSlice 32 x y) (hx : a.eval x = .int .i64 n) (hy : a.eval y = .int .i64 n) (hn : n ≤ 17592186044416)
    (h : ∀ w', Below w.heap.size w w' → InAt w' (some ⟨w.heap.size, 0, none⟩) n (fun _ => 0) → R (.slice (some ⟨w.heap.size, 0, none⟩) n n) w') : StepOkR Try.prog o a w R := by
  obtain ⟨i0, hi0, hz0, hz1, hz2⟩ := info_parts infoz_i64
  obtain ⟨w', hrun, r1, r2⟩ := run_make_full (P := Try.prog) w w.heap.size 32 2 i0 (.int .i64 0) 1 Try.underlying32 hi0 hz0 hz1 .i64 .i64 n (by rw [hz2]; omega) (by unfold maxLen; omega) (Nat.le_refl _)
  refine .inl ⟨_, w', ?_, h w' ⟨r2.os, r2.tape, r2.output, r2.size, fun k hk => r2.block k hk (by simp)⟩ ?_⟩
  · simp [execOp, hop, hx, hy, hrun]
  · rw [show (madeCells (Value.int IntKind.i64 0).cells (n * 1)).toList = List.replicate n (.int .i64 0) by rw [Nat.mul_one]; exact toList_madeCells_one _ _] at r1
    exact InAt_own r1
theorem enter_run (xs : Array Value) (w : World) : (callFunc 7 xs).run Try.prog w = .ok (.enter 7 xs) w := by go_simp
end Go.Proofs.Ytkadojmfcnleoaa
