/- The saves of a loaded and a forked stream, held against the first: the region, slot by slot. -/
import Derived.Test.YtnfgdhnoidpncaaGwm
import Derived.Test.YtnfgdhnoidpncaaRgg
namespace Go.Proofs.Ytnfgdhnoidpncaa
open Go.RowKit

theorem wanted_none {ops : Array Oper} {a : Act} {o : Oper} (h : o.guard = none) : Region.wanted o (yielded ops a.tmps) = true := by simp [Region.wanted, h]
theorem wanted_no {ops : Array Oper} {a : Act} {o p : Oper} {j d : Nat} (h : o.guard = some (j, false)) (hp : ops[j]? = some p) (hd : p.dst = some d) (hv : a.eval (.tmp d) = .bool false) : Region.wanted o (yielded ops a.tmps) = true := by
  have hv' : a.tmps.getD d undef = .bool false := hv
  have hg : a.tmps[d]? = some (.bool false) := by
    rw [Array.getD_eq_getD_getElem?] at hv'
    cases hx : a.tmps[d]? with
    | none => rw [hx] at hv'; cases hv'
    | some v => rw [hx] at hv'; exact congrArg some hv'
  simp [Region.wanted, h, yielded, hp, hd, hg]
theorem run_neq0 {a : Act} {o : Oper} {x : Operand} {t' : TypeId} (w : World) (hop : o.op = .binOp .neq 34 x (.const (.int .i64 0)) t') (hx : a.eval x = .int .i64 0) : (execOp a.eval o).run Try.prog w = .ok (.value (.bool false)) w := by
  have hc : a.eval (.const (.int .i64 0)) = .int .i64 0 := rfl
  simp only [execOp, hop, hx, hc]
  go_simp
theorem run_eqlp {a : Act} {o : Oper} {x : Operand} {t' : TypeId} {B : Nat} (w : World) (hop : o.op = .binOp .eql 33 x (.const (.pointer none)) t') (hx : a.eval x = .pointer (some ⟨B, 0, none⟩)) : (execOp a.eval o).run Try.prog w = .ok (.value (.bool false)) w := by
  have hc : a.eval (.const (.pointer none)) = .pointer none := rfl
  simp only [execOp, hop, hx, hc]
  go_simp
theorem run_neqs {a : Act} {o : Oper} {x y : Operand} {t' : TypeId} {s : ByteArray} (w : World) (hop : o.op = .binOp .neq 9 x y t') (hx : a.eval x = .string s) (hy : a.eval y = .string s) : (execOp a.eval o).run Try.prog w = .ok (.value (.bool false)) w := by
  simp only [execOp, hop, hx, hy]
  go_simp
theorem run_pickf {a : Act} {o : Oper} {x y z : Operand} (w : World) (hop : o.op = .pick x y z) (hx : a.eval x = .bool false) (hz : a.eval z = .bool false) : (execOp a.eval o).run Try.prog w = .ok (.value (.bool false)) w := by
  simp only [execOp, hop, hx, hz]
  go_simp
/-- What the slots come to hold. -/
def h26V (Br Bk Pb n pc : Nat) (s : ByteArray) : Nat → Value → Prop
  | 119, v => v = .int .i64 0
  | 122, v => v = .pointer (some ⟨Br, 0, none⟩)
  | 126, v => v = .pointer (some ⟨Bk, 0, none⟩)
  | 130, v => v = .pointer (some ⟨Br, 0, none⟩)
  | 131, v => ∃ P c, v = .slice (some ⟨P, 0, none⟩) (38 + 112 * n) c
  | 132, v => v = .string s
  | 133, v => v = .slice (some ⟨Pb, 0, none⟩) (38 + 112 * n) pc
  | 134, v => v = .string s
  | 138, v => v = .pointer (some ⟨Bk, 0, none⟩)
  | 139, v => ∃ P c, v = .slice (some ⟨P, 0, none⟩) (38 + 112 * n) c
  | 140, v => v = .string s
  | 141, v => v = .slice (some ⟨Pb, 0, none⟩) (38 + 112 * n) pc
  | 142, v => v = .string s
  | _, v => v = .bool false
/-- What is kept of the world. -/
structure h26C (W : World) (n : Nat) (G : C2) (sec : Nat → Sec) (g : Gu) (st : Nat → C2 × C2) (t c : Nat) (listed : Array Bool) (a : Act) (w : World) : Prop where
  low : Below W.heap.size W w
  s1 : listed.getD 12 false = true → ∀ P m k, a.eval (.tmp 131) = .slice (some ⟨P, 0, none⟩) m k → P < w.heap.size ∧ SavedAt w P n G sec g st t c
  s2 : listed.getD 20 false = true → ∀ P m k, a.eval (.tmp 139) = .slice (some ⟨P, 0, none⟩) m k → P < w.heap.size ∧ SavedAt w P n G sec g st t c
section
variable {W w w' : World} {n : Nat} {G : C2} {sec : Nat → Sec} {g : Gu} {st : Nat → C2 × C2} {t c : Nat} {listed : Array Bool} {a : Act} {o : Oper}
theorem h26C.same (h : h26C W n G sec g st t c listed a w) (i d : Nat) (hd : o.dst = some d) (hi : i ≠ 12 ∧ i ≠ 20) (hs : d ≠ 131 ∧ d ≠ 139) (u : Value) : h26C W n G sec g st t c (listed.setIfInBounds i true) (a.put o.dst u) w := by
  refine ⟨h.low, ?_, ?_⟩
  all_goals rw [hd]
  all_goals simp only [getD_set_ne false hi.1, getD_set_ne false hi.2, put_other (Ne.symm hs.1), put_other (Ne.symm hs.2)]
  · exact h.s1
  · exact h.s2
theorem h26C.save1 (h : h26C W n G sec g st t c listed a w) (hz : 221 ≤ a.tmps.size) (hd : o.dst = some 131) (hb : Below w.heap.size w w') {P k : Nat} (hP : P < w'.heap.size) (hS : SavedAt w' P n G sec g st t c) : h26C W n G sec g st t c (listed.setIfInBounds 12 true) (a.put o.dst (.slice (some ⟨P, 0, none⟩) (38 + 112 * n) k)) w' := by
  have hs := hb.size
  rw [hd]
  refine ⟨h.low.trans (hb.mono h.low.size), fun _ P' m k' e => ?_, fun l P' m k' e => ?_⟩
  · rw [put_same (by omega)] at e
    injection e with e1; injection e1 with e1; injection e1 with e1
    subst e1; exact ⟨hP, hS⟩
  · rw [getD_set_ne false (by omega)] at l
    rw [put_other (by omega)] at e
    obtain ⟨x, y⟩ := h.s2 l P' m k' e
    exact ⟨by omega, y.low x hb⟩
theorem h26C.save2 (h : h26C W n G sec g st t c listed a w) (hz : 221 ≤ a.tmps.size) (hd : o.dst = some 139) (hb : Below w.heap.size w w') {P k : Nat} (hP : P < w'.heap.size) (hS : SavedAt w' P n G sec g st t c) : h26C W n G sec g st t c (listed.setIfInBounds 20 true) (a.put o.dst (.slice (some ⟨P, 0, none⟩) (38 + 112 * n) k)) w' := by
  have hs := hb.size
  rw [hd]
  refine ⟨h.low.trans (hb.mono h.low.size), fun l P' m k' e => ?_, fun _ P' m k' e => ?_⟩
  · rw [getD_set_ne false (by omega)] at l
    rw [put_other (by omega)] at e
    obtain ⟨x, y⟩ := h.s1 l P' m k' e
    exact ⟨by omega, y.low x hb⟩
  · rw [put_same (by omega)] at e
    injection e with e1; injection e1 with e1; injection e1 with e1
    subst e1; exact ⟨hP, hS⟩
end
end Go.Proofs.Ytnfgdhnoidpncaa
