/- Cuts of lists, as steps of a drawn region. -/
import Derived.Test.YtnfgdhnoidpncaaGwo
namespace Go.Proofs.Ytnfgdhnoidpncaa
open Go.RowKit

theorem run_addi {a : Act} {o : Oper} {x y : Operand} {t' : TypeId} {t q : Nat} (w : World) (hop : o.op = .binOp .add 3 x y t') (hx : a.eval x = .int .i64 (t : Nat)) (hy : a.eval y = .int .i64 (q : Nat)) (h : t + q ≤ 1000000) : (execOp a.eval o).run Try.prog w = .ok (.value (.int .i64 ((t : Int) + (q : Int)))) w := by
  have hwr : IntKind.i64.wrap ((t : Int) + (q : Int)) = (t : Int) + (q : Int) := by rw [IntKind.wrap_i64]; omega
  simp only [execOp, hop, hx, hy]
  go_simp
theorem run_subi {a : Act} {o : Oper} {x y : Operand} {t' : TypeId} {t q : Nat} (w : World) (hop : o.op = .binOp .sub 3 x y t') (hx : a.eval x = .int .i64 ((t : Int) + (q : Int))) (hy : a.eval y = .int .i64 (q : Nat)) (h : t + q ≤ 1000000) : (execOp a.eval o).run Try.prog w = .ok (.value (.int .i64 (t : Nat))) w := by
  have hwr : IntKind.i64.wrap ((t : Int) + (q : Int) - (q : Int)) = (t : Int) := by rw [IntKind.wrap_i64]; omega
  have hss : (t : Int) + (q : Int) - (q : Int) = (t : Int) := by omega
  have hw2 : IntKind.i64.wrap (t : Int) = (t : Int) := by rw [IntKind.wrap_i64]; omega
  clear hwr
  simp only [execOp, hop, hx, hy]
  go_simp
theorem run_cut {a : Act} {o : Oper} {x y z b t q m c : Nat} (w : World) (hop : o.op = .slice 31 (.tmp x) (some (.tmp y)) (some (.tmp z)) none) (hx : a.eval (.tmp x) = .slice (some ⟨b, 0, none⟩) m c) (hy : a.eval (.tmp y) = .int .i64 (t : Nat)) (hz : a.eval (.tmp z) = .int .i64 ((t : Int) + (q : Int))) (h : t + q ≤ c) (hc : t < c) :
    (execOp a.eval o).run Try.prog w = .ok (.value (.slice (some ⟨b, t, none⟩) q (c - t))) w := by
  have i4 : (0 : Int) ≤ (t : Int) := by omega
  have i6 : (t : Int) + (q : Int) ≤ (c : Int) := by omega
  have i7 : (t : Int) ≤ (t : Int) + (q : Int) := by omega
  have hct : ¬ (c = t) := by omega
  have hto : ((t : Int) + (q : Int)).toNat = t + q := by omega
  rw [Act.eval, Array.getD_eq_getD_getElem?] at hx hy hz
  simp only [execOp, hop]
  go_simp
theorem run_tail {a : Act} {o : Oper} {x y b t q c : Nat} (w : World) (hop : o.op = .slice 31 (.tmp x) (some (.tmp y)) none none) (hx : a.eval (.tmp x) = .slice (some ⟨b, 0, none⟩) (t + q) c) (hy : a.eval (.tmp y) = .int .i64 (t : Nat)) (h : t + q ≤ c) :
    ∃ ad, (execOp a.eval o).run Try.prog w = .ok (.value (.slice (some ad) q (c - t))) w ∧ (0 < q → ad = ⟨b, t, none⟩) := by
  have i4 : (0 : Int) ≤ (t : Int) := by omega
  have i6 : (t : Int) ≤ (t : Int) + (q : Int) := by omega
  have i7 : (t : Int) ≤ ((t + q : Nat) : Int) := by omega
  have hsub : t + q - t = q := by omega
  rw [Act.eval, Array.getD_eq_getD_getElem?] at hx hy
  by_cases hct : c = t
  · refine ⟨⟨b, 0, none⟩, ?_, fun hq => by omega⟩
    have hq : q = 0 := by omega
    subst hq hct
    simp only [execOp, hop]
    go_simp
  · refine ⟨⟨b, t, none⟩, ?_, fun _ => rfl⟩
    simp only [execOp, hop]
    go_simp
theorem step_tail {a : Act} {o : Oper} {x y b t q c : Nat} {w : World} {R : Value → World → Prop} (hop : o.op = .slice 31 (.tmp x) (some (.tmp y)) none none) (hx : a.eval (.tmp x) = .slice (some ⟨b, 0, none⟩) (t + q) c) (hy : a.eval (.tmp y) = .int .i64 (t : Nat)) (h : t + q ≤ c)
    (hR : ∀ ad, (0 < q → ad = ⟨b, t, none⟩) → R (.slice (some ad) q (c - t)) w) : StepOkR Try.prog o a w R := by
  obtain ⟨ad, g1, g2⟩ := run_tail w hop hx hy h
  exact .inl ⟨_, w, g1, hR ad g2⟩
theorem run_tail0 {a : Act} {o : Oper} {x y : Nat} (w : World) (hop : o.op = .slice 31 (.tmp x) (some (.tmp y)) none none) (hx : a.eval (.tmp x) = .slice none 0 0) (hy : a.eval (.tmp y) = .int .i64 0) :
    (execOp a.eval o).run Try.prog w = .ok (.value (.slice none 0 0)) w := by
  rw [Act.eval, Array.getD_eq_getD_getElem?] at hx hy
  simp only [execOp, hop]
  go_simp
theorem run_lenc {a : Act} {o : Oper} {x n c : Nat} {ad : Option Addr} (w : World) (hop : o.op = .call { callee := .builtin .len, args := #[.tmp x], argTypes := #[31] }) (hx : a.eval (.tmp x) = .slice ad n c) : (execOp a.eval o).run Try.prog w = .ok (.value (.int .i64 (n : Nat))) w := by
  rw [Act.eval, Array.getD_eq_getD_getElem?] at hx
  simp only [execOp, hop]
  go_simp
theorem run_nott {a : Act} {o : Oper} {x : Nat} {t' : TypeId} (w : World) (hop : o.op = .unOp .not t' (.tmp x)) (hx : a.eval (.tmp x) = .bool true) : (execOp a.eval o).run Try.prog w = .ok (.value (.bool false)) w := by
  rw [Act.eval, Array.getD_eq_getD_getElem?] at hx
  simp only [execOp, hop]
  go_simp
theorem load_int (p : Addr) (q : Nat) (w : World) (h : w.cell? p = some (.int .i64 (q : Nat))) : (Instr.loadAt 3 (.pointer (some p))).run Try.prog w = .ok (.int .i64 (q : Nat)) w := by go_simp
theorem load_cs (p : Addr) (a : Option Addr) (n c : Nat) (w : World) (h : w.cell? p = some (.slice a n c)) : (Instr.loadAt 31 (.pointer (some p))).run Try.prog w = .ok (.slice a n c) w := by go_simp
def r31V (Bk bx t q m c : Nat) (ad9 : Option Addr) (c9 : Nat) : Nat → Value → Prop
  | 159, v => v = .pointer (some ⟨Bk, 0, none⟩)
  | 160, v => v = .slice (some ⟨bx, 0, none⟩) m c
  | 161, v => v = .int .i64 (t : Nat)
  | 162, v => v = .int .i64 (t : Nat)
  | 163, v => v = .int .i64 (q : Nat)
  | 164, v => v = .int .i64 ((t : Int) + (q : Int))
  | 165, v => v = .slice (some ⟨bx, t, none⟩) q (c - t)
  | 166, v => ∃ A, v = .slice (some ⟨A, 0, none⟩) q q
  | 167, v => v = .slice ad9 (t + q) c9
  | 168, v => v = .slice ad9 (t + q) c9
  | 169, v => v = .int .i64 ((t : Int) + (q : Int))
  | 170, v => v = .int .i64 (q : Nat)
  | 171, v => v = .int .i64 (t : Nat)
  | 172, v => ∃ ad k, v = .slice ad q k ∧ (0 < q → ∃ b, ad9 = some ⟨b, 0, none⟩ ∧ ad = some ⟨b, t, none⟩)
  | 173, v => v = .bool true
  | 174, v => v = .bool false
  | _, _ => True
structure r31C (W : World) (Ok : Nat → Prop) (q : Nat) (Y : Nat → C2) (listed : Array Bool) (a : Act) (w : World) : Prop where
  st : listed.getD 7 false = false → Still W w
  bt : But Ok W w
  an : listed.getD 7 false = true → ∀ P m k, a.eval (.tmp 166) = .slice (some ⟨P, 0, none⟩) m k → ∀ j, j < q → ∃ u, w.cell? ⟨P, j, none⟩ = some u ∧ CIs u (Y j)
section
variable {W w w' : World} {Ok : Nat → Prop} {q : Nat} {Y : Nat → C2} {listed : Array Bool} {a : Act} {o : Oper}
theorem r31C.same (h : r31C W Ok q Y listed a w) (i d : Nat) (hd : o.dst = some d) (hi : i ≠ 7) (hs : d ≠ 166) (u : Value) : r31C W Ok q Y (listed.setIfInBounds i true) (a.put o.dst u) w := by
  refine ⟨?_, h.bt, ?_⟩
  · rw [getD_set_ne false hi]; exact h.st
  · rw [hd, getD_set_ne false hi, put_other (Ne.symm hs)]; exact h.an
theorem r31C.push (h : r31C W Ok q Y listed a w) (hl : 7 < listed.size) (hz : 221 ≤ a.tmps.size) (hd : o.dst = some 166) (hb : But Ok w w') {P : Nat} (hc : ∀ j, j < q → ∃ u, w'.cell? ⟨P, j, none⟩ = some u ∧ CIs u (Y j)) : r31C W Ok q Y (listed.setIfInBounds 7 true) (a.put o.dst (.slice (some ⟨P, 0, none⟩) q q)) w' := by
  refine ⟨fun l => ?_, h.bt.trans hb (fun k hk => .inl hk), fun _ P' m k e => ?_⟩
  · rw [listed_set rfl hl] at l; cases l
  · rw [hd, put_same (by omega)] at e
    injection e with e1; injection e1 with e1; injection e1 with e1
    subst e1; exact hc
theorem r31C.lists (h : r31C W Ok q Y listed a w) (hd : o.dst = some 173) (l7 : listed.getD 7 false = true) (hs : Still w w') (u : Value) : r31C W Ok q Y (listed.setIfInBounds 14 true) (a.put o.dst u) w' := by
  refine ⟨fun l => ?_, h.bt.trans (But.low (O := fun _ => False) (hs _)) (fun _ e => e.elim), fun l P m k e => ?_⟩
  · rw [getD_set_ne false (by omega), l7] at l; cases l
  · rw [hd, put_other (by omega)] at e
    intro j hj
    obtain ⟨u, h1, h2⟩ := h.an l7 P m k e j hj
    exact ⟨u, by rw [hs.cell]; exact h1, h2⟩
end
end Go.Proofs.Ytnfgdhnoidpncaa
