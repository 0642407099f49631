/- Laws of operations and the lowest digit, for Round's regions. -/
import Derived.Test.YtlajalfdcfkmpaaXt
namespace Go.Proofs.Ytlajalfdcfkmpaa
open Go.RowKit Go.Maps

section
variable {o : Oper} {a : Act} {w : World} {R : Value → World → Prop}
theorem okR_eq0 {x : Operand} {S : Int} (hop : o.op = .binOp .eql 3 x (.const (.int .i64 0)) 3) (hx : a.eval x = .int .i64 S) (h : R (.bool (decide (S = 0))) w) : StepOkR Try.prog o a w R := by
  refine .inl ⟨.bool (decide (S = 0)), w, ?_, h⟩
  have hc : a.eval (.const (.int .i64 0)) = .int .i64 0 := rfl
  simp only [execOp, hop, hx, hc]
  by_cases e : S = 0
  · subst e; go_simp
  · have e2 : (S == 0) = false := by simpa using e
    rw [decide_eq_false e]
    go_simp
theorem okR_len {d : Nat} {ad : Option Addr} {n c : Nat} (hop : o.op = .call { callee := .builtin .len, args := #[.tmp d], argTypes := #[66] }) (hty : o.type = 3) (hx : a.eval (.tmp d) = .slice ad n c) (h : R (.int .i64 (n : Nat)) w) : StepOkR Try.prog o a w R := by
  refine .inl ⟨_, w, ?_, h⟩
  rw [Act.eval, Array.getD_eq_getD_getElem?] at hx
  clear h
  simp only [execOp, hop, hty]
  go_simp
theorem okR_gt0 {x : Operand} {n : Nat} (hop : o.op = .binOp .gtr 3 x (.const (.int .i64 0)) 3) (hx : a.eval x = .int .i64 (n : Nat)) (h : R (.bool (decide (0 < n))) w) : StepOkR Try.prog o a w R := by
  refine .inl ⟨.bool (decide (0 < n)), w, ?_, h⟩
  have hc : a.eval (.const (.int .i64 0)) = .int .i64 0 := rfl
  simp only [execOp, hop, hx, hc]
  go_simp
theorem okR_idx0 {x : Operand} {b off n cap : Nat} (hop : o.op = .indexAddr 66 x (.const (.int .i64 0))) (hx : a.eval x = .slice (some ⟨b, off, none⟩) n cap) (hn : 0 < n) (h : R (.pointer (some ⟨b, off, none⟩)) w) : StepOkR Try.prog o a w R := by
  have h1 : (0 : Int) < (n : Int) := by omega
  refine .inl ⟨_, w, ?_, h⟩
  have hc : a.eval (.const (.int .i64 0)) = .int .i64 0 := rfl
  simp only [execOp, hop, hx, hc]
  go_simp
theorem okR_rem2 {x : Operand} {n : Nat} (hop : o.op = .binOp .rem 22 x (.const (.int .u64 2)) 22) (hx : a.eval x = .int .u64 (n : Nat)) (h : R (.int .u64 ((n % 2 : Nat) : Int)) w) : StepOkR Try.prog o a w R := by
  refine .inl ⟨.int .u64 ((n % 2 : Nat) : Int), w, ?_, h⟩
  have hc : a.eval (.const (.int .u64 2)) = .int .u64 2 := rfl
  have e : IntKind.u64.wrap ((n : Int).tmod 2) = ((n % 2 : Nat) : Int) := by
    rw [Int.tmod_eq_emod_of_nonneg (by omega), IntKind.wrap_u64]; omega
  have e2 : (n : Int).tmod 2 = ((n % 2 : Nat) : Int) := by
    rw [Int.tmod_eq_emod_of_nonneg (by omega)]; omega
  simp only [execOp, hop, hx, hc]
  go_simp
theorem okR_eq1 {x : Operand} {n : Nat} (hop : o.op = .binOp .eql 22 x (.const (.int .u64 1)) 22) (hx : a.eval x = .int .u64 (n : Nat)) (h : R (.bool (decide (n = 1))) w) : StepOkR Try.prog o a w R := by
  refine .inl ⟨.bool (decide (n = 1)), w, ?_, h⟩
  have hc : a.eval (.const (.int .u64 1)) = .int .u64 1 := rfl
  simp only [execOp, hop, hx, hc]
  by_cases e : n = 1
  · subst e; go_simp
  · have e2 : ((n : Int) == 1) = false := by simp; omega
    rw [decide_eq_false e]
    go_simp
theorem okR_lt0 {x : Operand} {S : Int} (hop : o.op = .binOp .lss 3 x (.const (.int .i64 0)) 3) (hx : a.eval x = .int .i64 S) (h : R (.bool (decide (S < 0))) w) : StepOkR Try.prog o a w R := by
  refine .inl ⟨.bool (decide (S < 0)), w, ?_, h⟩
  have hc : a.eval (.const (.int .i64 0)) = .int .i64 0 := rfl
  simp only [execOp, hop, hx, hc]
  go_simp
theorem okR_gtI {x : Operand} {S : Int} (hop : o.op = .binOp .gtr 3 x (.const (.int .i64 0)) 3) (hx : a.eval x = .int .i64 S) (h : R (.bool (decide (0 < S))) w) : StepOkR Try.prog o a w R := by
  refine .inl ⟨.bool (decide (0 < S)), w, ?_, h⟩
  have hc : a.eval (.const (.int .i64 0)) = .int .i64 0 := rfl
  simp only [execOp, hop, hx, hc]
  go_simp
end
theorem loadU (p : Addr) (n : Int) (w : World) (h : w.cell? p = some (.int .u64 n)) : (Instr.loadAt 22 (.pointer (some p))).run Try.prog w = .ok (.int .u64 n) w := by go_simp
theorem enter_SubQ (xs : Array Value) (w : World) : (callFunc 46 xs).run Try.prog w = .ok (.enter 46 xs) w := by go_simp
theorem enter_CmpQ (xs : Array Value) (w : World) : (callFunc 51 xs).run Try.prog w = .ok (.enter 51 xs) w := by go_simp
theorem enter_Num (xs : Array Value) (w : World) : (callFunc 38 xs).run Try.prog w = .ok (.enter 38 xs) w := by go_simp
/-- The lowest digit. -/
theorem NA.first {w : World} {ad : Option Addr} {n c x : Nat} (h : NA w (.slice ad n c) x) (hn : 0 < n) : ∃ b off d, ad = some ⟨b, off, none⟩ ∧ w.cell? ⟨b, off, none⟩ = some (.int .u64 (d : Nat)) ∧ d % 2 = x % 2 ∧ (x < 4294967296 → d = x ∧ n = 1) := by
  obtain ⟨ad', n', c', d, e, h1, h2, h3, h4⟩ := h
  cases e
  obtain ⟨b, off, e, _, hc⟩ := h2 0 hn
  refine ⟨b, off, d 0, e, hc, ?_, fun hx => ?_⟩
  · obtain ⟨k, rfl⟩ : ∃ k, n = k + 1 := ⟨n - 1, by omega⟩
    rw [h4, vp_shift]
    omega
  · have hn1 : n = 1 := by
      have := h3.len (k := 1) (by rw [← h4, Nat.pow_one]; exact hx)
      omega
    subst hn1
    refine ⟨?_, rfl⟩
    rw [h4]; simp [vp]
end Go.Proofs.Ytlajalfdcfkmpaa
