/- Nt, Nv, one behind the other. -/
import Derived.Test.YtlajalfdcfkmpaaNs
/- Rounding by floors, as mathematics; the fractions that quaverref25's Round meets. -/
namespace Go.Proofs.Ytlajalfdcfkmpaa
open Go.RowKit Go.Maps

/-- The greatest whole number at most a half more. -/
def flo (z : Int) (t : Nat) : Int := (z * 2 + 2 ^ t) / 2 ^ (t + 1)
theorem flo_cases (z : Int) (t : Nat) : (2 ^ t ≤ 2 * (z % 2 ^ t) ∧ flo z t = z / 2 ^ t + 1) ∨ (2 * (z % 2 ^ t) < 2 ^ t ∧ flo z t = z / 2 ^ t) := by
  have hD : (0 : Int) < 2 ^ t := Int.pow_pos (by decide)
  have h1 := Int.mul_ediv_add_emod z (2 ^ t)
  have h2 := Int.emod_nonneg z (Int.ne_of_gt hD)
  have h3 := Int.emod_lt_of_pos z hD
  unfold flo
  rw [Int.pow_succ]
  rw [Int.mul_comm] at h1
  generalize z / 2 ^ t = q at *
  generalize z % 2 ^ t = r at *
  generalize (2 : Int) ^ t = D at *
  by_cases h : D ≤ 2 * r
  · refine .inl ⟨h, floor_of (by omega) ?_ ?_⟩
    · rw [Int.add_mul, ← Int.mul_assoc, Int.one_mul]; omega
    · rw [Int.add_mul, Int.add_mul, ← Int.mul_assoc, Int.one_mul]; omega
  · refine .inr ⟨by omega, floor_of (by omega) ?_ ?_⟩
    · rw [← Int.mul_assoc]; omega
    · rw [Int.add_mul, ← Int.mul_assoc, Int.one_mul]; omega
/-- Is it a tie? -/
theorem tie_iff (z : Int) (t : Nat) : 2 * (flo z t * 2 ^ t - z) = 2 ^ t ↔ 2 * (z % 2 ^ t) = 2 ^ t := by
  have hD : (0 : Int) < 2 ^ t := Int.pow_pos (by decide)
  have h1 := Int.mul_ediv_add_emod z (2 ^ t)
  have h2 := Int.emod_nonneg z (Int.ne_of_gt hD)
  rcases flo_cases z t with ⟨a, e⟩ | ⟨a, e⟩
  · rw [e, Int.add_mul, Int.one_mul]
    rw [Int.mul_comm] at h1
    generalize z / 2 ^ t * 2 ^ t = p at *
    omega
  · rw [e]
    rw [Int.mul_comm] at h1
    generalize z / 2 ^ t * 2 ^ t = p at *
    omega
theorem rnd_flo (z : Int) (t : Nat) : rnd z t = if 2 * (flo z t * 2 ^ t - z) = 2 ^ t ∧ flo z t % 2 = 1 then flo z t - 1 else flo z t := by
  unfold rnd
  by_cases ht : 2 * (flo z t * 2 ^ t - z) = 2 ^ t
  · have ht' := (tie_iff z t).1 ht
    rcases flo_cases z t with ⟨a, e⟩ | ⟨a, e⟩
    · by_cases ho : flo z t % 2 = 1
      · rw [if_pos (show _ ∧ _ from ⟨ht, ho⟩), if_neg (by omega)]; omega
      · rw [if_neg (show ¬ (_ ∧ _) from fun h => ho h.2), if_pos (by omega)]; omega
    · omega
  · have ht' : ¬ 2 * (z % 2 ^ t) = 2 ^ t := fun h => ht ((tie_iff z t).2 h)
    rw [if_neg (show ¬ (_ ∧ _) from fun h => ht h.1)]
    rcases flo_cases z t with ⟨a, e⟩ | ⟨a, e⟩
    · rw [if_pos (by omega), e]
    · rw [if_neg (by omega), e]

/-- A fraction in lowest terms that is a known one. -/
theorem low_half {z' : Int} {t' : Nat} (h : t' = 0 ∨ z' % 2 = 1) (ht : t' ≤ 1) (e : z' * 2 ^ (1 - t') = 1) : z' = 1 ∧ t' = 1 := by
  rcases (by omega : t' = 0 ∨ t' = 1) with rfl | rfl
  · rw [Nat.sub_zero, Int.pow_succ, Int.pow_zero] at e; omega
  · rw [Nat.sub_self, Int.pow_zero] at e; omega
/-- The sum with a half: below 2^32, and its floor. -/
theorem sum_half {z z' : Int} {t t' : Nat} (ht : t ≤ 31) (hl : t' = 0 ∨ z' % 2 = 1) (h1 : t' ≤ t + 1) (e : z' * 2 ^ (t + 1 - t') = z * 2 ^ 1 + 1 * 2 ^ t) : t' ≤ 31 ∧ z' / 2 ^ t' = flo z t ∧ z'.natAbs ≤ (z * 2 + 2 ^ t).natAbs := by
  rw [Int.pow_succ, Int.pow_zero, Int.one_mul, Int.one_mul] at e
  refine ⟨?_, ?_, ?_⟩
  · by_cases h : t' ≤ 31
    · exact h
    · exfalso
      have h2 : t' = t + 1 := by omega
      rw [h2, Nat.sub_self, Int.pow_zero, Int.mul_one] at e
      have : (2 : Int) ^ t = 2 * 2 ^ (t - 1) := by rw [← Int.pow_succ', show t - 1 + 1 = t by omega]
      rw [this] at e
      rcases hl with g | g
      · omega
      · generalize (2 : Int) ^ (t - 1) = D at *
        omega
  · unfold flo
    rw [← e, show (2 : Int) ^ (t + 1) = 2 ^ t' * 2 ^ (t + 1 - t') by rw [← Int.pow_add, show t' + (t + 1 - t') = t + 1 by omega]]
    rw [Int.mul_ediv_mul_of_pos_left _ _ (Int.pow_pos (by decide))]
  · rw [← e, Int.natAbs_mul]
    exact Nat.le_mul_of_pos_right _ (Int.natAbs_pos.2 (Int.ne_of_gt (Int.pow_pos (by decide))))
/-- The difference, held against a half. -/
theorem diff_half {F z d : Int} {t t' : Nat} (h1 : t' ≤ t) (e : d * 2 ^ (t - t') = F * 2 ^ t + -z * 2 ^ 0) : (d * 2 ^ 1 + -1 * 2 ^ t' = 0) ↔ 2 * (F * 2 ^ t - z) = 2 ^ t := by
  rw [Int.pow_zero, Int.mul_one] at e
  have hp : (2 : Int) ^ t = 2 ^ t' * 2 ^ (t - t') := by rw [← Int.pow_add, show t' + (t - t') = t by omega]
  have hk : (0 : Int) < 2 ^ (t - t') := Int.pow_pos (by decide)
  have e2 : F * 2 ^ t - z = d * 2 ^ (t - t') := by rw [e]; omega
  rw [e2, hp]
  constructor
  · intro h
    have h3 : d * 2 = 2 ^ t' := by rw [Int.pow_succ, Int.pow_zero] at h; omega
    rw [← h3]
    rw [Int.mul_assoc, Int.mul_left_comm 2 d]
  · intro h
    have h3 : d * 2 = 2 ^ t' := by
      refine Int.eq_of_mul_eq_mul_right (Int.ne_of_gt hk) ?_
      rw [← h, Int.mul_assoc, Int.mul_left_comm d 2]
    rw [Int.pow_succ, Int.pow_zero]; omega
theorem diff_hg {d : Int} {t' : Nat} (ht : t' ≤ 31) (hl : t' = 0 ∨ d % 2 = 1) : d * 2 ^ 1 + -1 * 2 ^ t' = 0 ∨ t' + 1 ≤ 31 ∨ ¬ 2 ^ 32 ∣ (d * 2 ^ 1 + -1 * 2 ^ t').natAbs := by
  by_cases h : t' ≤ 30
  · exact .inr (.inl (by omega))
  · obtain rfl : t' = 31 := by omega
    right; right
    rintro ⟨k, hk⟩
    rcases hl with g | g
    · omega
    · rw [show (2 : Int) ^ 31 = 2147483648 by decide, show (2 : Nat) ^ 32 = 4294967296 by decide, Int.pow_succ, Int.pow_zero] at hk
      omega
theorem sum_hg {z : Int} {t : Nat} (ht : t ≤ 31) (hl : t = 0 ∨ z % 2 = 1) : z * 2 ^ 1 + 1 * 2 ^ t = 0 ∨ t + 1 ≤ 31 ∨ ¬ 2 ^ 32 ∣ (z * 2 ^ 1 + 1 * 2 ^ t).natAbs := by
  by_cases h : t ≤ 30
  · exact .inr (.inl (by omega))
  · obtain rfl : t = 31 := by omega
    right; right
    rintro ⟨k, hk⟩
    rcases hl with g | g
    · omega
    · rw [show (2 : Int) ^ 31 = 2147483648 by decide, show (2 : Nat) ^ 32 = 4294967296 by decide, Int.pow_succ, Int.pow_zero] at hk
      omega
end Go.Proofs.Ytlajalfdcfkmpaa

/- Laws of operations and the lowest digit, for Round's regions. -/
namespace Go.Proofs.Ytlajalfdcfkmpaa
open Go.RowKit Go.Maps

section
variable {o : Oper} {a : Act} {w : World} {R : Value → World → Prop}
theorem okR_eq0 {x : Operand} {S : Int} (hop : o.op = .binOp .eql 3 x (.const (.int .i64 0)) 3) (hx : a.eval x = .int .i64 S) (h : R (.bool (decide (S = 0))) w) : StepOkR Try.prog o a w R := by
  refine .inl ⟨.bool (decide (S = 0)), w, ?_, h⟩
  have hc : a.eval (.const (.int .i64 0)) = .int .i64 0 := rfl
  simp only [execOp, hop, hx, hc]
  by_cases e : S = 0
  · subst e; go_simp
  · have e2 : (S == 0) = false := by simpa using e
    rw [decide_eq_false e]
    go_simp
theorem okR_len {d : Nat} {ad : Option Addr} {n c : Nat} (hop : o.op = .call { callee := .builtin .len, args := #[.tmp d], argTypes := #[66] }) (hty : o.type = 3) (hx : a.eval (.tmp d) = .slice ad n c) (h : R (.int .i64 (n : Nat)) w) : StepOkR Try.prog o a w R := by
  refine .inl ⟨_, w, ?_, h⟩
  rw [Act.eval, Array.getD_eq_getD_getElem?] at hx
  clear h
  simp only [execOp, hop, hty]
  go_simp
theorem okR_gt0 {x : Operand} {n : Nat} (hop : o.op = .binOp .gtr 3 x (.const (.int .i64 0)) 3) (hx : a.eval x = .int .i64 (n : Nat)) (h : R (.bool (decide (0 < n))) w) : StepOkR Try.prog o a w R := by
  refine .inl ⟨.bool (decide (0 < n)), w, ?_, h⟩
  have hc : a.eval (.const (.int .i64 0)) = .int .i64 0 := rfl
  simp only [execOp, hop, hx, hc]
  go_simp
theorem okR_idx0 {x : Operand} {b off n cap : Nat} (hop : o.op = .indexAddr 66 x (.const (.int .i64 0))) (hx : a.eval x = .slice (some ⟨b, off, none⟩) n cap) (hn : 0 < n) (h : R (.pointer (some ⟨b, off, none⟩)) w) : StepOkR Try.prog o a w R := by
  have h1 : (0 : Int) < (n : Int) := by omega
  refine .inl ⟨_, w, ?_, h⟩
  have hc : a.eval (.const (.int .i64 0)) = .int .i64 0 := rfl
  simp only [execOp, hop, hx, hc]
  go_simp
theorem okR_rem2 {x : Operand} {n : Nat} (hop : o.op = .binOp .rem 22 x (.const (.int .u64 2)) 22) (hx : a.eval x = .int .u64 (n : Nat)) (h : R (.int .u64 ((n % 2 : Nat) : Int)) w) : StepOkR Try.prog o a w R := by
  refine .inl ⟨.int .u64 ((n % 2 : Nat) : Int), w, ?_, h⟩
  have hc : a.eval (.const (.int .u64 2)) = .int .u64 2 := rfl
  have e : IntKind.u64.wrap ((n : Int).tmod 2) = ((n % 2 : Nat) : Int) := by
    rw [Int.tmod_eq_emod_of_nonneg (by omega), IntKind.wrap_u64]; omega
  have e2 : (n : Int).tmod 2 = ((n % 2 : Nat) : Int) := by
    rw [Int.tmod_eq_emod_of_nonneg (by omega)]; omega
  simp only [execOp, hop, hx, hc]
  go_simp
theorem okR_eq1 {x : Operand} {n : Nat} (hop : o.op = .binOp .eql 22 x (.const (.int .u64 1)) 22) (hx : a.eval x = .int .u64 (n : Nat)) (h : R (.bool (decide (n = 1))) w) : StepOkR Try.prog o a w R := by
  refine .inl ⟨.bool (decide (n = 1)), w, ?_, h⟩
  have hc : a.eval (.const (.int .u64 1)) = .int .u64 1 := rfl
  simp only [execOp, hop, hx, hc]
  by_cases e : n = 1
  · subst e; go_simp
  · have e2 : ((n : Int) == 1) = false := by simp; omega
    rw [decide_eq_false e]
    go_simp
theorem okR_lt0 {x : Operand} {S : Int} (hop : o.op = .binOp .lss 3 x (.const (.int .i64 0)) 3) (hx : a.eval x = .int .i64 S) (h : R (.bool (decide (S < 0))) w) : StepOkR Try.prog o a w R := by
  refine .inl ⟨.bool (decide (S < 0)), w, ?_, h⟩
  have hc : a.eval (.const (.int .i64 0)) = .int .i64 0 := rfl
  simp only [execOp, hop, hx, hc]
  go_simp
theorem okR_gtI {x : Operand} {S : Int} (hop : o.op = .binOp .gtr 3 x (.const (.int .i64 0)) 3) (hx : a.eval x = .int .i64 S) (h : R (.bool (decide (0 < S))) w) : StepOkR Try.prog o a w R := by
  refine .inl ⟨.bool (decide (0 < S)), w, ?_, h⟩
  have hc : a.eval (.const (.int .i64 0)) = .int .i64 0 := rfl
  simp only [execOp, hop, hx, hc]
  go_simp
end
theorem loadU (p : Addr) (n : Int) (w : World) (h : w.cell? p = some (.int .u64 n)) : (Instr.loadAt 22 (.pointer (some p))).run Try.prog w = .ok (.int .u64 n) w := by go_simp
theorem enter_SubQ (xs : Array Value) (w : World) : (callFunc 46 xs).run Try.prog w = .ok (.enter 46 xs) w := by go_simp
theorem enter_CmpQ (xs : Array Value) (w : World) : (callFunc 51 xs).run Try.prog w = .ok (.enter 51 xs) w := by go_simp
theorem enter_Num (xs : Array Value) (w : World) : (callFunc 38 xs).run Try.prog w = .ok (.enter 38 xs) w := by go_simp
/-- The lowest digit. -/
theorem NA.first {w : World} {ad : Option Addr} {n c x : Nat} (h : NA w (.slice ad n c) x) (hn : 0 < n) : ∃ b off d, ad = some ⟨b, off, none⟩ ∧ w.cell? ⟨b, off, none⟩ = some (.int .u64 (d : Nat)) ∧ d % 2 = x % 2 ∧ (x < 4294967296 → d = x ∧ n = 1) := by
  obtain ⟨ad', n', c', d, e, h1, h2, h3, h4⟩ := h
  cases e
  obtain ⟨b, off, e, _, hc⟩ := h2 0 hn
  refine ⟨b, off, d 0, e, hc, ?_, fun hx => ?_⟩
  · obtain ⟨k, rfl⟩ : ∃ k, n = k + 1 := ⟨n - 1, by omega⟩
    rw [h4, vp_shift]
    omega
  · have hn1 : n = 1 := by
      have := h3.len (k := 1) (by rw [← h4, Nat.pow_one]; exact hx)
      omega
    subst hn1
    refine ⟨?_, rfl⟩
    rw [h4]; simp [vp]
end Go.Proofs.Ytlajalfdcfkmpaa
