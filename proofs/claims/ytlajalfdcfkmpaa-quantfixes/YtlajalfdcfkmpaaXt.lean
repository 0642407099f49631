/- Rounding by floors, as mathematics; the fractions that quaverref25's Round meets. -/
import Derived.Test.YtlajalfdcfkmpaaXs
namespace Go.Proofs.Ytlajalfdcfkmpaa
open Go.RowKit Go.Maps

/-- The greatest whole number at most a half more. -/
def flo (z : Int) (t : Nat) : Int := (z * 2 + 2 ^ t) / 2 ^ (t + 1)
theorem flo_cases (z : Int) (t : Nat) : (2 ^ t ≤ 2 * (z % 2 ^ t) ∧ flo z t = z / 2 ^ t + 1) ∨ (2 * (z % 2 ^ t) < 2 ^ t ∧ flo z t = z / 2 ^ t) := by
  have hD : (0 : Int) < 2 ^ t := Int.pow_pos (by decide)
  have h1 := Int.mul_ediv_add_emod z (2 ^ t)
  have h2 := Int.emod_nonneg z (Int.ne_of_gt hD)
  have h3 := Int.emod_lt_of_pos z hD
  unfold flo
  rw [Int.pow_succ]
  rw [Int.mul_comm] at h1
  generalize z / 2 ^ t = q at *
  generalize z % 2 ^ t = r at *
  generalize (2 : Int) ^ t = D at *
  by_cases h : D ≤ 2 * r
  · refine .inl ⟨h, floor_of (by omega) ?_ ?_⟩
    · rw [Int.add_mul, ← Int.mul_assoc, Int.one_mul]; omega
    · rw [Int.add_mul, Int.add_mul, ← Int.mul_assoc, Int.one_mul]; omega
  · refine .inr ⟨by omega, floor_of (by omega) ?_ ?_⟩
    · rw [← Int.mul_assoc]; omega
    · rw [Int.add_mul, ← Int.mul_assoc, Int.one_mul]; omega
/-- Is it a tie? -/
theorem tie_iff (z : Int) (t : Nat) : 2 * (flo z t * 2 ^ t - z) = 2 ^ t ↔ 2 * (z % 2 ^ t) = 2 ^ t := by
  have hD : (0 : Int) < 2 ^ t := Int.pow_pos (by decide)
  have h1 := Int.mul_ediv_add_emod z (2 ^ t)
  have h2 := Int.emod_nonneg z (Int.ne_of_gt hD)
  rcases flo_cases z t with ⟨a, e⟩ | ⟨a, e⟩
  · rw [e, Int.add_mul, Int.one_mul]
    rw [Int.mul_comm] at h1
    generalize z / 2 ^ t * 2 ^ t = p at *
    omega
  · rw [e]
    rw [Int.mul_comm] at h1
    generalize z / 2 ^ t * 2 ^ t = p at *
    omega
theorem rnd_flo (z : Int) (t : Nat) : rnd z t = if 2 * (flo z t * 2 ^ t - z) = 2 ^ t ∧ flo z t % 2 = 1 then flo z t - 1 else flo z t := by
  unfold rnd
  by_cases ht : 2 * (flo z t * 2 ^ t - z) = 2 ^ t
  · have ht' := (tie_iff z t).1 ht
    rcases flo_cases z t with ⟨a, e⟩ | ⟨a, e⟩
    · by_cases ho : flo z t % 2 = 1
      · rw [if_pos (show _ ∧ _ from ⟨ht, ho⟩), if_neg (by omega)]; omega
      · rw [if_neg (show ¬ (_ ∧ _) from fun h => ho h.2), if_pos (by omega)]; omega
    · omega
  · have ht' : ¬ 2 * (z % 2 ^ t) = 2 ^ t := fun h => ht ((tie_iff z t).2 h)
    rw [if_neg (show ¬ (_ ∧ _) from fun h => ht h.1)]
    rcases flo_cases z t with ⟨a, e⟩ | ⟨a, e⟩
    · rw [if_pos (by omega), e]
    · rw [if_neg (by omega), e]

/-- A fraction in lowest terms that is a known one. -/
theorem low_half {z' : Int} {t' : Nat} (h : t' = 0 ∨ z' % 2 = 1) (ht : t' ≤ 1) (e : z' * 2 ^ (1 - t') = 1) : z' = 1 ∧ t' = 1 := by
  rcases (by omega : t' = 0 ∨ t' = 1) with rfl | rfl
  · rw [Nat.sub_zero, Int.pow_succ, Int.pow_zero] at e; omega
  · rw [Nat.sub_self, Int.pow_zero] at e; omega
/-- The sum with a half, and its floor. -/
theorem sum_half {z z' : Int} {t t' : Nat} (h1 : t' ≤ t + 1) (e : z' * 2 ^ (t + 1 - t') = z * 2 ^ 1 + 1 * 2 ^ t) : z' / 2 ^ t' = flo z t ∧ z'.natAbs ≤ (z * 2 + 2 ^ t).natAbs := by
  rw [Int.pow_succ, Int.pow_zero, Int.one_mul, Int.one_mul] at e
  refine ⟨?_, ?_⟩
  · unfold flo
    rw [← e, show (2 : Int) ^ (t + 1) = 2 ^ t' * 2 ^ (t + 1 - t') by rw [← Int.pow_add, show t' + (t + 1 - t') = t + 1 by omega]]
    rw [Int.mul_ediv_mul_of_pos_left _ _ (Int.pow_pos (by decide))]
  · rw [← e, Int.natAbs_mul]
    exact Nat.le_mul_of_pos_right _ (Int.natAbs_pos.2 (Int.ne_of_gt (Int.pow_pos (by decide))))
/-- The difference, held against a half. -/
theorem diff_half {F z d : Int} {t t' : Nat} (h1 : t' ≤ t) (e : d * 2 ^ (t - t') = F * 2 ^ t + -z * 2 ^ 0) : (d * 2 ^ 1 + -1 * 2 ^ t' = 0) ↔ 2 * (F * 2 ^ t - z) = 2 ^ t := by
  rw [Int.pow_zero, Int.mul_one] at e
  have hp : (2 : Int) ^ t = 2 ^ t' * 2 ^ (t - t') := by rw [← Int.pow_add, show t' + (t - t') = t by omega]
  have hk : (0 : Int) < 2 ^ (t - t') := Int.pow_pos (by decide)
  have e2 : F * 2 ^ t - z = d * 2 ^ (t - t') := by rw [e]; omega
  rw [e2, hp]
  constructor
  · intro h
    have h3 : d * 2 = 2 ^ t' := by rw [Int.pow_succ, Int.pow_zero] at h; omega
    rw [← h3]
    rw [Int.mul_assoc, Int.mul_left_comm 2 d]
  · intro h
    have h3 : d * 2 = 2 ^ t' := by
      refine Int.eq_of_mul_eq_mul_right (Int.ne_of_gt hk) ?_
      rw [← h, Int.mul_assoc, Int.mul_left_comm d 2]
    rw [Int.pow_succ, Int.pow_zero]; omega
theorem two_abs (t : Nat) : ((2 : Int) ^ t).natAbs = 2 ^ t := by
  rw [Int.natAbs_pow]; rfl
theorem flo_abs (z : Int) (t : Nat) : (flo z t).natAbs ≤ z.natAbs + 1 := by
  have hp0 : (0 : Int) < 2 ^ t := Int.pow_pos (by decide)
  have := flo_cases z t
  have e1 := Int.ediv_le_self (a := z.natAbs) (2 ^ t) (by omega)
  have e2 : -(z.natAbs : Int) ≤ z / 2 ^ t := by
    refine (Int.le_ediv_iff_mul_le hp0).2 ?_
    have : (z.natAbs : Int) * 1 ≤ z.natAbs * 2 ^ t := Int.mul_le_mul_of_nonneg_left (by omega) (by omega)
    rw [Int.neg_mul]; omega
  have e3 : z / 2 ^ t ≤ (z.natAbs : Int) := Int.le_trans (Int.ediv_le_ediv hp0 (show z ≤ z.natAbs by omega)) e1
  omega
theorem b_sum {z zs : Int} {t : Nat} (hz : z.natAbs < 4294967296 ^ 80) (ht : t ≤ 1100) (h : zs.natAbs ≤ (z * 2 + 2 ^ t).natAbs) : zs.natAbs < 4294967296 ^ 400 := by
  have h1 : (z * 2 + 2 ^ t).natAbs ≤ z.natAbs * 2 + 2 ^ t := by
    have := Int.natAbs_add_le (z * 2) (2 ^ t)
    rw [Int.natAbs_mul, two_abs] at this
    exact this
  have h2 : z.natAbs * 2 < 4294967296 ^ 81 := mul_kk (k := 80) (m := 81) hz (by decide) (by decide)
  have h3 : 2 ^ t < 4294967296 ^ 81 := pow_lt (k := 81) (by omega)
  exact Nat.lt_of_le_of_lt (Nat.le_trans h h1) (add_lt (i := 81) (k := 400) h2 h3 (by decide))
theorem b_flo {z : Int} (t : Nat) (hz : z.natAbs < 4294967296 ^ 80) : (flo z t).natAbs < 4294967296 ^ 81 :=
  Nat.lt_of_le_of_lt (flo_abs z t) (add_lt (i := 80) (k := 81) hz (lt_k 80 (by decide) (by decide)) (by decide))
theorem b_diff {F z d : Int} {t : Nat} (h3 : d.natAbs ≤ (F * 2 ^ t + -z).natAbs) (hF : F.natAbs < 4294967296 ^ 81) (hz : z.natAbs < 4294967296 ^ 80) (ht : t ≤ 1100) : d.natAbs < 4294967296 ^ 400 := by
  have h1 : (F * 2 ^ t + -z).natAbs ≤ F.natAbs * 2 ^ t + z.natAbs := by
    have := Int.natAbs_add_le (F * 2 ^ t) (-z)
    rw [Int.natAbs_mul, Int.natAbs_neg, two_abs] at this
    exact this
  have h2 : F.natAbs * 2 ^ t < 4294967296 ^ 120 := mul_lt (i := 81) (j := 35) (k := 120) hF (pow_lt (k := 35) (by omega)) (by decide)
  exact Nat.lt_of_le_of_lt (Nat.le_trans h3 h1) (add_lt (i := 120) (k := 400) h2 (lt_le (i := 80) (k := 120) hz (by decide)) (by decide))
theorem b_two {F : Int} {up : Bool} (h : F.natAbs < 4294967296 ^ 81) : (if up = true then F - 1 else F).natAbs < 4294967296 ^ 400 := by
  have h1 : (if up = true then F - 1 else F).natAbs ≤ F.natAbs + 1 := by split <;> omega
  exact Nat.lt_of_le_of_lt h1 (add_lt (i := 81) (k := 400) h (lt_k 81 (by decide) (by decide)) (by decide))
end Go.Proofs.Ytlajalfdcfkmpaa
