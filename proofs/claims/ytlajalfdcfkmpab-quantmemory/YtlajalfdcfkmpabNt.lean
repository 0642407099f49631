/- Rounding by floors, as mathematics; the fractions that quaverref25's Round meets. -/
import Derived.Test.YtlajalfdcfkmpabNs
namespace Go.Proofs.Ytlajalfdcfkmpab
open Go.RowKit Go.Maps

/-- The greatest whole number at most a half more. -/
def flo (z : Int) (t : Nat) : Int := (z * 2 + 2 ^ t) / 2 ^ (t + 1)
theorem flo_cases (z : Int) (t : Nat) : (2 ^ t ≤ 2 * (z % 2 ^ t) ∧ flo z t = z / 2 ^ t + 1) ∨ (2 * (z % 2 ^ t) < 2 ^ t ∧ flo z t = z / 2 ^ t) := by
  have hD : (0 : Int) < 2 ^ t := Int.pow_pos (by decide)
  have h1 := Int.mul_ediv_add_emod z (2 ^ t)
  have h2 := Int.emod_nonneg z (Int.ne_of_gt hD)
  have h3 := Int.emod_lt_of_pos z hD
  unfold flo
  rw [Int.pow_succ]
  rw [Int.mul_comm] at h1
  generalize z / 2 ^ t = q at *
  generalize z % 2 ^ t = r at *
  generalize (2 : Int) ^ t = D at *
  by_cases h : D ≤ 2 * r
  · refine .inl ⟨h, floor_of (by omega) ?_ ?_⟩
    · rw [Int.add_mul, ← Int.mul_assoc, Int.one_mul]; omega
    · rw [Int.add_mul, Int.add_mul, ← Int.mul_assoc, Int.one_mul]; omega
  · refine .inr ⟨by omega, floor_of (by omega) ?_ ?_⟩
    · rw [← Int.mul_assoc]; omega
    · rw [Int.add_mul, ← Int.mul_assoc, Int.one_mul]; omega
/-- Is it a tie? -/
theorem tie_iff (z : Int) (t : Nat) : 2 * (flo z t * 2 ^ t - z) = 2 ^ t ↔ 2 * (z % 2 ^ t) = 2 ^ t := by
  have hD : (0 : Int) < 2 ^ t := Int.pow_pos (by decide)
  have h1 := Int.mul_ediv_add_emod z (2 ^ t)
  have h2 := Int.emod_nonneg z (Int.ne_of_gt hD)
  rcases flo_cases z t with ⟨a, e⟩ | ⟨a, e⟩
  · rw [e, Int.add_mul, Int.one_mul]
    rw [Int.mul_comm] at h1
    generalize z / 2 ^ t * 2 ^ t = p at *
    omega
  · rw [e]
    rw [Int.mul_comm] at h1
    generalize z / 2 ^ t * 2 ^ t = p at *
    omega
theorem rnd_flo (z : Int) (t : Nat) : rnd z t = if 2 * (flo z t * 2 ^ t - z) = 2 ^ t ∧ flo z t % 2 = 1 then flo z t - 1 else flo z t := by
  unfold rnd
  by_cases ht : 2 * (flo z t * 2 ^ t - z) = 2 ^ t
  · have ht' := (tie_iff z t).1 ht
    rcases flo_cases z t with ⟨a, e⟩ | ⟨a, e⟩
    · by_cases ho : flo z t % 2 = 1
      · rw [if_pos (show _ ∧ _ from ⟨ht, ho⟩), if_neg (by omega)]; omega
      · rw [if_neg (show ¬ (_ ∧ _) from fun h => ho h.2), if_pos (by omega)]; omega
    · omega
  · have ht' : ¬ 2 * (z % 2 ^ t) = 2 ^ t := fun h => ht ((tie_iff z t).2 h)
    rw [if_neg (show ¬ (_ ∧ _) from fun h => ht h.1)]
    rcases flo_cases z t with ⟨a, e⟩ | ⟨a, e⟩
    · rw [if_pos (by omega), e]
    · rw [if_neg (by omega), e]

/-- A fraction in lowest terms that is a known one. -/
theorem low_half {z' : Int} {t' : Nat} (h : t' = 0 ∨ z' % 2 = 1) (ht : t' ≤ 1) (e : z' * 2 ^ (1 - t') = 1) : z' = 1 ∧ t' = 1 := by
  rcases (by omega : t' = 0 ∨ t' = 1) with rfl | rfl
  · rw [Nat.sub_zero, Int.pow_succ, Int.pow_zero] at e; omega
  · rw [Nat.sub_self, Int.pow_zero] at e; omega
/-- The sum with a half: below 2^32, and its floor. -/
theorem sum_half {z z' : Int} {t t' : Nat} (ht : t ≤ 31) (hl : t' = 0 ∨ z' % 2 = 1) (h1 : t' ≤ t + 1) (e : z' * 2 ^ (t + 1 - t') = z * 2 ^ 1 + 1 * 2 ^ t) : t' ≤ 31 ∧ z' / 2 ^ t' = flo z t ∧ z'.natAbs ≤ (z * 2 + 2 ^ t).natAbs := by
  rw [Int.pow_succ, Int.pow_zero, Int.one_mul, Int.one_mul] at e
  refine ⟨?_, ?_, ?_⟩
  · by_cases h : t' ≤ 31
    · exact h
    · exfalso
      have h2 : t' = t + 1 := by omega
      rw [h2, Nat.sub_self, Int.pow_zero, Int.mul_one] at e
      have : (2 : Int) ^ t = 2 * 2 ^ (t - 1) := by rw [← Int.pow_succ', show t - 1 + 1 = t by omega]
      rw [this] at e
      rcases hl with g | g
      · omega
      · generalize (2 : Int) ^ (t - 1) = D at *
        omega
  · unfold flo
    rw [← e, show (2 : Int) ^ (t + 1) = 2 ^ t' * 2 ^ (t + 1 - t') by rw [← Int.pow_add, show t' + (t + 1 - t') = t + 1 by omega]]
    rw [Int.mul_ediv_mul_of_pos_left _ _ (Int.pow_pos (by decide))]
  · rw [← e, Int.natAbs_mul]
    exact Nat.le_mul_of_pos_right _ (Int.natAbs_pos.2 (Int.ne_of_gt (Int.pow_pos (by decide))))
/-- The difference, held against a half. -/
theorem diff_half {F z d : Int} {t t' : Nat} (h1 : t' ≤ t) (e : d * 2 ^ (t - t') = F * 2 ^ t + -z * 2 ^ 0) : (d * 2 ^ 1 + -1 * 2 ^ t' = 0) ↔ 2 * (F * 2 ^ t - z) = 2 ^ t := by
  rw [Int.pow_zero, Int.mul_one] at e
  have hp : (2 : Int) ^ t = 2 ^ t' * 2 ^ (t - t') := by rw [← Int.pow_add, show t' + (t - t') = t by omega]
  have hk : (0 : Int) < 2 ^ (t - t') := Int.pow_pos (by decide)
  have e2 : F * 2 ^ t - z = d * 2 ^ (t - t') := by rw [e]; omega
  rw [e2, hp]
  constructor
  · intro h
    have h3 : d * 2 = 2 ^ t' := by rw [Int.pow_succ, Int.pow_zero] at h; omega
    rw [← h3]
    rw [Int.mul_assoc, Int.mul_left_comm 2 d]
  · intro h
    have h3 : d * 2 = 2 ^ t' := by
      refine Int.eq_of_mul_eq_mul_right (Int.ne_of_gt hk) ?_
      rw [← h, Int.mul_assoc, Int.mul_left_comm d 2]
    rw [Int.pow_succ, Int.pow_zero]; omega
theorem diff_hg {d : Int} {t' : Nat} (ht : t' ≤ 31) (hl : t' = 0 ∨ d % 2 = 1) : d * 2 ^ 1 + -1 * 2 ^ t' = 0 ∨ t' + 1 ≤ 31 ∨ ¬ 2 ^ 32 ∣ (d * 2 ^ 1 + -1 * 2 ^ t').natAbs := by
  by_cases h : t' ≤ 30
  · exact .inr (.inl (by omega))
  · obtain rfl : t' = 31 := by omega
    right; right
    rintro ⟨k, hk⟩
    rcases hl with g | g
    · omega
    · rw [show (2 : Int) ^ 31 = 2147483648 by decide, show (2 : Nat) ^ 32 = 4294967296 by decide, Int.pow_succ, Int.pow_zero] at hk
      omega
theorem sum_hg {z : Int} {t : Nat} (ht : t ≤ 31) (hl : t = 0 ∨ z % 2 = 1) : z * 2 ^ 1 + 1 * 2 ^ t = 0 ∨ t + 1 ≤ 31 ∨ ¬ 2 ^ 32 ∣ (z * 2 ^ 1 + 1 * 2 ^ t).natAbs := by
  by_cases h : t ≤ 30
  · exact .inr (.inl (by omega))
  · obtain rfl : t = 31 := by omega
    right; right
    rintro ⟨k, hk⟩
    rcases hl with g | g
    · omega
    · rw [show (2 : Int) ^ 31 = 2147483648 by decide, show (2 : Nat) ^ 32 = 4294967296 by decide, Int.pow_succ, Int.pow_zero] at hk
      omega
end Go.Proofs.Ytlajalfdcfkmpab
