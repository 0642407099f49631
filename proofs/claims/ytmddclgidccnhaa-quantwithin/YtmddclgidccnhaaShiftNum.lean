/- Plain facts on a shift that rounds to the nearest, ties to the even one, as package part's inner function does it. -/
import Derived.Test.YtmddclgidccnhaaNum
namespace Go.Proofs.Ytmddclgidccnhaa
open Go.RowKit

/-- m / 2^k, nearest, ties to the even one. -/
def rne (m k : Nat) : Nat := m / 2 ^ k + (if 2 ^ k < 2 * (m % 2 ^ k) ∨ (2 ^ k = 2 * (m % 2 ^ k) ∧ m / 2 ^ k % 2 = 1) then 1 else 0)

theorem two_split (n : Int) (h0 : 0 < n) (h1 : n ≤ 64) : 18446744073709551616 = 2 ^ n.toNat * 2 ^ (64 - n).toNat := by
  rw [← Nat.pow_add, show n.toNat + (64 - n).toNat = 64 by omega]

theorem half_split (n : Int) (h0 : 0 < n) (h1 : n ≤ 64) : 2 * 9223372036854775808 = 2 ^ n.toNat * 2 ^ (64 - n).toNat := by
  rw [← two_split n h0 h1]

theorem rest_form (m n : Int) (hm : 0 ≤ m) (h0 : 0 < n) (h1 : n ≤ 64) :
    IntKind.u64.wrap (m * 2 ^ (64 - n).toNat) = ((m.toNat % 2 ^ n.toNat * 2 ^ (64 - n).toNat : Nat) : Int) := by
  obtain ⟨M, rfl⟩ := Int.eq_ofNat_of_zero_le hm
  rw [IntKind.wrap_u64, Int.toNat_natCast]
  have e : ((M : Int) * 2 ^ (64 - n).toNat) % 18446744073709551616 = ((M * 2 ^ (64 - n).toNat % 18446744073709551616 : Nat) : Int) := by
    rw [Int.natCast_emod, Int.natCast_mul, Int.natCast_pow]; rfl
  rw [e, two_split n h0 h1, Nat.mul_mod_mul_right]

theorem quo_form (m n : Int) (hm : 0 ≤ m) : m / 2 ^ n.toNat = ((m.toNat / 2 ^ n.toNat : Nat) : Int) := by
  obtain ⟨M, rfl⟩ := Int.eq_ofNat_of_zero_le hm
  rw [Int.toNat_natCast, Int.natCast_ediv, Int.natCast_pow]; rfl

theorem odd_form (q : Nat) (hq : q < 18446744073709551616) : (bits .and .u64 (q : Int) 1 == 1) = decide (q % 2 = 1) := by
  rw [u64_and _ _ (by omega) (by omega) (by omega) (by omega)]
  rw [show (1 : Int).toNat = 1 by decide, Int.toNat_natCast, nat_mask1]
  by_cases h : q % 2 = 1
  · simp [h]
  · have : q % 2 = 0 := by omega
    simp [this]

theorem quo_lt (m n : Nat) (hm : m < 18446744073709551616) : m / 2 ^ n < 18446744073709551616 :=
  Nat.lt_of_le_of_lt (Nat.div_le_self _ _) hm

theorem quo_lt' (m n : Nat) (hn : 0 < n) (hm : m < 18446744073709551616) : m / 2 ^ n < 9223372036854775808 := by
  have h2 : 2 ≤ 2 ^ n := by
    obtain ⟨k, rfl⟩ : ∃ k, n = k + 1 := ⟨n - 1, by omega⟩
    have := Nat.two_pow_pos k
    rw [Nat.pow_succ]; omega
  have : m / 2 ^ n ≤ m / 2 := Nat.div_le_div_left h2 (by decide)
  omega

theorem wrap_succ (q : Nat) (hq : q < 9223372036854775808) : IntKind.u64.wrap ((q : Int) + 1) = ((q + 1 : Nat) : Int) := by
  rw [IntKind.wrap_u64]; omega

/-- The rest against half a unit, in the rest's own units. -/
theorem cmp_half (r k j : Nat) (hj : 2 * 9223372036854775808 = 2 ^ k * 2 ^ j) :
    (9223372036854775808 < r * 2 ^ j ↔ 2 ^ k < 2 * r) ∧ (r * 2 ^ j = 9223372036854775808 ↔ 2 ^ k = 2 * r) := by
  have hp : 0 < 2 ^ j := Nat.two_pow_pos j
  generalize 2 ^ j = J at *
  generalize 2 ^ k = K at *
  constructor
  · constructor
    · intro h
      apply Nat.lt_of_mul_lt_mul_right (a := J)
      rw [← hj, Nat.mul_assoc]; omega
    · intro h
      have := Nat.mul_lt_mul_of_pos_right h hp
      rw [← hj, Nat.mul_assoc] at this; omega
  · constructor
    · intro h
      apply Nat.eq_of_mul_eq_mul_right hp
      rw [← hj, Nat.mul_assoc, h]
    · intro h
      have : K * J = 2 * r * J := by rw [h]
      rw [← hj, Nat.mul_assoc] at this; omega

theorem way_gt (m n : Int) (hm : 0 ≤ m) (hm' : m ≤ 18446744073709551615) (h0 : 0 < n) (h1 : n ≤ 64) (h : 9223372036854775808 < IntKind.u64.wrap (m * 2 ^ (64 - n).toNat)) :
    IntKind.u64.wrap (m / 2 ^ n.toNat + 1) = (rne m.toNat n.toNat : Int) := by
  rw [rest_form m n hm h0 h1] at h
  have h' : 9223372036854775808 < m.toNat % 2 ^ n.toNat * 2 ^ (64 - n).toNat := by omega
  rw [(cmp_half _ _ _ (half_split n h0 h1)).1] at h'
  rw [quo_form m n hm, wrap_succ _ (quo_lt' _ _ (by omega) (by omega))]
  simp [rne, h']

theorem way_odd (m n : Int) (hm : 0 ≤ m) (hm' : m ≤ 18446744073709551615) (h0 : 0 < n) (h1 : n ≤ 64) (h : IntKind.u64.wrap (m * 2 ^ (64 - n).toNat) = 9223372036854775808) (h2 : (bits .and .u64 (m / 2 ^ n.toNat) 1 == 1) = true) :
    IntKind.u64.wrap (m / 2 ^ n.toNat + 1) = (rne m.toNat n.toNat : Int) := by
  rw [rest_form m n hm h0 h1] at h
  have h' : m.toNat % 2 ^ n.toNat * 2 ^ (64 - n).toNat = 9223372036854775808 := by omega
  rw [(cmp_half _ _ _ (half_split n h0 h1)).2] at h'
  rw [quo_form m n hm, odd_form _ (quo_lt _ _ (by omega))] at h2
  simp only [decide_eq_true_eq] at h2
  rw [quo_form m n hm, wrap_succ _ (quo_lt' _ _ (by omega) (by omega))]
  simp only [rne]
  rw [if_pos (Or.inr ⟨h', h2⟩)]

theorem way_even (m n : Int) (hm : 0 ≤ m) (hm' : m ≤ 18446744073709551615) (h0 : 0 < n) (h1 : n ≤ 64) (h : IntKind.u64.wrap (m * 2 ^ (64 - n).toNat) = 9223372036854775808) (h2 : (bits .and .u64 (m / 2 ^ n.toNat) 1 == 1) = false) :
    m / 2 ^ n.toNat = (rne m.toNat n.toNat : Int) := by
  rw [rest_form m n hm h0 h1] at h
  have h' : m.toNat % 2 ^ n.toNat * 2 ^ (64 - n).toNat = 9223372036854775808 := by omega
  rw [(cmp_half _ _ _ (half_split n h0 h1)).2] at h'
  rw [quo_form m n hm, odd_form _ (quo_lt _ _ (by omega))] at h2
  simp only [decide_eq_false_iff_not] at h2
  rw [quo_form m n hm]
  simp only [rne]
  rw [if_neg (by rintro (g | ⟨_, g⟩) <;> omega)]
  simp

theorem way_less (m n : Int) (hm : 0 ≤ m) (h0 : 0 < n) (h1 : n ≤ 64) (h : IntKind.u64.wrap (m * 2 ^ (64 - n).toNat) ≤ 9223372036854775808) (h2 : ¬ IntKind.u64.wrap (m * 2 ^ (64 - n).toNat) = 9223372036854775808) :
    m / 2 ^ n.toNat = (rne m.toNat n.toNat : Int) := by
  rw [rest_form m n hm h0 h1] at h h2
  have h' : ¬ 9223372036854775808 < m.toNat % 2 ^ n.toNat * 2 ^ (64 - n).toNat := by omega
  have h2' : ¬ m.toNat % 2 ^ n.toNat * 2 ^ (64 - n).toNat = 9223372036854775808 := by omega
  rw [(cmp_half _ _ _ (half_split n h0 h1)).1] at h'
  rw [(cmp_half _ _ _ (half_split n h0 h1)).2] at h2'
  rw [quo_form m n hm]
  simp only [rne]
  rw [if_neg (by rintro (g | ⟨g, _⟩) <;> contradiction)]
  simp

/-- More than 64 places: nothing is left. -/
theorem rne_far (m n : Nat) (hm : m < 18446744073709551616) (hn : 64 < n) : rne m n = 0 := by
  have hp : 2 ^ 65 ≤ 2 ^ n := Nat.pow_le_pow_right (by decide) (by omega)
  have h1 : m < 2 ^ n := by omega
  unfold rne
  rw [Nat.div_eq_of_lt h1, Nat.mod_eq_of_lt h1, if_neg (by rintro (g | ⟨g, _⟩) <;> omega)]

end Go.Proofs.Ytmddclgidccnhaa
