/- How the walk spells rounding at a place and sums beyond 64 bits. -/
import Derived.Test.YtmddclgidccnhabQm
import Derived.Laws.BitsLemmas
namespace Go.Proofs.Ytmddclgidccnhab
open Go.RowKit

theorem i64_mask (n : Int) (k : Nat) (hk : k ≤ 62) : bits .and .i64 n (2 ^ k - 1) = n % 2 ^ k := by
  have hp : 2 ^ k ≤ 4611686018427387904 := Nat.pow_le_pow_right (n := 2) (by decide) hk
  have hpos : 0 < 2 ^ k := Nat.two_pow_pos k
  have e0 : ((2 : Int) ^ k - 1) = ((2 ^ k - 1 : Nat) : Int) := by
    rw [Int.natCast_sub (by omega), Int.natCast_pow]; rfl
  have h127 : (BitVec.ofInt 64 ((2 : Int) ^ k - 1)).toNat = 2 ^ k - 1 := by
    rw [e0, BitVec.toNat_ofInt]
    generalize 2 ^ k = X at *
    omega
  have key : (BitVec.ofInt 64 n &&& BitVec.ofInt 64 ((2 : Int) ^ k - 1)).toNat = (n % ((2 ^ 64 : Nat) : Int)).toNat % 2 ^ k := by
    rw [BitVec.toNat_and, BitVec.toNat_ofInt, h127, Nat.and_two_pow_sub_one_eq_mod]
  show IntKind.i64.wrap ((BitVec.ofInt 64 n &&& BitVec.ofInt 64 ((2 : Int) ^ k - 1)).toNat : Nat) = n % 2 ^ k
  have hlt : (n % ((2 ^ 64 : Nat) : Int)).toNat % 2 ^ k < 2 ^ k := Nat.mod_lt _ hpos
  have hdvd : ((2 : Int) ^ k) ∣ ((2 ^ 64 : Nat) : Int) := by
    refine ⟨2 ^ (64 - k), ?_⟩
    rw [← Int.pow_add, show k + (64 - k) = 64 by omega]; rfl
  have hm : ((n % ((2 ^ 64 : Nat) : Int)).toNat % 2 ^ k : Nat) = n % 2 ^ k := by
    rw [Int.natCast_emod, Int.toNat_of_nonneg (by omega), Int.natCast_pow]
    exact Int.emod_emod_of_dvd n hdvd
  rw [key, IntKind.wrap_i64, ← hm]
  generalize (n % ((2 ^ 64 : Nat) : Int)).toNat % 2 ^ k = Y at *
  generalize 2 ^ k = X at *
  omega

theorem i64_and1 (n : Int) : bits .and .i64 n 1 = n % 2 := i64_mask n 1 (by decide)
theorem i64_and255 (n : Int) : bits .and .i64 n 255 = n % 256 := i64_mask n 8 (by decide)

theorem pow_le62 (s : Nat) (hs : s ≤ 62) : (2 : Int) ^ s ≤ 4611686018427387904 := by
  have : (2 : Nat) ^ s ≤ 2 ^ 62 := Nat.pow_le_pow_right (by decide) hs
  have h3 : ((2 ^ s : Nat) : Int) ≤ ((2 ^ 62 : Nat) : Int) := Int.ofNat_le.2 this
  simpa using h3

theorem sp_one (s : Nat) (hs : s ≤ 62) : wrap64 (2 ^ s) = 2 ^ s := by
  have := pow_le62 s hs
  have := pow_pos s
  unfold wrap64; omega
theorem sp_rest (n : Int) (s : Nat) (hs : s ≤ 62) : wrap64 (n - wrap64 (n / 2 ^ s * 2 ^ s)) = n % 2 ^ s := by
  have h1 := pow_le62 s hs
  have h2 := pow_pos s
  have h3 := Int.mul_ediv_add_emod n (2 ^ s)
  have h4 := Int.emod_nonneg n (Int.ne_of_gt h2)
  have h5 := Int.emod_lt_of_pos n h2
  rw [Int.mul_comm] at h3
  generalize n / 2 ^ s * 2 ^ s = X at *
  generalize n % 2 ^ s = r at *
  unfold wrap64; omega
theorem sp_twice (n : Int) (s : Nat) (hs : s ≤ 62) : wrap64 (2 * wrap64 (n - wrap64 (n / 2 ^ s * 2 ^ s))) = 2 * (n % 2 ^ s) := by
  rw [sp_rest n s hs]
  have h1 := pow_le62 s hs
  have h2 := pow_pos s
  have h4 := Int.emod_nonneg n (Int.ne_of_gt h2)
  have h5 := Int.emod_lt_of_pos n h2
  generalize n % 2 ^ s = r at *
  unfold wrap64; omega
theorem sp_up (n : Int) (s : Nat) (hn : i64 n) (h : 2 ^ s ≤ 2 * (n % 2 ^ s)) : wrap64 (n / 2 ^ s + 1) = n / 2 ^ s + 1 := by
  have h2 := pow_pos s
  have h3 := Int.mul_ediv_add_emod n (2 ^ s)
  have hs : (2 : Int) ≤ 2 ^ s := by
    cases s with
    | zero => exfalso; rw [Int.pow_zero] at h; omega
    | succ s => rw [Int.pow_succ]; have := pow_pos s; omega
  have h5 : n / 2 ^ s ≤ n / 2 ∨ n < 0 := by
    by_cases hn0 : n < 0
    · exact .inr hn0
    · refine .inl ?_
      refine (Int.le_ediv_iff_mul_le (by decide)).2 ?_
      have h6 : 0 ≤ n / 2 ^ s := Int.ediv_nonneg (by omega) (by omega)
      have h7 := Int.emod_nonneg n (Int.ne_of_gt h2)
      have h8 : n / 2 ^ s * 2 ≤ n / 2 ^ s * 2 ^ s := Int.mul_le_mul_of_nonneg_left hs h6
      rw [Int.mul_comm] at h3
      omega
  have h9 : -9223372036854775808 ≤ n / 2 ^ s := by
    refine (Int.le_ediv_iff_mul_le h2).2 ?_
    have : (2 : Int) ^ s * 9223372036854775808 ≥ 1 * 9223372036854775808 := Int.mul_le_mul_of_nonneg_right (by omega) (by decide)
    unfold i64 at hn
    rw [Int.neg_mul, Int.mul_comm]
    omega
  have h10 : n < 0 → n / 2 ^ s < 0 := fun h => Int.ediv_neg_of_neg_of_pos h h2
  unfold i64 at hn
  generalize n / 2 ^ s = q at *
  unfold wrap64; omega

theorem rnd_up {n : Int} {s : Nat} (h : 2 ^ s < 2 * (n % 2 ^ s) ∨ (2 * (n % 2 ^ s) = 2 ^ s ∧ n / 2 ^ s % 2 = 1)) : rnd n s = n / 2 ^ s + 1 := by unfold rnd; rw [if_pos h]
theorem rnd_down {n : Int} {s : Nat} (h : ¬ (2 ^ s < 2 * (n % 2 ^ s) ∨ (2 * (n % 2 ^ s) = 2 ^ s ∧ n / 2 ^ s % 2 = 1))) : rnd n s = n / 2 ^ s := by unfold rnd; rw [if_neg h]

theorem qway_over {n : Int} {s : Nat} (hn : i64 n) (hs : s ≤ 62) (h : wrap64 (2 ^ s) < wrap64 (2 * wrap64 (n - wrap64 (n / 2 ^ s * 2 ^ s)))) : wrap64 (n / 2 ^ s + 1) = rnd n s := by
  rw [sp_one s hs, sp_twice n s hs] at h
  rw [rnd_up (.inl h), sp_up n s hn (by omega)]
theorem qway_odd {n : Int} {s : Nat} (hn : i64 n) (hs : s ≤ 62) (h : wrap64 (2 * wrap64 (n - wrap64 (n / 2 ^ s * 2 ^ s))) = wrap64 (2 ^ s)) (h' : (bits .and .i64 (n / 2 ^ s) 1 == 1) = true) : wrap64 (n / 2 ^ s + 1) = rnd n s := by
  rw [sp_one s hs, sp_twice n s hs] at h
  rw [i64_and1] at h'
  rw [rnd_up (.inr ⟨h, by simpa using h'⟩), sp_up n s hn (by omega)]
theorem qway_even {n : Int} {s : Nat} (hs : s ≤ 62) (h : wrap64 (2 * wrap64 (n - wrap64 (n / 2 ^ s * 2 ^ s))) = wrap64 (2 ^ s)) (h' : (bits .and .i64 (n / 2 ^ s) 1 == 1) = false) : n / 2 ^ s = rnd n s := by
  rw [sp_one s hs, sp_twice n s hs] at h
  rw [i64_and1] at h'
  have h'' : ¬ n / 2 ^ s % 2 = 1 := by simpa using h'
  rw [rnd_down (by rintro (h1 | ⟨_, h1⟩) <;> omega)]
theorem qway_under {n : Int} {s : Nat} (hs : s ≤ 62) (h : wrap64 (2 * wrap64 (n - wrap64 (n / 2 ^ s * 2 ^ s))) ≤ wrap64 (2 ^ s)) (h' : ¬ wrap64 (2 * wrap64 (n - wrap64 (n / 2 ^ s * 2 ^ s))) = wrap64 (2 ^ s)) : n / 2 ^ s = rnd n s := by
  rw [sp_one s hs, sp_twice n s hs] at h h'
  rw [rnd_down (by rintro (h1 | ⟨h1, _⟩) <;> omega)]

end Go.Proofs.Ytmddclgidccnhab
