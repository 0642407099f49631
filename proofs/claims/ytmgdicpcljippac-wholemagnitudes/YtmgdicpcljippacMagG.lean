/- What the statement's own tame answers: nought, or a number between 2^-32 and 2^31. -/
import Derived.Test.YtmgdicpcljippacMagF
namespace Go.Proofs.Ytmgdicpcljippac
open Go.RowKit

/-- The bits that tame makes. -/
def tameBits (z : Int) : Nat :=
  (bits .or .u64 (bits .and .u64 z 9227875636482146303) (IntKind.u64.wrap (IntKind.u64.wrap (991 + (bits .and .u64 (z / 4503599627370496) 2047).tmod 63) * 4503599627370496))).toNat

set_option maxRecDepth 100000 in
set_option maxHeartbeats 1000000 in
theorem tame_some (z : Int) (t : (bits .and .u64 z 9223372036854775807 == 0) = false) (w : World) :
    Calls Try.prog 15 #[.int .u64 z] w fun e w' => e = .returned (.float .f64 (tameBits z)) ∧ w' = w := by
  have hy := run_frombits
  go_enter Try.func15, Try.ntmps15
  go_wp2
  go_ret
  exact ⟨rfl, rfl⟩

set_option maxRecDepth 100000 in
set_option maxHeartbeats 1000000 in
theorem tame_none (z : Int) (t : (bits .and .u64 z 9223372036854775807 == 0) = true) (w : World) :
    Calls Try.prog 15 #[.int .u64 z] w fun e w' => e = .returned (.float .f64 z.toNat) ∧ w' = w := by
  have hy := run_frombits
  go_enter Try.func15, Try.ntmps15
  go_wp2
  go_ret
  exact ⟨rfl, rfl⟩

theorem and_rung (b : Nat) (hb : b < 18446744073709551616) : bits .and .u64 (b : Int) 9223372036854775807 = (rg b : Int) := by
  rw [u64_and _ _ (by omega) (by omega) (by omega) (by omega)]
  rw [show (9223372036854775807 : Int).toNat = 2 ^ 63 - 1 by decide, Int.toNat_natCast, Nat.and_two_pow_sub_one_eq_mod]
  rfl

theorem and_rest (b : Nat) (hb : b < 18446744073709551616) : bits .and .u64 (b : Int) 9227875636482146303 = (((if ng b then 9223372036854775808 else 0) + fr b : Nat) : Int) := by
  rw [u64_and _ _ (by omega) (by omega) (by omega) (by omega)]
  rw [show (9227875636482146303 : Int).toNat = 2 ^ 63 ||| (2 ^ 52 - 1) by decide, Int.toNat_natCast, Nat.and_or_distrib_left, Nat.and_two_pow_sub_one_eq_mod, nat_bit]
  have hf : b % 2 ^ 52 < 2 ^ 52 := Nat.mod_lt _ (by decide)
  unfold ng fr
  by_cases h : 9223372036854775808 ≤ b
  · have e : b / 2 ^ 63 % 2 = 1 := by omega
    simp only [e, h, decide_true, if_true, Nat.one_mul]
    rw [nat_join 63 _ _ (by simp) (by omega)]
  · have e : b / 2 ^ 63 % 2 = 0 := by omega
    simp [e, h]

theorem and_pow (b : Nat) (hb : b < 18446744073709551616) : bits .and .u64 ((b : Int) / 4503599627370496) 2047 = (pw b : Int) := by
  rw [u64_and _ _ (by omega) (by omega) (by omega) (by omega)]
  rw [show (2047 : Int).toNat = 2047 by decide, nat_mask11]
  unfold pw
  omega

theorem tame_bits (b : Nat) (hb : b < 18446744073709551616) : tameBits b = Ieee.double.word (ng b) ((991 + pw b % 63) * 4503599627370496 + fr b) := by
  have hf := fr_lt b
  have e1 : ((pw b : Int)).tmod 63 = ((pw b % 63 : Nat) : Int) := by
    rw [Int.tmod_eq_emod_of_nonneg (by omega)]; omega
  unfold tameBits
  rw [and_rest b hb, and_pow b hb, e1]
  obtain ⟨q, hq, hq2⟩ : ∃ q, q = pw b % 63 ∧ q < 63 := ⟨_, rfl, Nat.mod_lt _ (by decide)⟩
  rw [← hq]
  have e2 : IntKind.u64.wrap (IntKind.u64.wrap (991 + (q : Int)) * 4503599627370496) = (((991 + q) * 4503599627370496 : Nat) : Int) := by
    rw [IntKind.wrap_u64, IntKind.wrap_u64]; omega
  rw [e2, word_of]
  generalize fr b = f at *
  have hsum : (991 + q) * 4503599627370496 ||| f = (991 + q) * 4503599627370496 + f := nat_join 52 _ _ (by omega) (by omega)
  have hlt : (991 + q) * 4503599627370496 + f < 9223372036854775808 := by omega
  cases ng b
  · rw [if_neg (by decide), Nat.zero_add, Nat.zero_add, u64_or _ _ (by omega) (by omega) (by omega) (by omega), Int.toNat_natCast, Int.toNat_natCast, Int.toNat_natCast, Nat.or_comm, hsum]
  · rw [if_pos rfl, u64_or _ _ (by omega) (by omega) (by omega) (by omega), Int.toNat_natCast, Int.toNat_natCast, Int.toNat_natCast]
    have h1 : 9223372036854775808 + f = 9223372036854775808 ||| f := (nat_join 63 _ _ (by simp) (by omega)).symm
    rw [h1, Nat.or_assoc, Nat.or_comm f, hsum, nat_join 63 _ _ (by simp) (by omega)]

theorem tame_is (b : Nat) (hb : b < 18446744073709551616) : ∃ r v, (∀ w, Calls Try.prog 15 #[.int .u64 (b : Int)] w fun e w' => e = .returned (.float .f64 r) ∧ w' = w) ∧ Is r v ∧ Tame v := by
  have ht := and_rung b hb
  by_cases h : rg b = 0
  · refine ⟨b, 0, fun w => ?_, ?_, Or.inl rfl⟩
    · have := tame_none (b : Int) (by rw [ht, h]; rfl) w
      rw [Int.toNat_natCast] at this
      exact this
    · have hw := bits_word b hb
      rw [hw, h]
      have hr := is_rung (ng b) 0 0 (by omega) (by omega) (Or.inl rfl)
      have e2 : ((0 : Nat) : Rat) * p2 (((0 : Nat) : Int) - 1074) = 0 := by rw [show ((0 : Nat) : Rat) = 0 from rfl, Rat.zero_mul]
      rw [e2, sg_zero] at hr
      exact hr
  · have hf := fr_lt b
    obtain ⟨q, hq, hq2⟩ : ∃ q, q = pw b % 63 ∧ q < 63 := ⟨_, rfl, Nat.mod_lt _ (by decide)⟩
    have e := tame_bits b hb
    rw [← hq] at e
    have hr := is_rung (ng b) (990 + q) (4503599627370496 + fr b) (by omega) (by omega) (Or.inr (by omega))
    have e3 : min ((990 + q) * 4503599627370496 + (4503599627370496 + fr b)) 9218868437227405312 = (991 + q) * 4503599627370496 + fr b := by omega
    rw [e3, ← e] at hr
    have hP := p2_pos (((990 + q : Nat) : Int) - 1074)
    have c1 : p2 (-32) ≤ ((4503599627370496 + fr b : Nat) : Rat) * p2 (((990 + q : Nat) : Int) - 1074) := by
      have l : p2 (-32) ≤ p2 52 * p2 (((990 + q : Nat) : Int) - 1074) := by rw [← p2_add]; exact p2_le (by omega)
      rw [← c52] at l
      have f1 : ((4503599627370496 : Nat) : Rat) ≤ ((4503599627370496 + fr b : Nat) : Rat) := Rat.natCast_le_natCast.2 (by omega)
      exact Rat.le_trans l (Rat.mul_le_mul_of_nonneg_right f1 (Rat.le_of_lt hP))
    have c2 : ((4503599627370496 + fr b : Nat) : Rat) * p2 (((990 + q : Nat) : Int) - 1074) < p2 31 := by
      have l : p2 53 * p2 (((990 + q : Nat) : Int) - 1074) ≤ p2 31 := by rw [← p2_add]; exact p2_le (by omega)
      rw [show (53 : Int) = ((53 : Nat) : Int) from rfl, p2_nat] at l
      have f1 : ((4503599627370496 + fr b : Nat) : Rat) < ((2 ^ 53 : Nat) : Rat) := Rat.natCast_lt_natCast.2 (by omega)
      exact lt_le (Rat.mul_lt_mul_of_pos_right f1 hP) l
    have c0 := p2_pos (-32)
    refine ⟨_, _, tame_some (b : Int) (by rw [ht]; simp; omega), hr, Or.inr ?_⟩
    generalize ((4503599627370496 + fr b : Nat) : Rat) * p2 (((990 + q : Nat) : Int) - 1074) = v at *
    have ea : rabs (sg (ng b) v) = v := by
      unfold rabs sg
      cases ng b <;> simp only [if_true, Bool.false_eq_true, if_false]
      · rw [if_pos (by grind)]
      · rw [if_neg (by grind)]; grind
    rw [ea]
    exact ⟨c1, c2⟩

end Go.Proofs.Ytmgdicpcljippac
