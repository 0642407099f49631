/- Plain facts on the bits of a float64 as a natural number below 2^64: its sign, its power, its fraction, its class, and what Go's bit operations on them come to. -/
import Derived.WalkKit
import Derived.WalkSpells
import Derived.WalkLawsBesides
import Derived.Laws.BitsAll
namespace Go.Proofs.Ytmddclgidccnhab
open Go.RowKit

theorem hide {p : Prop} (h : p) : Hid p := h
theorem unhide {p : Prop} (h : Hid p) : p := h

theorem bound_f (b : Nat) (h : (Lit.float .f64 b).wf = true) : b < 18446744073709551616 := by simpa [Lit.wf] using h
theorem bound_u (n : Int) (h : (Lit.int .u64 n).wf = true) : 0 ≤ n ∧ n ≤ 18446744073709551615 := by simpa [Lit.wf, IntKind.min, IntKind.max, IntKind.signed, IntKind.bits] using h
theorem bound_i (n : Int) (h : (Lit.int .i64 n).wf = true) : -9223372036854775808 ≤ n ∧ n ≤ 9223372036854775807 := by simpa [Lit.wf, IntKind.min, IntKind.max, IntKind.signed, IntKind.bits] using h

def ng (b : Nat) : Bool := decide (9223372036854775808 ≤ b)
def pw (b : Nat) : Nat := b / 4503599627370496 % 2048
def fr (b : Nat) : Nat := b % 4503599627370496
def rg (b : Nat) : Nat := b % 9223372036854775808

/-- The class of a float by its bits. -/
def cls (b : Nat) : Int :=
  if pw b = 0 ∧ fr b = 0 then 0 else if pw b = 0 then 1 else if pw b < 2047 then 2 else if fr b = 0 then 3 else 4

theorem and_sign (b : Nat) (hb : b < 18446744073709551616) : bits .and .u64 (b : Int) 9223372036854775808 = (if ng b then 9223372036854775808 else 0) := by
  rw [u64_and _ _ (by omega) (by omega) (by omega) (by omega)]
  rw [show (9223372036854775808 : Int).toNat = 2 ^ 63 by decide, Int.toNat_natCast, nat_bit]
  unfold ng
  split <;> rename_i h <;> simp at h <;> omega

theorem and_sign_ne (b : Nat) (hb : b < 18446744073709551616) : (bits .and .u64 (b : Int) 9223372036854775808 != 0) = ng b := by
  rw [and_sign b hb]
  cases ng b <;> decide

theorem and_power (b : Nat) (hb : b < 18446744073709551616) : wrap64 (bits .and .u64 ((b : Int) / 4503599627370496) 2047) = (pw b : Int) := by
  rw [u64_and _ _ (by omega) (by omega) (by omega) (by omega)]
  rw [show (2047 : Int).toNat = 2047 by decide, nat_mask11]
  unfold wrap64 pw
  omega

theorem and_fraction (b : Nat) (hb : b < 18446744073709551616) : bits .and .u64 (b : Int) 4503599627370495 = (fr b : Int) := by
  rw [u64_and _ _ (by omega) (by omega) (by omega) (by omega)]
  rw [show (4503599627370495 : Int).toNat = 2 ^ 52 - 1 by decide, Int.toNat_natCast, Nat.and_two_pow_sub_one_eq_mod]
  rfl

theorem or_sign (n : Int) (h0 : 0 ≤ n) (h1 : n < 9223372036854775808) : bits .or .u64 n 9223372036854775808 = n + 9223372036854775808 := by
  rw [u64_or _ _ (by omega) (by omega) (by omega) (by omega)]
  rw [show (9223372036854775808 : Int).toNat = 2 ^ 63 by decide, Nat.or_comm, nat_join 63 _ _ (by simp) (by omega)]
  omega

theorem andNot_zero_sign : bits .andNot .u64 0 9223372036854775808 = 0 := by decide

theorem fields (b : Nat) (hb : b < 18446744073709551616) : b = (if ng b then 9223372036854775808 else 0) + pw b * 4503599627370496 + fr b := by
  unfold ng pw fr
  split <;> rename_i h <;> simp at h <;> omega
theorem pw_le (b : Nat) : pw b ≤ 2047 := by unfold pw; omega
theorem fr_lt (b : Nat) : fr b < 4503599627370496 := by unfold fr; omega
theorem rg_eq (b : Nat) : rg b = pw b * 4503599627370496 + fr b := by unfold rg pw fr; omega

theorem cls_le (b : Nat) : 0 ≤ cls b ∧ cls b ≤ 4 := by
  unfold cls; split <;> (try split) <;> (try split) <;> (try split) <;> omega

end Go.Proofs.Ytmddclgidccnhab
