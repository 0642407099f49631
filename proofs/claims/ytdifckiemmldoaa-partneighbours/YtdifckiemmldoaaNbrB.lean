/- Plain facts: halves of a float, and the halves' sum of two neighbours. -/
import Derived.Test.YtdifckiemmldoaaNbrA
namespace Go.Proofs.Ytdifckiemmldoaa
open Go.RowKit

theorem log_exact (m t : Nat) (h0 : 4503599627370496 ≤ m) (h1 : m < 9007199254740992) : (m * 2 ^ t).log2 = 52 + t := by
  have hp := Nat.two_pow_pos t
  have a1 := Nat.mul_le_mul_right (2 ^ t) h0
  have a2 := Nat.mul_lt_mul_of_pos_right h1 hp
  rw [show (4503599627370496 : Nat) = 2 ^ 52 by decide] at a1
  rw [show (9007199254740992 : Nat) = 2 ^ 53 by decide] at a2
  rw [← Nat.pow_add] at a1 a2
  exact log2_of _ _ a1 (by rw [show 52 + t + 1 = 53 + t by omega]; exact a2)

theorem nearest_core (neg : Bool) (X t i c : Nat) (hne : X ≠ 0) (hlog : X.log2 = 52 + t) (hcut : Ieee.Toward.even.cut neg X t = c) :
    FloatKind.f64.format.nearest neg X (-1074 + (i : Int) - (t : Int)) = FloatKind.f64.format.word neg (min (i * 4503599627370496 + c) 9218868437227405312) := by
  rw [nearest_form _ _ _ hne, hlog]
  have e1 : max (-1074 + (i : Int) - (t : Int) + ((52 + t : Nat) : Int) - 52) (-1074) = -1074 + (i : Int) := by omega
  rw [e1]
  have e2 : (-1074 + (i : Int) - (t : Int) - (-1074 + (i : Int))).toNat = 0 := by omega
  have e3 : (-1074 + (i : Int) - (-1074 + (i : Int) - (t : Int))).toNat = t := by omega
  have e4 : (-1074 + (i : Int) - (-1074)).toNat = i := by omega
  rw [e2, e3, e4, Nat.shiftLeft_zero, hcut]

theorem word_min (neg : Bool) (r : Nat) (h : r ≤ 9218868437227405312) : FloatKind.f64.format.word neg (min r 9218868437227405312) = (if neg then 9223372036854775808 else 0) + r := by
  rw [word_eq, Nat.min_eq_left h]

/-- A number that the format has, written with t noughts behind it. -/
theorem nearest_exact (neg : Bool) (m t i r : Nat) (h0 : 4503599627370496 ≤ m) (h1 : m < 9007199254740992) (hr : r = i * 4503599627370496 + m) (hi : r ≤ 9218868437227405312) :
    FloatKind.f64.format.nearest neg (m * 2 ^ t) (-1074 + (i : Int) - (t : Int)) = (if neg then 9223372036854775808 else 0) + r := by
  have hne : m * 2 ^ t ≠ 0 := Nat.ne_of_gt (Nat.mul_pos (by omega) (Nat.two_pow_pos t))
  rw [nearest_core neg (m * 2 ^ t) t i m hne (log_exact m t h0 h1) (cut_exact neg m t (by omega)), ← hr, word_min neg r hi]

/-- Just between two: the even one. -/
theorem nearest_tie (neg : Bool) (m i r : Nat) (h0 : 4503599627370496 ≤ m) (h1 : m < 9007199254740992) (hr : r = i * 4503599627370496 + (m + m % 2)) (hi : r ≤ 9218868437227405312) :
    FloatKind.f64.format.nearest neg (2 * m + 1) (-1074 + (i : Int) - ((1 : Nat) : Int)) = (if neg then 9223372036854775808 else 0) + r := by
  have hlog : (2 * m + 1).log2 = 52 + 1 := log2_of _ _ (by omega) (by omega)
  rw [nearest_core neg (2 * m + 1) 1 i (m + m % 2) (by omega) hlog (cut_one neg m), ← hr, word_min neg r hi]

theorem read_normal (b : Nat) (hb : b < 18446744073709551616) (h0 : 1 ≤ pw b) (h1 : pw b < 2047) :
    FloatKind.f64.format.read b = .number (ng b) (4503599627370496 + fr b) (-1074 + ((pw b - 1 : Nat) : Int)) := by
  have e := rg_eq b
  have hl := fr_lt b
  have g1 : ¬ rg b < 4503599627370496 := by omega
  have g2 : rg b < 9218868437227405312 := by omega
  rw [read_form, neg_form b hb, if_neg g1, if_pos g2]
  have e1 : rg b % 4503599627370496 = fr b := by omega
  have e2 : rg b / 4503599627370496 = pw b := by omega
  rw [e1, e2]

theorem half_read : FloatKind.f64.format.read 4602678819172646912 = .number false 4503599627370496 (-53) := by decide

theorem half_mul (b : Nat) (hb : b < 18446744073709551616) (h0 : 2 ≤ pw b) (h1 : pw b < 2047) :
    FloatKind.f64.format.mul b 4602678819172646912 = some (b - 4503599627370496) := by
  have hf := fields b hb
  have hl := fr_lt b
  unfold Ieee.Format.mul
  rw [read_normal b hb (by omega) h1, half_read]
  have hn := nearest_exact (ng b) (4503599627370496 + fr b) 52 (pw b - 2) ((pw b - 1) * 4503599627370496 + fr b) (by omega) (by omega) (by omega) (by omega)
  have hpl : (-1074 + ((pw b - 1 : Nat) : Int) + -53) = -1074 + ((pw b - 2 : Nat) : Int) - ((52 : Nat) : Int) := by omega
  have hmg : (4503599627370496 + fr b) * 4503599627370496 = (4503599627370496 + fr b) * 2 ^ 52 := rfl
  have hsg : (ng b ^^ false) = ng b := by cases ng b <;> rfl
  have hw : Ieee.Format.write FloatKind.f64.format (.number (ng b ^^ false) ((4503599627370496 + fr b) * 4503599627370496) (-1074 + ((pw b - 1 : Nat) : Int) + -53)) = b - 4503599627370496 := by
    show FloatKind.f64.format.nearest (ng b ^^ false) ((4503599627370496 + fr b) * 4503599627370496) (-1074 + ((pw b - 1 : Nat) : Int) + -53) = _
    rw [hsg, hpl, hmg, hn]
    omega
  show some (Ieee.Format.write FloatKind.f64.format (.number (ng b ^^ false) ((4503599627370496 + fr b) * 4503599627370496) (-1074 + ((pw b - 1 : Nat) : Int) + -53))) = _
  rw [hw]

end Go.Proofs.Ytdifckiemmldoaa
