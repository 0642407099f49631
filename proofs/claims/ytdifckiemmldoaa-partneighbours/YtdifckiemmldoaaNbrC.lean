/- Plain facts: the halves' sum of two neighbouring normal floats is one of the two. -/
import Derived.Test.YtdifckiemmldoaaNbrB
namespace Go.Proofs.Ytdifckiemmldoaa
open Go.RowKit

theorem sub_power (b : Nat) (hb : b < 18446744073709551616) (h : 1 ≤ pw b) : b - 4503599627370496 < 18446744073709551616 ∧ pw (b - 4503599627370496) = pw b - 1 ∧ fr (b - 4503599627370496) = fr b ∧ ng (b - 4503599627370496) = ng b := by
  unfold pw at h ⊢
  unfold fr ng
  refine ⟨by omega, by omega, by omega, ?_⟩
  refine Bool.eq_iff_iff.2 ?_
  simp only [decide_eq_true_eq]; omega

theorem sum_sign (s : Bool) (T : Nat) (hT : T ≠ 0) (p : Int) :
    some (Ieee.Datum.number (if sgn s (T : Int) = 0 then s && s else decide (sgn s (T : Int) < 0)) (sgn s (T : Int)).natAbs p) = some (.number s T p) := by
  cases s
  · have h1 : ¬ sgn false (T : Int) = 0 := by simp [sgn]; omega
    have h2 : ¬ sgn false (T : Int) < 0 := by simp [sgn]
    rw [if_neg h1, decide_eq_false h2]
    simp [sgn]
  · have h1 : ¬ sgn true (T : Int) = 0 := by simp [sgn]; omega
    have h2 : sgn true (T : Int) < 0 := by simp [sgn]; omega
    rw [if_neg h1, decide_eq_true h2]
    simp [sgn]

theorem sgn_add (s : Bool) (a b : Nat) : sgn s (a : Int) + sgn s (b : Int) = sgn s ((a + b : Nat) : Int) := by
  unfold sgn; split <;> omega

theorem sum_up (s : Bool) (m n i d : Nat) (hT : m + n * 2 ^ d ≠ 0) :
    (Ieee.Datum.number s m (-1074 + (i : Int))).sum (.number s n (-1074 + ((i + d : Nat) : Int))) = some (.number s (m + n * 2 ^ d) (-1074 + (i : Int))) := by
  simp only [Ieee.Datum.sum]
  have e0 : min (-1074 + (i : Int)) (-1074 + ((i + d : Nat) : Int)) = -1074 + (i : Int) := by omega
  rw [e0]
  have e1 : (-1074 + (i : Int) - (-1074 + (i : Int))).toNat = 0 := by omega
  have e2 : (-1074 + ((i + d : Nat) : Int) - (-1074 + (i : Int))).toNat = d := by omega
  rw [e1, e2, signed_eq, signed_eq, Nat.pow_zero, Nat.mul_one, sgn_add]
  exact sum_sign s _ hT _
theorem sum_down (s : Bool) (m n i d : Nat) (hT : n * 2 ^ d + m ≠ 0) :
    (Ieee.Datum.number s n (-1074 + ((i + d : Nat) : Int))).sum (.number s m (-1074 + (i : Int))) = some (.number s (n * 2 ^ d + m) (-1074 + (i : Int))) := by
  simp only [Ieee.Datum.sum]
  have e0 : min (-1074 + ((i + d : Nat) : Int)) (-1074 + (i : Int)) = -1074 + (i : Int) := by omega
  rw [e0]
  have e1 : (-1074 + (i : Int) - (-1074 + (i : Int))).toNat = 0 := by omega
  have e2 : (-1074 + ((i + d : Nat) : Int) - (-1074 + (i : Int))).toNat = d := by omega
  rw [e1, e2, signed_eq, signed_eq, Nat.pow_zero, Nat.mul_one, sgn_add]
  exact sum_sign s _ hT _

theorem half_sum (a : Nat) (ha : a + 1 < 18446744073709551616) (h0 : 3 ≤ pw a) (h1 : pw (a + 1) < 2047) (h2 : pw a < 2047) (hs : ng (a + 1) = ng a) :
    FloatKind.f64.format.add (a - 4503599627370496) (a + 1 - 4503599627370496) = some (a + a % 2) ∧ FloatKind.f64.format.add (a + 1 - 4503599627370496) (a - 4503599627370496) = some (a + a % 2) := by
  have hf := fields a (by omega)
  have hl := fr_lt a
  have hev : fr a % 2 = a % 2 := by unfold fr; omega
  obtain ⟨l1, l2, l3, l4⟩ := sub_power a (by omega) (by omega)
  have hstep : (fr a + 1 < 4503599627370496 ∧ pw (a + 1) = pw a ∧ fr (a + 1) = fr a + 1) ∨ (fr a = 4503599627370495 ∧ pw (a + 1) = pw a + 1 ∧ fr (a + 1) = 0) := by
    unfold pw fr at *
    omega
  obtain ⟨u1, u2, u3, u4⟩ := sub_power (a + 1) ha (by omega)
  have ra := read_normal (a - 4503599627370496) l1 (by omega) (by omega)
  have rb := read_normal (a + 1 - 4503599627370496) u1 (by omega) (by omega)
  rw [l2, l3, l4] at ra
  rw [u2, u3, u4, hs] at rb
  have ht := nearest_tie (ng a) (4503599627370496 + fr a) (pw a - 1) (pw a * 4503599627370496 + fr a + a % 2) (by omega) (by omega) (by omega) (by omega)
  have hpl : (-1074 + ((pw a - 1 : Nat) : Int) - ((1 : Nat) : Int)) = -1074 + ((pw a - 1 - 1 : Nat) : Int) := by omega
  rw [hpl] at ht
  have hz : (if ng a then 9223372036854775808 else 0) + (pw a * 4503599627370496 + fr a + a % 2) = a + a % 2 := by omega
  rw [hz] at ht
  have fin : ∀ d : Ieee.Datum, d = .number (ng a) (2 * (4503599627370496 + fr a) + 1) (-1074 + ((pw a - 1 - 1 : Nat) : Int)) → FloatKind.f64.format.write d = a + a % 2 := by
    intro d hd
    rw [hd]
    exact ht
  unfold Ieee.Format.add
  rw [ra, rb]
  rcases hstep with ⟨s1, s2, s3⟩ | ⟨s1, s2, s3⟩
  · rw [s2, s3]
    have q1 := sum_up (ng a) (4503599627370496 + fr a) (4503599627370496 + (fr a + 1)) (pw a - 1 - 1) 0 (by omega)
    have q2 := sum_down (ng a) (4503599627370496 + fr a) (4503599627370496 + (fr a + 1)) (pw a - 1 - 1) 0 (by omega)
    rw [Nat.add_zero (pw a - 1 - 1), Nat.pow_zero, Nat.mul_one] at q1 q2
    rw [q1, q2]
    refine ⟨congrArg some (fin _ ?_), congrArg some (fin _ ?_)⟩
    · rw [show 4503599627370496 + fr a + (4503599627370496 + (fr a + 1)) = 2 * (4503599627370496 + fr a) + 1 by omega]
    · rw [show 4503599627370496 + (fr a + 1) + (4503599627370496 + fr a) = 2 * (4503599627370496 + fr a) + 1 by omega]
  · rw [s2, s3]
    have q1 := sum_up (ng a) (4503599627370496 + fr a) (4503599627370496 + 0) (pw a - 1 - 1) 1 (by omega)
    have q2 := sum_down (ng a) (4503599627370496 + fr a) (4503599627370496 + 0) (pw a - 1 - 1) 1 (by omega)
    rw [show pw a - 1 - 1 + 1 = pw a + 1 - 1 - 1 by omega] at q1 q2
    rw [q1, q2]
    refine ⟨congrArg some (fin _ ?_), congrArg some (fin _ ?_)⟩
    · rw [show 4503599627370496 + fr a + (4503599627370496 + 0) * 2 ^ 1 = 2 * (4503599627370496 + fr a) + 1 by omega]
    · rw [show (4503599627370496 + 0) * 2 ^ 1 + (4503599627370496 + fr a) = 2 * (4503599627370496 + fr a) + 1 by omega]

end Go.Proofs.Ytdifckiemmldoaa
