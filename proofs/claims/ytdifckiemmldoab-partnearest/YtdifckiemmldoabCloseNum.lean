/- Plain facts: how far the float that Join answers lies from its number, in the number's own units. -/
import Derived.Test.YtdifckiemmldoabNearNum
import Derived.Test.YtdifckiemmldoabOrd
import Derived.Test.YtdifckiemmldoabSplit
namespace Go.Proofs.Ytdifckiemmldoab
open Go.RowKit

/-- The nearest: no farther than half a unit, and even where it is just half a unit. -/
theorem rne_close (M k : Nat) (_hk : 1 ≤ k) :
    -((2 ^ k : Nat) : Int) ≤ 2 * (((rne M k * 2 ^ k : Nat) : Int) - M) ∧ 2 * (((rne M k * 2 ^ k : Nat) : Int) - M) ≤ ((2 ^ k : Nat) : Int) ∧
    ((2 * (((rne M k * 2 ^ k : Nat) : Int) - M) = ((2 ^ k : Nat) : Int) ∨ 2 * (((rne M k * 2 ^ k : Nat) : Int) - M) = -((2 ^ k : Nat) : Int)) → rne M k % 2 = 0) := by
  have hd : M = M / 2 ^ k * 2 ^ k + M % 2 ^ k := by rw [Nat.mul_comm]; exact (Nat.div_add_mod M (2 ^ k)).symm
  have hp := Nat.two_pow_pos k
  have hr : M % 2 ^ k < 2 ^ k := Nat.mod_lt _ hp
  unfold rne
  generalize M / 2 ^ k = q at *
  generalize M % 2 ^ k = r at *
  generalize 2 ^ k = P at *
  by_cases c : P < 2 * r ∨ (P = 2 * r ∧ q % 2 = 1)
  · rw [if_pos c, Nat.add_mul, Nat.one_mul]
    generalize q * P = A at *
    subst hd
    refine ⟨by omega, by omega, fun h => by omega⟩
  · rw [if_neg c, Nat.add_zero]
    generalize q * P = A at *
    subst hd
    refine ⟨by omega, by omega, fun h => by omega⟩

theorem put_fields (neg : Bool) (r : Nat) (hr : r < 9223372036854775808) :
    putBits neg r < 18446744073709551616 ∧ ng (putBits neg r) = neg ∧ pw (putBits neg r) = r / 4503599627370496 ∧ fr (putBits neg r) = r % 4503599627370496 ∧ rg (putBits neg r) = r := by
  cases neg
  · have e : putBits false r = r := by simp [putBits]
    rw [e]
    unfold ng pw fr rg
    refine ⟨by omega, by simp; omega, by omega, by omega, by omega⟩
  · have e : putBits true r = 9223372036854775808 + r := by simp [putBits]; omega
    rw [e]
    unfold ng pw fr rg
    refine ⟨by omega, by simp, by omega, by omega, by omega⟩

theorem put_nonzero (neg : Bool) (r : Nat) (hr : r < 9223372036854775808) (h0 : r ≠ 0) : (FloatKind.f64.format.order (putBits neg r) 0 == some .eq) = false := by
  obtain ⟨f1, f2, _, _, f5⟩ := put_fields neg r hr
  rw [order_eq _ _ f1 (by decide)]
  have : key (putBits neg r) ≠ key 0 := by
    rw [show key 0 = 0 by decide]
    unfold key
    rw [f5]
    split <;> omega
  rw [decide_eq_false this, Bool.and_false]

/-- Where neither end of the format is near: what Join keeps, and where. -/
theorem rung_mid (M : Nat) (E : Int) (hM : M < 4611686018427387904) (h0 : M ≠ 0) (he : -899 ≤ E) (he' : E ≤ 899) :
    stepOf M E = E + (Lib.bitLen M : Int) - 53 ∧ joinRung M E = (stepOf M E + 1074).toNat * 4503599627370496 + kept M E ∧ 4503599627370496 ≤ kept M E ∧ kept M E ≤ 9007199254740992 ∧ Lib.bitLen M ≤ 62 ∧ 1 ≤ Lib.bitLen M := by
  have hlt : M < 18446744073709551616 := by omega
  have hL : Lib.bitLen M ≤ 62 := Lib.bitLen_le M 62 (by decide) hM
  have hL1 := ((bitLen_bounds M hlt).2 h0).2
  have hs : stepOf M E = E + (Lib.bitLen M : Int) - 53 := by unfold stepOf; omega
  have hk := kept_le M E hlt
  refine ⟨hs, ?_, kept_ge M E hlt h0 hs, hk, hL, hL1⟩
  unfold joinRung
  rw [if_neg (by omega), if_neg (by omega)]
  omega

end Go.Proofs.Ytdifckiemmldoab
