/- Plain facts on the bits of the float nearest to a whole number times a power of two. -/
import Derived.Test.YtmddclgidccnhabShiftNum
import Derived.Lib.BitFns
namespace Go.Proofs.Ytmddclgidccnhab
open Go.RowKit

theorem bitLen_bounds (m : Nat) (hm : m < 18446744073709551616) : m < 2 ^ Lib.bitLen m ∧ (m ≠ 0 → 2 ^ (Lib.bitLen m - 1) ≤ m ∧ 1 ≤ Lib.bitLen m) := by
  induction m using Nat.strongRecOn with
  | ind m ih =>
    by_cases h0 : m = 0
    · subst h0; exact ⟨Nat.two_pow_pos _, fun h => absurd rfl h⟩
    · have e := Lib.bitLen_half m h0 hm
      obtain ⟨i1, i2⟩ := ih (m / 2) (by omega) (by omega)
      generalize Lib.bitLen (m / 2) = B at *
      rw [e]
      refine ⟨by rw [Nat.add_comm, Nat.pow_succ]; omega, fun _ => ⟨?_, by omega⟩⟩
      rw [Nat.add_sub_cancel_left]
      by_cases h2 : m / 2 = 0
      · have : m = 1 := by omega
        subst this
        have hB : B = 0 := by
          have : Lib.bitLen 1 = 1 := by decide
          omega
        subst hB; decide
      · obtain ⟨i3, i4⟩ := i2 h2
        obtain ⟨c, rfl⟩ : ∃ c, B = c + 1 := ⟨B - 1, by omega⟩
        rw [Nat.add_sub_cancel] at i3
        rw [Nat.pow_succ]; omega

theorem bitLen_le64 (m : Nat) (hm : m < 18446744073709551616) : Lib.bitLen m ≤ 64 := Lib.bitLen_le m 64 (by decide) hm

theorem rne_le (m k j : Nat) (h : m < 2 ^ (j + k)) : rne m k ≤ 2 ^ j := by
  have : m / 2 ^ k < 2 ^ j := Nat.div_lt_of_lt_mul (by rw [← Nat.pow_add, Nat.add_comm]; exact h)
  unfold rne
  split <;> omega

/-- The power of the last place that is kept. -/
def stepOf (m : Nat) (e : Int) : Int := max (e + (Lib.bitLen m : Int) - 53) (-1074)
/-- The number in units of that place, nearest, ties to the even one. -/
def kept (m : Nat) (e : Int) : Nat := if stepOf m e ≤ e then m * 2 ^ (e - stepOf m e).toNat else rne m (stepOf m e - e).toNat
/-- The bits, without the sign, of the float nearest to m times 2^e. -/
def joinRung (m : Nat) (e : Int) : Nat :=
  if m = 0 ∨ e < -1139 then 0 else if 1023 < e then 9218868437227405312
  else min ((stepOf m e + 1074).toNat * 4503599627370496 + kept m e) 9218868437227405312

theorem up_lt (m j : Nat) (hm : m < 18446744073709551616) (h : Lib.bitLen m + j ≤ 53) : m * 2 ^ j < 9007199254740992 := by
  have b := (bitLen_bounds m hm).1
  have h1 : m * 2 ^ j < 2 ^ Lib.bitLen m * 2 ^ j := Nat.mul_lt_mul_of_pos_right b (Nat.two_pow_pos j)
  rw [← Nat.pow_add] at h1
  have h2 : 2 ^ (Lib.bitLen m + j) ≤ 2 ^ 53 := Nat.pow_le_pow_right (by decide) h
  omega

theorem down_le (m k : Nat) (hm : m < 18446744073709551616) (h : Lib.bitLen m ≤ 53 + k) : rne m k ≤ 9007199254740992 :=
  rne_le m k 53 (Nat.lt_of_lt_of_le (bitLen_bounds m hm).1 (Nat.pow_le_pow_right (by decide) h))

theorem step_ge (m : Nat) (e : Int) : e + (Lib.bitLen m : Int) - 53 ≤ stepOf m e ∧ -1074 ≤ stepOf m e := by unfold stepOf; omega

theorem kept_le (m : Nat) (e : Int) (hm : m < 18446744073709551616) : kept m e ≤ 9007199254740992 := by
  have s := step_ge m e
  unfold kept
  split
  · exact Nat.le_of_lt (up_lt m _ hm (by omega))
  · exact down_le m _ hm (by omega)

theorem joinRung_le (m : Nat) (e : Int) : joinRung m e ≤ 9218868437227405312 := by
  unfold joinRung
  split
  · omega
  · split <;> omega

/-- How the shift up is spelt by the walk. -/
theorem up_wrap (m : Int) (n : Int) (h0 : 0 ≤ m) (h1 : m ≤ 18446744073709551615) (hn : n ≤ 0) (h : (Lib.bitLen m.toNat : Int) - n ≤ 53) (hL : 1 ≤ Lib.bitLen m.toNat) :
    IntKind.u64.wrap (m * 2 ^ min (-n).toNat 64) = ((m.toNat * 2 ^ (-n).toNat : Nat) : Int) := by
  obtain ⟨M, rfl⟩ := Int.eq_ofNat_of_zero_le h0
  rw [Int.toNat_natCast] at h hL ⊢
  have hb := up_lt M (-n).toNat (by omega) (by omega)
  have hmin : min (-n).toNat 64 = (-n).toNat := by omega
  rw [hmin, IntKind.wrap_u64]
  have e : (M : Int) * 2 ^ (-n).toNat = ((M * 2 ^ (-n).toNat : Nat) : Int) := by
    rw [Int.natCast_mul, Int.natCast_pow]; rfl
  rw [e]
  generalize M * 2 ^ (-n).toNat = X at *
  omega

end Go.Proofs.Ytmddclgidccnhab
