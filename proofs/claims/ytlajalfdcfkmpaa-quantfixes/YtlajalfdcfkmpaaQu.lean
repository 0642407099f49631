/- What package quant's Back answers; and that numbers with few bits come through whole and back. -/
import Derived.Test.YtlajalfdcfkmpaaQf
namespace Go.Proofs.Ytlajalfdcfkmpaa
open Go.RowKit

set_option maxRecDepth 100000 in
set_option maxHeartbeats 1000000 in
theorem back_any (n k : Int) (hn : i64 n) (hk : fitsB k = true) (w : World) :
    Calls Try.prog 13 #[.int .i64 n, .int .i64 k] w fun e w' => e = .returned (.tuple #[.float .f64 (putBits (decide (n < 0)) (joinRung n.natAbs (-k))), .int .i64 0]) ∧ w' = w := by
  have hk' : 1 ≤ k ∧ k ≤ 31 := by simpa [fitsB] using hk
  have Hf := hide (fits_any k)
  rw [hk] at Hf
  clear hk
  unfold i64 at hn
  by_cases hneg : n < 0
  · have e1 : IntKind.u64.wrap (-IntKind.u64.wrap n) = ((n.natAbs : Nat) : Int) := by rw [IntKind.wrap_u64, IntKind.wrap_u64]; omega
    have Hj := hide (join_any true (n.natAbs : Int) (-k) (by omega) (by omega))
    rw [Int.toNat_natCast] at Hj
    have hd : decide (n < 0) = true := decide_eq_true hneg
    rw [hd]
    generalize putBits true (joinRung n.natAbs (-k)) = r at *
    generalize ((n.natAbs : Nat) : Int) = M at *
    go_enter Try.func13, Try.ntmps13
    go_wp2_with fail
    refine (unhide Hf _).mono ?_
    rintro e w' ⟨rfl, rfl⟩
    go_wp2_with fail
    refine (unhide Hj _).mono ?_
    rintro e w' ⟨rfl, rfl⟩
    go_wp2
    go_ret2
    exact ⟨rfl, rfl⟩
  · have e1 : IntKind.u64.wrap n = ((n.natAbs : Nat) : Int) := by rw [IntKind.wrap_u64]; omega
    have Hj := hide (join_any false (n.natAbs : Int) (-k) (by omega) (by omega))
    rw [Int.toNat_natCast] at Hj
    have hd : decide (n < 0) = false := decide_eq_false hneg
    rw [hd]
    generalize putBits false (joinRung n.natAbs (-k)) = r at *
    generalize ((n.natAbs : Nat) : Int) = M at *
    go_enter Try.func13, Try.ntmps13
    go_wp2_with fail
    refine (unhide Hf _).mono ?_
    rintro e w' ⟨rfl, rfl⟩
    go_wp2_with fail
    refine (unhide Hj _).mono ?_
    rintro e w' ⟨rfl, rfl⟩
    go_wp2
    go_ret2
    exact ⟨rfl, rfl⟩

theorem rnd_mul (a : Int) (s : Nat) : rnd (a * 2 ^ s) s = a := by
  have hp := pow_pos s
  have h1 : a * 2 ^ s % 2 ^ s = 0 := Int.mul_emod_left a _
  have h2 : a * 2 ^ s / 2 ^ s = a := Int.mul_ediv_cancel a (Int.ne_of_gt hp)
  rw [rnd_down, h2]
  rw [h1]; omega

/-- The bits of a whole number below 2^53 over a power of two. -/
theorem small_join (M : Nat) (k : Int) (hM : 0 < M) (hM' : M ≤ 2147483648) (hk : 1 ≤ k ∧ k ≤ 31) (neg : Bool) :
    let L := Lib.bitLen M
    let b := putBits neg (joinRung M (-k))
    L ≤ 53 ∧ b < 18446744073709551616 ∧ ng b = neg ∧ (pw b : Int) = -k + (L : Int) - 53 + 1075 ∧ (fr b : Int) + 4503599627370496 = (M : Int) * 2 ^ (53 - L) := by
  intro L b
  have hb := bitLen_bounds M (by omega)
  obtain ⟨h1, h2⟩ := hb
  obtain ⟨h2, h3⟩ := h2 (by omega)
  have hL : L ≤ 32 := by
    refine Nat.le_of_not_lt fun h => ?_
    have h5 : 2 ^ 32 ≤ 2 ^ (L - 1) := Nat.pow_le_pow_right (by decide) (by omega)
    have h6 : 2 ^ (L - 1) ≤ M := h2
    omega
  have hs : stepOf M (-k) = -k + (L : Int) - 53 := by unfold stepOf; show max (-k + (L : Int) - 53) (-1074) = _; omega
  have hkept : kept M (-k) = M * 2 ^ (53 - L) := by
    unfold kept
    rw [hs, if_pos (by omega)]
    congr 2
    omega
  have hlow : 4503599627370496 ≤ M * 2 ^ (53 - L) := by
    have : 2 ^ (L - 1) * 2 ^ (53 - L) ≤ M * 2 ^ (53 - L) := Nat.mul_le_mul_right _ h2
    rw [← Nat.pow_add, show L - 1 + (53 - L) = 52 by omega] at this
    omega
  have hhigh : M * 2 ^ (53 - L) < 9007199254740992 := up_lt M (53 - L) (by omega) (by omega)
  have hj : joinRung M (-k) = (-k + (L : Int) - 53 + 1074).toNat * 4503599627370496 + M * 2 ^ (53 - L) := by
    unfold joinRung
    rw [if_neg (by omega), if_neg (by omega), hs, hkept]
    omega
  have hcast : ((M * 2 ^ (53 - L) : Nat) : Int) = (M : Int) * 2 ^ (53 - L) := by rw [Int.natCast_mul, Int.natCast_pow]; rfl
  have hbe : b = (if neg then 9223372036854775808 else 0) + ((-k + (L : Int) - 53 + 1074).toNat * 4503599627370496 + M * 2 ^ (53 - L)) := by
    show putBits neg (joinRung M (-k)) = _
    unfold putBits
    rw [hj]
    cases neg <;> simp <;> omega
  rw [← hcast]
  generalize M * 2 ^ (53 - L) = Q at *
  refine ⟨by omega, ?_, ?_, ?_, ?_⟩
  · rw [hbe]; cases neg <;> simp <;> omega
  · unfold ng; rw [hbe]; cases neg <;> simp <;> omega
  · unfold pw; rw [hbe]; cases neg <;> simp <;> omega
  · unfold fr; rw [hbe]; cases neg <;> simp <;> omega

theorem fix_back (n k : Int) (hn : -2147483648 ≤ n ∧ n ≤ 2147483647) (hk : fitsB k = true) :
    putBits (decide (n < 0)) (joinRung n.natAbs (-k)) < 18446744073709551616 ∧ pw (putBits (decide (n < 0)) (joinRung n.natAbs (-k))) ≠ 2047 ∧ fixN (putBits (decide (n < 0)) (joinRung n.natAbs (-k))) k = n := by
  have hk' : 1 ≤ k ∧ k ≤ 31 := by simpa [fitsB] using hk
  by_cases h0 : n = 0
  · subst h0
    have e : putBits (decide ((0 : Int) < 0)) (joinRung (0 : Int).natAbs (-k)) = 0 := by simp [joinRung, putBits]
    rw [e]
    refine ⟨by decide, by decide, ?_⟩
    unfold fixN
    rw [show sig 0 = 0 by decide]
    have := rnd_mul 0 (min (max (-pwr 0 - k) 0) 62).toNat
    rw [Int.zero_mul] at this
    exact this
  · obtain ⟨h1, h2, h3, h4, h5⟩ := small_join n.natAbs k (by omega) (by omega) hk' (decide (n < 0))
    generalize putBits (decide (n < 0)) (joinRung n.natAbs (-k)) = b at *
    have hL1 := ((bitLen_bounds n.natAbs (by omega)).2 (by omega)).2
    generalize Lib.bitLen n.natAbs = L at *
    refine ⟨h2, by omega, ?_⟩
    unfold fixN
    have hp0 : ¬ pw b = 0 := by omega
    have hpw : pwr b = -k + (L : Int) - 53 := by unfold pwr; rw [if_neg hp0]; omega
    have hsh : (min (max (-pwr b - k) 0) 62).toNat = 53 - L := by rw [hpw]; omega
    have hsig : sig b = n * 2 ^ (53 - L) := by
      unfold sig
      rw [if_neg hp0, h3, h5]
      by_cases hneg : n < 0
      · rw [decide_eq_true hneg, if_pos rfl, ← Int.neg_mul]
        congr 1; omega
      · rw [decide_eq_false hneg, if_neg (by decide)]
        congr 1; omega
    rw [hsh, hsig, rnd_mul]
end Go.Proofs.Ytlajalfdcfkmpaa
