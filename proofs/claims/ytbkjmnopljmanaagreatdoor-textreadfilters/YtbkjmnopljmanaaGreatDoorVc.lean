/- math.Ldexp(float64(n), p): some float always, and the exact one where there is one. -/
import Derived.Test.YtbkjmnopljmanaaGreatDoorVb
namespace Go.Proofs.YtbkjmnopljmanaaGreatDoor
open Go.RowKit

theorem ldexp_zero (p : Int) (w : World) :
    Calls Tryz.prog 104 #[.float .f64 0, .int .i64 p] w fun e w' => e = .returned (.float .f64 0) ∧ w' = w := by
  have e0 : (FloatKind.f64.format.order 0 0 == some .eq) = true := by kernel_rfl
  go_enter Tryz.func104, Tryz.ntmps104
  go_wp2
  go_ret
  exact ⟨rfl, rfl⟩
theorem Ldexp_of {F x : Nat} {p : Int} (h : ∀ w, Calls Tryz.prog 104 #[.float .f64 F, .int .i64 p] w fun e w' => e = .returned (.float .f64 x) ∧ w' = w) (w : World) :
    Calls Tryz.prog 89 #[.float .f64 F, .int .i64 p] w fun e w' => e = .returned (.float .f64 x) ∧ w' = w := by
  have H := hide h
  clear h
  go_enter Tryz.func89, Tryz.ntmps89
  go_wp2_with (go_at_call 104; refine (unhide H _).mono ?_; rintro e w' ⟨rfl, rfl⟩)
  go_ret
  exact ⟨rfl, rfl⟩
theorem read_one : Ieee.double.read 4607182418800017408 = .number false 4503599627370496 (-52) := by decide
theorem read_53 : Ieee.double.read 4368491638549381120 = .number false 4503599627370496 (-105) := by decide
theorem nat_power (n : Nat) (h0 : n ≠ 0) (hn : n < 9007199254740992) : floatOfInt .f64 (n : Int) / 4503599627370496 = n.log2 + 1023 := by
  obtain ⟨f1, f2, f3⟩ := ofNat_bits n h0 (by omega)
  obtain ⟨hL, hF⟩ := f3 hn
  have h1 : 2 ^ n.log2 ≤ n := Nat.log2_self_le h0
  have h2 : n < 2 ^ (n.log2 + 1) := Nat.lt_log2_self
  have g1 : 4503599627370496 ≤ n * 2 ^ (52 - n.log2) := by
    have : 2 ^ n.log2 * 2 ^ (52 - n.log2) ≤ n * 2 ^ (52 - n.log2) := Nat.mul_le_mul_right _ h1
    rw [← Nat.pow_add, show n.log2 + (52 - n.log2) = 52 by omega] at this
    exact this
  have g2 : n * 2 ^ (52 - n.log2) < 9007199254740992 := by
    have : n * 2 ^ (52 - n.log2) < 2 ^ (n.log2 + 1) * 2 ^ (52 - n.log2) := Nat.mul_lt_mul_of_pos_right h2 (Nat.two_pow_pos _)
    rw [← Nat.pow_add, show n.log2 + 1 + (52 - n.log2) = 53 by omega] at this
    exact this
  rw [hF]
  generalize n * 2 ^ (52 - n.log2) = Y at *
  omega
theorem ldexp_nat (n : Nat) (hn : n < 72057594037927936) (p : Int) (hp : -9999 ≤ p) (hp' : p ≤ 9999) :
    ∃ x, x ≤ 9218868437227405312 ∧ (n < 9007199254740992 → stepOf n p ≤ p → p + Lib.bitLen n ≤ 1024 → x = joinRung n p) ∧
      ∀ w, Calls Tryz.prog 89 #[.float .f64 (floatOfInt .f64 (n : Int)), .int .i64 p] w fun e w' => e = .returned (.float .f64 x) ∧ w' = w := by
  by_cases h0 : n = 0
  · subst h0
    refine ⟨0, by omega, fun _ _ _ => ?_, Ldexp_of fun w => ?_⟩
    · unfold joinRung; rw [if_pos (.inl rfl)]
    · rw [show floatOfInt .f64 ((0 : Nat) : Int) = 0 by decide]
      exact ldexp_zero p w
  obtain ⟨f1, f2, f3⟩ := ofNat_bits n h0 hn
  have hP := nat_power n h0
  obtain ⟨F, hF⟩ : ∃ F, F = floatOfInt .f64 (n : Int) := ⟨_, rfl⟩
  have hN : NatF F := ⟨by omega, by omega⟩
  have lb := log2_bitLen n h0 (by omega)
  by_cases k1 : p + (F / 4503599627370496 : Nat) - 1023 < -1075
  · refine ⟨0, by omega, fun g1 g2 g3 => ?_, Ldexp_of fun w => ?_⟩
    · exfalso
      have := hP g1
      rw [← hF] at this
      have := step_ge n p
      omega
    · rw [← hF]; exact ldexp_low F hN p hp hp' k1 w
  by_cases k2 : 1023 < p + (F / 4503599627370496 : Nat) - 1023
  · refine ⟨9218868437227405312, by omega, fun g1 g2 g3 => ?_, Ldexp_of fun w => ?_⟩
    · exfalso
      have := hP g1
      rw [← hF] at this
      omega
    · rw [← hF]; exact ldexp_high F hN p hp hp' k2 w
  by_cases k3 : -1022 ≤ p + (F / 4503599627370496 : Nat) - 1023
  · obtain ⟨E, hE⟩ : ∃ E : Nat, (E : Int) = p + (F / 4503599627370496 : Nat) := ⟨(p + (F / 4503599627370496 : Nat)).toNat, by omega⟩
    have hX : ((F % 4503599627370496 + E * 4503599627370496 : Nat) : Int) = (F % 4503599627370496 : Nat) + (p + (F / 4503599627370496 : Nat)) * 4503599627370496 := by
      rw [← hE]; omega
    have hm := mul_bits 4607182418800017408 (F % 4503599627370496 + E * 4503599627370496) (-52) read_one (by omega) (by omega)
    refine ⟨_, near_top _ _, fun g1 g2 g3 => ?_, Ldexp_of fun w => by rw [← hF]; exact ldexp_norm F hN p hp hp' _ _ ⟨k3, by omega⟩ hX hm w⟩
    have := ld_mul n p (-52) 4607182418800017408 (F % 4503599627370496 + E * 4503599627370496) E h0 g1 g2 g3 read_one (by rw [hF]) (by omega) (by omega) (by
      have := hP g1
      rw [← hF] at this
      omega)
    rw [hm] at this
    exact Option.some.inj this
  · obtain ⟨E, hE⟩ : ∃ E : Nat, (E : Int) = p + (F / 4503599627370496 : Nat) + 53 := ⟨(p + (F / 4503599627370496 : Nat) + 53).toNat, by omega⟩
    have hX : ((F % 4503599627370496 + E * 4503599627370496 : Nat) : Int) = (F % 4503599627370496 : Nat) + (p + (F / 4503599627370496 : Nat) + 53) * 4503599627370496 := by
      rw [← hE]; omega
    have hm := mul_bits 4368491638549381120 (F % 4503599627370496 + E * 4503599627370496) (-105) read_53 (by omega) (by omega)
    refine ⟨_, near_top _ _, fun g1 g2 g3 => ?_, Ldexp_of fun w => by rw [← hF]; exact ldexp_sub F hN p hp hp' _ _ ⟨by omega, by omega⟩ hX hm w⟩
    have := ld_mul n p (-105) 4368491638549381120 (F % 4503599627370496 + E * 4503599627370496) E h0 g1 g2 g3 read_53 (by rw [hF]) (by omega) (by omega) (by
      have := hP g1
      rw [← hF] at this
      omega)
    rw [hm] at this
    exact Option.some.inj this
end Go.Proofs.YtbkjmnopljmanaaGreatDoor
