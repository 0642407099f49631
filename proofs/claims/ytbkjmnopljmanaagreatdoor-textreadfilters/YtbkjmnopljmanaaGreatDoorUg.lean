/- The reference's Float: every float's text. -/
import Derived.Test.YtbkjmnopljmanaaGreatDoorUf
namespace Go.Proofs.YtbkjmnopljmanaaGreatDoor
open Go.RowKit

theorem rg_pw (b : Nat) : pw b = 2047 ↔ 9218868437227405312 ≤ rg b := by unfold pw rg; omega
theorem fltN_zero {b : Nat} (h : rg b = 0) : fltN b = [48, 120, 48, 112, 48] := by
  have h1 : pw b = 0 := by unfold pw; unfold rg at h; omega
  have h2 : fr b = 0 := by unfold fr; unfold rg at h; omega
  have h3 : mant b = 0 := by unfold mant; rw [if_pos h1, h2]
  unfold fltN om oe
  rw [h3, if_pos rfl, if_pos rfl, hexL_small (by decide), show Lib.itoa 0 = Lib.decDigits 0 from rfl, dec_small (by decide)]
  decide
theorem rfloat_any (b : Nat) (hb : b < 18446744073709551616) (w : World) :
    Calls Tryz.prog 90 #[.float .f64 b] w fun e w' => e = .returned (.string ⟨(flt b).toArray⟩) ∧ Below w.heap.size w w' := by
  unfold flt
  by_cases h1 : 9218868437227405312 < rg b
  · rw [if_pos (show isnan b = true from decide_eq_true h1)]
    exact (rfloat_nan b hb h1 w).mono fun e w' ⟨h, k⟩ => ⟨h, by rw [k]; exact Below.refl _ _⟩
  · rw [if_neg (show ¬ isnan b = true by unfold isnan; simpa using Nat.le_of_not_lt h1)]
    by_cases h2 : rg b = 9218868437227405312
    · rw [if_pos ((rg_pw b).2 (by omega))]
      exact (rfloat_inf b hb h2 w).mono fun e w' ⟨h, k⟩ => ⟨h, by rw [k]; exact Below.refl _ _⟩
    · rw [if_neg (show ¬ pw b = 2047 from fun e => by have := (rg_pw b).1 e; omega)]
      by_cases h3 : rg b = 0
      · rw [fltN_zero h3]
        exact (rfloat_zero b hb h3 w).mono fun e w' ⟨h, k⟩ => ⟨h, by rw [k]; exact Below.refl _ _⟩
      · by_cases hg : 9223372036854775808 ≤ b
        · rw [if_pos (show ng b = true from decide_eq_true hg)]
          exact rfloat_neg b hb (by omega) h3 hg w
        · rw [if_neg (show ¬ ng b = true by unfold ng; simpa using Nat.lt_of_not_le hg), List.nil_append]
          exact rfloat_pos b hb (by omega) h3 hg w
theorem hexValue_dec (c : Nat) (h : 48 ≤ c ∧ c ≤ 57) (w : World) : Calls Tryz.prog 88 #[.int .u8 (c : Nat)] w fun e w' => e = .returned (.int .u64 ((c - 48 : Nat) : Int)) ∧ w' = w := by
  have i1 : ¬ (97 : Int) ≤ (c : Int) := by omega
  have e1 : (c : Int) - 48 = ((c - 48 : Nat) : Int) := by omega
  have i2 : (48 : Int) ≤ (c : Int) := by omega
  have i3 : (c : Int) ≤ 57 := by omega
  rw [← e1]
  clear e1 h
  go_enter Tryz.func88, Tryz.ntmps88
  go_wp2
  go_ret
  exact ⟨rfl, rfl⟩
theorem hexValue_let (c : Nat) (h : 97 ≤ c ∧ c ≤ 102) (w : World) : Calls Tryz.prog 88 #[.int .u8 (c : Nat)] w fun e w' => e = .returned (.int .u64 ((c - 87 : Nat) : Int)) ∧ w' = w := by
  have i1 : (97 : Int) ≤ (c : Int) := by omega
  have e1 : (c : Int) - 97 + 10 = ((c - 87 : Nat) : Int) := by omega
  have i3 : (c : Int) ≤ 102 := by omega
  rw [← e1]
  clear e1 h
  go_enter Tryz.func88, Tryz.ntmps88
  go_wp2
  go_ret
  exact ⟨rfl, rfl⟩
end Go.Proofs.YtbkjmnopljmanaaGreatDoor
