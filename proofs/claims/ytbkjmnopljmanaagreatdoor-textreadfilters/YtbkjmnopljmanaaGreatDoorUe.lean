/- The reference's Float: what cannot be odd. -/
import Derived.Test.YtbkjmnopljmanaaGreatDoorUd
namespace Go.Proofs.YtbkjmnopljmanaaGreatDoor
open Go.RowKit

/-- The sign in front. -/
def frontL (b : Nat) : List UInt8 := if ng b then [45] else []
theorem sg_fact (b : Nat) (hb : b < 18446744073709551616) : (b : Int) / 9223372036854775808 = if ng b then 1 else 0 := by
  unfold ng
  by_cases h : 9223372036854775808 ≤ b
  · simp [h]; omega
  · simp [h]; omega
theorem rg_fact (b : Nat) (_hb : b < 18446744073709551616) : IntKind.u64.wrap ((b : Int) * 2) / 2 = (rg b : Int) := by
  rw [IntKind.wrap_u64]; unfold rg; omega

set_option maxRecDepth 100000 in
theorem rfloat_nan (b : Nat) (hb : b < 18446744073709551616) (h : 9218868437227405312 < rg b) (w : World) :
    Calls Tryz.prog 90 #[.float .f64 b] w fun e w' => e = .returned (.string ⟨#[110, 97, 110]⟩) ∧ w' = w := by
  have hx := run_bits
  by_cases hg : 9223372036854775808 ≤ b
  · have h1 : (b : Int) / 9223372036854775808 = 1 := by omega
    have h2 := rg_fact b hb
    have i1 : (9218868437227405312 : Int) < (rg b : Int) := by omega
    generalize rg b = r at *
    clear hb h hg
    go_enter Tryz.func90, Tryz.ntmps90
    go_wp2
    go_ret
    exact ⟨rfl, rfl⟩
  · have h1 : (b : Int) / 9223372036854775808 = 0 := by omega
    have i1 : (9218868437227405312 : Int) < (b : Int) := by unfold rg at h; omega
    have h2 : IntKind.u64.wrap ((b : Int) * 2) = (b : Int) * 2 := by rw [IntKind.wrap_u64]; omega
    have h3 : (b : Int) * 2 / 2 = (b : Int) := by omega
    clear hb h hg
    go_enter Tryz.func90, Tryz.ntmps90
    go_wp2
    go_ret
    exact ⟨rfl, rfl⟩
set_option maxRecDepth 100000 in
theorem rfloat_inf (b : Nat) (hb : b < 18446744073709551616) (h : rg b = 9218868437227405312) (w : World) :
    Calls Tryz.prog 90 #[.float .f64 b] w fun e w' => e = .returned (.string ⟨(frontL b ++ [105, 110, 102]).toArray⟩) ∧ w' = w := by
  have hx := run_bits
  rcases (by unfold rg at h; omega : b = 9218868437227405312 ∨ b = 18442240474082181120) with rfl | rfl
  all_goals
    clear hb h
    go_enter Tryz.func90, Tryz.ntmps90
    go_wp2
    go_ret
    exact ⟨rfl, rfl⟩
set_option maxRecDepth 100000 in
theorem rfloat_zero (b : Nat) (hb : b < 18446744073709551616) (h : rg b = 0) (w : World) :
    Calls Tryz.prog 90 #[.float .f64 b] w fun e w' => e = .returned (.string ⟨(frontL b ++ [48, 120, 48, 112, 48]).toArray⟩) ∧ w' = w := by
  have hx := run_bits
  rcases (by unfold rg at h; omega : b = 0 ∨ b = 9223372036854775808) with rfl | rfl
  all_goals
    clear hb h
    go_enter Tryz.func90, Tryz.ntmps90
    go_wp2
    go_ret
    exact ⟨rfl, rfl⟩
end Go.Proofs.YtbkjmnopljmanaaGreatDoor
