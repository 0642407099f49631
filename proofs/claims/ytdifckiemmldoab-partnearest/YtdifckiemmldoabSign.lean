/- What Signbit answers, for every float by its bits. -/
import Derived.Test.YtdifckiemmldoabBits
namespace Go.Proofs.Ytdifckiemmldoab
open Go.RowKit

theorem sign_form (b : Nat) (hb : b < 18446744073709551616) : decide (wrap64 (b : Int) < 0) = ng b := by
  unfold wrap64 ng
  by_cases h : 9223372036854775808 ≤ b <;> simp <;> omega

set_option maxRecDepth 100000 in
set_option maxHeartbeats 1000000 in
theorem signbit_any (b : Nat) (hb : b < 18446744073709551616) (w : World) :
    Calls Try.prog 8 #[.float .f64 b] w fun e w' => e = .returned (.bool (ng b)) ∧ w' = w := by
  have hx := run_bits
  have Hk := hide (sign_form b hb)
  clear hb
  go_enter Try.func8, Try.ntmps8
  go_wp2
  go_ret
  rw [← unhide Hk]
  exact ⟨rfl, rfl⟩

end Go.Proofs.Ytdifckiemmldoab
