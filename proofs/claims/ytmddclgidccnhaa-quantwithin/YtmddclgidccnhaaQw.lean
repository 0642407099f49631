/- The statements' own first question is answered true. -/
import Derived.Test.YtmddclgidccnhaaQs
import Derived.Test.YtmddclgidccnhaaQf
namespace Go.Proofs.Ytmddclgidccnhaa
open Go.RowKit

theorem fix_quarter (w : World) : Calls Try.prog 9 #[.float .f64 4598175219545276416, .int .i64 1] w fun e w' => e = .returned (.tuple #[.int .i64 0, .bool false, .int .i64 0]) ∧ w' = w := by
  have h := fix_fin 4598175219545276416 (by decide) (by decide) 1 (by decide) w
  rw [show kp (fixN 4598175219545276416 1) = 0 by decide +kernel, show offB (fixN 4598175219545276416 1) = false by decide +kernel] at h
  exact h
theorem fix_three (w : World) : Calls Try.prog 9 #[.float .f64 4604930618986332160, .int .i64 1] w fun e w' => e = .returned (.tuple #[.int .i64 2, .bool false, .int .i64 0]) ∧ w' = w := by
  have h := fix_fin 4604930618986332160 (by decide) (by decide) 1 (by decide) w
  rw [show kp (fixN 4604930618986332160 1) = 2 by decide +kernel, show offB (fixN 4604930618986332160 1) = false by decide +kernel] at h
  exact h
theorem step_half (w : World) : Calls Try.prog 14 #[.agg #[.int .i64 1, .int .i64 1, .int .i64 0, .int .i64 0, .int .i64 0, .int .i64 0], .agg #[.int .i64 0, .int .i64 0, .int .i64 0, .int .i64 0], .int .i64 3] w
    fun e w' => e = .returned (.tuple #[.int .i64 2, .agg #[.int .i64 3, .int .i64 0, .int .i64 2, .int .i64 0], .bool false]) ∧ Below w.heap.size w w' := by
  have h := qstep_any ⟨1, 1, 0, 0, 0, 0⟩ ⟨0, 0, 0, 0⟩ 3 w
  rw [show ans ⟨1, 1, 0, 0, 0, 0⟩ ⟨0, 0, 0, 0⟩ 3 = 2 by decide +kernel, show nxt ⟨1, 1, 0, 0, 0, 0⟩ ⟨0, 0, 0, 0⟩ 3 = ⟨3, 0, 2, 0⟩ by decide +kernel, show outs ⟨1, 1, 0, 0, 0, 0⟩ ⟨0, 0, 0, 0⟩ 3 = false by decide +kernel] at h
  exact h

set_option maxRecDepth 100000 in
set_option maxHeartbeats 1000000 in
theorem awake_any (w : World) :
    Calls Try.prog 7 #[] w fun e w' => e = .returned (.bool true) ∧ Below w.heap.size w w' := by
  go_enter Try.func7, Try.ntmps7
  go_wp2_with fail
  refine (fix_quarter _).mono ?_
  rintro e w' ⟨rfl, rfl⟩
  go_wp2_with fail
  refine (fix_three _).mono ?_
  rintro e w' ⟨rfl, rfl⟩
  go_wp2_with fail
  refine (step_half _).mono ?_
  rintro e w1 ⟨rfl, hb⟩
  go_wp2
  go_ret
  exact ⟨rfl, hb.trans ((Below.refl _ w1).alloc hb.size _)⟩
end Go.Proofs.Ytmddclgidccnhaa
