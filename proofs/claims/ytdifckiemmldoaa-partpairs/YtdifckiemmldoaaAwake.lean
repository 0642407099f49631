/- The statements' own first question (calls whose answers the document fixes) is answered true. -/
import Derived.Test.YtdifckiemmldoaaSplit
namespace Go.Proofs.Ytdifckiemmldoaa
open Go.RowKit

theorem split_one (w : World) :
    Calls Try.prog 9 #[.float .f64 13828302655841107968] w fun e w' => e = .returned (.tuple #[.bool true, .int .u64 6755399441055744, .int .i64 (-53), .int .i64 0]) ∧ w' = w := by
  have h := split_any 13828302655841107968 (by decide) w
  rw [show splitOf 13828302655841107968 = .tuple #[.bool true, .int .u64 6755399441055744, .int .i64 (-53), .int .i64 0] by simp [splitOf, pw, fr, ng]] at h
  exact h

theorem join_one (w : World) :
    Calls Try.prog 15 #[.bool true, .int .u64 3, .int .i64 (-2)] w fun e w' => e = .returned (.float .f64 13828302655841107968) ∧ w' = w := by
  have h := join_any true 3 (-2) (by decide) (by decide) w
  rw [show putBits true (joinRung (3 : Int).toNat (-2)) = 13828302655841107968 by decide] at h
  exact h

theorem of_one (w : World) :
    Calls Try.prog 12 #[.float .f64 4607182418800017408] w fun e w' => e = .returned (.int .i64 2) ∧ w' = w := by
  have h := of_any 4607182418800017408 (by decide) w
  rw [show cls 4607182418800017408 = 2 by decide] at h
  exact h

theorem order_one (w : World) :
    Calls Try.prog 27 #[.float .f64 4607182418800017408, .float .f64 4611686018427387904] w fun e w' => e = .returned (.int .i64 (-1)) ∧ w' = w := by
  have h := order_any 4607182418800017408 4611686018427387904 (by decide) (by decide) w
  rw [show cmpOf (rank 4607182418800017408) (rank 4611686018427387904) = -1 by decide] at h
  exact h

theorem order_same : (FloatKind.f64.format.order 13828302655841107968 13828302655841107968 == some .eq) = true := by decide

set_option maxRecDepth 100000 in
set_option maxHeartbeats 1000000 in
theorem awake_any (w : World) :
    Calls Try.prog 11 #[] w fun e w' => e = .returned (.bool true) ∧ w' = w := by
  have ho := order_same
  go_enter Try.func11, Try.ntmps11
  go_wp2_with fail
  refine (split_one _).mono ?_
  rintro e w' ⟨rfl, rfl⟩
  go_wp2_with fail
  refine (join_one _).mono ?_
  rintro e w' ⟨rfl, rfl⟩
  go_wp2_with fail
  refine (of_one _).mono ?_
  rintro e w' ⟨rfl, rfl⟩
  go_wp2_with fail
  refine (order_one _).mono ?_
  rintro e w' ⟨rfl, rfl⟩
  go_wp2
  go_ret
  exact ⟨rfl, rfl⟩

end Go.Proofs.Ytdifckiemmldoaa
