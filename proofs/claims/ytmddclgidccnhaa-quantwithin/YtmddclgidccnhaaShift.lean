/- What package part's inner shift answers: m times a power of two, or m over one, nearest and ties to the even one. -/
import Derived.Test.YtmddclgidccnhaaRows
import Derived.Test.YtmddclgidccnhaaShiftNum
namespace Go.Proofs.Ytmddclgidccnhaa
open Go.RowKit

set_option maxRecDepth 100000 in
set_option maxHeartbeats 1000000 in
theorem shift_up (m n : Int) (hn0 : -1000 ≤ n) (hn : n ≤ 0) (w : World) :
    Calls Try.prog 52 #[.int .u64 m, .int .i64 n] w fun e w' => e = .returned (.int .u64 (IntKind.u64.wrap (m * 2 ^ min (-n).toNat 64))) ∧ w' = w := by
  go_enter Try.func52, Try.ntmps52
  go_wp2
  go_ret
  exact ⟨rfl, rfl⟩

set_option maxRecDepth 100000 in
set_option maxHeartbeats 1000000 in
theorem shift_far (m n : Int) (hm : 0 ≤ m) (hm' : m ≤ 18446744073709551615) (hn : 64 < n) (w : World) :
    Calls Try.prog 52 #[.int .u64 m, .int .i64 n] w fun e w' => e = .returned (.int .u64 (rne m.toNat n.toNat)) ∧ w' = w := by
  have Hk := hide (rne_far m.toNat n.toNat (by omega) (by omega))
  go_enter Try.func52, Try.ntmps52
  go_wp2
  go_ret
  rw [unhide Hk]
  exact ⟨rfl, rfl⟩

set_option maxRecDepth 100000 in
set_option maxHeartbeats 1000000 in
theorem shift_near (m n : Int) (hm : 0 ≤ m) (hm' : m ≤ 18446744073709551615) (h0 : 0 < n) (h1 : n ≤ 64) (w : World) :
    Calls Try.prog 52 #[.int .u64 m, .int .i64 n] w fun e w' => e = .returned (.int .u64 (rne m.toNat n.toNat)) ∧ w' = w := by
  go_enter Try.func52, Try.ntmps52
  go_wp2
  all_goals go_ret
  all_goals refine ⟨congrArg Ending.returned (congrArg (Value.int IntKind.u64) ?_), rfl⟩
  all_goals first
    | exact way_gt m n hm hm' h0 h1 (by assumption)
    | exact way_odd m n hm hm' h0 h1 (by assumption) (by assumption)
    | exact way_even m n hm hm' h0 h1 (by assumption) (by assumption)
    | exact way_less m n hm h0 h1 (by assumption) (by assumption)

theorem shift_down (m n : Int) (hm : 0 ≤ m) (hm' : m ≤ 18446744073709551615) (h0 : 0 < n) (w : World) :
    Calls Try.prog 52 #[.int .u64 m, .int .i64 n] w fun e w' => e = .returned (.int .u64 (rne m.toNat n.toNat)) ∧ w' = w := by
  by_cases h : n ≤ 64
  · exact shift_near m n hm hm' h0 h w
  · exact shift_far m n hm hm' (by omega) w

end Go.Proofs.Ytmddclgidccnhaa
