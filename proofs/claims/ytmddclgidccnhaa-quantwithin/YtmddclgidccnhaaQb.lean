/- What package quant's keptSection and keptState answer. -/
import Derived.Test.YtmddclgidccnhaaQa
import Derived.Deep.Light
import Derived.Deep.RegionHeld3
namespace Go.Proofs.Ytmddclgidccnhaa
open Go.RowKit

set_option maxRecDepth 100000 in
set_option maxHeartbeats 2000000 in
theorem keptState_any (a b c d : Int) (w : World) :
    Calls Try.prog 35 #[.agg #[.int .i64 a, .int .i64 b, .int .i64 c, .int .i64 d]] w
      fun e w' => e = .returned (.agg #[.int .i64 (kp a), .int .i64 (kp b), .int .i64 (kp c), .int .i64 (kp d)]) ∧ Below w.heap.size w w' := by
  go_enter Try.func35, Try.ntmps35
  go_wp2_with fail
  go_region_held3 (fun w' => w'.cell? ⟨w.heap.size, 0, none⟩ = some (.int .i64 a) ∧ w'.cell? ⟨w.heap.size, 1, none⟩ = some (.int .i64 b) ∧ w'.cell? ⟨w.heap.size, 2, none⟩ = some (.int .i64 c) ∧ w'.cell? ⟨w.heap.size, 3, none⟩ = some (.int .i64 d)) (go_keep)
    ((first
      | (go_at_call 36; refine (kept_any _ _).mono ?_; rintro e w' ⟨rfl, rfl⟩)
      | fail))
  go_wp2
  refine bodyPost_ret (v := .agg #[.int .i64 (kp a), .int .i64 (kp b), .int .i64 (kp c), .int .i64 (kp d)]) (by simp [results, Try.results35, go_sem]) rfl ?_
  exact ⟨rfl, (Joins.below_alloc2 _ _ _).drew⟩

set_option maxRecDepth 100000 in
set_option maxHeartbeats 2000000 in
theorem keptSection_any (n a b c d g : Int) (w : World) :
    Calls Try.prog 34 #[.agg #[.int .i64 n, .int .i64 a, .int .i64 b, .int .i64 c, .int .i64 d, .int .i64 g]] w
      fun e w' => e = .returned (.agg #[.int .i64 n, .int .i64 (kp a), .int .i64 (kp b), .int .i64 (kp c), .int .i64 (kp d), .int .i64 (kp g)]) ∧ Below w.heap.size w w' := by
  go_enter Try.func34, Try.ntmps34
  go_wp2_with fail
  go_region_held3 (fun w' => w'.cell? ⟨w.heap.size, 0, none⟩ = some (.int .i64 n) ∧ w'.cell? ⟨w.heap.size, 1, none⟩ = some (.int .i64 a) ∧ w'.cell? ⟨w.heap.size, 2, none⟩ = some (.int .i64 b) ∧ w'.cell? ⟨w.heap.size, 3, none⟩ = some (.int .i64 c) ∧ w'.cell? ⟨w.heap.size, 4, none⟩ = some (.int .i64 d) ∧ w'.cell? ⟨w.heap.size, 5, none⟩ = some (.int .i64 g)) (go_keep)
    ((first
      | (go_at_call 36; refine (kept_any _ _).mono ?_; rintro e w' ⟨rfl, rfl⟩)
      | fail))
  go_wp2
  refine bodyPost_ret (v := .agg #[.int .i64 n, .int .i64 (kp a), .int .i64 (kp b), .int .i64 (kp c), .int .i64 (kp d), .int .i64 (kp g)]) (by simp [results, Try.results34, go_sem]) rfl ?_
  exact ⟨rfl, (Joins.below_alloc2 _ _ _).drew⟩
end Go.Proofs.Ytmddclgidccnhaa
