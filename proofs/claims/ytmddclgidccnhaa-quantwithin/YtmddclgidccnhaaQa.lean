/- What package quant's smallest functions answer: fits, within, kept, rounded, and sums beyond 64 bits: plus, over. -/
import Derived.Test.YtmddclgidccnhaaRows
import Derived.Test.YtmddclgidccnhaaQn
import Derived.Laws.Externs
import Derived.Lib.SmallJoins
namespace Go.Proofs.Ytmddclgidccnhaa
open Go.RowKit

theorem run_add64_any (x y : Int) (hx : 0 ≤ x) (hy : 0 ≤ y) (w : World) :
    (callFunc 54 #[.int .u64 x, .int .u64 y, .int .u64 0]).run Try.prog w = .ok (.value (.tuple #[.int .u64 ((x + y) % 18446744073709551616), .int .u64 ((x + y) / 18446744073709551616)])) w := by
  rw [run_callFunc_extern Try.func54 (by kernel_rfl) (by kernel_rfl) (by kernel_rfl) (e := add64Entry) (by kernel_rfl), run_add64 x y 0 hx hy (by omega) (by omega)]
  simp

set_option maxRecDepth 100000 in
theorem fits_any (b : Int) (w : World) :
    Calls Try.prog 20 #[.int .i64 b] w fun e w' => e = .returned (.bool (fitsB b)) ∧ w' = w := by
  by_cases h1 : 1 ≤ b
  · by_cases h2 : b ≤ 31
    · have Hk : Hid (fitsB b = true) := by simp [Hid, fitsB, h1, h2]
      go_enter Try.func20, Try.ntmps20
      go_wp2
      go_ret
      rw [unhide Hk]; exact ⟨rfl, rfl⟩
    · have Hk : Hid (fitsB b = false) := by simp [Hid, fitsB, h2]
      go_enter Try.func20, Try.ntmps20
      go_wp2
      go_ret
      rw [unhide Hk]; exact ⟨rfl, rfl⟩
  · have Hk : Hid (fitsB b = false) := by simp [Hid, fitsB, h1]
    go_enter Try.func20, Try.ntmps20
    go_wp2
    go_ret
    rw [unhide Hk]; exact ⟨rfl, rfl⟩

theorem offB_true {n m : Int} (h : kp n = m) (hn : n ≠ m) : (m != n) = offB n := by
  unfold offB; rw [h]; simp [Ne.symm hn]
theorem offB_same {n : Int} (h : kp n = n) : false = offB n := by
  unfold offB; simp [h]

set_option maxRecDepth 100000 in
theorem within_any (n : Int) (w : World) :
    Calls Try.prog 22 #[.int .i64 n] w fun e w' => e = .returned (.tuple #[.int .i64 (kp n), .bool (offB n)]) ∧ w' = w := by
  go_enter Try.func22, Try.ntmps22
  go_wp2
  all_goals go_ret2
  · rename_i h1
    rw [if_neg (by omega)] at h1
    have hk : kp n = 2147483647 := by unfold kp; omega
    have hn : n ≠ 2147483647 := by omega
    rw [hk, offB_true hk hn]; exact ⟨rfl, rfl⟩
  · have hk : kp n = -2147483648 := by unfold kp; omega
    rw [hk, offB_true hk (by omega)]; exact ⟨rfl, rfl⟩
  · rename_i h1
    rw [if_neg (by omega)] at h1
    have hk : kp n = n := by unfold kp; omega
    rw [hk, ← offB_same hk]; exact ⟨rfl, rfl⟩

set_option maxRecDepth 100000 in
theorem kept_any (n : Int) (w : World) :
    Calls Try.prog 36 #[.int .i64 n] w fun e w' => e = .returned (.int .i64 (kp n)) ∧ w' = w := by
  go_enter Try.func36, Try.ntmps36
  go_wp2_with fail
  refine (within_any n _).mono ?_
  rintro e w' ⟨rfl, rfl⟩
  go_wp2
  go_ret
  exact ⟨rfl, rfl⟩

theorem sum_low (T n : Int) : (T + IntKind.u64.wrap n) % 18446744073709551616 = (T + n) % 18446744073709551616 := by
  rw [IntKind.wrap_u64]; omega
theorem sum_high (T n : Int) (hT : -55340232221128654848 ≤ T ∧ T ≤ 55340232221128654848) (hn : i64 n) :
    wrap64 (wrap64 (T / 18446744073709551616 + n / 9223372036854775808) + wrap64 ((T % 18446744073709551616 + IntKind.u64.wrap n) / 18446744073709551616)) = (T + n) / 18446744073709551616 := by
  rw [IntKind.wrap_u64]; unfold i64 at hn
  have e0 : n / 9223372036854775808 = n / 18446744073709551616 := by omega
  have e1 : wrap64 (T / 18446744073709551616 + n / 9223372036854775808) = T / 18446744073709551616 + n / 18446744073709551616 := by
    rw [e0]; unfold wrap64; omega
  have e2 : wrap64 ((T % 18446744073709551616 + n % 18446744073709551616) / 18446744073709551616) = (T % 18446744073709551616 + n % 18446744073709551616) / 18446744073709551616 := by
    unfold wrap64; omega
  have e3 : T / 18446744073709551616 + n / 18446744073709551616 + (T % 18446744073709551616 + n % 18446744073709551616) / 18446744073709551616 = (T + n) / 18446744073709551616 := by omega
  rw [e1, e2, e3]; unfold wrap64; omega
theorem wrap_u64_nonneg (n : Int) : 0 ≤ IntKind.u64.wrap n := by rw [IntKind.wrap_u64]; omega

set_option maxRecDepth 100000 in
set_option maxHeartbeats 1000000 in
theorem plus_any (T n : Int) (hT : -55340232221128654848 ≤ T ∧ T ≤ 55340232221128654848) (hn : i64 n) (w : World) :
    Calls Try.prog 37 #[.agg #[.int .i64 (T / 18446744073709551616), .int .u64 (T % 18446744073709551616)], .int .i64 n] w
      fun e w' => e = .returned (.agg #[.int .i64 ((T + n) / 18446744073709551616), .int .u64 ((T + n) % 18446744073709551616)]) ∧ Below w.heap.size w w' := by
  have hx : ∀ w, _ := run_add64_any (T % 18446744073709551616) (IntKind.u64.wrap n) (by omega) (wrap_u64_nonneg n)
  have Hl := hide (sum_low T n)
  have Hh := hide (sum_high T n hT hn)
  clear hT hn
  go_enter Try.func37, Try.ntmps37
  go_wp2
  refine bodyPost_ret (v := .agg #[.int .i64 (wrap64 (wrap64 (T / 18446744073709551616 + n / 9223372036854775808) + wrap64 ((T % 18446744073709551616 + IntKind.u64.wrap n) / 18446744073709551616))), .int .u64 ((T + IntKind.u64.wrap n) % 18446744073709551616)]) (by simp [results, Try.results37, go_sem]) rfl ?_
  rw [unhide Hl, unhide Hh]
  exact ⟨rfl, Joins.below_alloc2 _ _ _⟩

set_option maxRecDepth 100000 in
set_option maxHeartbeats 1000000 in
theorem rounded_any (n s : Int) (hn : i64 n) (h0 : 0 ≤ s) (h1 : s ≤ 62) (w : World) :
    Calls Try.prog 23 #[.int .i64 n, .int .i64 s] w fun e w' => e = .returned (.int .i64 (rnd n s.toNat)) ∧ w' = w := by
  have Hn := hide hn
  have Hs : Hid (s.toNat ≤ 62) := by unfold Hid; omega
  clear hn
  go_enter Try.func23, Try.ntmps23
  go_wp2
  all_goals go_ret
  all_goals refine ⟨congrArg Ending.returned (congrArg (Value.int IntKind.i64) ?_), rfl⟩
  all_goals first
    | exact qway_over (unhide Hn) (unhide Hs) (by assumption)
    | exact qway_odd (unhide Hn) (unhide Hs) (by assumption) (by assumption)
    | exact qway_even (unhide Hs) (by assumption) (by assumption)
    | exact qway_under (unhide Hs) (by assumption) (by assumption)
    | fail

set_option maxRecDepth 100000 in
set_option maxHeartbeats 1000000 in
theorem over_in (T s : Int) (hT : i64 T) (h0 : 0 ≤ s) (h1 : s ≤ 62) (w : World) :
    Calls Try.prog 38 #[.agg #[.int .i64 (T / 18446744073709551616), .int .u64 (T % 18446744073709551616)], .int .i64 s] w
      fun e w' => e = .returned (.int .i64 (rnd T s.toNat)) ∧ Below w.heap.size w w' := by
  have e1 : wrap64 (T % 18446744073709551616) = T := by unfold wrap64; unfold i64 at hT; omega
  have e2 : (T / 18446744073709551616 == T / 9223372036854775808) = true := by
    unfold i64 at hT; rw [beq_iff_eq]; omega
  have Hr := hide (rounded_any T s hT h0 h1)
  clear hT h0 h1
  go_enter Try.func38, Try.ntmps38
  go_wp2_with fail
  refine (unhide Hr _).mono ?_
  rintro e w' ⟨rfl, rfl⟩
  go_wp2
  go_ret
  exact ⟨rfl, Joins.below_alloc1 _ _⟩

set_option maxRecDepth 100000 in
set_option maxHeartbeats 1000000 in
theorem over_low (T s : Int) (hT : T < -9223372036854775808) (hT' : -55340232221128654848 ≤ T) (w : World) :
    Calls Try.prog 38 #[.agg #[.int .i64 (T / 18446744073709551616), .int .u64 (T % 18446744073709551616)], .int .i64 s] w
      fun e w' => e = .returned (.int .i64 (-9223372036854775808)) ∧ Below w.heap.size w w' := by
  have e2 : (T / 18446744073709551616 == wrap64 (T % 18446744073709551616) / 9223372036854775808) = false := by
    unfold wrap64; rw [beq_eq_false_iff_ne]; omega
  have e3 : T / 18446744073709551616 < 0 := by omega
  clear hT hT'
  go_enter Try.func38, Try.ntmps38
  go_wp2
  go_ret
  exact ⟨rfl, Joins.below_alloc1 _ _⟩

set_option maxRecDepth 100000 in
set_option maxHeartbeats 1000000 in
theorem over_high (T s : Int) (hT : 9223372036854775807 < T) (hT' : T ≤ 55340232221128654848) (w : World) :
    Calls Try.prog 38 #[.agg #[.int .i64 (T / 18446744073709551616), .int .u64 (T % 18446744073709551616)], .int .i64 s] w
      fun e w' => e = .returned (.int .i64 9223372036854775807) ∧ Below w.heap.size w w' := by
  have e2 : (T / 18446744073709551616 == wrap64 (T % 18446744073709551616) / 9223372036854775808) = false := by
    unfold wrap64; rw [beq_eq_false_iff_ne]; omega
  have e3 : ¬ T / 18446744073709551616 < 0 := by omega
  clear hT hT'
  go_enter Try.func38, Try.ntmps38
  go_wp2
  go_ret
  exact ⟨rfl, Joins.below_alloc1 _ _⟩

/-- What over answers of a sum of any size: kept within, it is what the true one is. -/
theorem over_any (T s : Int) (hT : -55340232221128654848 ≤ T ∧ T ≤ 55340232221128654848) (h0 : 1 ≤ s) (h1 : s ≤ 31) (w : World) :
    Calls Try.prog 38 #[.agg #[.int .i64 (T / 18446744073709551616), .int .u64 (T % 18446744073709551616)], .int .i64 s] w
      fun e w' => (∃ z, e = .returned (.int .i64 z) ∧ kp z = kp (rnd T s.toNat) ∧ offB z = offB (rnd T s.toNat)) ∧ Below w.heap.size w w' := by
  by_cases h2 : T < -9223372036854775808
  · refine (over_low T s h2 hT.1 w).mono ?_
    rintro e w' ⟨he, hb⟩
    have hc := cut_low T s.toNat (by omega) h2
    refine ⟨⟨_, he, hc.1.symm, ?_⟩, hb⟩
    unfold offB
    rw [decide_eq_true hc.2]; decide
  · by_cases h3 : 9223372036854775807 < T
    · refine (over_high T s h3 hT.2 w).mono ?_
      rintro e w' ⟨he, hb⟩
      have hc := cut_high T s.toNat (by omega) h3
      refine ⟨⟨_, he, hc.1.symm, ?_⟩, hb⟩
      unfold offB
      rw [decide_eq_true hc.2]; decide
    · refine (over_in T s ⟨by omega, by omega⟩ (by omega) (by omega) w).mono ?_
      rintro e w' ⟨he, hb⟩
      exact ⟨⟨_, he, rfl, rfl⟩, hb⟩

end Go.Proofs.Ytmddclgidccnhaa
