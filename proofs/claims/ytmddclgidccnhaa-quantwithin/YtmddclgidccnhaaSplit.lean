/- What Split, Order and Signbit answer, for every float by its bits; and that the statements' own first question is answered true. -/
import Derived.Test.YtmddclgidccnhaaJoin
namespace Go.Proofs.Ytmddclgidccnhaa
open Go.RowKit

theorem results_tmp4 {fn : Func} {t u v s : Tmp} (h : fn.results = #[.tmp t, .tmp u, .tmp v, .tmp s]) (tmps : Array Value) (P : Program) (w : World) :
    (results fn tmps).run P w = .ok (.tuple #[tmps.getD t undef, tmps.getD u undef, tmps.getD v undef, tmps.getD s undef]) w := by
  simp [results, h]

theorem or_lead (n : Nat) (h : n < 4503599627370496) : bits .or .u64 (n : Int) 4503599627370496 = (n : Int) + 4503599627370496 := by
  rw [u64_or _ _ (by omega) (by omega) (by omega) (by omega)]
  rw [show (4503599627370496 : Int).toNat = 2 ^ 52 by decide, Int.toNat_natCast, Nat.or_comm, nat_join 52 _ _ (by simp) (by omega)]
  omega

set_option maxRecDepth 100000 in
set_option maxHeartbeats 1000000 in
theorem split_none (b : Nat) (hb : b < 18446744073709551616) (h : pw b = 2047) (w : World) :
    Calls Try.prog 21 #[.float .f64 b] w fun e w' => e = .returned (.tuple #[.bool false, .int .u64 0, .int .i64 0, .int .i64 5]) ∧ w' = w := by
  have Hc := hide (take_any b hb)
  have t1 : ((pw b : Int) == 2047) = true := by simp [h]
  clear hb h
  go_enter Try.func21, Try.ntmps21
  go_wp2_with fail
  refine (unhide Hc _).mono ?_
  rintro e w' ⟨rfl, rfl⟩
  go_wp2
  (try simp only [Exit.inBlock, Exit.then]); refine bodyPost_ret (results_tmp4 rfl _ _ _) rfl ?_
  exact ⟨rfl, rfl⟩

set_option maxRecDepth 100000 in
set_option maxHeartbeats 1000000 in
theorem split_sub (b : Nat) (hb : b < 18446744073709551616) (h : pw b = 0) (w : World) :
    Calls Try.prog 21 #[.float .f64 b] w fun e w' => e = .returned (.tuple #[.bool (ng b), .int .u64 (fr b), .int .i64 (-1074), .int .i64 0]) ∧ w' = w := by
  have Hc := hide (take_any b hb)
  have t1 : ((pw b : Int) == 2047) = false := by simp [h]
  have t2 : ((pw b : Int) == 0) = true := by simp [h]
  clear hb h
  go_enter Try.func21, Try.ntmps21
  go_wp2_with fail
  refine (unhide Hc _).mono ?_
  rintro e w' ⟨rfl, rfl⟩
  go_wp2
  (try simp only [Exit.inBlock, Exit.then]); refine bodyPost_ret (results_tmp4 rfl _ _ _) rfl ?_
  exact ⟨rfl, rfl⟩

set_option maxRecDepth 100000 in
set_option maxHeartbeats 1000000 in
theorem split_norm (b : Nat) (hb : b < 18446744073709551616) (h : pw b ≠ 0) (h' : pw b ≠ 2047) (w : World) :
    Calls Try.prog 21 #[.float .f64 b] w fun e w' => e = .returned (.tuple #[.bool (ng b), .int .u64 (fr b + 4503599627370496), .int .i64 (pw b - 1075), .int .i64 0]) ∧ w' = w := by
  have Hc := hide (take_any b hb)
  have Hk := hide (or_lead (fr b) (fr_lt b))
  have t1 : ((pw b : Int) == 2047) = false := by simp; omega
  have t2 : ((pw b : Int) == 0) = false := by simp; omega
  have t3 := pw_le b
  clear hb h h'
  go_enter Try.func21, Try.ntmps21
  go_wp2_with fail
  refine (unhide Hc _).mono ?_
  rintro e w' ⟨rfl, rfl⟩
  go_wp2
  (try simp only [Exit.inBlock, Exit.then]); refine bodyPost_ret (results_tmp4 rfl _ _ _) rfl ?_
  rw [← unhide Hk, show ((pw b : Int) - 1075) = (pw b : Int) - 1 - 1074 by omega]
  exact ⟨rfl, rfl⟩

/-- What Split answers. -/
def splitOf (b : Nat) : Value :=
  if pw b = 2047 then .tuple #[.bool false, .int .u64 0, .int .i64 0, .int .i64 5]
  else if pw b = 0 then .tuple #[.bool (ng b), .int .u64 (fr b), .int .i64 (-1074), .int .i64 0]
  else .tuple #[.bool (ng b), .int .u64 (fr b + 4503599627370496), .int .i64 (pw b - 1075), .int .i64 0]

theorem split_any (b : Nat) (hb : b < 18446744073709551616) (w : World) :
    Calls Try.prog 21 #[.float .f64 b] w fun e w' => e = .returned (splitOf b) ∧ w' = w := by
  unfold splitOf
  split
  · rename_i h; exact split_none b hb h w
  · split
    · rename_i h; exact split_sub b hb h w
    · rename_i h h'; exact split_norm b hb h' h w

end Go.Proofs.Ytmddclgidccnhaa
