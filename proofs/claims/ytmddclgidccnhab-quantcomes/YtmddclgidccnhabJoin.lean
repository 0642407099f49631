/- What Join answers, for every sign, every uint64 and every int. -/
import Derived.Test.YtmddclgidccnhabBits
import Derived.Test.YtmddclgidccnhabLen
import Derived.Test.YtmddclgidccnhabShift
import Derived.Test.YtmddclgidccnhabJoinNum
namespace Go.Proofs.Ytmddclgidccnhab
open Go.RowKit

set_option maxRecDepth 100000 in
set_option maxHeartbeats 1000000 in
theorem join_norm (neg : Bool) (m e : Int) (L S : Nat) (hm : 0 < m) (hm' : m ≤ 18446744073709551615) (he : -1139 ≤ e) (he' : e ≤ 1023)
    (l1 : 1 ≤ L) (l2 : L ≤ 64) (hS : S ≤ 9007199254740992) (hst : -1074 ≤ e + L - 52 - 1)
    (Hl : Hid (∀ x, Calls Try.prog 51 #[.int .u64 m] x fun e w' => e = .returned (.int .i64 L) ∧ w' = x))
    (Hs : Hid (∀ x, Calls Try.prog 52 #[.int .u64 m, .int .i64 (e + L - 52 - 1 - e)] x fun e w' => e = .returned (.int .u64 S) ∧ w' = x)) (w : World) :
    Calls Try.prog 35 #[.bool neg, .int .u64 m, .int .i64 e] w fun e' w' => e' = .returned (.float .f64 (putBits neg (min ((e + L - 52 - 1 + 1074) * 4503599627370496 + S) 9218868437227405312))) ∧ w' = w := by
  have t0 : (m == 0) = false := by simp; omega
  have t1 : ¬ e < -1139 := by omega
  go_enter Try.func35, Try.ntmps35
  go_wp2_with fail
  refine (unhide Hl _).mono ?_
  rintro e w' ⟨rfl, rfl⟩
  go_wp2_with fail
  refine (unhide Hs _).mono ?_
  rintro e w' ⟨rfl, rfl⟩
  go_wp2_with fail
  · rename_i h
    refine (put_any neg _ (by omega) (by omega) _).mono ?_
    rintro e w' ⟨rfl, rfl⟩
    go_wp2
    go_ret
    rw [show min ((e + L - 52 - 1 + 1074) * 4503599627370496 + (S : Int)) 9218868437227405312 = 9218868437227405312 by omega]
    exact ⟨rfl, rfl⟩
  · rename_i h
    refine (put_any neg _ (by omega) (by omega) _).mono ?_
    rintro e w' ⟨rfl, rfl⟩
    go_wp2
    go_ret
    rw [show min ((e + L - 52 - 1 + 1074) * 4503599627370496 + (S : Int)) 9218868437227405312 = (e + L - 52 - 1 + 1074) * 4503599627370496 + S by omega]
    exact ⟨rfl, rfl⟩

set_option maxRecDepth 100000 in
set_option maxHeartbeats 1000000 in
theorem join_sub (neg : Bool) (m e : Int) (L S : Nat) (hm : 0 < m) (hm' : m ≤ 18446744073709551615) (he : -1139 ≤ e) (he' : e ≤ 1023)
    (l1 : 1 ≤ L) (l2 : L ≤ 64) (hS : S ≤ 9007199254740992) (hst : e + L - 52 - 1 < -1074)
    (Hl : Hid (∀ x, Calls Try.prog 51 #[.int .u64 m] x fun e w' => e = .returned (.int .i64 L) ∧ w' = x))
    (Hs : Hid (∀ x, Calls Try.prog 52 #[.int .u64 m, .int .i64 (-1074 - e)] x fun e w' => e = .returned (.int .u64 S) ∧ w' = x)) (w : World) :
    Calls Try.prog 35 #[.bool neg, .int .u64 m, .int .i64 e] w fun e' w' => e' = .returned (.float .f64 (putBits neg S)) ∧ w' = w := by
  have t0 : (m == 0) = false := by simp; omega
  have t1 : ¬ e < -1139 := by omega
  go_enter Try.func35, Try.ntmps35
  go_wp2_with fail
  refine (unhide Hl _).mono ?_
  rintro e w' ⟨rfl, rfl⟩
  go_wp2_with fail
  refine (unhide Hs _).mono ?_
  rintro e w' ⟨rfl, rfl⟩
  go_wp2_with fail
  refine (put_any neg _ (by omega) (by omega) _).mono ?_
  rintro e w' ⟨rfl, rfl⟩
  go_wp2
  go_ret
  exact ⟨rfl, rfl⟩

set_option maxRecDepth 100000 in
set_option maxHeartbeats 1000000 in
theorem join_zero (neg : Bool) (e : Int) (w : World) :
    Calls Try.prog 35 #[.bool neg, .int .u64 0, .int .i64 e] w fun e' w' => e' = .returned (.float .f64 (putBits neg 0)) ∧ w' = w := by
  go_enter Try.func35, Try.ntmps35
  go_wp2_with fail
  refine (put_any neg _ (by omega) (by omega) _).mono ?_
  rintro e w' ⟨rfl, rfl⟩
  go_wp2
  go_ret
  exact ⟨rfl, rfl⟩

set_option maxRecDepth 100000 in
set_option maxHeartbeats 1000000 in
theorem join_low (neg : Bool) (m e : Int) (hm : 0 < m) (he : e < -1139) (w : World) :
    Calls Try.prog 35 #[.bool neg, .int .u64 m, .int .i64 e] w fun e' w' => e' = .returned (.float .f64 (putBits neg 0)) ∧ w' = w := by
  have t0 : (m == 0) = false := by simp; omega
  go_enter Try.func35, Try.ntmps35
  go_wp2_with fail
  refine (put_any neg _ (by omega) (by omega) _).mono ?_
  rintro e w' ⟨rfl, rfl⟩
  go_wp2
  go_ret
  exact ⟨rfl, rfl⟩

set_option maxRecDepth 100000 in
set_option maxHeartbeats 1000000 in
theorem join_high (neg : Bool) (m e : Int) (hm : 0 < m) (he : 1023 < e) (w : World) :
    Calls Try.prog 35 #[.bool neg, .int .u64 m, .int .i64 e] w fun e' w' => e' = .returned (.float .f64 (putBits neg 9218868437227405312)) ∧ w' = w := by
  have t0 : (m == 0) = false := by simp; omega
  have t1 : ¬ e < -1139 := by omega
  go_enter Try.func35, Try.ntmps35
  go_wp2_with fail
  refine (put_any neg _ (by omega) (by omega) _).mono ?_
  rintro e w' ⟨rfl, rfl⟩
  go_wp2
  go_ret
  exact ⟨rfl, rfl⟩

/-- What the shift answers, at the place that Join asks of it. -/
theorem shift_kept (m e n : Int) (hm : 0 < m) (hm' : m ≤ 18446744073709551615) (hn : n = stepOf m.toNat e - e) (_he : -2000 ≤ e) (_he' : e ≤ 2000) (w : World) :
    Calls Try.prog 52 #[.int .u64 m, .int .i64 n] w fun e' w' => e' = .returned (.int .u64 (kept m.toNat e)) ∧ w' = w := by
  have s := step_ge m.toNat e
  have hL := ((bitLen_bounds m.toNat (by omega)).2 (by omega)).2
  by_cases h : n ≤ 0
  · refine (shift_up m n (by omega) h w).mono ?_
    rintro e' w' ⟨rfl, rfl⟩
    refine ⟨?_, rfl⟩
    rw [up_wrap m n (by omega) hm' h (by omega) hL]
    unfold kept
    rw [if_pos (by omega), show (-n).toNat = (e - stepOf m.toNat e).toNat by omega]
  · refine (shift_down m n (by omega) hm' (by omega) w).mono ?_
    rintro e' w' ⟨rfl, rfl⟩
    refine ⟨?_, rfl⟩
    unfold kept
    rw [if_neg (by omega), hn]

theorem join_any (neg : Bool) (m e : Int) (hm : 0 ≤ m) (hm' : m ≤ 18446744073709551615) (w : World) :
    Calls Try.prog 35 #[.bool neg, .int .u64 m, .int .i64 e] w fun e' w' => e' = .returned (.float .f64 (putBits neg (joinRung m.toNat e))) ∧ w' = w := by
  by_cases h0 : m = 0
  · subst h0
    rw [show joinRung (0 : Int).toNat e = 0 by simp [joinRung]]
    exact join_zero neg e w
  by_cases h1 : e < -1139
  · rw [show joinRung m.toNat e = 0 by simp [joinRung, h1]]
    exact join_low neg m e (by omega) h1 w
  by_cases h2 : 1023 < e
  · rw [show joinRung m.toNat e = 9218868437227405312 by unfold joinRung; rw [if_neg (by omega), if_pos h2]]
    exact join_high neg m e (by omega) h2 w
  have hL := ((bitLen_bounds m.toNat (by omega)).2 (by omega)).2
  have hL' := bitLen_le64 m.toNat (by omega)
  have hk := kept_le m.toNat e (by omega)
  have Hl := hide (fun x => len64_any m x (by omega) hm')
  by_cases h3 : e + (Lib.bitLen m.toNat : Int) - 52 - 1 < -1074
  · have hs : stepOf m.toNat e = -1074 := by unfold stepOf; omega
    rw [show ((joinRung m.toNat e : Nat) : Int) = (kept m.toNat e : Int) by
      unfold joinRung; rw [if_neg (by omega), if_neg (by omega), hs]; omega]
    exact join_sub neg m e _ _ (by omega) hm' (by omega) (by omega) hL hL' hk h3 Hl
      (hide (fun x => shift_kept m e _ (by omega) hm' (by omega) (by omega) (by omega) x)) w
  · have hs : stepOf m.toNat e = e + (Lib.bitLen m.toNat : Int) - 53 := by unfold stepOf; omega
    rw [show ((joinRung m.toNat e : Nat) : Int) = min ((e + (Lib.bitLen m.toNat : Int) - 52 - 1 + 1074) * 4503599627370496 + (kept m.toNat e : Int)) 9218868437227405312 by
      unfold joinRung; rw [if_neg (by omega), if_neg (by omega), hs]; omega]
    exact join_norm neg m e _ _ (by omega) hm' (by omega) (by omega) hL hL' hk (by omega) Hl
      (hide (fun x => shift_kept m e _ (by omega) hm' (by omega) (by omega) (by omega) x)) w

end Go.Proofs.Ytmddclgidccnhab
