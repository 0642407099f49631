/- What QuantFixed's calls answer, each at its numbers. -/
import Derived.Test.YtlajalfdcfkmpabQw
import Derived.Test.YtlajalfdcfkmpabQu
import Derived.Test.YtlajalfdcfkmpabQh
namespace Go.Proofs.Ytlajalfdcfkmpab
open Go.RowKit

theorem fix_half (w : World) : Calls Try.prog 6 #[.float .f64 4602678819172646912, .int .i64 1] w fun e w' => e = .returned (.tuple #[.int .i64 1, .bool false, .int .i64 0]) ∧ w' = w := by
  have h := fix_fin 4602678819172646912 (by decide) (by decide) 1 (by decide) w
  rw [show kp (fixN 4602678819172646912 1) = 1 by decide +kernel, show offB (fixN 4602678819172646912 1) = false by decide +kernel] at h
  exact h
theorem fix_mquarter (w : World) : Calls Try.prog 6 #[.float .f64 13821547256400052224, .int .i64 1] w fun e w' => e = .returned (.tuple #[.int .i64 0, .bool false, .int .i64 0]) ∧ w' = w := by
  have h := fix_fin 13821547256400052224 (by decide) (by decide) 1 (by decide) w
  rw [show kp (fixN 13821547256400052224 1) = 0 by decide +kernel, show offB (fixN 13821547256400052224 1) = false by decide +kernel] at h
  exact h
theorem fix_mthree (w : World) : Calls Try.prog 6 #[.float .f64 13828302655841107968, .int .i64 1] w fun e w' => e = .returned (.tuple #[.int .i64 (-2), .bool false, .int .i64 0]) ∧ w' = w := by
  have h := fix_fin 13828302655841107968 (by decide) (by decide) 1 (by decide) w
  rw [show kp (fixN 13828302655841107968 1) = (-2) by decide +kernel, show offB (fixN 13828302655841107968 1) = false by decide +kernel] at h
  exact h
theorem fix_great (w : World) : Calls Try.prog 6 #[.float .f64 9094988921128908188, .int .i64 1] w fun e w' => e = .returned (.tuple #[.int .i64 2147483647, .bool true, .int .i64 0]) ∧ w' = w := by
  have h := fix_fin 9094988921128908188 (by decide) (by decide) 1 (by decide) w
  rw [show kp (fixN 9094988921128908188 1) = 2147483647 by decide +kernel, show offB (fixN 9094988921128908188 1) = true by decide +kernel] at h
  exact h
theorem fix_mgreat (w : World) : Calls Try.prog 6 #[.float .f64 18318360957983683996, .int .i64 1] w fun e w' => e = .returned (.tuple #[.int .i64 (-2147483648), .bool true, .int .i64 0]) ∧ w' = w := by
  have h := fix_fin 18318360957983683996 (by decide) (by decide) 1 (by decide) w
  rw [show kp (fixN 18318360957983683996 1) = (-2147483648) by decide +kernel, show offB (fixN 18318360957983683996 1) = true by decide +kernel] at h
  exact h
theorem fix_one31 (w : World) : Calls Try.prog 6 #[.float .f64 4607182418800017408, .int .i64 31] w fun e w' => e = .returned (.tuple #[.int .i64 2147483647, .bool true, .int .i64 0]) ∧ w' = w := by
  have h := fix_fin 4607182418800017408 (by decide) (by decide) 31 (by decide) w
  rw [show kp (fixN 4607182418800017408 31) = 2147483647 by decide +kernel, show offB (fixN 4607182418800017408 31) = true by decide +kernel] at h
  exact h
theorem fix_mone31 (w : World) : Calls Try.prog 6 #[.float .f64 13830554455654793216, .int .i64 31] w fun e w' => e = .returned (.tuple #[.int .i64 (-2147483648), .bool false, .int .i64 0]) ∧ w' = w := by
  have h := fix_fin 13830554455654793216 (by decide) (by decide) 31 (by decide) w
  rw [show kp (fixN 13830554455654793216 31) = (-2147483648) by decide +kernel, show offB (fixN 13830554455654793216 31) = false by decide +kernel] at h
  exact h
theorem fix_nought31 (w : World) : Calls Try.prog 6 #[.float .f64 0, .int .i64 31] w fun e w' => e = .returned (.tuple #[.int .i64 0, .bool false, .int .i64 0]) ∧ w' = w := by
  have h := fix_fin 0 (by decide) (by decide) 31 (by decide) w
  rw [show kp (fixN 0 31) = 0 by decide +kernel, show offB (fixN 0 31) = false by decide +kernel] at h
  exact h
theorem fix_two31 (w : World) : Calls Try.prog 6 #[.float .f64 4611686018427387904, .int .i64 31] w fun e w' => e = .returned (.tuple #[.int .i64 2147483647, .bool true, .int .i64 0]) ∧ w' = w := by
  have h := fix_fin 4611686018427387904 (by decide) (by decide) 31 (by decide) w
  rw [show kp (fixN 4611686018427387904 31) = 2147483647 by decide +kernel, show offB (fixN 4611686018427387904 31) = true by decide +kernel] at h
  exact h
theorem back_three (w : World) : Calls Try.prog 8 #[.int .i64 3, .int .i64 1] w fun e w' => e = .returned (.tuple #[.float .f64 4609434218613702656, .int .i64 0]) ∧ w' = w := by
  have h := back_any 3 1 (by unfold i64; omega) (by decide) w
  rw [show putBits (decide ((3 : Int) < 0)) (joinRung (3 : Int).natAbs (-1)) = 4609434218613702656 by decide +kernel] at h
  exact h
theorem back_most (w : World) : Calls Try.prog 8 #[.int .i64 9223372036854775807, .int .i64 1] w fun e w' => e = .returned (.tuple #[.float .f64 4886405595696988160, .int .i64 0]) ∧ w' = w := by
  have h := back_any 9223372036854775807 1 (by unfold i64; omega) (by decide) w
  rw [show putBits (decide ((9223372036854775807 : Int) < 0)) (joinRung (9223372036854775807 : Int).natAbs (-1)) = 4886405595696988160 by decide +kernel] at h
  exact h
theorem back_least (w : World) : Calls Try.prog 8 #[.int .i64 (-1), .int .i64 31] w fun e w' => e = .returned (.tuple #[.float .f64 13690942867206307840, .int .i64 0]) ∧ w' = w := by
  have h := back_any (-1) 31 (by unfold i64; omega) (by decide) w
  rw [show putBits (decide ((-1 : Int) < 0)) (joinRung (-1 : Int).natAbs (-31)) = 13690942867206307840 by decide +kernel] at h
  exact h
set_option maxHeartbeats 1000000 in
theorem back_arg (w : World) : Calls Try.prog 8 #[.int .i64 0, .int .i64 0] w fun e w' => e = .returned (.tuple #[.float .f64 0, .int .i64 1]) ∧ w' = w := by
  have Hf := hide (fits_any 0)
  rw [show fitsB 0 = false by decide] at Hf
  go_enter Try.func8, Try.ntmps8
  go_wp2_with fail
  refine (unhide Hf _).mono ?_
  rintro e w' ⟨rfl, rfl⟩
  go_wp2
  go_ret2
  exact ⟨rfl, rfl⟩
set_option maxHeartbeats 1000000 in
theorem nan_any (w : World) : Calls Try.prog 7 #[] w fun e w' => e = .returned (.float .f64 9221120237041090561) ∧ w' = w := by
  have hy := run_frombits
  go_enter Try.func7, Try.ntmps7
  go_wp2
  go_ret
  exact ⟨rfl, rfl⟩
set_option maxHeartbeats 1000000 in
theorem abs_any (b : Nat) (hb : b < 18446744073709551616) (w : World) :
    Calls Try.prog 55 #[.float .f64 b] w fun e w' => e = .returned (.float .f64 (b % 9223372036854775808)) ∧ w' = w := by
  have hx := run_bits
  have hy := run_frombits
  have Hk : Hid ((bits .andNot .u64 (b : Int) 9223372036854775808).toNat = b % 9223372036854775808) := by
    show _ = _
    rw [u64_andNot _ _ (by omega) (by omega) (by omega) (by omega)]
    rw [show 18446744073709551615 - (9223372036854775808 : Int).toNat = 2 ^ 63 - 1 by decide, Int.toNat_natCast, Nat.and_two_pow_sub_one_eq_mod]
    rfl
  clear hb
  go_enter Try.func55, Try.ntmps55
  go_wp2
  go_ret
  rw [← unhide Hk]
  exact ⟨rfl, rfl⟩
/-- Is it no number? -/
def isnanB (b : Nat) : Bool := !(FloatKind.f64.format.order b b == some .eq)
set_option maxHeartbeats 1000000 in
theorem isnan_one (w : World) : Calls Try.prog 41 #[.float .f64 4607182418800017408] w fun e w' => e = .returned (.bool false) ∧ w' = w := by
  have h : (FloatKind.f64.format.order 4607182418800017408 4607182418800017408 == some .eq) = true := by kernel_rfl
  go_enter Try.func41, Try.ntmps41
  go_wp2
  go_ret
  exact ⟨rfl, rfl⟩
set_option maxHeartbeats 1000000 in
theorem isinf_one0 (w : World) : Calls Try.prog 40 #[.float .f64 4607182418800017408, .int .i64 0] w fun e w' => e = .returned (.bool false) ∧ w' = w := by
  have h : (FloatKind.f64.format.order 4607182418800017408 9218868437227405311 == some .gt) = false := by kernel_rfl
  have Ha := hide (abs_any 4607182418800017408 (by omega))
  go_enter Try.func40, Try.ntmps40
  go_wp2_with fail
  refine (unhide Ha _).mono ?_
  rintro e w' ⟨rfl, rfl⟩
  go_wp2
  go_ret
  exact ⟨rfl, rfl⟩
set_option maxHeartbeats 1000000 in
theorem normal_one (w : World) : Calls Try.prog 42 #[.float .f64 4607182418800017408] w fun e w' => e = .returned (.tuple #[.float .f64 4607182418800017408, .int .i64 0]) ∧ w' = w := by
  have h : (FloatKind.f64.format.order 4607182418800017408 4503599627370496 == some .lt) = false := by kernel_rfl
  have Ha := hide (abs_any 4607182418800017408 (by omega))
  go_enter Try.func42, Try.ntmps42
  go_wp2_with fail
  refine (unhide Ha _).mono ?_
  rintro e w' ⟨rfl, rfl⟩
  go_wp2
  go_ret2
  exact ⟨rfl, rfl⟩
set_option maxRecDepth 100000 in
set_option maxHeartbeats 1000000 in
theorem ldexp_in62 (w : World) : Calls Try.prog 24 #[.float .f64 4607182418800017408, .int .i64 62] w fun e w' => e = .returned (.float .f64 4886405595696988160) ∧ w' = w := by
  have hx := run_bits
  have hy := run_frombits
  have h0 : (FloatKind.f64.format.order 4607182418800017408 0 == some .eq) = false := by kernel_rfl
  have q1 : bits .and .i64 1023 2047 = 1023 := by decide
  have q2 : bits .andNot .u64 4607182418800017408 9218868437227405312 = 0 := by decide
  have q3 : bits .or .u64 0 4886405595696988160 = 4886405595696988160 := by decide
  have hm : ∀ w, (binOp .mul 23 (.float .f64 4607182418800017408) (.float .f64 4886405595696988160)).run Try.prog w = .ok (.float .f64 4886405595696988160) w := fun w => run_float_arith w .mul _ .f64 4607182418800017408 4886405595696988160 4886405595696988160 (by kernel_rfl)
  go_enter Try.func24, Try.ntmps24
  go_wp2_with fail
  refine (isinf_one0 _).mono ?_
  rintro e w' ⟨rfl, rfl⟩
  go_wp2_with fail
  refine (isnan_one _).mono ?_
  rintro e w' ⟨rfl, rfl⟩
  go_wp2_with fail
  refine (normal_one _).mono ?_
  rintro e w' ⟨rfl, rfl⟩
  go_wp2
  go_ret
  exact ⟨rfl, rfl⟩
set_option maxHeartbeats 1000000 in
theorem ldexp_62 (w : World) : Calls Try.prog 9 #[.float .f64 4607182418800017408, .int .i64 62] w fun e w' => e = .returned (.float .f64 4886405595696988160) ∧ w' = w := by
  go_enter Try.func9, Try.ntmps9
  go_wp2_with fail
  refine (ldexp_in62 _).mono ?_
  rintro e w' ⟨rfl, rfl⟩
  go_wp2
  go_ret
  exact ⟨rfl, rfl⟩
set_option maxRecDepth 100000 in
set_option maxHeartbeats 1000000 in
theorem ldexp_inm31 (w : World) : Calls Try.prog 24 #[.float .f64 4607182418800017408, .int .i64 (-31)] w fun e w' => e = .returned (.float .f64 4467570830351532032) ∧ w' = w := by
  have hx := run_bits
  have hy := run_frombits
  have h0 : (FloatKind.f64.format.order 4607182418800017408 0 == some .eq) = false := by kernel_rfl
  have q1 : bits .and .i64 1023 2047 = 1023 := by decide
  have q2 : bits .andNot .u64 4607182418800017408 9218868437227405312 = 0 := by decide
  have q3 : bits .or .u64 0 4467570830351532032 = 4467570830351532032 := by decide
  have hm : ∀ w, (binOp .mul 23 (.float .f64 4607182418800017408) (.float .f64 4467570830351532032)).run Try.prog w = .ok (.float .f64 4467570830351532032) w := fun w => run_float_arith w .mul _ .f64 4607182418800017408 4467570830351532032 4467570830351532032 (by kernel_rfl)
  go_enter Try.func24, Try.ntmps24
  go_wp2_with fail
  refine (isinf_one0 _).mono ?_
  rintro e w' ⟨rfl, rfl⟩
  go_wp2_with fail
  refine (isnan_one _).mono ?_
  rintro e w' ⟨rfl, rfl⟩
  go_wp2_with fail
  refine (normal_one _).mono ?_
  rintro e w' ⟨rfl, rfl⟩
  go_wp2
  go_ret
  exact ⟨rfl, rfl⟩
set_option maxHeartbeats 1000000 in
theorem ldexp_m31 (w : World) : Calls Try.prog 9 #[.float .f64 4607182418800017408, .int .i64 (-31)] w fun e w' => e = .returned (.float .f64 4467570830351532032) ∧ w' = w := by
  go_enter Try.func9, Try.ntmps9
  go_wp2_with fail
  refine (ldexp_inm31 _).mono ?_
  rintro e w' ⟨rfl, rfl⟩
  go_wp2
  go_ret
  exact ⟨rfl, rfl⟩
set_option maxHeartbeats 1000000 in
theorem copysign_0 (w : World) : Calls Try.prog 11 #[.float .f64 0, .float .f64 13830554455654793216] w fun e w' => e = .returned (.float .f64 9223372036854775808) ∧ w' = w := by
  have hx := run_bits
  have hy := run_frombits
  have q1 : bits .andNot .u64 0 9223372036854775808 = 0 := by decide
  have q2 : bits .and .u64 13830554455654793216 9223372036854775808 = 9223372036854775808 := by decide
  have q3 : bits .or .u64 0 9223372036854775808 = 9223372036854775808 := by decide
  go_enter Try.func11, Try.ntmps11
  go_wp2
  go_ret
  exact ⟨rfl, rfl⟩
set_option maxRecDepth 100000 in
set_option maxHeartbeats 1000000 in
theorem cof_any (a b : Nat) (ha : a < 18446744073709551616) (hb : b < 18446744073709551616) (w : World) :
    Calls Try.prog 56 #[.complex .f64 a b] w fun e w' => e = .returned (.int .i64 (max (cls a) (cls b))) ∧ w' = w := by
  have Ha := hide (of_any a ha)
  have Hb := hide (of_any b hb)
  clear ha hb
  go_enter Try.func56, Try.ntmps56
  go_wp2_with fail
  refine (unhide Ha _).mono ?_
  rintro e w' ⟨rfl, rfl⟩
  go_wp2_with fail
  refine (unhide Hb _).mono ?_
  rintro e w' ⟨rfl, rfl⟩
  go_wp2
  all_goals go_ret
  all_goals refine ⟨?_, rfl⟩
  · rw [Int.max_eq_right (by omega)]; rfl
  · rw [Int.max_eq_left (by omega)]; rfl
set_option maxRecDepth 100000 in
set_option maxHeartbeats 1000000 in
theorem finite_any (a b : Nat) (ha : a < 18446744073709551616) (hb : b < 18446744073709551616) (w : World) :
    Calls Try.prog 44 #[.complex .f64 a b] w fun e w' => e = .returned (.bool (decide (max (cls a) (cls b) < 3))) ∧ w' = w := by
  have Ha := hide (cof_any a b ha hb)
  clear ha hb
  go_enter Try.func44, Try.ntmps44
  go_wp2_with fail
  refine (unhide Ha _).mono ?_
  rintro e w' ⟨rfl, rfl⟩
  go_wp2
  go_ret
  exact ⟨rfl, rfl⟩
theorem finite_yes (a b : Nat) (ha : a < 18446744073709551616) (hb : b < 18446744073709551616) (h : max (cls a) (cls b) < 3) (w : World) :
    Calls Try.prog 44 #[.complex .f64 a b] w fun e w' => e = .returned (.bool true) ∧ w' = w := by
  have := finite_any a b ha hb w
  rw [decide_eq_true h] at this
  exact this
/-- A finite number. -/
def FinV (u : Value) : Prop := ∃ r i, u = .complex .f64 r i ∧ r < 18446744073709551616 ∧ i < 18446744073709551616 ∧ max (cls r) (cls i) < 3

set_option maxRecDepth 100000 in
set_option maxHeartbeats 1000000 in
theorem nfinite_any (A off m c : Nat) (hm : m ≤ 1000000) (w : World) (h : ∀ j, j < m → ∃ u, w.cell? ⟨A, off + j, none⟩ = some u ∧ FinV u) :
    Calls Try.prog 26 #[.slice (some ⟨A, off, none⟩) m c] w fun e w' => e = .returned (.bool true) ∧ w' = w := by
  have H := hide h
  clear h
  go_enter Try.func26, Try.ntmps26
  go_wp2_with fail
  go_loopw [7] (fun i wr => ∃ k : Nat, k ≤ m ∧ i = .int .i64 k ∧ wr = w) (fun i _ => m - (intOf i).toNat)
  case atStart => exact ⟨0, Nat.zero_le _, rfl, rfl⟩
  case round =>
    obtain ⟨k, hk, rfl, rfl⟩ := hrel
    by_cases hkm : k < m
    · have hkm' : (k : Int) < (m : Int) := by omega
      obtain ⟨u, hu, r, i, rfl, hr, hi, hf⟩ := unhide H k hkm
      have Hf := hide (finite_yes r i hr hi hf)
      clear hr hi hf
      go_wp2_with fail
      refine (unhide Hf _).mono ?_
      rintro e w' ⟨rfl, rfl⟩
      go_wp2
      go_roundw
      case rel => exact ⟨k + 1, by omega, by go_num, trivial⟩
      case measure => simp [intOf]; omega
    · have : k = m := by omega
      subst this
      go_wp2
      go_ret
      exact ⟨rfl, rfl⟩

set_option maxRecDepth 100000 in
set_option maxHeartbeats 1000000 in
theorem coeff_any (b0 b0' b1 b1' b2 b2' a1 a1' a2 a2' : Nat) (w : World) :
    Calls Try.prog 25 #[.agg #[.complex .f64 b0 b0', .complex .f64 b1 b1', .complex .f64 b2 b2', .complex .f64 a1 a1', .complex .f64 a2 a2']] w
      fun e w' => ∃ A, e = .returned (.slice (some ⟨A, 0, none⟩) 5 5) ∧ w'.rangeAt A 0 [.complex .f64 b0 b0', .complex .f64 b1 b1', .complex .f64 b2 b2', .complex .f64 a1 a1', .complex .f64 a2 a2'] ∧ Below w.heap.size w w' ∧ w.heap.size < A := by
  go_enter Try.func25, Try.ntmps25
  go_wp2
  go_ret
  refine ⟨w.heap.size + 1, rfl, ?_, ?_, by omega⟩
  · intro j v hv
    have hj : j < 5 := (List.getElem?_eq_some_iff.1 hv).1
    rcases (by omega : j = 0 ∨ j = 1 ∨ j = 2 ∨ j = 3 ∨ j = 4) with rfl | rfl | rfl | rfl | rfl <;> (obtain rfl := Option.some.inj hv; go_simp)
  · exact ((Below.refl _ _).alloc (Nat.le_refl _) _).alloc (by simp) _

/-- A number that is not finite. -/
def NotFin (u : Value) : Prop := ∃ r i, u = .complex .f64 r i ∧ r < 18446744073709551616 ∧ i < 18446744073709551616 ∧ ¬ max (cls r) (cls i) < 3
theorem finite_no (a b : Nat) (ha : a < 18446744073709551616) (hb : b < 18446744073709551616) (h : ¬ max (cls a) (cls b) < 3) (w : World) :
    Calls Try.prog 44 #[.complex .f64 a b] w fun e w' => e = .returned (.bool false) ∧ w' = w := by
  have := finite_any a b ha hb w
  rw [decide_eq_false h] at this
  exact this
set_option maxRecDepth 100000 in
set_option maxHeartbeats 1000000 in
theorem nfinite_no (A m c k0 : Nat) (hm : m ≤ 1000) (hk0 : k0 < m) (w : World) (h : ∀ j, j < k0 → ∃ u, w.cell? ⟨A, j, none⟩ = some u ∧ FinV u) (hbad : ∃ u, w.cell? ⟨A, k0, none⟩ = some u ∧ NotFin u) :
    Calls Try.prog 26 #[.slice (some ⟨A, 0, none⟩) m c] w fun e w' => e = .returned (.bool false) ∧ w' = w := by
  have H := hide h
  have HB := hide hbad
  clear h hbad
  go_enter Try.func26, Try.ntmps26
  go_wp2_with fail
  go_loopw [7] (fun i wr => ∃ k : Nat, k ≤ k0 ∧ i = .int .i64 k ∧ wr = w) (fun i _ => m - (intOf i).toNat)
  case atStart => exact ⟨0, Nat.zero_le _, rfl, rfl⟩
  case round =>
    obtain ⟨k, hk, rfl, rfl⟩ := hrel
    have hkm' : (k : Int) < (m : Int) := by omega
    by_cases hkk : k < k0
    · obtain ⟨u, hu, r, i, rfl, hr, hi, hf⟩ := unhide H k hkk
      have Hf := hide (finite_yes r i hr hi hf)
      clear hr hi hf
      go_wp2_with fail
      refine (unhide Hf _).mono ?_
      rintro e w' ⟨rfl, rfl⟩
      go_wp2
      go_roundw
      case rel => exact ⟨k + 1, by omega, by go_num, trivial⟩
      case measure => simp [intOf]; omega
    · have : k = k0 := by omega
      subst this
      obtain ⟨u, hu, r, i, rfl, hr, hi, hf⟩ := unhide HB
      have Hf := hide (finite_no r i hr hi hf)
      clear hr hi hf
      go_wp2_with fail
      refine (unhide Hf _).mono ?_
      rintro e w' ⟨rfl, rfl⟩
      go_wp2
      go_ret
      exact ⟨rfl, rfl⟩
end Go.Proofs.Ytlajalfdcfkmpab
