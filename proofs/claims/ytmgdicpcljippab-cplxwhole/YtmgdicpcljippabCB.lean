/- What math.Ldexp answers of 1 and a small power. -/
import Derived.Test.YtmgdicpcljippabCA
namespace Go.Proofs.Ytmgdicpcljippab
open Go.RowKit

theorem isinf_one (w : World) : Calls Try.prog 19 #[.float .f64 4607182418800017408, .int .i64 0] w fun e w' => e = .returned (.bool false) ∧ w' = w := by
  have h := isinf_any 4607182418800017408 (by decide) w
  rw [show (FloatKind.f64.format.order (4607182418800017408 % 9223372036854775808) 9218868437227405311 == some .gt) = false from (by decide +kernel)] at h
  exact h
theorem isnan_one (w : World) : Calls Try.prog 20 #[.float .f64 4607182418800017408] w fun e w' => e = .returned (.bool false) ∧ w' = w := isnan_no _ (by decide +kernel) w

set_option maxRecDepth 100000 in
set_option maxHeartbeats 1000000 in
theorem normalize_one (w : World) : Calls Try.prog 29 #[.float .f64 4607182418800017408] w fun e w' => e = .returned (.tuple #[.float .f64 4607182418800017408, .int .i64 0]) ∧ w' = w := by
  have Ha := hide (mabs_walk 4607182418800017408 (by decide))
  have o : (FloatKind.f64.format.order (4607182418800017408 % 9223372036854775808) 4503599627370496 == some .lt) = false := (by decide +kernel)
  go_enter Try.func29, Try.ntmps29
  go_wp2_with fail
  refine (unhide Ha _).mono ?_
  rintro e w' ⟨rfl, rfl⟩
  go_wp2
  go_ret2
  exact ⟨rfl, rfl⟩

theorem or_none (z : Int) (h0 : 0 ≤ z) (h1 : z < 18446744073709551616) : bits .or .u64 0 z = z := by
  rw [u64_or _ _ (by omega) (by omega) h0 h1]
  simp
  omega

set_option maxRecDepth 100000 in
set_option maxHeartbeats 1000000 in
theorem ldexp_walk (k : Int) (r : Nat) (h1 : 0 ≤ k) (h2 : k ≤ 60) (hr : floatBits .mul .f64 4607182418800017408 (bits .or .u64 0 ((k + 1023) * 4503599627370496)).toNat = some r) (w : World) : Calls Try.prog 17 #[.float .f64 4607182418800017408, .int .i64 k] w fun e w' => e = .returned (.float .f64 r) ∧ w' = w := by
  have hx := run_bits
  have hy := run_frombits
  have o : (FloatKind.f64.format.order 4607182418800017408 0 == some .eq) = false := (by decide +kernel)
  have b1 : bits .and .i64 1023 2047 = 1023 := by decide
  have b2 : bits .andNot .u64 4607182418800017408 9218868437227405312 = 0 := by decide
  have k1 := run_fl hr
  clear hr
  go_enter Try.func17, Try.ntmps17
  go_wp2_with fail
  refine (isinf_one _).mono ?_
  rintro e w' ⟨rfl, rfl⟩
  go_wp2_with fail
  refine (isnan_one _).mono ?_
  rintro e w' ⟨rfl, rfl⟩
  go_wp2_with fail
  refine (normalize_one _).mono ?_
  rintro e w' ⟨rfl, rfl⟩
  go_wp2
  go_ret
  exact ⟨rfl, rfl⟩

theorem or_exp (k : Int) (h1 : 0 ≤ k) (h2 : k ≤ 60) : (bits .or .u64 0 ((k + 1023) * 4503599627370496)).toNat = (k.toNat + 1023) * 4503599627370496 := by
  rw [or_none _ (by omega) (by omega)]
  omega

set_option maxRecDepth 100000 in
set_option maxHeartbeats 1000000 in
theorem mldexp_walk (k : Int) (r : Nat) (H : ∀ w, Calls Try.prog 17 #[.float .f64 4607182418800017408, .int .i64 k] w fun e w' => e = .returned (.float .f64 r) ∧ w' = w) (w : World) : Calls Try.prog 6 #[.float .f64 4607182418800017408, .int .i64 k] w fun e w' => e = .returned (.float .f64 r) ∧ w' = w := by
  have Hl := hide H
  clear H
  go_enter Try.func6, Try.ntmps6
  go_wp2_with fail
  refine (unhide Hl _).mono ?_
  rintro e w' ⟨rfl, rfl⟩
  go_wp2
  go_ret
  exact ⟨rfl, rfl⟩

/-- Two to the power k. -/
theorem ldexp_is (k : Int) (h1 : 0 ≤ k) (h2 : k ≤ 60) : ∃ r, (∀ w, Calls Try.prog 6 #[.float .f64 4607182418800017408, .int .i64 k] w fun e w' => e = .returned (.float .f64 r) ∧ w' = w) ∧ Is r (p2 k.toNat) := by
  have hp := is_pow k.toNat (by omega)
  rw [← or_exp k h1 h2] at hp
  obtain ⟨r, e, hr⟩ := mulE is_one hp (Rat.one_mul _).symm (ex_pow _ (by omega)) (sm_pow _ (by omega))
  exact ⟨r, mldexp_walk k r (ldexp_walk k r h1 h2 e), hr⟩

end Go.Proofs.Ytmgdicpcljippab
