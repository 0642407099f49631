/- What package cplx's products answer, and the functions of package math that its functions call, by the bits of the parts. -/
import Derived.Test.YtmgdicpcljippabRows
import Derived.Test.YtmgdicpcljippabNum
import Derived.Test.YtmgdicpcljippabFloD
import Derived.Laws.Externs
import Derived.Laws.ComplexArith
namespace Go.Proofs.Ytmgdicpcljippab
open Go.RowKit

theorem run_bits (b : Nat) (w : World) : (callFunc 24 #[.float .f64 b]).run Try.prog w = .ok (.value (.int .u64 b)) w := by
  rw [run_callFunc_extern Try.func24 (by kernel_rfl) (by kernel_rfl) (by kernel_rfl) (e := Extern.MathFloatBits.float64bits) (by kernel_rfl)]
  rfl
theorem run_frombits (n : Int) (w : World) : (callFunc 23 #[.int .u64 n]).run Try.prog w = .ok (.value (.float .f64 n.toNat)) w := by
  rw [run_callFunc_extern Try.func23 (by kernel_rfl) (by kernel_rfl) (by kernel_rfl) (e := Extern.MathFloatBits.float64frombits) (by kernel_rfl)]
  rfl
theorem run_sqrt (b r : Nat) (h : Ieee.double.sqrt b = some r) (w : World) : (callFunc 31 #[.float .f64 b]).run Try.prog w = .ok (.value (.float .f64 r)) w := by
  rw [run_callFunc_extern Try.func31 (by kernel_rfl) (by kernel_rfl) (by kernel_rfl) (e := Extern.MathSqrt.sqrt) (by kernel_rfl)]
  have e : Extern.MathSqrt.sqrt #[.float .f64 b] = (match Ieee.double.sqrt b with
    | some r => pure (.float .f64 r)
    | none => do pure (.float .f64 (← choose (.nanBits .f64 b b)))) := rfl
  rw [e, h]
  rfl
theorem run_same (b : Nat) (w : World) : (convert 24 24 (.float .f64 b)).run Try.prog w = .ok (.float .f64 b) w :=
  run_convert_float_float w _ _ .f64 .f64 b b (by rw [Try.underlying24]; rfl) Try.underlying24 rfl

set_option maxRecDepth 100000 in
set_option maxHeartbeats 1000000 in
theorem mul_walk (a b c d p q r s re im : Nat) (w0 w1 w2 w3 w4 w5 w6 : World)
    (k1 : (binOp .mul 24 (.float .f64 a) (.float .f64 c)).run Try.prog w0 = .ok (.float .f64 p) w1)
    (k2 : (binOp .mul 24 (.float .f64 b) (.float .f64 d)).run Try.prog w1 = .ok (.float .f64 q) w2)
    (k3 : (binOp .sub 24 (.float .f64 p) (.float .f64 q)).run Try.prog w2 = .ok (.float .f64 re) w3)
    (k4 : (binOp .mul 24 (.float .f64 a) (.float .f64 d)).run Try.prog w3 = .ok (.float .f64 r) w4)
    (k5 : (binOp .mul 24 (.float .f64 b) (.float .f64 c)).run Try.prog w4 = .ok (.float .f64 s) w5)
    (k6 : (binOp .add 24 (.float .f64 r) (.float .f64 s)).run Try.prog w5 = .ok (.float .f64 im) w6) :
    Calls Try.prog 5 #[.complex .f64 a b, .complex .f64 c d] w0 fun e w' => e = .returned (.complex .f64 re im) ∧ w' = w6 := by
  have hs := run_same
  go_enter Try.func5, Try.ntmps5
  go_wp2
  go_ret
  exact ⟨rfl, rfl⟩

set_option maxRecDepth 100000 in
set_option maxHeartbeats 1000000 in
theorem scale_walk (x a b p q : Nat) (w0 w1 w2 : World)
    (k1 : (binOp .mul 24 (.float .f64 x) (.float .f64 a)).run Try.prog w0 = .ok (.float .f64 p) w1)
    (k2 : (binOp .mul 24 (.float .f64 x) (.float .f64 b)).run Try.prog w1 = .ok (.float .f64 q) w2) :
    Calls Try.prog 8 #[.float .f64 x, .complex .f64 a b] w0 fun e w' => e = .returned (.complex .f64 p q) ∧ w' = w2 := by
  have hs := run_same
  go_enter Try.func8, Try.ntmps8
  go_wp2
  go_ret
  exact ⟨rfl, rfl⟩

theorem andNot_sign (b : Nat) (hb : b < 18446744073709551616) : (bits .andNot .u64 (b : Int) 9223372036854775808).toNat = b % 9223372036854775808 := by
  rw [u64_andNot _ _ (by omega) (by omega) (by omega) (by omega)]
  rw [show 18446744073709551615 - (9223372036854775808 : Int).toNat = 2 ^ 63 - 1 by decide, Int.toNat_natCast, Nat.and_two_pow_sub_one_eq_mod]
  rfl

set_option maxRecDepth 100000 in
set_option maxHeartbeats 1000000 in
theorem mabs_walk (b : Nat) (hb : b < 18446744073709551616) (w : World) :
    Calls Try.prog 10 #[.float .f64 b] w fun e w' => e = .returned (.float .f64 (b % 9223372036854775808)) ∧ w' = w := by
  have hx := run_bits
  have hy := run_frombits
  have Hk := hide (andNot_sign b hb)
  clear hb
  go_enter Try.func10, Try.ntmps10
  go_wp2
  go_ret
  rw [← unhide Hk]
  exact ⟨rfl, rfl⟩

set_option maxHeartbeats 400000 in
theorem take_any (b : Nat) (hb : b < 18446744073709551616) (w : World) :
    Calls Try.prog 32 #[.float .f64 b] w fun e w' => e = .returned (.tuple #[.bool (ng b), .int .i64 (pw b), .int .u64 (fr b)]) ∧ w' = w := by
  have h1 := and_sign_ne b hb
  have h2 := and_power b hb
  have h3 := and_fraction b hb
  have Hf := hide (And.intro h1 (And.intro h2 h3))
  clear h1 h2 h3 hb
  have hx := run_bits
  go_enter Try.func32, Try.ntmps32
  go_wp2
  go_ret3
  obtain ⟨h1, h2, h3⟩ := unhide Hf
  rw [← h1, ← h2, ← h3]
  exact ⟨rfl, rfl⟩

theorem cls0 (b : Nat) (h1 : ((pw b : Int) == 0) = true) (h2 : ((fr b : Int) == 0) = true) : cls b = 0 := by
  simp at h1 h2; simp [cls, h1, h2]
theorem cls1 (b : Nat) (h1 : ((pw b : Int) == 0) = true) (h2 : ((fr b : Int) == 0) = false) : cls b = 1 := by
  simp at h1 h2; simp [cls, h1, h2]
theorem cls2 (b : Nat) (h1 : ((pw b : Int) == 0) = false) (h2 : (pw b : Int) < 2047) : cls b = 2 := by
  simp at h1; simp [cls, h1]; omega
theorem cls3 (b : Nat) (h1 : ((pw b : Int) == 0) = false) (h2 : ¬ (pw b : Int) < 2047) (h3 : ((fr b : Int) == 0) = true) : cls b = 3 := by
  simp at h1 h3; simp [cls, h1, h3]; omega
theorem cls4 (b : Nat) (h1 : ((pw b : Int) == 0) = false) (h2 : ¬ (pw b : Int) < 2047) (h3 : ((fr b : Int) == 0) = false) : cls b = 4 := by
  simp at h1 h3; simp [cls, h1, h3]; omega

set_option maxRecDepth 100000 in
set_option maxHeartbeats 1000000 in
theorem of_any (b : Nat) (hb : b < 18446744073709551616) (w : World) :
    Calls Try.prog 27 #[.float .f64 b] w fun e w' => e = .returned (.int .i64 (cls b)) ∧ w' = w := by
  have hc := take_any b hb
  have Hc := hide hc
  clear hc hb
  cases h1 : ((pw b : Int) == 0)
  · by_cases h2 : (pw b : Int) < 2047
    · have Hk := hide (cls2 b h1 h2)
      go_enter Try.func27, Try.ntmps27
      go_wp2_with fail
      refine (unhide Hc _).mono ?_
      rintro e w' ⟨rfl, rfl⟩
      go_wp2
      go_ret
      rw [unhide Hk]
      exact ⟨rfl, rfl⟩
    · cases h3 : ((fr b : Int) == 0)
      · have Hk := hide (cls4 b h1 h2 h3)
        go_enter Try.func27, Try.ntmps27
        go_wp2_with fail
        refine (unhide Hc _).mono ?_
        rintro e w' ⟨rfl, rfl⟩
        go_wp2
        go_ret
        rw [unhide Hk]
        exact ⟨rfl, rfl⟩
      · have Hk := hide (cls3 b h1 h2 h3)
        go_enter Try.func27, Try.ntmps27
        go_wp2_with fail
        refine (unhide Hc _).mono ?_
        rintro e w' ⟨rfl, rfl⟩
        go_wp2
        go_ret
        rw [unhide Hk]
        exact ⟨rfl, rfl⟩
  · cases h3 : ((fr b : Int) == 0)
    · have Hk := hide (cls1 b h1 h3)
      go_enter Try.func27, Try.ntmps27
      go_wp2_with fail
      refine (unhide Hc _).mono ?_
      rintro e w' ⟨rfl, rfl⟩
      go_wp2
      go_ret
      rw [unhide Hk]
      exact ⟨rfl, rfl⟩
    · have Hk := hide (cls0 b h1 h3)
      go_enter Try.func27, Try.ntmps27
      go_wp2_with fail
      refine (unhide Hc _).mono ?_
      rintro e w' ⟨rfl, rfl⟩
      go_wp2
      go_ret
      rw [unhide Hk]
      exact ⟨rfl, rfl⟩

set_option maxRecDepth 100000 in
set_option maxHeartbeats 1000000 in
theorem isinf_pos (b : Nat) (w : World) :
    Calls Try.prog 19 #[.float .f64 b, .int .i64 1] w fun e w' => e = .returned (.bool (FloatKind.f64.format.order b 9218868437227405311 == some .gt)) ∧ w' = w := by
  go_enter Try.func19, Try.ntmps19
  go_wp2
  go_ret
  exact ⟨rfl, rfl⟩

set_option maxRecDepth 100000 in
set_option maxHeartbeats 1000000 in
theorem isinf_any (b : Nat) (hb : b < 18446744073709551616) (w : World) :
    Calls Try.prog 19 #[.float .f64 b, .int .i64 0] w fun e w' => e = .returned (.bool (FloatKind.f64.format.order (b % 9223372036854775808) 9218868437227405311 == some .gt)) ∧ w' = w := by
  have Ha := hide (mabs_walk b hb)
  clear hb
  go_enter Try.func19, Try.ntmps19
  go_wp2_with fail
  refine (unhide Ha _).mono ?_
  rintro e w' ⟨rfl, rfl⟩
  go_wp2
  go_ret
  exact ⟨rfl, rfl⟩

set_option maxRecDepth 100000 in
set_option maxHeartbeats 1000000 in
theorem isnan_walk (b : Nat) (w : World) :
    Calls Try.prog 20 #[.float .f64 b] w fun e w' => e = .returned (.bool (FloatKind.f64.format.order b b != some .eq)) ∧ w' = w := by
  go_enter Try.func20, Try.ntmps20
  go_wp2
  go_ret
  exact ⟨rfl, rfl⟩

set_option maxRecDepth 100000 in
set_option maxHeartbeats 1000000 in
theorem msqrt_walk (b r : Nat) (h : Ieee.double.sqrt b = some r) (w : World) :
    Calls Try.prog 22 #[.float .f64 b] w fun e w' => e = .returned (.float .f64 r) ∧ w' = w := by
  have hx := run_sqrt b r h
  clear h
  go_enter Try.func22, Try.ntmps22
  go_wp2
  go_ret
  exact ⟨rfl, rfl⟩

set_option maxRecDepth 100000 in
set_option maxHeartbeats 1000000 in
theorem sizes_lt (a b : Nat) (ha : a < 18446744073709551616) (hb : b < 18446744073709551616) (h : (FloatKind.f64.format.order (a % 9223372036854775808) (b % 9223372036854775808) == some .lt) = true) (w : World) :
    Calls Try.prog 18 #[.complex .f64 a b] w fun e w' => e = .returned (.tuple #[.float .f64 (b % 9223372036854775808), .float .f64 (a % 9223372036854775808)]) ∧ w' = w := by
  have Ha := hide (mabs_walk a ha)
  have Hb := hide (mabs_walk b hb)
  clear ha hb
  go_enter Try.func18, Try.ntmps18
  go_wp2_with fail
  refine (unhide Ha _).mono ?_
  rintro e w' ⟨rfl, rfl⟩
  go_wp2_with fail
  refine (unhide Hb _).mono ?_
  rintro e w' ⟨rfl, rfl⟩
  go_wp2
  go_ret2
  exact ⟨rfl, rfl⟩

set_option maxRecDepth 100000 in
set_option maxHeartbeats 1000000 in
theorem sizes_ge (a b : Nat) (ha : a < 18446744073709551616) (hb : b < 18446744073709551616) (h : (FloatKind.f64.format.order (a % 9223372036854775808) (b % 9223372036854775808) == some .lt) = false) (w : World) :
    Calls Try.prog 18 #[.complex .f64 a b] w fun e w' => e = .returned (.tuple #[.float .f64 (a % 9223372036854775808), .float .f64 (b % 9223372036854775808)]) ∧ w' = w := by
  have Ha := hide (mabs_walk a ha)
  have Hb := hide (mabs_walk b hb)
  clear ha hb
  go_enter Try.func18, Try.ntmps18
  go_wp2_with fail
  refine (unhide Ha _).mono ?_
  rintro e w' ⟨rfl, rfl⟩
  go_wp2_with fail
  refine (unhide Hb _).mono ?_
  rintro e w' ⟨rfl, rfl⟩
  go_wp2
  go_ret2
  exact ⟨rfl, rfl⟩

set_option maxRecDepth 100000 in
set_option maxHeartbeats 1000000 in
theorem cof_any (a b : Nat) (ha : a < 18446744073709551616) (hb : b < 18446744073709551616) (w : World) :
    Calls Try.prog 12 #[.complex .f64 a b] w fun e w' => e = .returned (.int .i64 (max (cls a) (cls b))) ∧ w' = w := by
  have Ha := hide (of_any a ha)
  have Hb := hide (of_any b hb)
  clear ha hb
  go_enter Try.func12, Try.ntmps12
  go_wp2_with fail
  refine (unhide Ha _).mono ?_
  rintro e w' ⟨rfl, rfl⟩
  go_wp2_with fail
  refine (unhide Hb _).mono ?_
  rintro e w' ⟨rfl, rfl⟩
  go_wp2
  all_goals go_ret
  all_goals refine ⟨?_, rfl⟩
  · rw [Int.max_eq_right (by omega)]; rfl
  · rw [Int.max_eq_left (by omega)]; rfl

end Go.Proofs.Ytmgdicpcljippab
