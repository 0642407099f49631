/- What package cplx's quotient, magnitude and root answer, step by step, by the bits of the parts. -/
import Derived.Test.YtmgdicpcljippacCW
namespace Go.Proofs.Ytmgdicpcljippac
open Go.RowKit

theorem run_fl {op : BinOp} {x y r : Nat} (h : floatBits op .f64 x y = some r) (w : World) : (binOp op 24 (.float .f64 x) (.float .f64 y)).run Try.prog w = .ok (.float .f64 r) w :=
  run_float_arith w op _ .f64 x y r h

set_option maxRecDepth 100000 in
set_option maxHeartbeats 1000000 in
theorem finite_any (a b : Nat) (ha : a < 18446744073709551616) (hb : b < 18446744073709551616) (w : World) :
    Calls Try.prog 39 #[.complex .f64 a b] w fun e w' => e = .returned (.bool (decide (max (cls a) (cls b) < 3))) ∧ w' = w := by
  have Ha := hide (cof_any a b ha hb)
  clear ha hb
  go_enter Try.func39, Try.ntmps39
  go_wp2_with fail
  refine (unhide Ha _).mono ?_
  rintro e w' ⟨rfl, rfl⟩
  go_wp2
  go_ret
  exact ⟨rfl, rfl⟩

set_option maxRecDepth 100000 in
set_option maxHeartbeats 1000000 in
theorem mul_calls (a b c d p q r s re im : Nat) (h1 : floatBits .mul .f64 a c = some p) (h2 : floatBits .mul .f64 b d = some q) (h3 : floatBits .sub .f64 p q = some re) (h4 : floatBits .mul .f64 a d = some r) (h5 : floatBits .mul .f64 b c = some s) (h6 : floatBits .add .f64 r s = some im) (w : World) :
    Calls Try.prog 7 #[.complex .f64 a b, .complex .f64 c d] w fun e w' => e = .returned (.complex .f64 re im) ∧ w' = w :=
  mul_walk a b c d p q r s re im w w w w w w w (run_fl h1 w) (run_fl h2 w) (run_fl h3 w) (run_fl h4 w) (run_fl h5 w) (run_fl h6 w)

theorem scale_calls (x a b p q : Nat) (h1 : floatBits .mul .f64 x a = some p) (h2 : floatBits .mul .f64 x b = some q) (w : World) :
    Calls Try.prog 40 #[.float .f64 x, .complex .f64 a b] w fun e w' => e = .returned (.complex .f64 p q) ∧ w' = w :=
  scale_walk x a b p q w w w (run_fl h1 w) (run_fl h2 w)

set_option maxRecDepth 100000 in
set_option maxHeartbeats 1000000 in
theorem div_ge (a b c d t x D p P E q Q f : Nat) (hc : c < 18446744073709551616) (hd : d < 18446744073709551616)
    (hge : (FloatKind.f64.format.order (c % 9223372036854775808) (d % 9223372036854775808) == some .gt || FloatKind.f64.format.order (c % 9223372036854775808) (d % 9223372036854775808) == some .eq) = true)
    (h1 : floatBits .quo .f64 d c = some t) (h2 : floatBits .mul .f64 d t = some x) (h3 : floatBits .add .f64 c x = some D)
    (h4 : floatBits .mul .f64 b t = some p) (h5 : floatBits .add .f64 a p = some P) (h6 : floatBits .quo .f64 P D = some E)
    (h7 : floatBits .mul .f64 a t = some q) (h8 : floatBits .sub .f64 b q = some Q) (h9 : floatBits .quo .f64 Q D = some f) (w : World) :
    Calls Try.prog 18 #[.complex .f64 a b, .complex .f64 c d] w fun e w' => e = .returned (.complex .f64 E f) ∧ w' = w := by
  have Hc := hide (mabs_walk c hc)
  have Hd := hide (mabs_walk d hd)
  clear hc hd
  have hs := run_same
  have k1 := run_fl h1
  have k2 := run_fl h2
  have k3 := run_fl h3
  have k4 := run_fl h4
  have k5 := run_fl h5
  have k6 := run_fl h6
  have k7 := run_fl h7
  have k8 := run_fl h8
  have k9 := run_fl h9
  clear h1 h2 h3 h4 h5 h6 h7 h8 h9
  go_enter Try.func18, Try.ntmps18
  go_wp2_with fail
  refine (unhide Hc _).mono ?_
  rintro e w' ⟨rfl, rfl⟩
  go_wp2_with fail
  refine (unhide Hd _).mono ?_
  rintro e w' ⟨rfl, rfl⟩
  go_wp2
  go_ret
  exact ⟨rfl, rfl⟩

set_option maxRecDepth 100000 in
set_option maxHeartbeats 1000000 in
theorem div_lt (a b c d t x D p P E q Q f : Nat) (hc : c < 18446744073709551616) (hd : d < 18446744073709551616)
    (hge : (FloatKind.f64.format.order (c % 9223372036854775808) (d % 9223372036854775808) == some .gt || FloatKind.f64.format.order (c % 9223372036854775808) (d % 9223372036854775808) == some .eq) = false)
    (h1 : floatBits .quo .f64 c d = some t) (h2 : floatBits .mul .f64 c t = some x) (h3 : floatBits .add .f64 d x = some D)
    (h4 : floatBits .mul .f64 a t = some p) (h5 : floatBits .add .f64 p b = some P) (h6 : floatBits .quo .f64 P D = some E)
    (h7 : floatBits .mul .f64 b t = some q) (h8 : floatBits .sub .f64 q a = some Q) (h9 : floatBits .quo .f64 Q D = some f) (w : World) :
    Calls Try.prog 18 #[.complex .f64 a b, .complex .f64 c d] w fun e w' => e = .returned (.complex .f64 E f) ∧ w' = w := by
  have Hc := hide (mabs_walk c hc)
  have Hd := hide (mabs_walk d hd)
  clear hc hd
  have hs := run_same
  have k1 := run_fl h1
  have k2 := run_fl h2
  have k3 := run_fl h3
  have k4 := run_fl h4
  have k5 := run_fl h5
  have k6 := run_fl h6
  have k7 := run_fl h7
  have k8 := run_fl h8
  have k9 := run_fl h9
  clear h1 h2 h3 h4 h5 h6 h7 h8 h9
  go_enter Try.func18, Try.ntmps18
  go_wp2_with fail
  refine (unhide Hc _).mono ?_
  rintro e w' ⟨rfl, rfl⟩
  go_wp2_with fail
  refine (unhide Hd _).mono ?_
  rintro e w' ⟨rfl, rfl⟩
  go_wp2
  go_ret
  exact ⟨rfl, rfl⟩

theorem isinf_no (b : Nat) (h : (FloatKind.f64.format.order b 9218868437227405311 == some .gt) = false) (w : World) :
    Calls Try.prog 28 #[.float .f64 b, .int .i64 1] w fun e w' => e = .returned (.bool false) ∧ w' = w := by
  have := isinf_pos b w
  rw [h] at this
  exact this
theorem isnan_no (b : Nat) (h : (FloatKind.f64.format.order b b != some .eq) = false) (w : World) :
    Calls Try.prog 30 #[.float .f64 b] w fun e w' => e = .returned (.bool false) ∧ w' = w := by
  have := isnan_walk b w
  rw [h] at this
  exact this

set_option maxRecDepth 100000 in
set_option maxHeartbeats 1000000 in
theorem cabs_num (a b m n t tt o q r : Nat) (hsz : ∀ w, Calls Try.prog 27 #[.complex .f64 a b] w fun e w' => e = .returned (.tuple #[.float .f64 m, .float .f64 n]) ∧ w' = w)
    (i1 : (FloatKind.f64.format.order m 9218868437227405311 == some .gt) = false) (i2 : (FloatKind.f64.format.order n 9218868437227405311 == some .gt) = false)
    (n1 : (FloatKind.f64.format.order m m != some .eq) = false) (n2 : (FloatKind.f64.format.order n n != some .eq) = false) (z : (FloatKind.f64.format.order m 0 == some .eq) = false)
    (h1 : floatBits .quo .f64 n m = some t) (h2 : floatBits .mul .f64 t t = some tt) (h3 : floatBits .add .f64 4607182418800017408 tt = some o) (h4 : Ieee.double.sqrt o = some q) (h5 : floatBits .mul .f64 m q = some r) (w : World) :
    Calls Try.prog 8 #[.complex .f64 a b] w fun e w' => e = .returned (.float .f64 r) ∧ w' = w := by
  have Hs := hide hsz
  have I1 := hide (isinf_no m i1)
  have I2 := hide (isinf_no n i2)
  have N1 := hide (isnan_no m n1)
  have N2 := hide (isnan_no n n2)
  have Hq := hide (msqrt_walk o q h4)
  have hs := run_same
  have k1 := run_fl h1
  have k2 := run_fl h2
  have k3 := run_fl h3
  have k5 := run_fl h5
  clear hsz i1 i2 n1 n2 h1 h2 h3 h4 h5
  go_enter Try.func8, Try.ntmps8
  go_wp2_with fail
  refine (unhide Hs _).mono ?_
  rintro e w' ⟨rfl, rfl⟩
  go_wp2_with fail
  refine (unhide I1 _).mono ?_
  rintro e w' ⟨rfl, rfl⟩
  go_wp2_with fail
  refine (unhide I2 _).mono ?_
  rintro e w' ⟨rfl, rfl⟩
  go_wp2_with fail
  refine (unhide N1 _).mono ?_
  rintro e w' ⟨rfl, rfl⟩
  go_wp2_with fail
  refine (unhide N2 _).mono ?_
  rintro e w' ⟨rfl, rfl⟩
  go_wp2_with fail
  refine (unhide Hq _).mono ?_
  rintro e w' ⟨rfl, rfl⟩
  go_wp2
  go_ret
  exact ⟨rfl, rfl⟩

set_option maxRecDepth 100000 in
set_option maxHeartbeats 1000000 in
theorem cabs_zero (a b m n : Nat) (hsz : ∀ w, Calls Try.prog 27 #[.complex .f64 a b] w fun e w' => e = .returned (.tuple #[.float .f64 m, .float .f64 n]) ∧ w' = w)
    (i1 : (FloatKind.f64.format.order m 9218868437227405311 == some .gt) = false) (i2 : (FloatKind.f64.format.order n 9218868437227405311 == some .gt) = false)
    (n1 : (FloatKind.f64.format.order m m != some .eq) = false) (n2 : (FloatKind.f64.format.order n n != some .eq) = false) (z : (FloatKind.f64.format.order m 0 == some .eq) = true) (w : World) :
    Calls Try.prog 8 #[.complex .f64 a b] w fun e w' => e = .returned (.float .f64 0) ∧ w' = w := by
  have Hs := hide hsz
  have I1 := hide (isinf_no m i1)
  have I2 := hide (isinf_no n i2)
  have N1 := hide (isnan_no m n1)
  have N2 := hide (isnan_no n n2)
  clear hsz i1 i2 n1 n2
  go_enter Try.func8, Try.ntmps8
  go_wp2_with fail
  refine (unhide Hs _).mono ?_
  rintro e w' ⟨rfl, rfl⟩
  go_wp2_with fail
  refine (unhide I1 _).mono ?_
  rintro e w' ⟨rfl, rfl⟩
  go_wp2_with fail
  refine (unhide I2 _).mono ?_
  rintro e w' ⟨rfl, rfl⟩
  go_wp2_with fail
  refine (unhide N1 _).mono ?_
  rintro e w' ⟨rfl, rfl⟩
  go_wp2_with fail
  refine (unhide N2 _).mono ?_
  rintro e w' ⟨rfl, rfl⟩
  go_wp2
  go_ret
  exact ⟨rfl, rfl⟩

/-- The magnitude's bits of u with the sign of b. -/
def csign (u b : Nat) : Nat := (if ng b then 9223372036854775808 else 0) + u % 9223372036854775808

theorem csign_form (u b : Nat) (hu : u < 18446744073709551616) (hb : b < 18446744073709551616) :
    (bits .or .u64 (bits .andNot .u64 (u : Int) 9223372036854775808) (bits .and .u64 (b : Int) 9223372036854775808)).toNat = csign u b := by
  have h1 := andNot_sign u hu
  have h0 : bits .andNot .u64 (u : Int) 9223372036854775808 = ((u % 9223372036854775808 : Nat) : Int) := by
    rw [u64_andNot _ _ (by omega) (by omega) (by omega) (by omega)] at h1 ⊢
    rw [Int.toNat_natCast] at h1
    rw [h1]
  rw [h0, and_sign b hb]
  unfold csign
  cases ng b
  · rw [if_neg (by decide), if_neg (by decide), u64_or _ _ (by omega) (by omega) (by omega) (by omega)]
    simp
    omega
  · rw [if_pos rfl, if_pos rfl, or_sign _ (by omega) (by omega)]
    omega

set_option maxRecDepth 100000 in
set_option maxHeartbeats 1000000 in
theorem copysign_any (u b : Nat) (hu : u < 18446744073709551616) (hb : b < 18446744073709551616) (w : World) :
    Calls Try.prog 46 #[.float .f64 u, .float .f64 b] w fun e w' => e = .returned (.float .f64 (csign u b)) ∧ w' = w := by
  have Hk := hide (csign_form u b hu hb)
  clear hu hb
  have hx := run_bits
  have hy := run_frombits
  go_enter Try.func46, Try.ntmps46
  go_wp2
  go_ret
  rw [← unhide Hk]
  exact ⟨rfl, rfl⟩

set_option maxRecDepth 100000 in
set_option maxHeartbeats 1000000 in
theorem root_pos (a b h g g2 u tu v : Nat) (ha : a < 18446744073709551616) (Habs : ∀ w, Calls Try.prog 8 #[.complex .f64 a b] w fun e w' => e = .returned (.float .f64 h) ∧ w' = w)
    (h1 : floatBits .add .f64 (a % 9223372036854775808) h = some g) (h2 : floatBits .mul .f64 g 4602678819172646912 = some g2) (h3 : Ieee.double.sqrt g2 = some u)
    (h4 : floatBits .mul .f64 4611686018427387904 u = some tu) (h5 : floatBits .quo .f64 b tu = some v)
    (ge : (FloatKind.f64.format.order a 0 == some .gt || FloatKind.f64.format.order a 0 == some .eq) = true) (w : World) :
    Calls Try.prog 41 #[.complex .f64 a b] w fun e w' => e = .returned (.complex .f64 u v) ∧ w' = w := by
  have Ha := hide (mabs_walk a ha)
  have Hb := hide Habs
  have Hq := hide (msqrt_walk g2 u h3)
  have hs := run_same
  have k1 := run_fl h1
  have k2 := run_fl h2
  have k4 := run_fl h4
  have k5 := run_fl h5
  clear ha Habs h1 h2 h3 h4 h5
  go_enter Try.func41, Try.ntmps41
  go_wp2_with fail
  refine (unhide Ha _).mono ?_
  rintro e w' ⟨rfl, rfl⟩
  go_wp2_with fail
  refine (unhide Hb _).mono ?_
  rintro e w' ⟨rfl, rfl⟩
  go_wp2_with fail
  refine (unhide Hq _).mono ?_
  rintro e w' ⟨rfl, rfl⟩
  go_wp2
  go_ret
  exact ⟨rfl, rfl⟩

set_option maxRecDepth 100000 in
set_option maxHeartbeats 1000000 in
theorem root_neg (a b h g g2 u tu v : Nat) (ha : a < 18446744073709551616) (hb : b < 18446744073709551616) (hu : u < 18446744073709551616) (hv : v < 18446744073709551616) (Habs : ∀ w, Calls Try.prog 8 #[.complex .f64 a b] w fun e w' => e = .returned (.float .f64 h) ∧ w' = w)
    (h1 : floatBits .add .f64 (a % 9223372036854775808) h = some g) (h2 : floatBits .mul .f64 g 4602678819172646912 = some g2) (h3 : Ieee.double.sqrt g2 = some u)
    (h4 : floatBits .mul .f64 4611686018427387904 u = some tu) (h5 : floatBits .quo .f64 b tu = some v)
    (ge : (FloatKind.f64.format.order a 0 == some .gt || FloatKind.f64.format.order a 0 == some .eq) = false) (w : World) :
    Calls Try.prog 41 #[.complex .f64 a b] w fun e w' => e = .returned (.complex .f64 (v % 9223372036854775808) (csign u b)) ∧ w' = w := by
  have Ha := hide (mabs_walk a ha)
  have Hb := hide Habs
  have Hq := hide (msqrt_walk g2 u h3)
  have Hv := hide (mabs_walk v hv)
  have Hc := hide (copysign_any u b hu hb)
  have hs := run_same
  have k1 := run_fl h1
  have k2 := run_fl h2
  have k4 := run_fl h4
  have k5 := run_fl h5
  clear ha hb hu hv Habs h1 h2 h3 h4 h5
  go_enter Try.func41, Try.ntmps41
  go_wp2_with fail
  refine (unhide Ha _).mono ?_
  rintro e w' ⟨rfl, rfl⟩
  go_wp2_with fail
  refine (unhide Hb _).mono ?_
  rintro e w' ⟨rfl, rfl⟩
  go_wp2_with fail
  refine (unhide Hq _).mono ?_
  rintro e w' ⟨rfl, rfl⟩
  go_wp2_with fail
  refine (unhide Hv _).mono ?_
  rintro e w' ⟨rfl, rfl⟩
  go_wp2_with fail
  refine (unhide Hc _).mono ?_
  rintro e w' ⟨rfl, rfl⟩
  go_wp2
  go_ret
  exact ⟨rfl, rfl⟩

theorem finite_yes (a b : Nat) (ha : a < 18446744073709551616) (hb : b < 18446744073709551616) (h : max (cls a) (cls b) < 3) (w : World) :
    Calls Try.prog 39 #[.complex .f64 a b] w fun e w' => e = .returned (.bool true) ∧ w' = w := by
  have := finite_any a b ha hb w
  rw [decide_eq_true h] at this
  exact this

set_option maxRecDepth 100000 in
set_option maxHeartbeats 1000000 in
theorem sqrt_mid (a b m n : Nat) (v : Value) (ha : a < 18446744073709551616) (hb : b < 18446744073709551616) (hf : max (cls a) (cls b) < 3)
    (hsz : ∀ w, Calls Try.prog 27 #[.complex .f64 a b] w fun e w' => e = .returned (.tuple #[.float .f64 m, .float .f64 n]) ∧ w' = w)
    (hr : ∀ w, Calls Try.prog 41 #[.complex .f64 a b] w fun e w' => e = .returned (v) ∧ w' = w)
    (z : (FloatKind.f64.format.order m 0 == some .eq) = false) (g1 : (FloatKind.f64.format.order m 9110782046170513408 == some .gt || FloatKind.f64.format.order m 9110782046170513408 == some .eq) = false) (g2 : (FloatKind.f64.format.order m 553942754166571008 == some .lt) = false) (w : World) :
    Calls Try.prog 19 #[.complex .f64 a b] w fun e w' => e = .returned (v) ∧ w' = w := by
  have Hf := hide (finite_yes a b ha hb hf)
  have Hs := hide hsz
  have Hr := hide hr
  clear ha hb hf hsz hr
  go_enter Try.func19, Try.ntmps19
  go_wp2_with fail
  refine (unhide Hs _).mono ?_
  rintro e w' ⟨rfl, rfl⟩
  go_wp2_with fail
  refine (unhide Hf _).mono ?_
  rintro e w' ⟨rfl, rfl⟩
  go_wp2_with fail
  refine (unhide Hr _).mono ?_
  rintro e w' ⟨rfl, rfl⟩
  go_wp2
  go_ret
  exact ⟨rfl, rfl⟩

set_option maxRecDepth 100000 in
set_option maxHeartbeats 1000000 in
theorem sqrt_zero (a b m n : Nat) (ha : a < 18446744073709551616) (hb : b < 18446744073709551616) (hf : max (cls a) (cls b) < 3)
    (hsz : ∀ w, Calls Try.prog 27 #[.complex .f64 a b] w fun e w' => e = .returned (.tuple #[.float .f64 m, .float .f64 n]) ∧ w' = w)
    (z : (FloatKind.f64.format.order m 0 == some .eq) = true) (w : World) :
    Calls Try.prog 19 #[.complex .f64 a b] w fun e w' => e = .returned (.complex .f64 0 b) ∧ w' = w := by
  have Hf := hide (finite_yes a b ha hb hf)
  have Hs := hide hsz
  clear ha hb hf hsz
  go_enter Try.func19, Try.ntmps19
  go_wp2_with fail
  refine (unhide Hs _).mono ?_
  rintro e w' ⟨rfl, rfl⟩
  go_wp2_with fail
  refine (unhide Hf _).mono ?_
  rintro e w' ⟨rfl, rfl⟩
  go_wp2
  go_ret
  exact ⟨rfl, rfl⟩

end Go.Proofs.Ytmgdicpcljippac
