/- The walks of PartNearest, one for each way through it. -/
import Derived.Test.YtdifckiemmldoabCloseNum
import Derived.Test.YtdifckiemmldoabAwake
import Derived.Test.YtdifckiemmldoabSign
namespace Go.Proofs.Ytdifckiemmldoab
open Go.RowKit

set_option maxRecDepth 100000 in
set_option maxHeartbeats 1000000 in
theorem near_zero (neg : Bool) (m e : Int) (x : Nat) (n p : Int) (_h0 : 0 ≤ m) (_h1 : m ≤ 18446744073709551615)
    (_e0 : -899 ≤ e.tmod 900) (_e1 : e.tmod 900 ≤ 899)
    (t0 : (m / 4 == 0) = true)
    (HJ : Hid (∀ w, Calls Try.prog 6 #[.bool neg, .int .u64 (m / 4), .int .i64 (e.tmod 900)] w fun e w' => e = .returned (.float .f64 x) ∧ w' = w))
    (HS : Hid (∀ w, Calls Try.prog 7 #[.float .f64 x] w fun e w' => e = .returned (.tuple #[.bool neg, .int .u64 n, .int .i64 p, .int .i64 0]) ∧ w' = w))
    (HB : Hid (∀ w, Calls Try.prog 8 #[.float .f64 x] w fun e w' => e = .returned (.bool neg) ∧ w' = w))
    (hz : (FloatKind.f64.format.order x 0 == some .eq) = true) (w : World) :
    Calls Try.prog 3 #[.bool neg, .int .u64 m, .int .i64 e] w fun e w' => e = .returned (.bool true) ∧ w' = w := by
  have t1 : (neg != neg) = false := by cases neg <;> rfl
  go_enter Try.func3, Try.ntmps3
  go_wp2_with fail
  refine (awake_any _).mono ?_
  rintro e w' ⟨rfl, rfl⟩
  go_wp2_with fail
  refine (unhide HJ _).mono ?_
  rintro e w' ⟨rfl, rfl⟩
  go_wp2_with fail
  refine (unhide HS _).mono ?_
  rintro e w' ⟨rfl, rfl⟩
  go_wp2_with fail
  refine (unhide HB _).mono ?_
  rintro e w' ⟨rfl, rfl⟩
  go_wp2
  go_ret
  exact ⟨rfl, rfl⟩

set_option maxRecDepth 100000 in
set_option maxHeartbeats 1000000 in
theorem near_up (neg : Bool) (m e : Int) (x : Nat) (n p : Int) (_h0 : 0 ≤ m) (_h1 : m ≤ 18446744073709551615)
    (_e0 : -899 ≤ e.tmod 900) (_e1 : e.tmod 900 ≤ 899)
    (t0 : (m / 4 == 0) = false) (_hp : p ≤ e.tmod 900) (_hp' : e.tmod 900 - p < 64) (_hn : 0 ≤ n) (_hm : n ≤ 9007199254740992) (q3 : n / 2 ^ (e.tmod 900 - p).toNat = m / 4) (q4 : IntKind.u64.wrap (m / 4 * 2 ^ (e.tmod 900 - p).toNat) = n)
    (HJ : Hid (∀ w, Calls Try.prog 6 #[.bool neg, .int .u64 (m / 4), .int .i64 (e.tmod 900)] w fun e w' => e = .returned (.float .f64 x) ∧ w' = w))
    (HS : Hid (∀ w, Calls Try.prog 7 #[.float .f64 x] w fun e w' => e = .returned (.tuple #[.bool neg, .int .u64 n, .int .i64 p, .int .i64 0]) ∧ w' = w))
    (HB : Hid (∀ w, Calls Try.prog 8 #[.float .f64 x] w fun e w' => e = .returned (.bool neg) ∧ w' = w))
    (hz : (FloatKind.f64.format.order x 0 == some .eq) = false) (w : World) :
    Calls Try.prog 3 #[.bool neg, .int .u64 m, .int .i64 e] w fun e w' => e = .returned (.bool true) ∧ w' = w := by
  have t1 : (neg != neg) = false := by cases neg <;> rfl
  go_enter Try.func3, Try.ntmps3
  go_wp2_with fail
  refine (awake_any _).mono ?_
  rintro e w' ⟨rfl, rfl⟩
  go_wp2_with fail
  refine (unhide HJ _).mono ?_
  rintro e w' ⟨rfl, rfl⟩
  go_wp2_with fail
  refine (unhide HS _).mono ?_
  rintro e w' ⟨rfl, rfl⟩
  go_wp2_with fail
  refine (unhide HB _).mono ?_
  rintro e w' ⟨rfl, rfl⟩
  go_wp2
  go_ret
  exact ⟨rfl, rfl⟩

set_option maxRecDepth 100000 in
set_option maxHeartbeats 1000000 in
theorem near_gt_lt (neg : Bool) (m e : Int) (x : Nat) (n p : Int) (_h0 : 0 ≤ m) (_h1 : m ≤ 18446744073709551615)
    (_e0 : -899 ≤ e.tmod 900) (_e1 : e.tmod 900 ≤ 899)
    (t0 : (m / 4 == 0) = false) (_hp0 : 0 < p - e.tmod 900) (_hp1 : p - e.tmod 900 ≤ 10) (W F : Int)
    (_w0 : 0 ≤ W) (_w1 : W ≤ 9223372036854775807) (_f0 : 1 ≤ F) (_f1 : F ≤ 9223372036854775807)
    (q1 : IntKind.u64.wrap (n * 2 ^ (p - e.tmod 900).toNat) = W) (q2 : IntKind.u64.wrap (2 ^ ((p - e.tmod 900).toNat - 1)) = F)
    (_hn : 0 ≤ n) (_hm : n ≤ 9007199254740992) (tn : (n == 4503599627370496) = false) (_hg : m / 4 < W) (_hf : W - m / 4 < F)
    (HJ : Hid (∀ w, Calls Try.prog 6 #[.bool neg, .int .u64 (m / 4), .int .i64 (e.tmod 900)] w fun e w' => e = .returned (.float .f64 x) ∧ w' = w))
    (HS : Hid (∀ w, Calls Try.prog 7 #[.float .f64 x] w fun e w' => e = .returned (.tuple #[.bool neg, .int .u64 n, .int .i64 p, .int .i64 0]) ∧ w' = w))
    (HB : Hid (∀ w, Calls Try.prog 8 #[.float .f64 x] w fun e w' => e = .returned (.bool neg) ∧ w' = w))
    (hz : (FloatKind.f64.format.order x 0 == some .eq) = false) (w : World) :
    Calls Try.prog 3 #[.bool neg, .int .u64 m, .int .i64 e] w fun e w' => e = .returned (.bool true) ∧ w' = w := by
  have t1 : (neg != neg) = false := by cases neg <;> rfl
  go_enter Try.func3, Try.ntmps3
  go_wp2_with fail
  refine (awake_any _).mono ?_
  rintro e w' ⟨rfl, rfl⟩
  go_wp2_with fail
  refine (unhide HJ _).mono ?_
  rintro e w' ⟨rfl, rfl⟩
  go_wp2_with fail
  refine (unhide HS _).mono ?_
  rintro e w' ⟨rfl, rfl⟩
  go_wp2_with fail
  refine (unhide HB _).mono ?_
  rintro e w' ⟨rfl, rfl⟩
  go_wp2
  go_ret
  exact ⟨rfl, rfl⟩

set_option maxRecDepth 100000 in
set_option maxHeartbeats 1000000 in
theorem near_gt_eq (neg : Bool) (m e : Int) (x : Nat) (n p : Int) (_h0 : 0 ≤ m) (_h1 : m ≤ 18446744073709551615)
    (_e0 : -899 ≤ e.tmod 900) (_e1 : e.tmod 900 ≤ 899)
    (t0 : (m / 4 == 0) = false) (_hp0 : 0 < p - e.tmod 900) (_hp1 : p - e.tmod 900 ≤ 10) (W F : Int)
    (_w0 : 0 ≤ W) (_w1 : W ≤ 9223372036854775807) (_f0 : 1 ≤ F) (_f1 : F ≤ 9223372036854775807)
    (q1 : IntKind.u64.wrap (n * 2 ^ (p - e.tmod 900).toNat) = W) (q2 : IntKind.u64.wrap (2 ^ ((p - e.tmod 900).toNat - 1)) = F)
    (_hn : 0 ≤ n) (_hm : n ≤ 9007199254740992) (tn : (n == 4503599627370496) = false) (_hg : m / 4 < W) (_hf : W - m / 4 = F) (hev : (n % 2 == 0) = true)
    (HJ : Hid (∀ w, Calls Try.prog 6 #[.bool neg, .int .u64 (m / 4), .int .i64 (e.tmod 900)] w fun e w' => e = .returned (.float .f64 x) ∧ w' = w))
    (HS : Hid (∀ w, Calls Try.prog 7 #[.float .f64 x] w fun e w' => e = .returned (.tuple #[.bool neg, .int .u64 n, .int .i64 p, .int .i64 0]) ∧ w' = w))
    (HB : Hid (∀ w, Calls Try.prog 8 #[.float .f64 x] w fun e w' => e = .returned (.bool neg) ∧ w' = w))
    (hz : (FloatKind.f64.format.order x 0 == some .eq) = false) (w : World) :
    Calls Try.prog 3 #[.bool neg, .int .u64 m, .int .i64 e] w fun e w' => e = .returned (.bool true) ∧ w' = w := by
  have t1 : (neg != neg) = false := by cases neg <;> rfl
  go_enter Try.func3, Try.ntmps3
  go_wp2_with fail
  refine (awake_any _).mono ?_
  rintro e w' ⟨rfl, rfl⟩
  go_wp2_with fail
  refine (unhide HJ _).mono ?_
  rintro e w' ⟨rfl, rfl⟩
  go_wp2_with fail
  refine (unhide HS _).mono ?_
  rintro e w' ⟨rfl, rfl⟩
  go_wp2_with fail
  refine (unhide HB _).mono ?_
  rintro e w' ⟨rfl, rfl⟩
  go_wp2
  go_ret
  exact ⟨rfl, rfl⟩

set_option maxRecDepth 100000 in
set_option maxHeartbeats 1000000 in
theorem near_le_lt (neg : Bool) (m e : Int) (x : Nat) (n p : Int) (_h0 : 0 ≤ m) (_h1 : m ≤ 18446744073709551615)
    (_e0 : -899 ≤ e.tmod 900) (_e1 : e.tmod 900 ≤ 899)
    (t0 : (m / 4 == 0) = false) (_hp0 : 0 < p - e.tmod 900) (_hp1 : p - e.tmod 900 ≤ 10) (W F : Int)
    (_w0 : 0 ≤ W) (_w1 : W ≤ 9223372036854775807) (_f0 : 1 ≤ F) (_f1 : F ≤ 9223372036854775807)
    (q1 : IntKind.u64.wrap (n * 2 ^ (p - e.tmod 900).toNat) = W) (q2 : IntKind.u64.wrap (2 ^ ((p - e.tmod 900).toNat - 1)) = F)
    (_hn : 0 ≤ n) (_hm : n ≤ 9007199254740992) (tn : (n == 4503599627370496) = false) (_hg : W < m / 4) (_hf : m / 4 - W < F)
    (HJ : Hid (∀ w, Calls Try.prog 6 #[.bool neg, .int .u64 (m / 4), .int .i64 (e.tmod 900)] w fun e w' => e = .returned (.float .f64 x) ∧ w' = w))
    (HS : Hid (∀ w, Calls Try.prog 7 #[.float .f64 x] w fun e w' => e = .returned (.tuple #[.bool neg, .int .u64 n, .int .i64 p, .int .i64 0]) ∧ w' = w))
    (HB : Hid (∀ w, Calls Try.prog 8 #[.float .f64 x] w fun e w' => e = .returned (.bool neg) ∧ w' = w))
    (hz : (FloatKind.f64.format.order x 0 == some .eq) = false) (w : World) :
    Calls Try.prog 3 #[.bool neg, .int .u64 m, .int .i64 e] w fun e w' => e = .returned (.bool true) ∧ w' = w := by
  have t1 : (neg != neg) = false := by cases neg <;> rfl
  go_enter Try.func3, Try.ntmps3
  go_wp2_with fail
  refine (awake_any _).mono ?_
  rintro e w' ⟨rfl, rfl⟩
  go_wp2_with fail
  refine (unhide HJ _).mono ?_
  rintro e w' ⟨rfl, rfl⟩
  go_wp2_with fail
  refine (unhide HS _).mono ?_
  rintro e w' ⟨rfl, rfl⟩
  go_wp2_with fail
  refine (unhide HB _).mono ?_
  rintro e w' ⟨rfl, rfl⟩
  go_wp2
  go_ret
  exact ⟨rfl, rfl⟩

set_option maxRecDepth 100000 in
set_option maxHeartbeats 1000000 in
theorem near_le_eq (neg : Bool) (m e : Int) (x : Nat) (n p : Int) (_h0 : 0 ≤ m) (_h1 : m ≤ 18446744073709551615)
    (_e0 : -899 ≤ e.tmod 900) (_e1 : e.tmod 900 ≤ 899)
    (t0 : (m / 4 == 0) = false) (_hp0 : 0 < p - e.tmod 900) (_hp1 : p - e.tmod 900 ≤ 10) (W F : Int)
    (_w0 : 0 ≤ W) (_w1 : W ≤ 9223372036854775807) (_f0 : 1 ≤ F) (_f1 : F ≤ 9223372036854775807)
    (q1 : IntKind.u64.wrap (n * 2 ^ (p - e.tmod 900).toNat) = W) (q2 : IntKind.u64.wrap (2 ^ ((p - e.tmod 900).toNat - 1)) = F)
    (_hn : 0 ≤ n) (_hm : n ≤ 9007199254740992) (tn : (n == 4503599627370496) = false) (_hg : W < m / 4) (_hf : m / 4 - W = F) (hev : (n % 2 == 0) = true)
    (HJ : Hid (∀ w, Calls Try.prog 6 #[.bool neg, .int .u64 (m / 4), .int .i64 (e.tmod 900)] w fun e w' => e = .returned (.float .f64 x) ∧ w' = w))
    (HS : Hid (∀ w, Calls Try.prog 7 #[.float .f64 x] w fun e w' => e = .returned (.tuple #[.bool neg, .int .u64 n, .int .i64 p, .int .i64 0]) ∧ w' = w))
    (HB : Hid (∀ w, Calls Try.prog 8 #[.float .f64 x] w fun e w' => e = .returned (.bool neg) ∧ w' = w))
    (hz : (FloatKind.f64.format.order x 0 == some .eq) = false) (w : World) :
    Calls Try.prog 3 #[.bool neg, .int .u64 m, .int .i64 e] w fun e w' => e = .returned (.bool true) ∧ w' = w := by
  have t1 : (neg != neg) = false := by cases neg <;> rfl
  go_enter Try.func3, Try.ntmps3
  go_wp2_with fail
  refine (awake_any _).mono ?_
  rintro e w' ⟨rfl, rfl⟩
  go_wp2_with fail
  refine (unhide HJ _).mono ?_
  rintro e w' ⟨rfl, rfl⟩
  go_wp2_with fail
  refine (unhide HS _).mono ?_
  rintro e w' ⟨rfl, rfl⟩
  go_wp2_with fail
  refine (unhide HB _).mono ?_
  rintro e w' ⟨rfl, rfl⟩
  go_wp2
  go_ret
  exact ⟨rfl, rfl⟩

set_option maxRecDepth 100000 in
set_option maxHeartbeats 1000000 in
theorem near_one_le_lt (neg : Bool) (m e : Int) (x : Nat) (p : Int) (_h0 : 0 ≤ m) (_h1 : m ≤ 18446744073709551615)
    (_e0 : -899 ≤ e.tmod 900) (_e1 : e.tmod 900 ≤ 899)
    (t0 : (m / 4 == 0) = false) (_hp0 : 0 < p - e.tmod 900) (_hp1 : p - e.tmod 900 ≤ 10) (W F : Int)
    (_w0 : 0 ≤ W) (_w1 : W ≤ 9223372036854775807) (_f0 : 1 ≤ F) (_f1 : F ≤ 9223372036854775807)
    (q1 : IntKind.u64.wrap (4503599627370496 * 2 ^ (p - e.tmod 900).toNat) = W) (q2 : IntKind.u64.wrap (2 ^ ((p - e.tmod 900).toNat - 1)) = F)
    (_hg : W < m / 4) (_hf : m / 4 - W < F)
    (HJ : Hid (∀ w, Calls Try.prog 6 #[.bool neg, .int .u64 (m / 4), .int .i64 (e.tmod 900)] w fun e w' => e = .returned (.float .f64 x) ∧ w' = w))
    (HS : Hid (∀ w, Calls Try.prog 7 #[.float .f64 x] w fun e w' => e = .returned (.tuple #[.bool neg, .int .u64 4503599627370496, .int .i64 p, .int .i64 0]) ∧ w' = w))
    (HB : Hid (∀ w, Calls Try.prog 8 #[.float .f64 x] w fun e w' => e = .returned (.bool neg) ∧ w' = w))
    (hz : (FloatKind.f64.format.order x 0 == some .eq) = false) (w : World) :
    Calls Try.prog 3 #[.bool neg, .int .u64 m, .int .i64 e] w fun e w' => e = .returned (.bool true) ∧ w' = w := by
  have t1 : (neg != neg) = false := by cases neg <;> rfl
  go_enter Try.func3, Try.ntmps3
  go_wp2_with fail
  refine (awake_any _).mono ?_
  rintro e w' ⟨rfl, rfl⟩
  go_wp2_with fail
  refine (unhide HJ _).mono ?_
  rintro e w' ⟨rfl, rfl⟩
  go_wp2_with fail
  refine (unhide HS _).mono ?_
  rintro e w' ⟨rfl, rfl⟩
  go_wp2_with fail
  refine (unhide HB _).mono ?_
  rintro e w' ⟨rfl, rfl⟩
  go_wp2
  go_ret
  exact ⟨rfl, rfl⟩

set_option maxRecDepth 100000 in
set_option maxHeartbeats 1000000 in
theorem near_one_le_eq (neg : Bool) (m e : Int) (x : Nat) (p : Int) (_h0 : 0 ≤ m) (_h1 : m ≤ 18446744073709551615)
    (_e0 : -899 ≤ e.tmod 900) (_e1 : e.tmod 900 ≤ 899)
    (t0 : (m / 4 == 0) = false) (_hp0 : 0 < p - e.tmod 900) (_hp1 : p - e.tmod 900 ≤ 10) (W F : Int)
    (_w0 : 0 ≤ W) (_w1 : W ≤ 9223372036854775807) (_f0 : 1 ≤ F) (_f1 : F ≤ 9223372036854775807)
    (q1 : IntKind.u64.wrap (4503599627370496 * 2 ^ (p - e.tmod 900).toNat) = W) (q2 : IntKind.u64.wrap (2 ^ ((p - e.tmod 900).toNat - 1)) = F)
    (_hg : W < m / 4) (_hf : m / 4 - W = F)
    (HJ : Hid (∀ w, Calls Try.prog 6 #[.bool neg, .int .u64 (m / 4), .int .i64 (e.tmod 900)] w fun e w' => e = .returned (.float .f64 x) ∧ w' = w))
    (HS : Hid (∀ w, Calls Try.prog 7 #[.float .f64 x] w fun e w' => e = .returned (.tuple #[.bool neg, .int .u64 4503599627370496, .int .i64 p, .int .i64 0]) ∧ w' = w))
    (HB : Hid (∀ w, Calls Try.prog 8 #[.float .f64 x] w fun e w' => e = .returned (.bool neg) ∧ w' = w))
    (hz : (FloatKind.f64.format.order x 0 == some .eq) = false) (w : World) :
    Calls Try.prog 3 #[.bool neg, .int .u64 m, .int .i64 e] w fun e w' => e = .returned (.bool true) ∧ w' = w := by
  have t1 : (neg != neg) = false := by cases neg <;> rfl
  go_enter Try.func3, Try.ntmps3
  go_wp2_with fail
  refine (awake_any _).mono ?_
  rintro e w' ⟨rfl, rfl⟩
  go_wp2_with fail
  refine (unhide HJ _).mono ?_
  rintro e w' ⟨rfl, rfl⟩
  go_wp2_with fail
  refine (unhide HS _).mono ?_
  rintro e w' ⟨rfl, rfl⟩
  go_wp2_with fail
  refine (unhide HB _).mono ?_
  rintro e w' ⟨rfl, rfl⟩
  go_wp2
  go_ret
  exact ⟨rfl, rfl⟩

set_option maxRecDepth 100000 in
set_option maxHeartbeats 1000000 in
theorem near_same (neg : Bool) (m e : Int) (x : Nat) (n p : Int) (_h0 : 0 ≤ m) (_h1 : m ≤ 18446744073709551615)
    (_e0 : -899 ≤ e.tmod 900) (_e1 : e.tmod 900 ≤ 899)
    (t0 : (m / 4 == 0) = false) (_hp0 : 0 < p - e.tmod 900) (_hp1 : p - e.tmod 900 ≤ 10) (W F : Int)
    (_w0 : 0 ≤ W) (_w1 : W ≤ 9223372036854775807) (_f0 : 1 ≤ F) (_f1 : F ≤ 9223372036854775807)
    (q1 : IntKind.u64.wrap (n * 2 ^ (p - e.tmod 900).toNat) = W) (q2 : IntKind.u64.wrap (2 ^ ((p - e.tmod 900).toNat - 1)) = F)
    (_hn : 0 ≤ n) (_hm : n ≤ 9007199254740992) (tn : (n == 4503599627370496) = false) (_hg : ¬ W < m / 4) (_hh : ¬ m / 4 < W)
    (HJ : Hid (∀ w, Calls Try.prog 6 #[.bool neg, .int .u64 (m / 4), .int .i64 (e.tmod 900)] w fun e w' => e = .returned (.float .f64 x) ∧ w' = w))
    (HS : Hid (∀ w, Calls Try.prog 7 #[.float .f64 x] w fun e w' => e = .returned (.tuple #[.bool neg, .int .u64 n, .int .i64 p, .int .i64 0]) ∧ w' = w))
    (HB : Hid (∀ w, Calls Try.prog 8 #[.float .f64 x] w fun e w' => e = .returned (.bool neg) ∧ w' = w))
    (hz : (FloatKind.f64.format.order x 0 == some .eq) = false) (w : World) :
    Calls Try.prog 3 #[.bool neg, .int .u64 m, .int .i64 e] w fun e w' => e = .returned (.bool true) ∧ w' = w := by
  have t1 : (neg != neg) = false := by cases neg <;> rfl
  go_enter Try.func3, Try.ntmps3
  go_wp2_with fail
  refine (awake_any _).mono ?_
  rintro e w' ⟨rfl, rfl⟩
  go_wp2_with fail
  refine (unhide HJ _).mono ?_
  rintro e w' ⟨rfl, rfl⟩
  go_wp2_with fail
  refine (unhide HS _).mono ?_
  rintro e w' ⟨rfl, rfl⟩
  go_wp2_with fail
  refine (unhide HB _).mono ?_
  rintro e w' ⟨rfl, rfl⟩
  go_wp2
  go_ret
  exact ⟨rfl, rfl⟩

set_option maxRecDepth 100000 in
set_option maxHeartbeats 1000000 in
theorem near_one_same (neg : Bool) (m e : Int) (x : Nat) (p : Int) (_h0 : 0 ≤ m) (_h1 : m ≤ 18446744073709551615)
    (_e0 : -899 ≤ e.tmod 900) (_e1 : e.tmod 900 ≤ 899)
    (t0 : (m / 4 == 0) = false) (_hp0 : 0 < p - e.tmod 900) (_hp1 : p - e.tmod 900 ≤ 10) (W F : Int)
    (_w0 : 0 ≤ W) (_w1 : W ≤ 9223372036854775807) (_f0 : 1 ≤ F) (_f1 : F ≤ 9223372036854775807)
    (q1 : IntKind.u64.wrap (4503599627370496 * 2 ^ (p - e.tmod 900).toNat) = W) (q2 : IntKind.u64.wrap (2 ^ ((p - e.tmod 900).toNat - 1)) = F)
    (_hg : ¬ W < m / 4) (_hh : ¬ m / 4 < W)
    (HJ : Hid (∀ w, Calls Try.prog 6 #[.bool neg, .int .u64 (m / 4), .int .i64 (e.tmod 900)] w fun e w' => e = .returned (.float .f64 x) ∧ w' = w))
    (HS : Hid (∀ w, Calls Try.prog 7 #[.float .f64 x] w fun e w' => e = .returned (.tuple #[.bool neg, .int .u64 4503599627370496, .int .i64 p, .int .i64 0]) ∧ w' = w))
    (HB : Hid (∀ w, Calls Try.prog 8 #[.float .f64 x] w fun e w' => e = .returned (.bool neg) ∧ w' = w))
    (hz : (FloatKind.f64.format.order x 0 == some .eq) = false) (w : World) :
    Calls Try.prog 3 #[.bool neg, .int .u64 m, .int .i64 e] w fun e w' => e = .returned (.bool true) ∧ w' = w := by
  have t1 : (neg != neg) = false := by cases neg <;> rfl
  go_enter Try.func3, Try.ntmps3
  go_wp2_with fail
  refine (awake_any _).mono ?_
  rintro e w' ⟨rfl, rfl⟩
  go_wp2_with fail
  refine (unhide HJ _).mono ?_
  rintro e w' ⟨rfl, rfl⟩
  go_wp2_with fail
  refine (unhide HS _).mono ?_
  rintro e w' ⟨rfl, rfl⟩
  go_wp2_with fail
  refine (unhide HB _).mono ?_
  rintro e w' ⟨rfl, rfl⟩
  go_wp2
  go_ret
  exact ⟨rfl, rfl⟩

set_option maxRecDepth 100000 in
set_option maxHeartbeats 1000000 in
theorem near_one_gt_lt (neg : Bool) (m e : Int) (x : Nat) (p : Int) (_h0 : 0 ≤ m) (_h1 : m ≤ 18446744073709551615)
    (_e0 : -899 ≤ e.tmod 900) (_e1 : e.tmod 900 ≤ 899)
    (t0 : (m / 4 == 0) = false) (_hp0 : 0 < p - e.tmod 900) (_hp1 : p - e.tmod 900 ≤ 10) (W F : Int)
    (_w0 : 0 ≤ W) (_w1 : W ≤ 9223372036854775807) (_f0 : 1 ≤ F) (_f1 : F ≤ 9223372036854775807)
    (q1 : IntKind.u64.wrap (4503599627370496 * 2 ^ (p - e.tmod 900).toNat) = W) (q2 : IntKind.u64.wrap (2 ^ ((p - e.tmod 900).toNat - 1)) = F)
    (_hg : m / 4 < W) (_hf : W - m / 4 < F / 2)
    (HJ : Hid (∀ w, Calls Try.prog 6 #[.bool neg, .int .u64 (m / 4), .int .i64 (e.tmod 900)] w fun e w' => e = .returned (.float .f64 x) ∧ w' = w))
    (HS : Hid (∀ w, Calls Try.prog 7 #[.float .f64 x] w fun e w' => e = .returned (.tuple #[.bool neg, .int .u64 4503599627370496, .int .i64 p, .int .i64 0]) ∧ w' = w))
    (HB : Hid (∀ w, Calls Try.prog 8 #[.float .f64 x] w fun e w' => e = .returned (.bool neg) ∧ w' = w))
    (hz : (FloatKind.f64.format.order x 0 == some .eq) = false) (w : World) :
    Calls Try.prog 3 #[.bool neg, .int .u64 m, .int .i64 e] w fun e w' => e = .returned (.bool true) ∧ w' = w := by
  have t1 : (neg != neg) = false := by cases neg <;> rfl
  go_enter Try.func3, Try.ntmps3
  go_wp2_with fail
  refine (awake_any _).mono ?_
  rintro e w' ⟨rfl, rfl⟩
  go_wp2_with fail
  refine (unhide HJ _).mono ?_
  rintro e w' ⟨rfl, rfl⟩
  go_wp2_with fail
  refine (unhide HS _).mono ?_
  rintro e w' ⟨rfl, rfl⟩
  go_wp2_with fail
  refine (unhide HB _).mono ?_
  rintro e w' ⟨rfl, rfl⟩
  go_wp2
  go_ret
  exact ⟨rfl, rfl⟩

set_option maxRecDepth 100000 in
set_option maxHeartbeats 1000000 in
theorem near_one_gt_eq (neg : Bool) (m e : Int) (x : Nat) (p : Int) (_h0 : 0 ≤ m) (_h1 : m ≤ 18446744073709551615)
    (_e0 : -899 ≤ e.tmod 900) (_e1 : e.tmod 900 ≤ 899)
    (t0 : (m / 4 == 0) = false) (_hp0 : 0 < p - e.tmod 900) (_hp1 : p - e.tmod 900 ≤ 10) (W F : Int)
    (_w0 : 0 ≤ W) (_w1 : W ≤ 9223372036854775807) (_f0 : 1 ≤ F) (_f1 : F ≤ 9223372036854775807)
    (q1 : IntKind.u64.wrap (4503599627370496 * 2 ^ (p - e.tmod 900).toNat) = W) (q2 : IntKind.u64.wrap (2 ^ ((p - e.tmod 900).toNat - 1)) = F)
    (_hg : m / 4 < W) (_hf : W - m / 4 = F / 2)
    (HJ : Hid (∀ w, Calls Try.prog 6 #[.bool neg, .int .u64 (m / 4), .int .i64 (e.tmod 900)] w fun e w' => e = .returned (.float .f64 x) ∧ w' = w))
    (HS : Hid (∀ w, Calls Try.prog 7 #[.float .f64 x] w fun e w' => e = .returned (.tuple #[.bool neg, .int .u64 4503599627370496, .int .i64 p, .int .i64 0]) ∧ w' = w))
    (HB : Hid (∀ w, Calls Try.prog 8 #[.float .f64 x] w fun e w' => e = .returned (.bool neg) ∧ w' = w))
    (hz : (FloatKind.f64.format.order x 0 == some .eq) = false) (w : World) :
    Calls Try.prog 3 #[.bool neg, .int .u64 m, .int .i64 e] w fun e w' => e = .returned (.bool true) ∧ w' = w := by
  have t1 : (neg != neg) = false := by cases neg <;> rfl
  go_enter Try.func3, Try.ntmps3
  go_wp2_with fail
  refine (awake_any _).mono ?_
  rintro e w' ⟨rfl, rfl⟩
  go_wp2_with fail
  refine (unhide HJ _).mono ?_
  rintro e w' ⟨rfl, rfl⟩
  go_wp2_with fail
  refine (unhide HS _).mono ?_
  rintro e w' ⟨rfl, rfl⟩
  go_wp2_with fail
  refine (unhide HB _).mono ?_
  rintro e w' ⟨rfl, rfl⟩
  go_wp2
  go_ret
  exact ⟨rfl, rfl⟩

end Go.Proofs.Ytdifckiemmldoab
