/- WholeMagnitudes: the walk, given what the calls answer. -/
import Derived.Test.YtmgdicpcljippacMagG
namespace Go.Proofs.Ytmgdicpcljippac
open Go.RowKit

set_option maxRecDepth 100000 in
set_option maxHeartbeats 2000000 in
theorem mag_ff (a b : Int) (x y h mx m2 d1 d2 d3 d4 s1 s2 q1 q2 e1 e2 f bd : Nat)
    (Ht1 : Hid (∀ w, Calls Try.prog 15 #[.int .u64 a] w fun e w' => e = .returned (.float .f64 x) ∧ w' = w)) (Ht2 : Hid (∀ w, Calls Try.prog 15 #[.int .u64 b] w fun e w' => e = .returned (.float .f64 y) ∧ w' = w))
    (Hab : Hid (∀ w, Calls Try.prog 8 #[.complex .f64 x y] w fun e w' => e = .returned (.float .f64 h) ∧ w' = w))
    (Hr : Hid (∀ w, Calls Try.prog 16 #[.float .f64 x] w fun e w' => e = .returned (.float .f64 (x % 9223372036854775808)) ∧ w' = w)) (Hi : Hid (∀ w, Calls Try.prog 16 #[.float .f64 y] w fun e w' => e = .returned (.float .f64 (y % 9223372036854775808)) ∧ w' = w))
    (Hmx : Hid (∀ w, Calls Try.prog 17 #[.float .f64 (x % 9223372036854775808), .float .f64 (y % 9223372036854775808)] w fun e w' => e = .returned (.float .f64 mx) ∧ w' = w))
    (Hd1 : Hid (∀ w, Calls Try.prog 18 #[.complex .f64 x y, .complex .f64 4607182418800017408 0] w fun e w' => e = .returned (.complex .f64 d1 d2) ∧ w' = w))
    (Hd2 : Hid (∀ w, Calls Try.prog 18 #[.complex .f64 (Op.negFloat .f64 y) x, .complex .f64 0 4607182418800017408] w fun e w' => e = .returned (.complex .f64 d3 d4) ∧ w' = w))
    (Hsq : Hid (∀ w, Calls Try.prog 19 #[.complex .f64 x y] w fun e w' => e = .returned (.complex .f64 s1 s2) ∧ w' = w))
    (Hml : Hid (∀ w, Calls Try.prog 7 #[.complex .f64 s1 s2, .complex .f64 s1 s2] w fun e w' => e = .returned (.complex .f64 q1 q2) ∧ w' = w))
    (Hfa : Hid (∀ w, Calls Try.prog 8 #[.complex .f64 e1 e2] w fun e w' => e = .returned (.float .f64 f) ∧ w' = w))
    (km : floatBits .mul .f64 4611686018427387904 mx = some m2) (k1 : floatBits .sub .f64 q1 x = some e1) (k2 : floatBits .sub .f64 q2 y = some e2) (kb : floatBits .mul .f64 h 4391009636686233600 = some bd)
    (o1 : (FloatKind.f64.format.order h (x % 9223372036854775808) == some .lt) = false) (o2 : (FloatKind.f64.format.order h (y % 9223372036854775808) == some .lt) = false) (o3 : (FloatKind.f64.format.order h m2 == some .gt) = false)
    (o5 : (FloatKind.f64.format.order d1 x == some .eq && FloatKind.f64.format.order d2 y == some .eq) = true) (o6 : (FloatKind.f64.format.order d3 x == some .eq && FloatKind.f64.format.order d4 y == some .eq) = true)
    (o7 : (FloatKind.f64.format.order s1 0 == some .gt || FloatKind.f64.format.order s1 0 == some .eq) = true) (o8 : (FloatKind.f64.format.order f bd == some .lt || FloatKind.f64.format.order f bd == some .eq) = true)
    (o4 : (FloatKind.f64.format.order h 0 == some .eq) = false) (o4' : (FloatKind.f64.format.order x 0 == some .eq && FloatKind.f64.format.order y 0 == some .eq) = false)
    (Hal : Hid (∀ w, Calls Try.prog 9 #[.complex .f64 d1 d2, .complex .f64 x y] w fun e w' => e = .returned (.bool false) ∧ w' = w)) (w : World) :
    Calls Try.prog 4 #[.int .u64 a, .int .u64 b] w fun e w' => e = .returned (.bool true) ∧ w' = w := by
  have hs := run_same
  have K1 := run_fl km
  have K2 : ∀ t w, (binOp .sub t (.complex .f64 q1 q2) (.complex .f64 x y)).run Try.prog w = .ok (.complex .f64 e1 e2) w := fun t w =>
    run_complex_sum w .sub (Or.inr rfl) t .f64 q1 q2 x y e1 e2 (by unfold cSumBits; rw [k1, k2]; rfl)
  have K3 := run_fl kb
  have o9 : (FloatKind.f64.format.order 4611686018427387904 4611686018427387904 == some .eq) = true := (by decide +kernel)
  have o10 : (FloatKind.f64.format.order 0 0 == some .eq) = true := (by decide +kernel)
  clear km k1 k2 kb
  go_enter Try.func4, Try.ntmps4
  go_wp2_with fail
  refine (unhide Ht1 _).mono ?_
  rintro e w' ⟨rfl, rfl⟩
  go_wp2_with fail
  refine (unhide Ht2 _).mono ?_
  rintro e w' ⟨rfl, rfl⟩
  go_wp2_with fail
  refine (unhide Hab _).mono ?_
  rintro e w' ⟨rfl, rfl⟩
  go_wp2_with fail
  refine (unhide Hr _).mono ?_
  rintro e w' ⟨rfl, rfl⟩
  go_wp2_with fail
  refine (unhide Hi _).mono ?_
  rintro e w' ⟨rfl, rfl⟩
  go_wp2_with fail
  refine (unhide Hmx _).mono ?_
  rintro e w' ⟨rfl, rfl⟩
  go_wp2_with fail
  refine (unhide Hd1 _).mono ?_
  rintro e w' ⟨rfl, rfl⟩
  go_wp2_with fail
  refine (unhide Hal _).mono ?_
  rintro e w' ⟨rfl, rfl⟩
  go_wp2_with fail
  refine (unhide Hd1 _).mono ?_
  rintro e w' ⟨rfl, rfl⟩
  go_wp2_with fail
  refine (turn_walk _ _ _).mono ?_
  rintro e w' ⟨rfl, rfl⟩
  go_wp2_with fail
  refine (unhide Hd2 _).mono ?_
  rintro e w' ⟨rfl, rfl⟩
  go_wp2_with fail
  refine (unhide Hsq _).mono ?_
  rintro e w' ⟨rfl, rfl⟩
  go_wp2_with fail
  refine (unhide Hml _).mono ?_
  rintro e w' ⟨rfl, rfl⟩
  go_wp2_with fail
  refine (unhide Hfa _).mono ?_
  rintro e w' ⟨rfl, rfl⟩
  go_wp2_with fail
  refine (sqrt_4 _).mono ?_
  rintro e w' ⟨rfl, rfl⟩
  go_wp2
  go_ret
  exact ⟨rfl, rfl⟩

set_option maxRecDepth 100000 in
set_option maxHeartbeats 2000000 in
theorem mag_ft (a b : Int) (x y h mx m2 d1 d2 d3 d4 s1 s2 q1 q2 e1 e2 f bd : Nat)
    (Ht1 : Hid (∀ w, Calls Try.prog 15 #[.int .u64 a] w fun e w' => e = .returned (.float .f64 x) ∧ w' = w)) (Ht2 : Hid (∀ w, Calls Try.prog 15 #[.int .u64 b] w fun e w' => e = .returned (.float .f64 y) ∧ w' = w))
    (Hab : Hid (∀ w, Calls Try.prog 8 #[.complex .f64 x y] w fun e w' => e = .returned (.float .f64 h) ∧ w' = w))
    (Hr : Hid (∀ w, Calls Try.prog 16 #[.float .f64 x] w fun e w' => e = .returned (.float .f64 (x % 9223372036854775808)) ∧ w' = w)) (Hi : Hid (∀ w, Calls Try.prog 16 #[.float .f64 y] w fun e w' => e = .returned (.float .f64 (y % 9223372036854775808)) ∧ w' = w))
    (Hmx : Hid (∀ w, Calls Try.prog 17 #[.float .f64 (x % 9223372036854775808), .float .f64 (y % 9223372036854775808)] w fun e w' => e = .returned (.float .f64 mx) ∧ w' = w))
    (Hd1 : Hid (∀ w, Calls Try.prog 18 #[.complex .f64 x y, .complex .f64 4607182418800017408 0] w fun e w' => e = .returned (.complex .f64 d1 d2) ∧ w' = w))
    (Hd2 : Hid (∀ w, Calls Try.prog 18 #[.complex .f64 (Op.negFloat .f64 y) x, .complex .f64 0 4607182418800017408] w fun e w' => e = .returned (.complex .f64 d3 d4) ∧ w' = w))
    (Hsq : Hid (∀ w, Calls Try.prog 19 #[.complex .f64 x y] w fun e w' => e = .returned (.complex .f64 s1 s2) ∧ w' = w))
    (Hml : Hid (∀ w, Calls Try.prog 7 #[.complex .f64 s1 s2, .complex .f64 s1 s2] w fun e w' => e = .returned (.complex .f64 q1 q2) ∧ w' = w))
    (Hfa : Hid (∀ w, Calls Try.prog 8 #[.complex .f64 e1 e2] w fun e w' => e = .returned (.float .f64 f) ∧ w' = w))
    (km : floatBits .mul .f64 4611686018427387904 mx = some m2) (k1 : floatBits .sub .f64 q1 x = some e1) (k2 : floatBits .sub .f64 q2 y = some e2) (kb : floatBits .mul .f64 h 4391009636686233600 = some bd)
    (o1 : (FloatKind.f64.format.order h (x % 9223372036854775808) == some .lt) = false) (o2 : (FloatKind.f64.format.order h (y % 9223372036854775808) == some .lt) = false) (o3 : (FloatKind.f64.format.order h m2 == some .gt) = false)
    (_o5 : (FloatKind.f64.format.order d1 x == some .eq && FloatKind.f64.format.order d2 y == some .eq) = true) (o6 : (FloatKind.f64.format.order d3 x == some .eq && FloatKind.f64.format.order d4 y == some .eq) = true)
    (o7 : (FloatKind.f64.format.order s1 0 == some .gt || FloatKind.f64.format.order s1 0 == some .eq) = true) (o8 : (FloatKind.f64.format.order f bd == some .lt || FloatKind.f64.format.order f bd == some .eq) = true)
    (o4 : (FloatKind.f64.format.order h 0 == some .eq) = false) (o4' : (FloatKind.f64.format.order x 0 == some .eq && FloatKind.f64.format.order y 0 == some .eq) = false)
    (Hal : Hid (∀ w, Calls Try.prog 9 #[.complex .f64 d1 d2, .complex .f64 x y] w fun e w' => e = .returned (.bool true) ∧ w' = w)) (w : World) :
    Calls Try.prog 4 #[.int .u64 a, .int .u64 b] w fun e w' => e = .returned (.bool true) ∧ w' = w := by
  have hs := run_same
  have K1 := run_fl km
  have K2 : ∀ t w, (binOp .sub t (.complex .f64 q1 q2) (.complex .f64 x y)).run Try.prog w = .ok (.complex .f64 e1 e2) w := fun t w =>
    run_complex_sum w .sub (Or.inr rfl) t .f64 q1 q2 x y e1 e2 (by unfold cSumBits; rw [k1, k2]; rfl)
  have K3 := run_fl kb
  have o9 : (FloatKind.f64.format.order 4611686018427387904 4611686018427387904 == some .eq) = true := (by decide +kernel)
  have o10 : (FloatKind.f64.format.order 0 0 == some .eq) = true := (by decide +kernel)
  clear km k1 k2 kb
  go_enter Try.func4, Try.ntmps4
  go_wp2_with fail
  refine (unhide Ht1 _).mono ?_
  rintro e w' ⟨rfl, rfl⟩
  go_wp2_with fail
  refine (unhide Ht2 _).mono ?_
  rintro e w' ⟨rfl, rfl⟩
  go_wp2_with fail
  refine (unhide Hab _).mono ?_
  rintro e w' ⟨rfl, rfl⟩
  go_wp2_with fail
  refine (unhide Hr _).mono ?_
  rintro e w' ⟨rfl, rfl⟩
  go_wp2_with fail
  refine (unhide Hi _).mono ?_
  rintro e w' ⟨rfl, rfl⟩
  go_wp2_with fail
  refine (unhide Hmx _).mono ?_
  rintro e w' ⟨rfl, rfl⟩
  go_wp2_with fail
  refine (unhide Hd1 _).mono ?_
  rintro e w' ⟨rfl, rfl⟩
  go_wp2_with fail
  refine (unhide Hal _).mono ?_
  rintro e w' ⟨rfl, rfl⟩
  go_wp2_with fail
  refine (turn_walk _ _ _).mono ?_
  rintro e w' ⟨rfl, rfl⟩
  go_wp2_with fail
  refine (unhide Hd2 _).mono ?_
  rintro e w' ⟨rfl, rfl⟩
  go_wp2_with fail
  refine (unhide Hsq _).mono ?_
  rintro e w' ⟨rfl, rfl⟩
  go_wp2_with fail
  refine (unhide Hml _).mono ?_
  rintro e w' ⟨rfl, rfl⟩
  go_wp2_with fail
  refine (unhide Hfa _).mono ?_
  rintro e w' ⟨rfl, rfl⟩
  go_wp2_with fail
  refine (sqrt_4 _).mono ?_
  rintro e w' ⟨rfl, rfl⟩
  go_wp2
  go_ret
  exact ⟨rfl, rfl⟩

set_option maxRecDepth 100000 in
set_option maxHeartbeats 2000000 in
theorem mag_tf (a b : Int) (x y h mx m2 d1 d2 d3 d4 s1 s2 q1 q2 e1 e2 f bd : Nat)
    (Ht1 : Hid (∀ w, Calls Try.prog 15 #[.int .u64 a] w fun e w' => e = .returned (.float .f64 x) ∧ w' = w)) (Ht2 : Hid (∀ w, Calls Try.prog 15 #[.int .u64 b] w fun e w' => e = .returned (.float .f64 y) ∧ w' = w))
    (Hab : Hid (∀ w, Calls Try.prog 8 #[.complex .f64 x y] w fun e w' => e = .returned (.float .f64 h) ∧ w' = w))
    (Hr : Hid (∀ w, Calls Try.prog 16 #[.float .f64 x] w fun e w' => e = .returned (.float .f64 (x % 9223372036854775808)) ∧ w' = w)) (Hi : Hid (∀ w, Calls Try.prog 16 #[.float .f64 y] w fun e w' => e = .returned (.float .f64 (y % 9223372036854775808)) ∧ w' = w))
    (Hmx : Hid (∀ w, Calls Try.prog 17 #[.float .f64 (x % 9223372036854775808), .float .f64 (y % 9223372036854775808)] w fun e w' => e = .returned (.float .f64 mx) ∧ w' = w))
    (Hd1 : Hid (∀ w, Calls Try.prog 18 #[.complex .f64 x y, .complex .f64 4607182418800017408 0] w fun e w' => e = .returned (.complex .f64 d1 d2) ∧ w' = w))
    (Hd2 : Hid (∀ w, Calls Try.prog 18 #[.complex .f64 (Op.negFloat .f64 y) x, .complex .f64 0 4607182418800017408] w fun e w' => e = .returned (.complex .f64 d3 d4) ∧ w' = w))
    (Hsq : Hid (∀ w, Calls Try.prog 19 #[.complex .f64 x y] w fun e w' => e = .returned (.complex .f64 s1 s2) ∧ w' = w))
    (Hml : Hid (∀ w, Calls Try.prog 7 #[.complex .f64 s1 s2, .complex .f64 s1 s2] w fun e w' => e = .returned (.complex .f64 q1 q2) ∧ w' = w))
    (Hfa : Hid (∀ w, Calls Try.prog 8 #[.complex .f64 e1 e2] w fun e w' => e = .returned (.float .f64 f) ∧ w' = w))
    (km : floatBits .mul .f64 4611686018427387904 mx = some m2) (k1 : floatBits .sub .f64 q1 x = some e1) (k2 : floatBits .sub .f64 q2 y = some e2) (kb : floatBits .mul .f64 h 4391009636686233600 = some bd)
    (o1 : (FloatKind.f64.format.order h (x % 9223372036854775808) == some .lt) = false) (o2 : (FloatKind.f64.format.order h (y % 9223372036854775808) == some .lt) = false) (o3 : (FloatKind.f64.format.order h m2 == some .gt) = false)
    (o5 : (FloatKind.f64.format.order d1 x == some .eq && FloatKind.f64.format.order d2 y == some .eq) = true) (o6 : (FloatKind.f64.format.order d3 x == some .eq && FloatKind.f64.format.order d4 y == some .eq) = true)
    (o7 : (FloatKind.f64.format.order s1 0 == some .gt || FloatKind.f64.format.order s1 0 == some .eq) = true) (o8 : (FloatKind.f64.format.order f bd == some .lt || FloatKind.f64.format.order f bd == some .eq) = true)
    (o4 : (FloatKind.f64.format.order h 0 == some .eq) = true) (o4' : (FloatKind.f64.format.order x 0 == some .eq && FloatKind.f64.format.order y 0 == some .eq) = true)
    (Hal : Hid (∀ w, Calls Try.prog 9 #[.complex .f64 d1 d2, .complex .f64 x y] w fun e w' => e = .returned (.bool false) ∧ w' = w)) (w : World) :
    Calls Try.prog 4 #[.int .u64 a, .int .u64 b] w fun e w' => e = .returned (.bool true) ∧ w' = w := by
  have hs := run_same
  have K1 := run_fl km
  have K2 : ∀ t w, (binOp .sub t (.complex .f64 q1 q2) (.complex .f64 x y)).run Try.prog w = .ok (.complex .f64 e1 e2) w := fun t w =>
    run_complex_sum w .sub (Or.inr rfl) t .f64 q1 q2 x y e1 e2 (by unfold cSumBits; rw [k1, k2]; rfl)
  have K3 := run_fl kb
  have o9 : (FloatKind.f64.format.order 4611686018427387904 4611686018427387904 == some .eq) = true := (by decide +kernel)
  have o10 : (FloatKind.f64.format.order 0 0 == some .eq) = true := (by decide +kernel)
  clear km k1 k2 kb
  go_enter Try.func4, Try.ntmps4
  go_wp2_with fail
  refine (unhide Ht1 _).mono ?_
  rintro e w' ⟨rfl, rfl⟩
  go_wp2_with fail
  refine (unhide Ht2 _).mono ?_
  rintro e w' ⟨rfl, rfl⟩
  go_wp2_with fail
  refine (unhide Hab _).mono ?_
  rintro e w' ⟨rfl, rfl⟩
  go_wp2_with fail
  refine (unhide Hr _).mono ?_
  rintro e w' ⟨rfl, rfl⟩
  go_wp2_with fail
  refine (unhide Hi _).mono ?_
  rintro e w' ⟨rfl, rfl⟩
  go_wp2_with fail
  refine (unhide Hmx _).mono ?_
  rintro e w' ⟨rfl, rfl⟩
  go_wp2_with fail
  refine (unhide Hd1 _).mono ?_
  rintro e w' ⟨rfl, rfl⟩
  go_wp2_with fail
  refine (unhide Hal _).mono ?_
  rintro e w' ⟨rfl, rfl⟩
  go_wp2_with fail
  refine (unhide Hd1 _).mono ?_
  rintro e w' ⟨rfl, rfl⟩
  go_wp2_with fail
  refine (turn_walk _ _ _).mono ?_
  rintro e w' ⟨rfl, rfl⟩
  go_wp2_with fail
  refine (unhide Hd2 _).mono ?_
  rintro e w' ⟨rfl, rfl⟩
  go_wp2_with fail
  refine (unhide Hsq _).mono ?_
  rintro e w' ⟨rfl, rfl⟩
  go_wp2_with fail
  refine (unhide Hml _).mono ?_
  rintro e w' ⟨rfl, rfl⟩
  go_wp2_with fail
  refine (unhide Hfa _).mono ?_
  rintro e w' ⟨rfl, rfl⟩
  go_wp2_with fail
  refine (sqrt_4 _).mono ?_
  rintro e w' ⟨rfl, rfl⟩
  go_wp2
  go_ret
  exact ⟨rfl, rfl⟩

set_option maxRecDepth 100000 in
set_option maxHeartbeats 2000000 in
theorem mag_tt (a b : Int) (x y h mx m2 d1 d2 d3 d4 s1 s2 q1 q2 e1 e2 f bd : Nat)
    (Ht1 : Hid (∀ w, Calls Try.prog 15 #[.int .u64 a] w fun e w' => e = .returned (.float .f64 x) ∧ w' = w)) (Ht2 : Hid (∀ w, Calls Try.prog 15 #[.int .u64 b] w fun e w' => e = .returned (.float .f64 y) ∧ w' = w))
    (Hab : Hid (∀ w, Calls Try.prog 8 #[.complex .f64 x y] w fun e w' => e = .returned (.float .f64 h) ∧ w' = w))
    (Hr : Hid (∀ w, Calls Try.prog 16 #[.float .f64 x] w fun e w' => e = .returned (.float .f64 (x % 9223372036854775808)) ∧ w' = w)) (Hi : Hid (∀ w, Calls Try.prog 16 #[.float .f64 y] w fun e w' => e = .returned (.float .f64 (y % 9223372036854775808)) ∧ w' = w))
    (Hmx : Hid (∀ w, Calls Try.prog 17 #[.float .f64 (x % 9223372036854775808), .float .f64 (y % 9223372036854775808)] w fun e w' => e = .returned (.float .f64 mx) ∧ w' = w))
    (Hd1 : Hid (∀ w, Calls Try.prog 18 #[.complex .f64 x y, .complex .f64 4607182418800017408 0] w fun e w' => e = .returned (.complex .f64 d1 d2) ∧ w' = w))
    (Hd2 : Hid (∀ w, Calls Try.prog 18 #[.complex .f64 (Op.negFloat .f64 y) x, .complex .f64 0 4607182418800017408] w fun e w' => e = .returned (.complex .f64 d3 d4) ∧ w' = w))
    (Hsq : Hid (∀ w, Calls Try.prog 19 #[.complex .f64 x y] w fun e w' => e = .returned (.complex .f64 s1 s2) ∧ w' = w))
    (Hml : Hid (∀ w, Calls Try.prog 7 #[.complex .f64 s1 s2, .complex .f64 s1 s2] w fun e w' => e = .returned (.complex .f64 q1 q2) ∧ w' = w))
    (Hfa : Hid (∀ w, Calls Try.prog 8 #[.complex .f64 e1 e2] w fun e w' => e = .returned (.float .f64 f) ∧ w' = w))
    (km : floatBits .mul .f64 4611686018427387904 mx = some m2) (k1 : floatBits .sub .f64 q1 x = some e1) (k2 : floatBits .sub .f64 q2 y = some e2) (kb : floatBits .mul .f64 h 4391009636686233600 = some bd)
    (o1 : (FloatKind.f64.format.order h (x % 9223372036854775808) == some .lt) = false) (o2 : (FloatKind.f64.format.order h (y % 9223372036854775808) == some .lt) = false) (o3 : (FloatKind.f64.format.order h m2 == some .gt) = false)
    (_o5 : (FloatKind.f64.format.order d1 x == some .eq && FloatKind.f64.format.order d2 y == some .eq) = true) (o6 : (FloatKind.f64.format.order d3 x == some .eq && FloatKind.f64.format.order d4 y == some .eq) = true)
    (o7 : (FloatKind.f64.format.order s1 0 == some .gt || FloatKind.f64.format.order s1 0 == some .eq) = true) (o8 : (FloatKind.f64.format.order f bd == some .lt || FloatKind.f64.format.order f bd == some .eq) = true)
    (o4 : (FloatKind.f64.format.order h 0 == some .eq) = true) (o4' : (FloatKind.f64.format.order x 0 == some .eq && FloatKind.f64.format.order y 0 == some .eq) = true)
    (Hal : Hid (∀ w, Calls Try.prog 9 #[.complex .f64 d1 d2, .complex .f64 x y] w fun e w' => e = .returned (.bool true) ∧ w' = w)) (w : World) :
    Calls Try.prog 4 #[.int .u64 a, .int .u64 b] w fun e w' => e = .returned (.bool true) ∧ w' = w := by
  have hs := run_same
  have K1 := run_fl km
  have K2 : ∀ t w, (binOp .sub t (.complex .f64 q1 q2) (.complex .f64 x y)).run Try.prog w = .ok (.complex .f64 e1 e2) w := fun t w =>
    run_complex_sum w .sub (Or.inr rfl) t .f64 q1 q2 x y e1 e2 (by unfold cSumBits; rw [k1, k2]; rfl)
  have K3 := run_fl kb
  have o9 : (FloatKind.f64.format.order 4611686018427387904 4611686018427387904 == some .eq) = true := (by decide +kernel)
  have o10 : (FloatKind.f64.format.order 0 0 == some .eq) = true := (by decide +kernel)
  clear km k1 k2 kb
  go_enter Try.func4, Try.ntmps4
  go_wp2_with fail
  refine (unhide Ht1 _).mono ?_
  rintro e w' ⟨rfl, rfl⟩
  go_wp2_with fail
  refine (unhide Ht2 _).mono ?_
  rintro e w' ⟨rfl, rfl⟩
  go_wp2_with fail
  refine (unhide Hab _).mono ?_
  rintro e w' ⟨rfl, rfl⟩
  go_wp2_with fail
  refine (unhide Hr _).mono ?_
  rintro e w' ⟨rfl, rfl⟩
  go_wp2_with fail
  refine (unhide Hi _).mono ?_
  rintro e w' ⟨rfl, rfl⟩
  go_wp2_with fail
  refine (unhide Hmx _).mono ?_
  rintro e w' ⟨rfl, rfl⟩
  go_wp2_with fail
  refine (unhide Hd1 _).mono ?_
  rintro e w' ⟨rfl, rfl⟩
  go_wp2_with fail
  refine (unhide Hal _).mono ?_
  rintro e w' ⟨rfl, rfl⟩
  go_wp2_with fail
  refine (turn_walk _ _ _).mono ?_
  rintro e w' ⟨rfl, rfl⟩
  go_wp2_with fail
  refine (unhide Hd2 _).mono ?_
  rintro e w' ⟨rfl, rfl⟩
  go_wp2_with fail
  refine (unhide Hsq _).mono ?_
  rintro e w' ⟨rfl, rfl⟩
  go_wp2_with fail
  refine (unhide Hml _).mono ?_
  rintro e w' ⟨rfl, rfl⟩
  go_wp2_with fail
  refine (unhide Hfa _).mono ?_
  rintro e w' ⟨rfl, rfl⟩
  go_wp2_with fail
  refine (sqrt_4 _).mono ?_
  rintro e w' ⟨rfl, rfl⟩
  go_wp2
  go_ret
  exact ⟨rfl, rfl⟩

end Go.Proofs.Ytmgdicpcljippac
