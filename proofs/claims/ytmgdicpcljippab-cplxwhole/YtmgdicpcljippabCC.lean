/- CplxWhole: the walk, given what the calls answer. -/
import Derived.Test.YtmgdicpcljippabAw3
import Derived.Test.YtmgdicpcljippabCB
namespace Go.Proofs.Ytmgdicpcljippab
open Go.RowKit

set_option maxRecDepth 100000 in
set_option maxHeartbeats 2000000 in
theorem whole_in_pos (a b c d e : Int) (R S k : Int) (W iw re im E1 f1 s1 g1 E2 f2 s2 g2 r1 r2 kk mk u1 v1 u2 v2 : Nat)
    (Hm : Hid (∀ w, Calls Try.prog 5 #[.complex .f64 (floatOfInt .f64 a) (floatOfInt .f64 b), .complex .f64 (floatOfInt .f64 R) (floatOfInt .f64 S)] w fun e w' => e = .returned (.complex .f64 re im) ∧ w' = w))
    (Hl : Hid (∀ w, Calls Try.prog 6 #[.float .f64 4607182418800017408, .int .i64 k] w fun e w' => e = .returned (.float .f64 W) ∧ w' = w))
    (Hd1 : Hid (∀ w, Calls Try.prog 7 #[.complex .f64 (floatOfInt .f64 a) (floatOfInt .f64 b), .complex .f64 W 0] w fun e w' => e = .returned (.complex .f64 E1 f1) ∧ w' = w))
    (Hs1 : Hid (∀ w, Calls Try.prog 8 #[.float .f64 iw, .complex .f64 (floatOfInt .f64 a) (floatOfInt .f64 b)] w fun e w' => e = .returned (.complex .f64 s1 g1) ∧ w' = w))
    (Hd2 : Hid (∀ w, Calls Try.prog 7 #[.complex .f64 (floatOfInt .f64 a) (floatOfInt .f64 b), .complex .f64 0 W] w fun e w' => e = .returned (.complex .f64 E2 f2) ∧ w' = w))
    (Hs2 : Hid (∀ w, Calls Try.prog 8 #[.float .f64 iw, .complex .f64 (floatOfInt .f64 b) (Op.negFloat .f64 (floatOfInt .f64 a))] w fun e w' => e = .returned (.complex .f64 s2 g2) ∧ w' = w))
    (Ha1 : Hid (∀ w, Calls Try.prog 9 #[.complex .f64 (floatOfInt .f64 a) 0] w fun e w' => e = .returned (.float .f64 r1) ∧ w' = w))
    (Ha2 : Hid (∀ w, Calls Try.prog 9 #[.complex .f64 0 (floatOfInt .f64 a)] w fun e w' => e = .returned (.float .f64 r2) ∧ w' = w))
    (Hk : Hid (∀ w, Calls Try.prog 10 #[.float .f64 (floatOfInt .f64 R)] w fun e w' => e = .returned (.float .f64 (floatOfInt .f64 R % 9223372036854775808)) ∧ w' = w))
    (Hq1 : Hid (∀ w, Calls Try.prog 11 #[.complex .f64 kk 0] w fun e w' => e = .returned (.complex .f64 u1 v1) ∧ w' = w))
    (Hq2 : Hid (∀ w, Calls Try.prog 11 #[.complex .f64 mk 0] w fun e w' => e = .returned (.complex .f64 u2 v2) ∧ w' = w))
    (kq : floatBits .quo .f64 4607182418800017408 W = some iw) (km : floatBits .mul .f64 (floatOfInt .f64 R % 9223372036854775808) (floatOfInt .f64 R % 9223372036854775808) = some kk) (kn : floatBits .mul .f64 (Op.negFloat .f64 (floatOfInt .f64 R % 9223372036854775808)) (floatOfInt .f64 R % 9223372036854775808) = some mk)
    (hR : c.tmod 1048576 = R) (hS : d.tmod 1048576 = S)
    (o1 : (FloatKind.f64.format.order re (floatOfInt .f64 (a * R - b * S)) == some .eq) = true) (o2 : (FloatKind.f64.format.order im (floatOfInt .f64 (a * S + b * R)) == some .eq) = true)
    (o3 : (FloatKind.f64.format.order E1 s1 == some .eq) = true) (o4 : (FloatKind.f64.format.order f1 g1 == some .eq) = true) (o5 : (FloatKind.f64.format.order E2 s2 == some .eq) = true) (o6 : (FloatKind.f64.format.order f2 g2 == some .eq) = true)
    (o7 : (FloatKind.f64.format.order r1 (floatOfInt .f64 a) != some .eq) = false) (o8 : (FloatKind.f64.format.order r2 (floatOfInt .f64 a) != some .eq) = false)
    (o9 : (FloatKind.f64.format.order u1 (floatOfInt .f64 R % 9223372036854775808) == some .eq) = true) (o10 : (FloatKind.f64.format.order v1 0 == some .eq) = true) (o11 : (FloatKind.f64.format.order u2 0 == some .eq) = true) (o12 : (FloatKind.f64.format.order v2 (floatOfInt .f64 R % 9223372036854775808) == some .eq) = true)
    (a1 : -2147483648 ≤ a) (a2 : a ≤ 2147483647) (b1 : -2147483648 ≤ b) (b2 : b ≤ 2147483647)
    (r1' : -1048576 ≤ R) (r2' : R ≤ 1048576) (s1' : -1048576 ≤ S) (s2' : S ≤ 1048576)
    (e1 : 0 ≤ e) (e2 : e ≤ 60) (hk : k = e) (hneg : (FloatKind.f64.format.order (floatOfInt .f64 a) 0 == some .lt) = false) (w : World) :
    Calls Try.prog 3 #[.int .i32 a, .int .i32 b, .int .i32 c, .int .i32 d, .int .i64 e] w fun e w' => e = .returned (.bool true) ∧ Below w.heap.size w w' := by
  subst hk
  have p1 := prod_bound a R (by omega) (by omega) r1' r2'
  have p2 := prod_bound b S (by omega) (by omega) s1' s2'
  have p3 := prod_bound a S (by omega) (by omega) s1' s2'
  have p4 := prod_bound b R (by omega) (by omega) r1' r2'
  have hs := run_same
  have hn : ∀ b w, (Op.unary .neg (.float .f64 b)).run Try.prog w = .ok (.float .f64 (Op.negFloat .f64 b)) w := fun _ _ => rfl
  have k1 := run_fl kq
  have k2 := run_fl km
  have k3 := run_fl kn
  clear kq km kn
  go_enter Try.func3, Try.ntmps3
  go_wp2_with fail
  refine (awake_any _).mono ?_
  rintro e wa ⟨rfl, hbel⟩
  have Hb := hide hbel
  clear hbel
  go_wp2_with fail
  refine (unhide Hm _).mono ?_
  rintro e w' ⟨rfl, rfl⟩
  go_wp2_with fail
  refine (unhide Hl _).mono ?_
  rintro e w' ⟨rfl, rfl⟩
  go_wp2_with fail
  refine (unhide Hd1 _).mono ?_
  rintro e w' ⟨rfl, rfl⟩
  go_wp2_with fail
  refine (unhide Hs1 _).mono ?_
  rintro e w' ⟨rfl, rfl⟩
  go_wp2_with fail
  refine (unhide Hd2 _).mono ?_
  rintro e w' ⟨rfl, rfl⟩
  go_wp2_with fail
  refine (unhide Hs2 _).mono ?_
  rintro e w' ⟨rfl, rfl⟩
  go_wp2_with fail
  refine (unhide Ha1 _).mono ?_
  rintro e w' ⟨rfl, rfl⟩
  go_wp2_with fail
  refine (unhide Ha2 _).mono ?_
  rintro e w' ⟨rfl, rfl⟩
  go_wp2_with fail
  refine (unhide Hk _).mono ?_
  rintro e w' ⟨rfl, rfl⟩
  go_wp2_with fail
  refine (unhide Hq1 _).mono ?_
  rintro e w' ⟨rfl, rfl⟩
  go_wp2_with fail
  refine (unhide Hq2 _).mono ?_
  rintro e w' ⟨rfl, rfl⟩
  go_wp2
  go_ret
  exact ⟨rfl, unhide Hb⟩

set_option maxRecDepth 100000 in
set_option maxHeartbeats 2000000 in
theorem whole_in_neg (a b c d e : Int) (R S k : Int) (W iw re im E1 f1 s1 g1 E2 f2 s2 g2 r1 r2 kk mk u1 v1 u2 v2 : Nat)
    (Hm : Hid (∀ w, Calls Try.prog 5 #[.complex .f64 (floatOfInt .f64 a) (floatOfInt .f64 b), .complex .f64 (floatOfInt .f64 R) (floatOfInt .f64 S)] w fun e w' => e = .returned (.complex .f64 re im) ∧ w' = w))
    (Hl : Hid (∀ w, Calls Try.prog 6 #[.float .f64 4607182418800017408, .int .i64 k] w fun e w' => e = .returned (.float .f64 W) ∧ w' = w))
    (Hd1 : Hid (∀ w, Calls Try.prog 7 #[.complex .f64 (floatOfInt .f64 a) (floatOfInt .f64 b), .complex .f64 W 0] w fun e w' => e = .returned (.complex .f64 E1 f1) ∧ w' = w))
    (Hs1 : Hid (∀ w, Calls Try.prog 8 #[.float .f64 iw, .complex .f64 (floatOfInt .f64 a) (floatOfInt .f64 b)] w fun e w' => e = .returned (.complex .f64 s1 g1) ∧ w' = w))
    (Hd2 : Hid (∀ w, Calls Try.prog 7 #[.complex .f64 (floatOfInt .f64 a) (floatOfInt .f64 b), .complex .f64 0 W] w fun e w' => e = .returned (.complex .f64 E2 f2) ∧ w' = w))
    (Hs2 : Hid (∀ w, Calls Try.prog 8 #[.float .f64 iw, .complex .f64 (floatOfInt .f64 b) (Op.negFloat .f64 (floatOfInt .f64 a))] w fun e w' => e = .returned (.complex .f64 s2 g2) ∧ w' = w))
    (Ha1 : Hid (∀ w, Calls Try.prog 9 #[.complex .f64 (floatOfInt .f64 a) 0] w fun e w' => e = .returned (.float .f64 r1) ∧ w' = w))
    (Ha2 : Hid (∀ w, Calls Try.prog 9 #[.complex .f64 0 (floatOfInt .f64 a)] w fun e w' => e = .returned (.float .f64 r2) ∧ w' = w))
    (Hk : Hid (∀ w, Calls Try.prog 10 #[.float .f64 (floatOfInt .f64 R)] w fun e w' => e = .returned (.float .f64 (floatOfInt .f64 R % 9223372036854775808)) ∧ w' = w))
    (Hq1 : Hid (∀ w, Calls Try.prog 11 #[.complex .f64 kk 0] w fun e w' => e = .returned (.complex .f64 u1 v1) ∧ w' = w))
    (Hq2 : Hid (∀ w, Calls Try.prog 11 #[.complex .f64 mk 0] w fun e w' => e = .returned (.complex .f64 u2 v2) ∧ w' = w))
    (kq : floatBits .quo .f64 4607182418800017408 W = some iw) (km : floatBits .mul .f64 (floatOfInt .f64 R % 9223372036854775808) (floatOfInt .f64 R % 9223372036854775808) = some kk) (kn : floatBits .mul .f64 (Op.negFloat .f64 (floatOfInt .f64 R % 9223372036854775808)) (floatOfInt .f64 R % 9223372036854775808) = some mk)
    (hR : c.tmod 1048576 = R) (hS : d.tmod 1048576 = S)
    (o1 : (FloatKind.f64.format.order re (floatOfInt .f64 (a * R - b * S)) == some .eq) = true) (o2 : (FloatKind.f64.format.order im (floatOfInt .f64 (a * S + b * R)) == some .eq) = true)
    (o3 : (FloatKind.f64.format.order E1 s1 == some .eq) = true) (o4 : (FloatKind.f64.format.order f1 g1 == some .eq) = true) (o5 : (FloatKind.f64.format.order E2 s2 == some .eq) = true) (o6 : (FloatKind.f64.format.order f2 g2 == some .eq) = true)
    (o7 : (FloatKind.f64.format.order r1 (Op.negFloat .f64 (floatOfInt .f64 a)) != some .eq) = false) (o8 : (FloatKind.f64.format.order r2 (Op.negFloat .f64 (floatOfInt .f64 a)) != some .eq) = false)
    (o9 : (FloatKind.f64.format.order u1 (floatOfInt .f64 R % 9223372036854775808) == some .eq) = true) (o10 : (FloatKind.f64.format.order v1 0 == some .eq) = true) (o11 : (FloatKind.f64.format.order u2 0 == some .eq) = true) (o12 : (FloatKind.f64.format.order v2 (floatOfInt .f64 R % 9223372036854775808) == some .eq) = true)
    (a1 : -2147483648 ≤ a) (a2 : a ≤ 2147483647) (b1 : -2147483648 ≤ b) (b2 : b ≤ 2147483647)
    (r1' : -1048576 ≤ R) (r2' : R ≤ 1048576) (s1' : -1048576 ≤ S) (s2' : S ≤ 1048576)
    (e1 : 0 ≤ e) (e2 : e ≤ 60) (hk : k = e) (hneg : (FloatKind.f64.format.order (floatOfInt .f64 a) 0 == some .lt) = true) (w : World) :
    Calls Try.prog 3 #[.int .i32 a, .int .i32 b, .int .i32 c, .int .i32 d, .int .i64 e] w fun e w' => e = .returned (.bool true) ∧ Below w.heap.size w w' := by
  subst hk
  have p1 := prod_bound a R (by omega) (by omega) r1' r2'
  have p2 := prod_bound b S (by omega) (by omega) s1' s2'
  have p3 := prod_bound a S (by omega) (by omega) s1' s2'
  have p4 := prod_bound b R (by omega) (by omega) r1' r2'
  have hs := run_same
  have hn : ∀ b w, (Op.unary .neg (.float .f64 b)).run Try.prog w = .ok (.float .f64 (Op.negFloat .f64 b)) w := fun _ _ => rfl
  have k1 := run_fl kq
  have k2 := run_fl km
  have k3 := run_fl kn
  clear kq km kn
  go_enter Try.func3, Try.ntmps3
  go_wp2_with fail
  refine (awake_any _).mono ?_
  rintro e wa ⟨rfl, hbel⟩
  have Hb := hide hbel
  clear hbel
  go_wp2_with fail
  refine (unhide Hm _).mono ?_
  rintro e w' ⟨rfl, rfl⟩
  go_wp2_with fail
  refine (unhide Hl _).mono ?_
  rintro e w' ⟨rfl, rfl⟩
  go_wp2_with fail
  refine (unhide Hd1 _).mono ?_
  rintro e w' ⟨rfl, rfl⟩
  go_wp2_with fail
  refine (unhide Hs1 _).mono ?_
  rintro e w' ⟨rfl, rfl⟩
  go_wp2_with fail
  refine (unhide Hd2 _).mono ?_
  rintro e w' ⟨rfl, rfl⟩
  go_wp2_with fail
  refine (unhide Hs2 _).mono ?_
  rintro e w' ⟨rfl, rfl⟩
  go_wp2_with fail
  refine (unhide Ha1 _).mono ?_
  rintro e w' ⟨rfl, rfl⟩
  go_wp2_with fail
  refine (unhide Ha2 _).mono ?_
  rintro e w' ⟨rfl, rfl⟩
  go_wp2_with fail
  refine (unhide Hk _).mono ?_
  rintro e w' ⟨rfl, rfl⟩
  go_wp2_with fail
  refine (unhide Hq1 _).mono ?_
  rintro e w' ⟨rfl, rfl⟩
  go_wp2_with fail
  refine (unhide Hq2 _).mono ?_
  rintro e w' ⟨rfl, rfl⟩
  go_wp2
  go_ret
  exact ⟨rfl, unhide Hb⟩

set_option maxRecDepth 100000 in
set_option maxHeartbeats 2000000 in
theorem whole_lo_pos (a b c d e : Int) (R S k : Int) (W iw re im E1 f1 s1 g1 E2 f2 s2 g2 r1 r2 kk mk u1 v1 u2 v2 : Nat)
    (Hm : Hid (∀ w, Calls Try.prog 5 #[.complex .f64 (floatOfInt .f64 a) (floatOfInt .f64 b), .complex .f64 (floatOfInt .f64 R) (floatOfInt .f64 S)] w fun e w' => e = .returned (.complex .f64 re im) ∧ w' = w))
    (Hl : Hid (∀ w, Calls Try.prog 6 #[.float .f64 4607182418800017408, .int .i64 k] w fun e w' => e = .returned (.float .f64 W) ∧ w' = w))
    (Hd1 : Hid (∀ w, Calls Try.prog 7 #[.complex .f64 (floatOfInt .f64 a) (floatOfInt .f64 b), .complex .f64 W 0] w fun e w' => e = .returned (.complex .f64 E1 f1) ∧ w' = w))
    (Hs1 : Hid (∀ w, Calls Try.prog 8 #[.float .f64 iw, .complex .f64 (floatOfInt .f64 a) (floatOfInt .f64 b)] w fun e w' => e = .returned (.complex .f64 s1 g1) ∧ w' = w))
    (Hd2 : Hid (∀ w, Calls Try.prog 7 #[.complex .f64 (floatOfInt .f64 a) (floatOfInt .f64 b), .complex .f64 0 W] w fun e w' => e = .returned (.complex .f64 E2 f2) ∧ w' = w))
    (Hs2 : Hid (∀ w, Calls Try.prog 8 #[.float .f64 iw, .complex .f64 (floatOfInt .f64 b) (Op.negFloat .f64 (floatOfInt .f64 a))] w fun e w' => e = .returned (.complex .f64 s2 g2) ∧ w' = w))
    (Ha1 : Hid (∀ w, Calls Try.prog 9 #[.complex .f64 (floatOfInt .f64 a) 0] w fun e w' => e = .returned (.float .f64 r1) ∧ w' = w))
    (Ha2 : Hid (∀ w, Calls Try.prog 9 #[.complex .f64 0 (floatOfInt .f64 a)] w fun e w' => e = .returned (.float .f64 r2) ∧ w' = w))
    (Hk : Hid (∀ w, Calls Try.prog 10 #[.float .f64 (floatOfInt .f64 R)] w fun e w' => e = .returned (.float .f64 (floatOfInt .f64 R % 9223372036854775808)) ∧ w' = w))
    (Hq1 : Hid (∀ w, Calls Try.prog 11 #[.complex .f64 kk 0] w fun e w' => e = .returned (.complex .f64 u1 v1) ∧ w' = w))
    (Hq2 : Hid (∀ w, Calls Try.prog 11 #[.complex .f64 mk 0] w fun e w' => e = .returned (.complex .f64 u2 v2) ∧ w' = w))
    (kq : floatBits .quo .f64 4607182418800017408 W = some iw) (km : floatBits .mul .f64 (floatOfInt .f64 R % 9223372036854775808) (floatOfInt .f64 R % 9223372036854775808) = some kk) (kn : floatBits .mul .f64 (Op.negFloat .f64 (floatOfInt .f64 R % 9223372036854775808)) (floatOfInt .f64 R % 9223372036854775808) = some mk)
    (hR : c.tmod 1048576 = R) (hS : d.tmod 1048576 = S)
    (o1 : (FloatKind.f64.format.order re (floatOfInt .f64 (a * R - b * S)) == some .eq) = true) (o2 : (FloatKind.f64.format.order im (floatOfInt .f64 (a * S + b * R)) == some .eq) = true)
    (o3 : (FloatKind.f64.format.order E1 s1 == some .eq) = true) (o4 : (FloatKind.f64.format.order f1 g1 == some .eq) = true) (o5 : (FloatKind.f64.format.order E2 s2 == some .eq) = true) (o6 : (FloatKind.f64.format.order f2 g2 == some .eq) = true)
    (o7 : (FloatKind.f64.format.order r1 (floatOfInt .f64 a) != some .eq) = false) (o8 : (FloatKind.f64.format.order r2 (floatOfInt .f64 a) != some .eq) = false)
    (o9 : (FloatKind.f64.format.order u1 (floatOfInt .f64 R % 9223372036854775808) == some .eq) = true) (o10 : (FloatKind.f64.format.order v1 0 == some .eq) = true) (o11 : (FloatKind.f64.format.order u2 0 == some .eq) = true) (o12 : (FloatKind.f64.format.order v2 (floatOfInt .f64 R % 9223372036854775808) == some .eq) = true)
    (a1 : -2147483648 ≤ a) (a2 : a ≤ 2147483647) (b1 : -2147483648 ≤ b) (b2 : b ≤ 2147483647)
    (r1' : -1048576 ≤ R) (r2' : R ≤ 1048576) (s1' : -1048576 ≤ S) (s2' : S ≤ 1048576)
    (e1 : e < 0) (hk : k = 7) (hneg : (FloatKind.f64.format.order (floatOfInt .f64 a) 0 == some .lt) = false) (w : World) :
    Calls Try.prog 3 #[.int .i32 a, .int .i32 b, .int .i32 c, .int .i32 d, .int .i64 e] w fun e w' => e = .returned (.bool true) ∧ Below w.heap.size w w' := by
  subst hk
  have p1 := prod_bound a R (by omega) (by omega) r1' r2'
  have p2 := prod_bound b S (by omega) (by omega) s1' s2'
  have p3 := prod_bound a S (by omega) (by omega) s1' s2'
  have p4 := prod_bound b R (by omega) (by omega) r1' r2'
  have hs := run_same
  have hn : ∀ b w, (Op.unary .neg (.float .f64 b)).run Try.prog w = .ok (.float .f64 (Op.negFloat .f64 b)) w := fun _ _ => rfl
  have k1 := run_fl kq
  have k2 := run_fl km
  have k3 := run_fl kn
  clear kq km kn
  go_enter Try.func3, Try.ntmps3
  go_wp2_with fail
  refine (awake_any _).mono ?_
  rintro e wa ⟨rfl, hbel⟩
  have Hb := hide hbel
  clear hbel
  go_wp2_with fail
  refine (unhide Hm _).mono ?_
  rintro e w' ⟨rfl, rfl⟩
  go_wp2_with fail
  refine (unhide Hl _).mono ?_
  rintro e w' ⟨rfl, rfl⟩
  go_wp2_with fail
  refine (unhide Hd1 _).mono ?_
  rintro e w' ⟨rfl, rfl⟩
  go_wp2_with fail
  refine (unhide Hs1 _).mono ?_
  rintro e w' ⟨rfl, rfl⟩
  go_wp2_with fail
  refine (unhide Hd2 _).mono ?_
  rintro e w' ⟨rfl, rfl⟩
  go_wp2_with fail
  refine (unhide Hs2 _).mono ?_
  rintro e w' ⟨rfl, rfl⟩
  go_wp2_with fail
  refine (unhide Ha1 _).mono ?_
  rintro e w' ⟨rfl, rfl⟩
  go_wp2_with fail
  refine (unhide Ha2 _).mono ?_
  rintro e w' ⟨rfl, rfl⟩
  go_wp2_with fail
  refine (unhide Hk _).mono ?_
  rintro e w' ⟨rfl, rfl⟩
  go_wp2_with fail
  refine (unhide Hq1 _).mono ?_
  rintro e w' ⟨rfl, rfl⟩
  go_wp2_with fail
  refine (unhide Hq2 _).mono ?_
  rintro e w' ⟨rfl, rfl⟩
  go_wp2
  go_ret
  exact ⟨rfl, unhide Hb⟩

set_option maxRecDepth 100000 in
set_option maxHeartbeats 2000000 in
theorem whole_lo_neg (a b c d e : Int) (R S k : Int) (W iw re im E1 f1 s1 g1 E2 f2 s2 g2 r1 r2 kk mk u1 v1 u2 v2 : Nat)
    (Hm : Hid (∀ w, Calls Try.prog 5 #[.complex .f64 (floatOfInt .f64 a) (floatOfInt .f64 b), .complex .f64 (floatOfInt .f64 R) (floatOfInt .f64 S)] w fun e w' => e = .returned (.complex .f64 re im) ∧ w' = w))
    (Hl : Hid (∀ w, Calls Try.prog 6 #[.float .f64 4607182418800017408, .int .i64 k] w fun e w' => e = .returned (.float .f64 W) ∧ w' = w))
    (Hd1 : Hid (∀ w, Calls Try.prog 7 #[.complex .f64 (floatOfInt .f64 a) (floatOfInt .f64 b), .complex .f64 W 0] w fun e w' => e = .returned (.complex .f64 E1 f1) ∧ w' = w))
    (Hs1 : Hid (∀ w, Calls Try.prog 8 #[.float .f64 iw, .complex .f64 (floatOfInt .f64 a) (floatOfInt .f64 b)] w fun e w' => e = .returned (.complex .f64 s1 g1) ∧ w' = w))
    (Hd2 : Hid (∀ w, Calls Try.prog 7 #[.complex .f64 (floatOfInt .f64 a) (floatOfInt .f64 b), .complex .f64 0 W] w fun e w' => e = .returned (.complex .f64 E2 f2) ∧ w' = w))
    (Hs2 : Hid (∀ w, Calls Try.prog 8 #[.float .f64 iw, .complex .f64 (floatOfInt .f64 b) (Op.negFloat .f64 (floatOfInt .f64 a))] w fun e w' => e = .returned (.complex .f64 s2 g2) ∧ w' = w))
    (Ha1 : Hid (∀ w, Calls Try.prog 9 #[.complex .f64 (floatOfInt .f64 a) 0] w fun e w' => e = .returned (.float .f64 r1) ∧ w' = w))
    (Ha2 : Hid (∀ w, Calls Try.prog 9 #[.complex .f64 0 (floatOfInt .f64 a)] w fun e w' => e = .returned (.float .f64 r2) ∧ w' = w))
    (Hk : Hid (∀ w, Calls Try.prog 10 #[.float .f64 (floatOfInt .f64 R)] w fun e w' => e = .returned (.float .f64 (floatOfInt .f64 R % 9223372036854775808)) ∧ w' = w))
    (Hq1 : Hid (∀ w, Calls Try.prog 11 #[.complex .f64 kk 0] w fun e w' => e = .returned (.complex .f64 u1 v1) ∧ w' = w))
    (Hq2 : Hid (∀ w, Calls Try.prog 11 #[.complex .f64 mk 0] w fun e w' => e = .returned (.complex .f64 u2 v2) ∧ w' = w))
    (kq : floatBits .quo .f64 4607182418800017408 W = some iw) (km : floatBits .mul .f64 (floatOfInt .f64 R % 9223372036854775808) (floatOfInt .f64 R % 9223372036854775808) = some kk) (kn : floatBits .mul .f64 (Op.negFloat .f64 (floatOfInt .f64 R % 9223372036854775808)) (floatOfInt .f64 R % 9223372036854775808) = some mk)
    (hR : c.tmod 1048576 = R) (hS : d.tmod 1048576 = S)
    (o1 : (FloatKind.f64.format.order re (floatOfInt .f64 (a * R - b * S)) == some .eq) = true) (o2 : (FloatKind.f64.format.order im (floatOfInt .f64 (a * S + b * R)) == some .eq) = true)
    (o3 : (FloatKind.f64.format.order E1 s1 == some .eq) = true) (o4 : (FloatKind.f64.format.order f1 g1 == some .eq) = true) (o5 : (FloatKind.f64.format.order E2 s2 == some .eq) = true) (o6 : (FloatKind.f64.format.order f2 g2 == some .eq) = true)
    (o7 : (FloatKind.f64.format.order r1 (Op.negFloat .f64 (floatOfInt .f64 a)) != some .eq) = false) (o8 : (FloatKind.f64.format.order r2 (Op.negFloat .f64 (floatOfInt .f64 a)) != some .eq) = false)
    (o9 : (FloatKind.f64.format.order u1 (floatOfInt .f64 R % 9223372036854775808) == some .eq) = true) (o10 : (FloatKind.f64.format.order v1 0 == some .eq) = true) (o11 : (FloatKind.f64.format.order u2 0 == some .eq) = true) (o12 : (FloatKind.f64.format.order v2 (floatOfInt .f64 R % 9223372036854775808) == some .eq) = true)
    (a1 : -2147483648 ≤ a) (a2 : a ≤ 2147483647) (b1 : -2147483648 ≤ b) (b2 : b ≤ 2147483647)
    (r1' : -1048576 ≤ R) (r2' : R ≤ 1048576) (s1' : -1048576 ≤ S) (s2' : S ≤ 1048576)
    (e1 : e < 0) (hk : k = 7) (hneg : (FloatKind.f64.format.order (floatOfInt .f64 a) 0 == some .lt) = true) (w : World) :
    Calls Try.prog 3 #[.int .i32 a, .int .i32 b, .int .i32 c, .int .i32 d, .int .i64 e] w fun e w' => e = .returned (.bool true) ∧ Below w.heap.size w w' := by
  subst hk
  have p1 := prod_bound a R (by omega) (by omega) r1' r2'
  have p2 := prod_bound b S (by omega) (by omega) s1' s2'
  have p3 := prod_bound a S (by omega) (by omega) s1' s2'
  have p4 := prod_bound b R (by omega) (by omega) r1' r2'
  have hs := run_same
  have hn : ∀ b w, (Op.unary .neg (.float .f64 b)).run Try.prog w = .ok (.float .f64 (Op.negFloat .f64 b)) w := fun _ _ => rfl
  have k1 := run_fl kq
  have k2 := run_fl km
  have k3 := run_fl kn
  clear kq km kn
  go_enter Try.func3, Try.ntmps3
  go_wp2_with fail
  refine (awake_any _).mono ?_
  rintro e wa ⟨rfl, hbel⟩
  have Hb := hide hbel
  clear hbel
  go_wp2_with fail
  refine (unhide Hm _).mono ?_
  rintro e w' ⟨rfl, rfl⟩
  go_wp2_with fail
  refine (unhide Hl _).mono ?_
  rintro e w' ⟨rfl, rfl⟩
  go_wp2_with fail
  refine (unhide Hd1 _).mono ?_
  rintro e w' ⟨rfl, rfl⟩
  go_wp2_with fail
  refine (unhide Hs1 _).mono ?_
  rintro e w' ⟨rfl, rfl⟩
  go_wp2_with fail
  refine (unhide Hd2 _).mono ?_
  rintro e w' ⟨rfl, rfl⟩
  go_wp2_with fail
  refine (unhide Hs2 _).mono ?_
  rintro e w' ⟨rfl, rfl⟩
  go_wp2_with fail
  refine (unhide Ha1 _).mono ?_
  rintro e w' ⟨rfl, rfl⟩
  go_wp2_with fail
  refine (unhide Ha2 _).mono ?_
  rintro e w' ⟨rfl, rfl⟩
  go_wp2_with fail
  refine (unhide Hk _).mono ?_
  rintro e w' ⟨rfl, rfl⟩
  go_wp2_with fail
  refine (unhide Hq1 _).mono ?_
  rintro e w' ⟨rfl, rfl⟩
  go_wp2_with fail
  refine (unhide Hq2 _).mono ?_
  rintro e w' ⟨rfl, rfl⟩
  go_wp2
  go_ret
  exact ⟨rfl, unhide Hb⟩

set_option maxRecDepth 100000 in
set_option maxHeartbeats 2000000 in
theorem whole_hi_pos (a b c d e : Int) (R S k : Int) (W iw re im E1 f1 s1 g1 E2 f2 s2 g2 r1 r2 kk mk u1 v1 u2 v2 : Nat)
    (Hm : Hid (∀ w, Calls Try.prog 5 #[.complex .f64 (floatOfInt .f64 a) (floatOfInt .f64 b), .complex .f64 (floatOfInt .f64 R) (floatOfInt .f64 S)] w fun e w' => e = .returned (.complex .f64 re im) ∧ w' = w))
    (Hl : Hid (∀ w, Calls Try.prog 6 #[.float .f64 4607182418800017408, .int .i64 k] w fun e w' => e = .returned (.float .f64 W) ∧ w' = w))
    (Hd1 : Hid (∀ w, Calls Try.prog 7 #[.complex .f64 (floatOfInt .f64 a) (floatOfInt .f64 b), .complex .f64 W 0] w fun e w' => e = .returned (.complex .f64 E1 f1) ∧ w' = w))
    (Hs1 : Hid (∀ w, Calls Try.prog 8 #[.float .f64 iw, .complex .f64 (floatOfInt .f64 a) (floatOfInt .f64 b)] w fun e w' => e = .returned (.complex .f64 s1 g1) ∧ w' = w))
    (Hd2 : Hid (∀ w, Calls Try.prog 7 #[.complex .f64 (floatOfInt .f64 a) (floatOfInt .f64 b), .complex .f64 0 W] w fun e w' => e = .returned (.complex .f64 E2 f2) ∧ w' = w))
    (Hs2 : Hid (∀ w, Calls Try.prog 8 #[.float .f64 iw, .complex .f64 (floatOfInt .f64 b) (Op.negFloat .f64 (floatOfInt .f64 a))] w fun e w' => e = .returned (.complex .f64 s2 g2) ∧ w' = w))
    (Ha1 : Hid (∀ w, Calls Try.prog 9 #[.complex .f64 (floatOfInt .f64 a) 0] w fun e w' => e = .returned (.float .f64 r1) ∧ w' = w))
    (Ha2 : Hid (∀ w, Calls Try.prog 9 #[.complex .f64 0 (floatOfInt .f64 a)] w fun e w' => e = .returned (.float .f64 r2) ∧ w' = w))
    (Hk : Hid (∀ w, Calls Try.prog 10 #[.float .f64 (floatOfInt .f64 R)] w fun e w' => e = .returned (.float .f64 (floatOfInt .f64 R % 9223372036854775808)) ∧ w' = w))
    (Hq1 : Hid (∀ w, Calls Try.prog 11 #[.complex .f64 kk 0] w fun e w' => e = .returned (.complex .f64 u1 v1) ∧ w' = w))
    (Hq2 : Hid (∀ w, Calls Try.prog 11 #[.complex .f64 mk 0] w fun e w' => e = .returned (.complex .f64 u2 v2) ∧ w' = w))
    (kq : floatBits .quo .f64 4607182418800017408 W = some iw) (km : floatBits .mul .f64 (floatOfInt .f64 R % 9223372036854775808) (floatOfInt .f64 R % 9223372036854775808) = some kk) (kn : floatBits .mul .f64 (Op.negFloat .f64 (floatOfInt .f64 R % 9223372036854775808)) (floatOfInt .f64 R % 9223372036854775808) = some mk)
    (hR : c.tmod 1048576 = R) (hS : d.tmod 1048576 = S)
    (o1 : (FloatKind.f64.format.order re (floatOfInt .f64 (a * R - b * S)) == some .eq) = true) (o2 : (FloatKind.f64.format.order im (floatOfInt .f64 (a * S + b * R)) == some .eq) = true)
    (o3 : (FloatKind.f64.format.order E1 s1 == some .eq) = true) (o4 : (FloatKind.f64.format.order f1 g1 == some .eq) = true) (o5 : (FloatKind.f64.format.order E2 s2 == some .eq) = true) (o6 : (FloatKind.f64.format.order f2 g2 == some .eq) = true)
    (o7 : (FloatKind.f64.format.order r1 (floatOfInt .f64 a) != some .eq) = false) (o8 : (FloatKind.f64.format.order r2 (floatOfInt .f64 a) != some .eq) = false)
    (o9 : (FloatKind.f64.format.order u1 (floatOfInt .f64 R % 9223372036854775808) == some .eq) = true) (o10 : (FloatKind.f64.format.order v1 0 == some .eq) = true) (o11 : (FloatKind.f64.format.order u2 0 == some .eq) = true) (o12 : (FloatKind.f64.format.order v2 (floatOfInt .f64 R % 9223372036854775808) == some .eq) = true)
    (a1 : -2147483648 ≤ a) (a2 : a ≤ 2147483647) (b1 : -2147483648 ≤ b) (b2 : b ≤ 2147483647)
    (r1' : -1048576 ≤ R) (r2' : R ≤ 1048576) (s1' : -1048576 ≤ S) (s2' : S ≤ 1048576)
    (e1 : 0 ≤ e) (e2 : 60 < e) (hk : k = 7) (hneg : (FloatKind.f64.format.order (floatOfInt .f64 a) 0 == some .lt) = false) (w : World) :
    Calls Try.prog 3 #[.int .i32 a, .int .i32 b, .int .i32 c, .int .i32 d, .int .i64 e] w fun e w' => e = .returned (.bool true) ∧ Below w.heap.size w w' := by
  subst hk
  have p1 := prod_bound a R (by omega) (by omega) r1' r2'
  have p2 := prod_bound b S (by omega) (by omega) s1' s2'
  have p3 := prod_bound a S (by omega) (by omega) s1' s2'
  have p4 := prod_bound b R (by omega) (by omega) r1' r2'
  have hs := run_same
  have hn : ∀ b w, (Op.unary .neg (.float .f64 b)).run Try.prog w = .ok (.float .f64 (Op.negFloat .f64 b)) w := fun _ _ => rfl
  have k1 := run_fl kq
  have k2 := run_fl km
  have k3 := run_fl kn
  clear kq km kn
  go_enter Try.func3, Try.ntmps3
  go_wp2_with fail
  refine (awake_any _).mono ?_
  rintro e wa ⟨rfl, hbel⟩
  have Hb := hide hbel
  clear hbel
  go_wp2_with fail
  refine (unhide Hm _).mono ?_
  rintro e w' ⟨rfl, rfl⟩
  go_wp2_with fail
  refine (unhide Hl _).mono ?_
  rintro e w' ⟨rfl, rfl⟩
  go_wp2_with fail
  refine (unhide Hd1 _).mono ?_
  rintro e w' ⟨rfl, rfl⟩
  go_wp2_with fail
  refine (unhide Hs1 _).mono ?_
  rintro e w' ⟨rfl, rfl⟩
  go_wp2_with fail
  refine (unhide Hd2 _).mono ?_
  rintro e w' ⟨rfl, rfl⟩
  go_wp2_with fail
  refine (unhide Hs2 _).mono ?_
  rintro e w' ⟨rfl, rfl⟩
  go_wp2_with fail
  refine (unhide Ha1 _).mono ?_
  rintro e w' ⟨rfl, rfl⟩
  go_wp2_with fail
  refine (unhide Ha2 _).mono ?_
  rintro e w' ⟨rfl, rfl⟩
  go_wp2_with fail
  refine (unhide Hk _).mono ?_
  rintro e w' ⟨rfl, rfl⟩
  go_wp2_with fail
  refine (unhide Hq1 _).mono ?_
  rintro e w' ⟨rfl, rfl⟩
  go_wp2_with fail
  refine (unhide Hq2 _).mono ?_
  rintro e w' ⟨rfl, rfl⟩
  go_wp2
  go_ret
  exact ⟨rfl, unhide Hb⟩

set_option maxRecDepth 100000 in
set_option maxHeartbeats 2000000 in
theorem whole_hi_neg (a b c d e : Int) (R S k : Int) (W iw re im E1 f1 s1 g1 E2 f2 s2 g2 r1 r2 kk mk u1 v1 u2 v2 : Nat)
    (Hm : Hid (∀ w, Calls Try.prog 5 #[.complex .f64 (floatOfInt .f64 a) (floatOfInt .f64 b), .complex .f64 (floatOfInt .f64 R) (floatOfInt .f64 S)] w fun e w' => e = .returned (.complex .f64 re im) ∧ w' = w))
    (Hl : Hid (∀ w, Calls Try.prog 6 #[.float .f64 4607182418800017408, .int .i64 k] w fun e w' => e = .returned (.float .f64 W) ∧ w' = w))
    (Hd1 : Hid (∀ w, Calls Try.prog 7 #[.complex .f64 (floatOfInt .f64 a) (floatOfInt .f64 b), .complex .f64 W 0] w fun e w' => e = .returned (.complex .f64 E1 f1) ∧ w' = w))
    (Hs1 : Hid (∀ w, Calls Try.prog 8 #[.float .f64 iw, .complex .f64 (floatOfInt .f64 a) (floatOfInt .f64 b)] w fun e w' => e = .returned (.complex .f64 s1 g1) ∧ w' = w))
    (Hd2 : Hid (∀ w, Calls Try.prog 7 #[.complex .f64 (floatOfInt .f64 a) (floatOfInt .f64 b), .complex .f64 0 W] w fun e w' => e = .returned (.complex .f64 E2 f2) ∧ w' = w))
    (Hs2 : Hid (∀ w, Calls Try.prog 8 #[.float .f64 iw, .complex .f64 (floatOfInt .f64 b) (Op.negFloat .f64 (floatOfInt .f64 a))] w fun e w' => e = .returned (.complex .f64 s2 g2) ∧ w' = w))
    (Ha1 : Hid (∀ w, Calls Try.prog 9 #[.complex .f64 (floatOfInt .f64 a) 0] w fun e w' => e = .returned (.float .f64 r1) ∧ w' = w))
    (Ha2 : Hid (∀ w, Calls Try.prog 9 #[.complex .f64 0 (floatOfInt .f64 a)] w fun e w' => e = .returned (.float .f64 r2) ∧ w' = w))
    (Hk : Hid (∀ w, Calls Try.prog 10 #[.float .f64 (floatOfInt .f64 R)] w fun e w' => e = .returned (.float .f64 (floatOfInt .f64 R % 9223372036854775808)) ∧ w' = w))
    (Hq1 : Hid (∀ w, Calls Try.prog 11 #[.complex .f64 kk 0] w fun e w' => e = .returned (.complex .f64 u1 v1) ∧ w' = w))
    (Hq2 : Hid (∀ w, Calls Try.prog 11 #[.complex .f64 mk 0] w fun e w' => e = .returned (.complex .f64 u2 v2) ∧ w' = w))
    (kq : floatBits .quo .f64 4607182418800017408 W = some iw) (km : floatBits .mul .f64 (floatOfInt .f64 R % 9223372036854775808) (floatOfInt .f64 R % 9223372036854775808) = some kk) (kn : floatBits .mul .f64 (Op.negFloat .f64 (floatOfInt .f64 R % 9223372036854775808)) (floatOfInt .f64 R % 9223372036854775808) = some mk)
    (hR : c.tmod 1048576 = R) (hS : d.tmod 1048576 = S)
    (o1 : (FloatKind.f64.format.order re (floatOfInt .f64 (a * R - b * S)) == some .eq) = true) (o2 : (FloatKind.f64.format.order im (floatOfInt .f64 (a * S + b * R)) == some .eq) = true)
    (o3 : (FloatKind.f64.format.order E1 s1 == some .eq) = true) (o4 : (FloatKind.f64.format.order f1 g1 == some .eq) = true) (o5 : (FloatKind.f64.format.order E2 s2 == some .eq) = true) (o6 : (FloatKind.f64.format.order f2 g2 == some .eq) = true)
    (o7 : (FloatKind.f64.format.order r1 (Op.negFloat .f64 (floatOfInt .f64 a)) != some .eq) = false) (o8 : (FloatKind.f64.format.order r2 (Op.negFloat .f64 (floatOfInt .f64 a)) != some .eq) = false)
    (o9 : (FloatKind.f64.format.order u1 (floatOfInt .f64 R % 9223372036854775808) == some .eq) = true) (o10 : (FloatKind.f64.format.order v1 0 == some .eq) = true) (o11 : (FloatKind.f64.format.order u2 0 == some .eq) = true) (o12 : (FloatKind.f64.format.order v2 (floatOfInt .f64 R % 9223372036854775808) == some .eq) = true)
    (a1 : -2147483648 ≤ a) (a2 : a ≤ 2147483647) (b1 : -2147483648 ≤ b) (b2 : b ≤ 2147483647)
    (r1' : -1048576 ≤ R) (r2' : R ≤ 1048576) (s1' : -1048576 ≤ S) (s2' : S ≤ 1048576)
    (e1 : 0 ≤ e) (e2 : 60 < e) (hk : k = 7) (hneg : (FloatKind.f64.format.order (floatOfInt .f64 a) 0 == some .lt) = true) (w : World) :
    Calls Try.prog 3 #[.int .i32 a, .int .i32 b, .int .i32 c, .int .i32 d, .int .i64 e] w fun e w' => e = .returned (.bool true) ∧ Below w.heap.size w w' := by
  subst hk
  have p1 := prod_bound a R (by omega) (by omega) r1' r2'
  have p2 := prod_bound b S (by omega) (by omega) s1' s2'
  have p3 := prod_bound a S (by omega) (by omega) s1' s2'
  have p4 := prod_bound b R (by omega) (by omega) r1' r2'
  have hs := run_same
  have hn : ∀ b w, (Op.unary .neg (.float .f64 b)).run Try.prog w = .ok (.float .f64 (Op.negFloat .f64 b)) w := fun _ _ => rfl
  have k1 := run_fl kq
  have k2 := run_fl km
  have k3 := run_fl kn
  clear kq km kn
  go_enter Try.func3, Try.ntmps3
  go_wp2_with fail
  refine (awake_any _).mono ?_
  rintro e wa ⟨rfl, hbel⟩
  have Hb := hide hbel
  clear hbel
  go_wp2_with fail
  refine (unhide Hm _).mono ?_
  rintro e w' ⟨rfl, rfl⟩
  go_wp2_with fail
  refine (unhide Hl _).mono ?_
  rintro e w' ⟨rfl, rfl⟩
  go_wp2_with fail
  refine (unhide Hd1 _).mono ?_
  rintro e w' ⟨rfl, rfl⟩
  go_wp2_with fail
  refine (unhide Hs1 _).mono ?_
  rintro e w' ⟨rfl, rfl⟩
  go_wp2_with fail
  refine (unhide Hd2 _).mono ?_
  rintro e w' ⟨rfl, rfl⟩
  go_wp2_with fail
  refine (unhide Hs2 _).mono ?_
  rintro e w' ⟨rfl, rfl⟩
  go_wp2_with fail
  refine (unhide Ha1 _).mono ?_
  rintro e w' ⟨rfl, rfl⟩
  go_wp2_with fail
  refine (unhide Ha2 _).mono ?_
  rintro e w' ⟨rfl, rfl⟩
  go_wp2_with fail
  refine (unhide Hk _).mono ?_
  rintro e w' ⟨rfl, rfl⟩
  go_wp2_with fail
  refine (unhide Hq1 _).mono ?_
  rintro e w' ⟨rfl, rfl⟩
  go_wp2_with fail
  refine (unhide Hq2 _).mono ?_
  rintro e w' ⟨rfl, rfl⟩
  go_wp2
  go_ret
  exact ⟨rfl, unhide Hb⟩

end Go.Proofs.Ytmgdicpcljippab
