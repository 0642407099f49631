/- The walks of PartNeighbours, one for each way through it. -/
import Derived.Test.YtdifckiemmldoaaNbrC
namespace Go.Proofs.Ytdifckiemmldoaa
open Go.RowKit

set_option maxRecDepth 100000 in
set_option maxHeartbeats 1000000 in
theorem nbr_nan (x : Nat)
    (HO : Hid (∀ w, Calls Try.prog 12 #[.float .f64 x] w fun e w' => e = .returned (.int .i64 4) ∧ w' = w))
    (HN : Hid (∀ w, Calls Try.prog 17 #[.float .f64 x] w fun e w' => e = .returned (.float .f64 x) ∧ w' = w))
    (HP : Hid (∀ w, Calls Try.prog 19 #[.float .f64 x] w fun e w' => e = .returned (.float .f64 x) ∧ w' = w))
    (hx : (FloatKind.f64.format.order x x != some .eq) = true) (w : World) :
    Calls Try.prog 7 #[.float .f64 x] w fun e w' => e = .returned (.bool true) ∧ w' = w := by
  go_enter Try.func7, Try.ntmps7
  go_wp2_with fail
  refine (awake_any _).mono ?_
  rintro e w' ⟨rfl, rfl⟩
  go_wp2_with fail
  refine (unhide HO _).mono ?_
  rintro e w' ⟨rfl, rfl⟩
  go_wp2_with fail
  refine (unhide HN _).mono ?_
  rintro e w' ⟨rfl, rfl⟩
  go_wp2_with fail
  refine (unhide HN _).mono ?_
  rintro e w' ⟨rfl, rfl⟩
  go_wp2_with fail
  refine (unhide HP _).mono ?_
  rintro e w' ⟨rfl, rfl⟩
  go_wp2_with fail
  refine (unhide HP _).mono ?_
  rintro e w' ⟨rfl, rfl⟩
  go_wp2
  go_ret
  exact ⟨rfl, rfl⟩

set_option maxRecDepth 100000 in
set_option maxHeartbeats 1000000 in
theorem nbr_inf (x y xm ym : Nat)
    (HN : Hid (∀ w, Calls Try.prog 17 #[.float .f64 x] w fun e w' => e = .returned (.float .f64 y) ∧ w' = w))
    (HP : Hid (∀ w, Calls Try.prog 19 #[.float .f64 xm] w fun e w' => e = .returned (.float .f64 ym) ∧ w' = w))
    (HB : Hid (∀ w, Calls Try.prog 14 #[.float .f64 ym, .float .f64 ym] w fun e w' => e = .returned (.bool true) ∧ w' = w))
    (HI : Hid (∀ w, Calls Try.prog 29 #[.float .f64 x, .int .i64 1] w fun e w' => e = .returned (.bool true) ∧ w' = w))
    (HQ : Hid (∀ w, Calls Try.prog 14 #[.float .f64 y, .float .f64 x] w fun e w' => e = .returned (.bool true) ∧ w' = w))
    (hx : (FloatKind.f64.format.order x x != some .eq) = false)
    (hn1 : ∀ w, (Op.unary .neg (.float .f64 x)).run Try.prog w = .ok (.float .f64 xm) w) (hn2 : ∀ w, (Op.unary .neg (.float .f64 y)).run Try.prog w = .ok (.float .f64 ym) w) (w : World) :
    Calls Try.prog 7 #[.float .f64 x] w fun e w' => e = .returned (.bool true) ∧ w' = w := by
  go_enter Try.func7, Try.ntmps7
  go_wp2_with fail
  refine (awake_any _).mono ?_
  rintro e w' ⟨rfl, rfl⟩
  go_wp2_with fail
  refine (unhide HN _).mono ?_
  rintro e w' ⟨rfl, rfl⟩
  go_wp2_with fail
  refine (unhide HP _).mono ?_
  rintro e w' ⟨rfl, rfl⟩
  go_wp2_with fail
  refine (unhide HB _).mono ?_
  rintro e w' ⟨rfl, rfl⟩
  go_wp2_with fail
  refine (unhide HI _).mono ?_
  rintro e w' ⟨rfl, rfl⟩
  go_wp2_with fail
  refine (unhide HQ _).mono ?_
  rintro e w' ⟨rfl, rfl⟩
  go_wp2
  go_ret
  exact ⟨rfl, rfl⟩

set_option maxRecDepth 100000 in
set_option maxHeartbeats 1000000 in
theorem nbr_one (x y xm ym : Nat) (c : Int)
    (HN : Hid (∀ w, Calls Try.prog 17 #[.float .f64 x] w fun e w' => e = .returned (.float .f64 y) ∧ w' = w))
    (HP : Hid (∀ w, Calls Try.prog 19 #[.float .f64 xm] w fun e w' => e = .returned (.float .f64 ym) ∧ w' = w))
    (HB : Hid (∀ w, Calls Try.prog 14 #[.float .f64 ym, .float .f64 ym] w fun e w' => e = .returned (.bool true) ∧ w' = w))
    (HI : Hid (∀ w, Calls Try.prog 29 #[.float .f64 x, .int .i64 1] w fun e w' => e = .returned (.bool false) ∧ w' = w))
    (HU : Hid (∀ w, Calls Try.prog 23 #[.float .f64 x, .float .f64 y] w fun e w' => e = .returned (.tuple #[.int .u64 1, .int .i64 0]) ∧ w' = w))
    (HO1 : Hid (∀ w, Calls Try.prog 27 #[.float .f64 x, .float .f64 y] w fun e w' => e = .returned (.int .i64 (-1)) ∧ w' = w))
    (HO2 : Hid (∀ w, Calls Try.prog 27 #[.float .f64 y, .float .f64 x] w fun e w' => e = .returned (.int .i64 1) ∧ w' = w))
    (HV : Hid (∀ w, Calls Try.prog 19 #[.float .f64 y] w fun e w' => e = .returned (.float .f64 x) ∧ w' = w))
    (HX : Hid (∀ w, Calls Try.prog 14 #[.float .f64 x, .float .f64 x] w fun e w' => e = .returned (.bool true) ∧ w' = w))
    (HS : Hid (∀ w, Calls Try.prog 25 #[.float .f64 x, .float .f64 y] w fun e w' => e = .returned (.bool false) ∧ w' = w))
    (hx : (FloatKind.f64.format.order x x != some .eq) = false)
    (hn1 : ∀ w, (Op.unary .neg (.float .f64 x)).run Try.prog w = .ok (.float .f64 xm) w) (hn2 : ∀ w, (Op.unary .neg (.float .f64 y)).run Try.prog w = .ok (.float .f64 ym) w)
    (hlt : (FloatKind.f64.format.order y x == some .lt) = false)
    (HO : Hid (∀ w, Calls Try.prog 12 #[.float .f64 x] w fun e w' => e = .returned (.int .i64 c) ∧ w' = w))
    (hc : (c != 2) = true) (w : World) :
    Calls Try.prog 7 #[.float .f64 x] w fun e w' => e = .returned (.bool true) ∧ w' = w := by
  go_enter Try.func7, Try.ntmps7
  go_wp2_with fail
  refine (awake_any _).mono ?_
  rintro e w' ⟨rfl, rfl⟩
  go_wp2_with fail
  refine (unhide HN _).mono ?_
  rintro e w' ⟨rfl, rfl⟩
  go_wp2_with fail
  refine (unhide HP _).mono ?_
  rintro e w' ⟨rfl, rfl⟩
  go_wp2_with fail
  refine (unhide HB _).mono ?_
  rintro e w' ⟨rfl, rfl⟩
  go_wp2_with fail
  refine (unhide HI _).mono ?_
  rintro e w' ⟨rfl, rfl⟩
  go_wp2_with fail
  refine (unhide HU _).mono ?_
  rintro e w' ⟨rfl, rfl⟩
  go_wp2_with fail
  refine (unhide HO1 _).mono ?_
  rintro e w' ⟨rfl, rfl⟩
  go_wp2_with fail
  refine (unhide HO2 _).mono ?_
  rintro e w' ⟨rfl, rfl⟩
  go_wp2_with fail
  refine (unhide HV _).mono ?_
  rintro e w' ⟨rfl, rfl⟩
  go_wp2_with fail
  refine (unhide HX _).mono ?_
  rintro e w' ⟨rfl, rfl⟩
  go_wp2_with fail
  refine (unhide HS _).mono ?_
  rintro e w' ⟨rfl, rfl⟩
  go_wp2_with fail
  refine (unhide HO _).mono ?_
  rintro e w' ⟨rfl, rfl⟩
  go_wp2
  go_ret
  exact ⟨rfl, rfl⟩

set_option maxRecDepth 100000 in
set_option maxHeartbeats 1000000 in
theorem nbr_two (x y xm ym : Nat) (c : Int)
    (HN : Hid (∀ w, Calls Try.prog 17 #[.float .f64 x] w fun e w' => e = .returned (.float .f64 y) ∧ w' = w))
    (HP : Hid (∀ w, Calls Try.prog 19 #[.float .f64 xm] w fun e w' => e = .returned (.float .f64 ym) ∧ w' = w))
    (HB : Hid (∀ w, Calls Try.prog 14 #[.float .f64 ym, .float .f64 ym] w fun e w' => e = .returned (.bool true) ∧ w' = w))
    (HI : Hid (∀ w, Calls Try.prog 29 #[.float .f64 x, .int .i64 1] w fun e w' => e = .returned (.bool false) ∧ w' = w))
    (HU : Hid (∀ w, Calls Try.prog 23 #[.float .f64 x, .float .f64 y] w fun e w' => e = .returned (.tuple #[.int .u64 1, .int .i64 0]) ∧ w' = w))
    (HO1 : Hid (∀ w, Calls Try.prog 27 #[.float .f64 x, .float .f64 y] w fun e w' => e = .returned (.int .i64 (-1)) ∧ w' = w))
    (HO2 : Hid (∀ w, Calls Try.prog 27 #[.float .f64 y, .float .f64 x] w fun e w' => e = .returned (.int .i64 1) ∧ w' = w))
    (HV : Hid (∀ w, Calls Try.prog 19 #[.float .f64 y] w fun e w' => e = .returned (.float .f64 x) ∧ w' = w))
    (HX : Hid (∀ w, Calls Try.prog 14 #[.float .f64 x, .float .f64 x] w fun e w' => e = .returned (.bool true) ∧ w' = w))
    (HS : Hid (∀ w, Calls Try.prog 25 #[.float .f64 x, .float .f64 y] w fun e w' => e = .returned (.bool false) ∧ w' = w))
    (hx : (FloatKind.f64.format.order x x != some .eq) = false)
    (hn1 : ∀ w, (Op.unary .neg (.float .f64 x)).run Try.prog w = .ok (.float .f64 xm) w) (hn2 : ∀ w, (Op.unary .neg (.float .f64 y)).run Try.prog w = .ok (.float .f64 ym) w)
    (hlt : (FloatKind.f64.format.order y x == some .lt) = false)
    (HO : Hid (∀ w, Calls Try.prog 12 #[.float .f64 x] w fun e w' => e = .returned (.int .i64 2) ∧ w' = w))
    (HC : Hid (∀ w, Calls Try.prog 12 #[.float .f64 y] w fun e w' => e = .returned (.int .i64 c) ∧ w' = w))
    (hc : (c != 2) = true) (w : World) :
    Calls Try.prog 7 #[.float .f64 x] w fun e w' => e = .returned (.bool true) ∧ w' = w := by
  go_enter Try.func7, Try.ntmps7
  go_wp2_with fail
  refine (awake_any _).mono ?_
  rintro e w' ⟨rfl, rfl⟩
  go_wp2_with fail
  refine (unhide HN _).mono ?_
  rintro e w' ⟨rfl, rfl⟩
  go_wp2_with fail
  refine (unhide HP _).mono ?_
  rintro e w' ⟨rfl, rfl⟩
  go_wp2_with fail
  refine (unhide HB _).mono ?_
  rintro e w' ⟨rfl, rfl⟩
  go_wp2_with fail
  refine (unhide HI _).mono ?_
  rintro e w' ⟨rfl, rfl⟩
  go_wp2_with fail
  refine (unhide HU _).mono ?_
  rintro e w' ⟨rfl, rfl⟩
  go_wp2_with fail
  refine (unhide HO1 _).mono ?_
  rintro e w' ⟨rfl, rfl⟩
  go_wp2_with fail
  refine (unhide HO2 _).mono ?_
  rintro e w' ⟨rfl, rfl⟩
  go_wp2_with fail
  refine (unhide HV _).mono ?_
  rintro e w' ⟨rfl, rfl⟩
  go_wp2_with fail
  refine (unhide HX _).mono ?_
  rintro e w' ⟨rfl, rfl⟩
  go_wp2_with fail
  refine (unhide HS _).mono ?_
  rintro e w' ⟨rfl, rfl⟩
  go_wp2_with fail
  refine (unhide HO _).mono ?_
  rintro e w' ⟨rfl, rfl⟩
  go_wp2_with fail
  refine (unhide HC _).mono ?_
  rintro e w' ⟨rfl, rfl⟩
  go_wp2
  go_ret
  exact ⟨rfl, rfl⟩

set_option maxRecDepth 100000 in
set_option maxHeartbeats 1000000 in
theorem nbr_low (x y xm ym r : Nat)
    (HN : Hid (∀ w, Calls Try.prog 17 #[.float .f64 x] w fun e w' => e = .returned (.float .f64 y) ∧ w' = w))
    (HP : Hid (∀ w, Calls Try.prog 19 #[.float .f64 xm] w fun e w' => e = .returned (.float .f64 ym) ∧ w' = w))
    (HB : Hid (∀ w, Calls Try.prog 14 #[.float .f64 ym, .float .f64 ym] w fun e w' => e = .returned (.bool true) ∧ w' = w))
    (HI : Hid (∀ w, Calls Try.prog 29 #[.float .f64 x, .int .i64 1] w fun e w' => e = .returned (.bool false) ∧ w' = w))
    (HU : Hid (∀ w, Calls Try.prog 23 #[.float .f64 x, .float .f64 y] w fun e w' => e = .returned (.tuple #[.int .u64 1, .int .i64 0]) ∧ w' = w))
    (HO1 : Hid (∀ w, Calls Try.prog 27 #[.float .f64 x, .float .f64 y] w fun e w' => e = .returned (.int .i64 (-1)) ∧ w' = w))
    (HO2 : Hid (∀ w, Calls Try.prog 27 #[.float .f64 y, .float .f64 x] w fun e w' => e = .returned (.int .i64 1) ∧ w' = w))
    (HV : Hid (∀ w, Calls Try.prog 19 #[.float .f64 y] w fun e w' => e = .returned (.float .f64 x) ∧ w' = w))
    (HX : Hid (∀ w, Calls Try.prog 14 #[.float .f64 x, .float .f64 x] w fun e w' => e = .returned (.bool true) ∧ w' = w))
    (HS : Hid (∀ w, Calls Try.prog 25 #[.float .f64 x, .float .f64 y] w fun e w' => e = .returned (.bool false) ∧ w' = w))
    (hx : (FloatKind.f64.format.order x x != some .eq) = false)
    (hn1 : ∀ w, (Op.unary .neg (.float .f64 x)).run Try.prog w = .ok (.float .f64 xm) w) (hn2 : ∀ w, (Op.unary .neg (.float .f64 y)).run Try.prog w = .ok (.float .f64 ym) w)
    (hlt : (FloatKind.f64.format.order y x == some .lt) = false)
    (HO : Hid (∀ w, Calls Try.prog 12 #[.float .f64 x] w fun e w' => e = .returned (.int .i64 2) ∧ w' = w))
    (HC : Hid (∀ w, Calls Try.prog 12 #[.float .f64 y] w fun e w' => e = .returned (.int .i64 2) ∧ w' = w))
    (HA : Hid (∀ w, Calls Try.prog 30 #[.float .f64 x] w fun e w' => e = .returned (.float .f64 r) ∧ w' = w))
    (ha : (FloatKind.f64.format.order r 103582791429521408 == some .lt) = true) (w : World) :
    Calls Try.prog 7 #[.float .f64 x] w fun e w' => e = .returned (.bool true) ∧ w' = w := by
  go_enter Try.func7, Try.ntmps7
  go_wp2_with fail
  refine (awake_any _).mono ?_
  rintro e w' ⟨rfl, rfl⟩
  go_wp2_with fail
  refine (unhide HN _).mono ?_
  rintro e w' ⟨rfl, rfl⟩
  go_wp2_with fail
  refine (unhide HP _).mono ?_
  rintro e w' ⟨rfl, rfl⟩
  go_wp2_with fail
  refine (unhide HB _).mono ?_
  rintro e w' ⟨rfl, rfl⟩
  go_wp2_with fail
  refine (unhide HI _).mono ?_
  rintro e w' ⟨rfl, rfl⟩
  go_wp2_with fail
  refine (unhide HU _).mono ?_
  rintro e w' ⟨rfl, rfl⟩
  go_wp2_with fail
  refine (unhide HO1 _).mono ?_
  rintro e w' ⟨rfl, rfl⟩
  go_wp2_with fail
  refine (unhide HO2 _).mono ?_
  rintro e w' ⟨rfl, rfl⟩
  go_wp2_with fail
  refine (unhide HV _).mono ?_
  rintro e w' ⟨rfl, rfl⟩
  go_wp2_with fail
  refine (unhide HX _).mono ?_
  rintro e w' ⟨rfl, rfl⟩
  go_wp2_with fail
  refine (unhide HS _).mono ?_
  rintro e w' ⟨rfl, rfl⟩
  go_wp2_with fail
  refine (unhide HO _).mono ?_
  rintro e w' ⟨rfl, rfl⟩
  go_wp2_with fail
  refine (unhide HC _).mono ?_
  rintro e w' ⟨rfl, rfl⟩
  go_wp2_with fail
  refine (unhide HA _).mono ?_
  rintro e w' ⟨rfl, rfl⟩
  go_wp2
  go_ret
  exact ⟨rfl, rfl⟩

set_option maxRecDepth 100000 in
set_option maxHeartbeats 1000000 in
theorem nbr_mid (x y xm ym r xh yh z : Nat)
    (HN : Hid (∀ w, Calls Try.prog 17 #[.float .f64 x] w fun e w' => e = .returned (.float .f64 y) ∧ w' = w))
    (HP : Hid (∀ w, Calls Try.prog 19 #[.float .f64 xm] w fun e w' => e = .returned (.float .f64 ym) ∧ w' = w))
    (HB : Hid (∀ w, Calls Try.prog 14 #[.float .f64 ym, .float .f64 ym] w fun e w' => e = .returned (.bool true) ∧ w' = w))
    (HI : Hid (∀ w, Calls Try.prog 29 #[.float .f64 x, .int .i64 1] w fun e w' => e = .returned (.bool false) ∧ w' = w))
    (HU : Hid (∀ w, Calls Try.prog 23 #[.float .f64 x, .float .f64 y] w fun e w' => e = .returned (.tuple #[.int .u64 1, .int .i64 0]) ∧ w' = w))
    (HO1 : Hid (∀ w, Calls Try.prog 27 #[.float .f64 x, .float .f64 y] w fun e w' => e = .returned (.int .i64 (-1)) ∧ w' = w))
    (HO2 : Hid (∀ w, Calls Try.prog 27 #[.float .f64 y, .float .f64 x] w fun e w' => e = .returned (.int .i64 1) ∧ w' = w))
    (HV : Hid (∀ w, Calls Try.prog 19 #[.float .f64 y] w fun e w' => e = .returned (.float .f64 x) ∧ w' = w))
    (HX : Hid (∀ w, Calls Try.prog 14 #[.float .f64 x, .float .f64 x] w fun e w' => e = .returned (.bool true) ∧ w' = w))
    (HS : Hid (∀ w, Calls Try.prog 25 #[.float .f64 x, .float .f64 y] w fun e w' => e = .returned (.bool false) ∧ w' = w))
    (hx : (FloatKind.f64.format.order x x != some .eq) = false)
    (hn1 : ∀ w, (Op.unary .neg (.float .f64 x)).run Try.prog w = .ok (.float .f64 xm) w) (hn2 : ∀ w, (Op.unary .neg (.float .f64 y)).run Try.prog w = .ok (.float .f64 ym) w)
    (hlt : (FloatKind.f64.format.order y x == some .lt) = false)
    (HO : Hid (∀ w, Calls Try.prog 12 #[.float .f64 x] w fun e w' => e = .returned (.int .i64 2) ∧ w' = w))
    (HC : Hid (∀ w, Calls Try.prog 12 #[.float .f64 y] w fun e w' => e = .returned (.int .i64 2) ∧ w' = w))
    (HA : Hid (∀ w, Calls Try.prog 30 #[.float .f64 x] w fun e w' => e = .returned (.float .f64 r) ∧ w' = w))
    (ha : (FloatKind.f64.format.order r 103582791429521408 == some .lt) = false)
    (m1 : ∀ w, (binOp .mul 22 (.float .f64 x) (.float .f64 4602678819172646912)).run Try.prog w = .ok (.float .f64 xh) w) (m2 : ∀ w, (binOp .mul 22 (.float .f64 y) (.float .f64 4602678819172646912)).run Try.prog w = .ok (.float .f64 yh) w)
    (ad : ∀ w, (binOp .add 22 (.float .f64 xh) (.float .f64 yh)).run Try.prog w = .ok (.float .f64 z) w)
    (hz : (FloatKind.f64.format.order z x == some .eq) = true) (w : World) :
    Calls Try.prog 7 #[.float .f64 x] w fun e w' => e = .returned (.bool true) ∧ w' = w := by
  go_enter Try.func7, Try.ntmps7
  go_wp2_with fail
  refine (awake_any _).mono ?_
  rintro e w' ⟨rfl, rfl⟩
  go_wp2_with fail
  refine (unhide HN _).mono ?_
  rintro e w' ⟨rfl, rfl⟩
  go_wp2_with fail
  refine (unhide HP _).mono ?_
  rintro e w' ⟨rfl, rfl⟩
  go_wp2_with fail
  refine (unhide HB _).mono ?_
  rintro e w' ⟨rfl, rfl⟩
  go_wp2_with fail
  refine (unhide HI _).mono ?_
  rintro e w' ⟨rfl, rfl⟩
  go_wp2_with fail
  refine (unhide HU _).mono ?_
  rintro e w' ⟨rfl, rfl⟩
  go_wp2_with fail
  refine (unhide HO1 _).mono ?_
  rintro e w' ⟨rfl, rfl⟩
  go_wp2_with fail
  refine (unhide HO2 _).mono ?_
  rintro e w' ⟨rfl, rfl⟩
  go_wp2_with fail
  refine (unhide HV _).mono ?_
  rintro e w' ⟨rfl, rfl⟩
  go_wp2_with fail
  refine (unhide HX _).mono ?_
  rintro e w' ⟨rfl, rfl⟩
  go_wp2_with fail
  refine (unhide HS _).mono ?_
  rintro e w' ⟨rfl, rfl⟩
  go_wp2_with fail
  refine (unhide HO _).mono ?_
  rintro e w' ⟨rfl, rfl⟩
  go_wp2_with fail
  refine (unhide HC _).mono ?_
  rintro e w' ⟨rfl, rfl⟩
  go_wp2_with fail
  refine (unhide HA _).mono ?_
  rintro e w' ⟨rfl, rfl⟩
  go_wp2
  go_ret
  exact ⟨rfl, rfl⟩

set_option maxRecDepth 100000 in
set_option maxHeartbeats 1000000 in
theorem nbr_mid2 (x y xm ym r xh yh z : Nat)
    (HN : Hid (∀ w, Calls Try.prog 17 #[.float .f64 x] w fun e w' => e = .returned (.float .f64 y) ∧ w' = w))
    (HP : Hid (∀ w, Calls Try.prog 19 #[.float .f64 xm] w fun e w' => e = .returned (.float .f64 ym) ∧ w' = w))
    (HB : Hid (∀ w, Calls Try.prog 14 #[.float .f64 ym, .float .f64 ym] w fun e w' => e = .returned (.bool true) ∧ w' = w))
    (HI : Hid (∀ w, Calls Try.prog 29 #[.float .f64 x, .int .i64 1] w fun e w' => e = .returned (.bool false) ∧ w' = w))
    (HU : Hid (∀ w, Calls Try.prog 23 #[.float .f64 x, .float .f64 y] w fun e w' => e = .returned (.tuple #[.int .u64 1, .int .i64 0]) ∧ w' = w))
    (HO1 : Hid (∀ w, Calls Try.prog 27 #[.float .f64 x, .float .f64 y] w fun e w' => e = .returned (.int .i64 (-1)) ∧ w' = w))
    (HO2 : Hid (∀ w, Calls Try.prog 27 #[.float .f64 y, .float .f64 x] w fun e w' => e = .returned (.int .i64 1) ∧ w' = w))
    (HV : Hid (∀ w, Calls Try.prog 19 #[.float .f64 y] w fun e w' => e = .returned (.float .f64 x) ∧ w' = w))
    (HX : Hid (∀ w, Calls Try.prog 14 #[.float .f64 x, .float .f64 x] w fun e w' => e = .returned (.bool true) ∧ w' = w))
    (HS : Hid (∀ w, Calls Try.prog 25 #[.float .f64 x, .float .f64 y] w fun e w' => e = .returned (.bool false) ∧ w' = w))
    (hx : (FloatKind.f64.format.order x x != some .eq) = false)
    (hn1 : ∀ w, (Op.unary .neg (.float .f64 x)).run Try.prog w = .ok (.float .f64 xm) w) (hn2 : ∀ w, (Op.unary .neg (.float .f64 y)).run Try.prog w = .ok (.float .f64 ym) w)
    (hlt : (FloatKind.f64.format.order y x == some .lt) = false)
    (HO : Hid (∀ w, Calls Try.prog 12 #[.float .f64 x] w fun e w' => e = .returned (.int .i64 2) ∧ w' = w))
    (HC : Hid (∀ w, Calls Try.prog 12 #[.float .f64 y] w fun e w' => e = .returned (.int .i64 2) ∧ w' = w))
    (HA : Hid (∀ w, Calls Try.prog 30 #[.float .f64 x] w fun e w' => e = .returned (.float .f64 r) ∧ w' = w))
    (ha : (FloatKind.f64.format.order r 103582791429521408 == some .lt) = false)
    (m1 : ∀ w, (binOp .mul 22 (.float .f64 x) (.float .f64 4602678819172646912)).run Try.prog w = .ok (.float .f64 xh) w) (m2 : ∀ w, (binOp .mul 22 (.float .f64 y) (.float .f64 4602678819172646912)).run Try.prog w = .ok (.float .f64 yh) w)
    (ad : ∀ w, (binOp .add 22 (.float .f64 xh) (.float .f64 yh)).run Try.prog w = .ok (.float .f64 z) w)
    (hz : (FloatKind.f64.format.order z x == some .eq) = false) (hz2 : (FloatKind.f64.format.order z y == some .eq) = true) (w : World) :
    Calls Try.prog 7 #[.float .f64 x] w fun e w' => e = .returned (.bool true) ∧ w' = w := by
  go_enter Try.func7, Try.ntmps7
  go_wp2_with fail
  refine (awake_any _).mono ?_
  rintro e w' ⟨rfl, rfl⟩
  go_wp2_with fail
  refine (unhide HN _).mono ?_
  rintro e w' ⟨rfl, rfl⟩
  go_wp2_with fail
  refine (unhide HP _).mono ?_
  rintro e w' ⟨rfl, rfl⟩
  go_wp2_with fail
  refine (unhide HB _).mono ?_
  rintro e w' ⟨rfl, rfl⟩
  go_wp2_with fail
  refine (unhide HI _).mono ?_
  rintro e w' ⟨rfl, rfl⟩
  go_wp2_with fail
  refine (unhide HU _).mono ?_
  rintro e w' ⟨rfl, rfl⟩
  go_wp2_with fail
  refine (unhide HO1 _).mono ?_
  rintro e w' ⟨rfl, rfl⟩
  go_wp2_with fail
  refine (unhide HO2 _).mono ?_
  rintro e w' ⟨rfl, rfl⟩
  go_wp2_with fail
  refine (unhide HV _).mono ?_
  rintro e w' ⟨rfl, rfl⟩
  go_wp2_with fail
  refine (unhide HX _).mono ?_
  rintro e w' ⟨rfl, rfl⟩
  go_wp2_with fail
  refine (unhide HS _).mono ?_
  rintro e w' ⟨rfl, rfl⟩
  go_wp2_with fail
  refine (unhide HO _).mono ?_
  rintro e w' ⟨rfl, rfl⟩
  go_wp2_with fail
  refine (unhide HC _).mono ?_
  rintro e w' ⟨rfl, rfl⟩
  go_wp2_with fail
  refine (unhide HA _).mono ?_
  rintro e w' ⟨rfl, rfl⟩
  go_wp2
  go_ret
  exact ⟨rfl, rfl⟩

end Go.Proofs.Ytdifckiemmldoaa
