/- For every three float64s x, y, z, PartOrders(x, y, z) is true: Order is an order, the same are those of no step, and by it the greater is the greater. No condition. -/
import Derived.Test.YtdifckiemmldoaaPairs
import Derived.ProofKit
namespace Go.Proofs.Ytdifckiemmldoaa
open Go.ChangeShapes Go.WideShapes Go.ChangeAt Go.RowKit

theorem rank_num (b : Nat) (hb : b < 18446744073709551616) (h : isnan b = false) :
    (rank b : Int) = 9223372036854775808 + key b - (if ng b then 1 else 0) ∧ rank b ≤ 18442240474082181120 ∧ (ng b = true → b = 9223372036854775808 + rg b) ∧ (ng b = false → b = rg b) := by
  have e := isnan_cls b hb
  rw [h] at e
  have hc : ¬ cls b = 4 := by simpa using e
  simp only [isnan, decide_eq_false_iff_not] at h
  unfold rank key
  rw [if_neg hc]
  cases hn : ng b
  · simp only [ng, decide_eq_false_iff_not] at hn
    unfold rg at h ⊢
    simp only [Bool.false_eq_true, if_false]
    refine ⟨by omega, by omega, by simp, fun _ => by omega⟩
  · simp only [ng, decide_eq_true_eq] at hn
    unfold rg at h ⊢
    simp only [if_true]
    refine ⟨by omega, by omega, fun _ => by omega, by simp⟩
theorem rank_nan (b : Nat) (hb : b < 18446744073709551616) (h : isnan b = true) : rank b = 18446744073709551615 := by
  have e := isnan_cls b hb
  rw [h] at e
  have hc : cls b = 4 := by simpa using e
  simp [rank, hc]

theorem same_rank (a b : Nat) (ha : a < 18446744073709551616) (hb : b < 18446744073709551616) : sameOf a b = decide (rank a = rank b) := by
  unfold sameOf
  cases na : isnan a <;> cases nb : isnan b
  · obtain ⟨a1, a2, a3, a4⟩ := rank_num a ha na
    obtain ⟨b1, b2, b3, b4⟩ := rank_num b hb nb
    simp only [Bool.or_self, Bool.false_eq_true, if_false]
    refine Bool.eq_iff_iff.2 ?_
    simp only [beq_iff_eq, decide_eq_true_eq]
    unfold key at a1 b1
    cases h1 : ng a <;> cases h2 : ng b <;> simp only [h1, h2, Bool.false_eq_true, if_true, if_false, false_implies, true_implies] at a1 a3 a4 b1 b3 b4 <;> omega
  · obtain ⟨a1, a2, a3, a4⟩ := rank_num a ha na
    rw [rank_nan b hb nb, decide_eq_false (by omega)]; rfl
  · obtain ⟨b1, b2, b3, b4⟩ := rank_num b hb nb
    rw [rank_nan a ha na, decide_eq_false (by omega)]; rfl
  · rw [rank_nan a ha na, rank_nan b hb nb]; rfl

theorem lt_rank (a b : Nat) (ha : a < 18446744073709551616) (hb : b < 18446744073709551616) (h : (FloatKind.f64.format.order a b == some .lt) = true) : rank a < rank b := by
  rw [order_lt a b ha hb] at h
  simp only [Bool.and_eq_true, Bool.not_eq_true', decide_eq_true_eq] at h
  obtain ⟨⟨na, nb⟩, h⟩ := h
  obtain ⟨a1, a2, a3, a4⟩ := rank_num a ha na
  obtain ⟨b1, b2, b3, b4⟩ := rank_num b hb nb
  unfold key at a1 b1 h
  cases h1 : ng a <;> cases h2 : ng b <;> simp only [h1, h2, Bool.false_eq_true, if_true, if_false] at a1 b1 h <;> omega
theorem gt_rank (a b : Nat) (ha : a < 18446744073709551616) (hb : b < 18446744073709551616) (h : (FloatKind.f64.format.order a b == some .gt) = true) : rank b < rank a := by
  rw [order_gt a b ha hb] at h
  simp only [Bool.and_eq_true, Bool.not_eq_true', decide_eq_true_eq] at h
  obtain ⟨⟨na, nb⟩, h⟩ := h
  obtain ⟨a1, a2, a3, a4⟩ := rank_num a ha na
  obtain ⟨b1, b2, b3, b4⟩ := rank_num b hb nb
  unfold key at a1 b1 h
  cases h1 : ng a <;> cases h2 : ng b <;> simp only [h1, h2, Bool.false_eq_true, if_true, if_false] at a1 b1 h <;> omega

set_option maxRecDepth 100000 in
set_option maxHeartbeats 40000000 in
theorem orders_num (x y z : Nat) (a b c n : Int) (lt gt : Bool)
    (HXY : Hid (∀ w, Calls Try.prog 27 #[.float .f64 x, .float .f64 y] w fun e w' => e = .returned (.int .i64 a) ∧ w' = w))
    (HYZ : Hid (∀ w, Calls Try.prog 27 #[.float .f64 y, .float .f64 z] w fun e w' => e = .returned (.int .i64 b) ∧ w' = w))
    (HXZ : Hid (∀ w, Calls Try.prog 27 #[.float .f64 x, .float .f64 z] w fun e w' => e = .returned (.int .i64 c) ∧ w' = w))
    (HXX : Hid (∀ w, Calls Try.prog 27 #[.float .f64 x, .float .f64 x] w fun e w' => e = .returned (.int .i64 0) ∧ w' = w))
    (HYX : Hid (∀ w, Calls Try.prog 27 #[.float .f64 y, .float .f64 x] w fun e w' => e = .returned (.int .i64 (-a)) ∧ w' = w))
    (HS : Hid (∀ w, Calls Try.prog 25 #[.float .f64 x, .float .f64 y] w fun e w' => e = .returned (.bool (a == 0)) ∧ w' = w))
    (HU : Hid (∀ w, Calls Try.prog 23 #[.float .f64 x, .float .f64 y] w fun e w' => e = .returned (.tuple #[.int .u64 n, .int .i64 0]) ∧ w' = w))
    (HV : Hid (∀ w, Calls Try.prog 23 #[.float .f64 y, .float .f64 x] w fun e w' => e = .returned (.tuple #[.int .u64 n, .int .i64 0]) ∧ w' = w))
    (hlt : (FloatKind.f64.format.order x y == some .lt) = lt) (hgt : (FloatKind.f64.format.order x y == some .gt) = gt)
    (hnx : (FloatKind.f64.format.order x x != some .eq) = false) (hny : (FloatKind.f64.format.order y y != some .eq) = false)
    (ha : a = -1 ∨ a = 0 ∨ a = 1) (hb : b = -1 ∨ b = 0 ∨ b = 1) (hc : c = -1 ∨ c = 0 ∨ c = 1)
    (h1 : a < 0 → b ≤ 0 → c < 0) (h2 : a = 0 → c = b) (h3 : 0 < a → 0 ≤ b → 0 < c)
    (k1 : lt = true → a = -1) (k2 : gt = true → a = 1) (hn : (n == 0) = (a == 0)) (w : World) :
    Calls Try.prog 8 #[.float .f64 x, .float .f64 y, .float .f64 z] w fun e w' => e = .returned (.bool true) ∧ w' = w := by
  rcases ha with rfl | rfl | rfl <;> rcases hb with rfl | rfl | rfl <;> rcases hc with rfl | rfl | rfl <;> first | (exfalso; omega) | skip
  all_goals clear h1 h2 h3
  all_goals cases lt <;> cases gt <;> first | (exfalso; revert k1 k2; decide) | skip
  all_goals clear k1 k2
  all_goals simp only [show ((-1 : Int) == 0) = false from rfl, show ((0 : Int) == 0) = true from rfl, show ((1 : Int) == 0) = false from rfl, Int.neg_neg, Int.neg_zero] at *
  all_goals (
    go_enter Try.func8, Try.ntmps8
    go_wp2_with fail
    refine (awake_any _).mono ?_
    rintro e w' ⟨rfl, rfl⟩
    go_wp2_with fail
    refine (unhide HXY _).mono ?_
    rintro e w' ⟨rfl, rfl⟩
    go_wp2_with fail
    refine (unhide HYZ _).mono ?_
    rintro e w' ⟨rfl, rfl⟩
    go_wp2_with fail
    refine (unhide HXZ _).mono ?_
    rintro e w' ⟨rfl, rfl⟩
    go_wp2_with fail
    refine (unhide HXX _).mono ?_
    rintro e w' ⟨rfl, rfl⟩
    go_wp2_with fail
    refine (unhide HYX _).mono ?_
    rintro e w' ⟨rfl, rfl⟩
    go_wp2_with fail
    refine (unhide HS _).mono ?_
    rintro e w' ⟨rfl, rfl⟩
    go_wp2_with fail
    refine (unhide HU _).mono ?_
    rintro e w' ⟨rfl, rfl⟩
    go_wp2_with fail
    refine (unhide HV _).mono ?_
    rintro e w' ⟨rfl, rfl⟩
    go_wp2
    go_ret
    exact ⟨rfl, rfl⟩)

set_option maxRecDepth 100000 in
set_option maxHeartbeats 40000000 in
theorem orders_nanx (x y z : Nat) (a b c : Int) (lt gt : Bool)
    (HXY : Hid (∀ w, Calls Try.prog 27 #[.float .f64 x, .float .f64 y] w fun e w' => e = .returned (.int .i64 a) ∧ w' = w))
    (HYZ : Hid (∀ w, Calls Try.prog 27 #[.float .f64 y, .float .f64 z] w fun e w' => e = .returned (.int .i64 b) ∧ w' = w))
    (HXZ : Hid (∀ w, Calls Try.prog 27 #[.float .f64 x, .float .f64 z] w fun e w' => e = .returned (.int .i64 c) ∧ w' = w))
    (HXX : Hid (∀ w, Calls Try.prog 27 #[.float .f64 x, .float .f64 x] w fun e w' => e = .returned (.int .i64 0) ∧ w' = w))
    (HYX : Hid (∀ w, Calls Try.prog 27 #[.float .f64 y, .float .f64 x] w fun e w' => e = .returned (.int .i64 (-a)) ∧ w' = w))
    (HS : Hid (∀ w, Calls Try.prog 25 #[.float .f64 x, .float .f64 y] w fun e w' => e = .returned (.bool (a == 0)) ∧ w' = w))
    (HU : Hid (∀ w, Calls Try.prog 23 #[.float .f64 x, .float .f64 y] w fun e w' => e = .returned (.tuple #[.int .u64 0, .int .i64 5]) ∧ w' = w))
    (hlt : (FloatKind.f64.format.order x y == some .lt) = lt) (hgt : (FloatKind.f64.format.order x y == some .gt) = gt)
    (hnx : (FloatKind.f64.format.order x x != some .eq) = true)
    (ha : a = -1 ∨ a = 0 ∨ a = 1) (hb : b = -1 ∨ b = 0 ∨ b = 1) (hc : c = -1 ∨ c = 0 ∨ c = 1)
    (h1 : a < 0 → b ≤ 0 → c < 0) (h2 : a = 0 → c = b) (h3 : 0 < a → 0 ≤ b → 0 < c)
    (k1 : lt = true → a = -1) (k2 : gt = true → a = 1) (w : World) :
    Calls Try.prog 8 #[.float .f64 x, .float .f64 y, .float .f64 z] w fun e w' => e = .returned (.bool true) ∧ w' = w := by
  rcases ha with rfl | rfl | rfl <;> rcases hb with rfl | rfl | rfl <;> rcases hc with rfl | rfl | rfl <;> first | (exfalso; omega) | skip
  all_goals clear h1 h2 h3
  all_goals cases lt <;> cases gt <;> first | (exfalso; revert k1 k2; decide) | skip
  all_goals clear k1 k2
  all_goals simp only [show ((-1 : Int) == 0) = false from rfl, show ((0 : Int) == 0) = true from rfl, show ((1 : Int) == 0) = false from rfl, Int.neg_neg, Int.neg_zero] at *
  all_goals (
    go_enter Try.func8, Try.ntmps8
    go_wp2_with fail
    refine (awake_any _).mono ?_
    rintro e w' ⟨rfl, rfl⟩
    go_wp2_with fail
    refine (unhide HXY _).mono ?_
    rintro e w' ⟨rfl, rfl⟩
    go_wp2_with fail
    refine (unhide HYZ _).mono ?_
    rintro e w' ⟨rfl, rfl⟩
    go_wp2_with fail
    refine (unhide HXZ _).mono ?_
    rintro e w' ⟨rfl, rfl⟩
    go_wp2_with fail
    refine (unhide HXX _).mono ?_
    rintro e w' ⟨rfl, rfl⟩
    go_wp2_with fail
    refine (unhide HYX _).mono ?_
    rintro e w' ⟨rfl, rfl⟩
    go_wp2_with fail
    refine (unhide HS _).mono ?_
    rintro e w' ⟨rfl, rfl⟩
    go_wp2_with fail
    refine (unhide HU _).mono ?_
    rintro e w' ⟨rfl, rfl⟩
    go_wp2
    go_ret
    exact ⟨rfl, rfl⟩)

set_option maxRecDepth 100000 in
set_option maxHeartbeats 40000000 in
theorem orders_nany (x y z : Nat) (a b c : Int) (lt gt : Bool)
    (HXY : Hid (∀ w, Calls Try.prog 27 #[.float .f64 x, .float .f64 y] w fun e w' => e = .returned (.int .i64 a) ∧ w' = w))
    (HYZ : Hid (∀ w, Calls Try.prog 27 #[.float .f64 y, .float .f64 z] w fun e w' => e = .returned (.int .i64 b) ∧ w' = w))
    (HXZ : Hid (∀ w, Calls Try.prog 27 #[.float .f64 x, .float .f64 z] w fun e w' => e = .returned (.int .i64 c) ∧ w' = w))
    (HXX : Hid (∀ w, Calls Try.prog 27 #[.float .f64 x, .float .f64 x] w fun e w' => e = .returned (.int .i64 0) ∧ w' = w))
    (HYX : Hid (∀ w, Calls Try.prog 27 #[.float .f64 y, .float .f64 x] w fun e w' => e = .returned (.int .i64 (-a)) ∧ w' = w))
    (HS : Hid (∀ w, Calls Try.prog 25 #[.float .f64 x, .float .f64 y] w fun e w' => e = .returned (.bool (a == 0)) ∧ w' = w))
    (HU : Hid (∀ w, Calls Try.prog 23 #[.float .f64 x, .float .f64 y] w fun e w' => e = .returned (.tuple #[.int .u64 0, .int .i64 5]) ∧ w' = w))
    (hlt : (FloatKind.f64.format.order x y == some .lt) = lt) (hgt : (FloatKind.f64.format.order x y == some .gt) = gt)
    (hnx : (FloatKind.f64.format.order x x != some .eq) = false) (hny : (FloatKind.f64.format.order y y != some .eq) = true)
    (ha : a = -1 ∨ a = 0 ∨ a = 1) (hb : b = -1 ∨ b = 0 ∨ b = 1) (hc : c = -1 ∨ c = 0 ∨ c = 1)
    (h1 : a < 0 → b ≤ 0 → c < 0) (h2 : a = 0 → c = b) (h3 : 0 < a → 0 ≤ b → 0 < c)
    (k1 : lt = true → a = -1) (k2 : gt = true → a = 1) (w : World) :
    Calls Try.prog 8 #[.float .f64 x, .float .f64 y, .float .f64 z] w fun e w' => e = .returned (.bool true) ∧ w' = w := by
  rcases ha with rfl | rfl | rfl <;> rcases hb with rfl | rfl | rfl <;> rcases hc with rfl | rfl | rfl <;> first | (exfalso; omega) | skip
  all_goals clear h1 h2 h3
  all_goals cases lt <;> cases gt <;> first | (exfalso; revert k1 k2; decide) | skip
  all_goals clear k1 k2
  all_goals simp only [show ((-1 : Int) == 0) = false from rfl, show ((0 : Int) == 0) = true from rfl, show ((1 : Int) == 0) = false from rfl, Int.neg_neg, Int.neg_zero] at *
  all_goals (
    go_enter Try.func8, Try.ntmps8
    go_wp2_with fail
    refine (awake_any _).mono ?_
    rintro e w' ⟨rfl, rfl⟩
    go_wp2_with fail
    refine (unhide HXY _).mono ?_
    rintro e w' ⟨rfl, rfl⟩
    go_wp2_with fail
    refine (unhide HYZ _).mono ?_
    rintro e w' ⟨rfl, rfl⟩
    go_wp2_with fail
    refine (unhide HXZ _).mono ?_
    rintro e w' ⟨rfl, rfl⟩
    go_wp2_with fail
    refine (unhide HXX _).mono ?_
    rintro e w' ⟨rfl, rfl⟩
    go_wp2_with fail
    refine (unhide HYX _).mono ?_
    rintro e w' ⟨rfl, rfl⟩
    go_wp2_with fail
    refine (unhide HS _).mono ?_
    rintro e w' ⟨rfl, rfl⟩
    go_wp2_with fail
    refine (unhide HU _).mono ?_
    rintro e w' ⟨rfl, rfl⟩
    go_wp2
    go_ret
    exact ⟨rfl, rfl⟩)

theorem cmpOf_neg (x y : Int) : cmpOf y x = -cmpOf x y := by unfold cmpOf; split <;> split <;> omega
theorem cmpOf_self (x : Int) : cmpOf x x = 0 := by simp [cmpOf]
theorem cmpOf_cases (x y : Int) : cmpOf x y = -1 ∨ cmpOf x y = 0 ∨ cmpOf x y = 1 := by unfold cmpOf; split <;> (try split) <;> omega
theorem cmpOf_lt (x y : Int) : (cmpOf x y < 0 ↔ x < y) ∧ (cmpOf x y = 0 ↔ x = y) ∧ (0 < cmpOf x y ↔ y < x) := by unfold cmpOf; split <;> (try split) <;> omega
theorem dist_comm (x y : Int) : dist x y = dist y x := by unfold dist; split <;> split <;> omega
theorem dist_zero (x y : Int) : (dist x y == 0) = (cmpOf x y == 0) := by
  refine Bool.eq_iff_iff.2 ?_
  simp only [beq_iff_eq]
  unfold dist cmpOf
  split <;> (try split) <;> (try split) <;> omega

theorem partOrders_any (x y z : Nat) (hx : x < 18446744073709551616) (hy : y < 18446744073709551616) (hz : z < 18446744073709551616) (w : World) :
    Calls Try.prog 8 #[.float .f64 x, .float .f64 y, .float .f64 z] w fun e w' => e = .returned (.bool true) ∧ w' = w := by
  have HXX := order_any x x hx hx
  rw [cmpOf_self] at HXX
  have HYX := order_any y x hy hx
  rw [cmpOf_neg] at HYX
  have c1 := cmpOf_lt (rank x) (rank y)
  have c2 := cmpOf_lt (rank y) (rank z)
  have c3 := cmpOf_lt (rank x) (rank z)
  have HS := same_any x y hx hy
  have hs : sameOf x y = (cmpOf (rank x) (rank y) == 0) := by
    rw [same_rank x y hx hy]
    refine Bool.eq_iff_iff.2 ?_
    simp only [beq_iff_eq, decide_eq_true_eq]; omega
  rw [hs] at HS
  have t3 := cmpOf_cases (rank x) (rank z)
  have t2 := cmpOf_cases (rank y) (rank z)
  have t1 := cmpOf_cases (rank x) (rank y)
  have k1 : (FloatKind.f64.format.order x y == some .lt) = true → cmpOf (rank x) (rank y) = -1 := fun h => by
    have := lt_rank x y hx hy h; omega
  have k2 : (FloatKind.f64.format.order x y == some .gt) = true → cmpOf (rank x) (rank y) = 1 := fun h => by
    have := gt_rank x y hx hy h; omega
  cases nx : isnan x
  · cases ny : isnan y
    · have HU := ulps_num x y hx hy nx ny
      have HV := ulps_num y x hy hx ny nx
      rw [dist_comm] at HV
      exact orders_num x y z _ _ _ _ _ _ (order_any x y hx hy) (order_any y z hy hz) (order_any x z hx hz) HXX HYX HS HU HV rfl rfl
        (by rw [order_self x hx, nx]) (by rw [order_self y hy, ny]) t1 t2 t3 (by omega) (by omega) (by omega) k1 k2 (dist_zero _ _) w
    · have HU := ulps_nan x y hx hy (by rw [ny, Bool.or_true])
      exact orders_nany x y z _ _ _ _ _ (order_any x y hx hy) (order_any y z hy hz) (order_any x z hx hz) HXX HYX HS HU rfl rfl
        (by rw [order_self x hx, nx]) (by rw [order_self y hy, ny]) t1 t2 t3 (by omega) (by omega) (by omega) k1 k2 w
  · have HU := ulps_nan x y hx hy (by rw [nx, Bool.true_or])
    exact orders_nanx x y z _ _ _ _ _ (order_any x y hx hy) (order_any y z hy hz) (order_any x z hx hz) HXX HYX HS HU rfl rfl
      (by rw [order_self x hx, nx]) t1 t2 t3 (by omega) (by omega) (by omega) k1 k2 w

set_option maxRecDepth 100000 in
theorem partOrders_lifted (os : Os) (started : os.Started) (H : Type) (enc : TypeId × Value → H) :
    ReturnsInHanded {} Try.checked os 8 .any (Rows.partOrdersSpec.pre6 enc Try.prog Try.f8 Rows.partOrdersRow.domain false) (Rows.partOrdersSpec.post enc Try.prog Try.f8 false true false false) := by
  refine returnsInHanded_of_change (C := Try.checked) (by kernel_rfl) started (by kernel_rfl) Try.func8
    (ChangeSpec.witness6 (enc := enc) (C := Try.checked) false ⟨#[], #[.float .f64 0, .float .f64 0, .float .f64 0], []⟩ 8 (by kernel_rfl) (by kernel_rfl) (by kernel_rfl) (by kernel_rfl)) ?_
  intro W base args ds gs before hval0 hW hcnd _
  have hval : ∀ (j : Nat) t v, Try.f8.params[j]? = some t → args[j]? = some v → Value.okWide Try.prog W .any base t v := hval0
  have hW' := hW
  obtain ⟨p, q, hA0, hV, rfl, hfz, hnd⟩ := hW
  have hA : DataW.TrodAll enc Try.prog W 0 (fun _ => true) true Try.f8.params.toList args.toList ds p := hA0
  rw [Try.params8] at hA hval
  obtain ⟨v0, v1, v2, d0, d1, d2, p0, p1, p2, rfl, rfl, rfl, h0, h1, h2⟩ := trodAll_three hA
  obtain ⟨rfl, rfl⟩ := trodVars_none hV
  obtain ⟨x0, rfl, rfl, rfl, w0⟩ := open_float Try.underlying22 (hval 0 22 v0 rfl rfl) h0
  obtain ⟨x1, rfl, rfl, rfl, w1⟩ := open_float Try.underlying22 (hval 1 22 v1 rfl rfl) h1
  obtain ⟨x2, rfl, rfl, rfl, w2⟩ := open_float Try.underlying22 (hval 2 22 v2 rfl rfl) h2
  clear hA0 hval0
  simp only [List.append_nil] at hW'
  refine (partOrders_any x0 x1 x2 (bound_f x0 w0) (bound_f x1 w1) (bound_f x2 w2) W).mono fun e W' ⟨he, hw⟩ => ?_
  subst he; subst hw
  exact ⟨_, rfl, post_of_same (pa := []) (pv := []) hW' (fun _ _ _ => trodAll_mk1 (shut_bool Try.underlying4 true)) (fun sp _ => trodAll_mk3 (shut_float Try.underlying22 w0) (shut_float Try.underlying22 w1) (shut_float Try.underlying22 w2)) (fun _ _ => rfl) rfl
    (World.keptBut_refl _ _) (fun _ => rfl) (ok_one (by kernel_rfl) rfl (okWide_bool_mk Try.underlying4 true))⟩

theorem partOrders_holds : Rows.PartOrdersSaid :=
  OpenClaim.holds_of_wide 8 Try.f8 rfl rfl rfl rfl rfl rfl rfl ⟨rfl, rfl, rfl, rfl, rfl⟩ rfl rfl rfl rfl rfl (by kernel_rfl) Try.func8 (by kernel_rfl)
    (of_decide_eq_true (by kernel_rfl)) (by unfold Func.isWrapper; first | (rw [if_pos (by decide +kernel)]; kernel_rfl) | (rw [if_neg (by decide +kernel)]; exact ⟨rfl, rfl⟩))
    (fun os started H enc _ => partOrders_lifted os started H enc)

end Go.Proofs.Ytdifckiemmldoaa
