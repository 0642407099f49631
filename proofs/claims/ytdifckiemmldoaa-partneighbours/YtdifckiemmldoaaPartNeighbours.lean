/- For every float64 x, PartNeighbours(x) is true: between a number and its Next there is none, Prev leads back, and minus turns all round. No condition. -/
import Derived.Test.YtdifckiemmldoaaNbrWalks
import Derived.ProofKit
namespace Go.Proofs.Ytdifckiemmldoaa
open Go.ChangeShapes Go.WideShapes Go.ChangeAt Go.RowKit

theorem abs_form (b : Nat) (hb : b < 18446744073709551616) : (bits .andNot .u64 (b : Int) 9223372036854775808).toNat = rg b := by
  rw [u64_andNot _ _ (by omega) (by omega) (by omega) (by omega)]
  rw [show (18446744073709551615 - (9223372036854775808 : Int).toNat) = 2 ^ 63 - 1 by decide, Int.toNat_natCast, Nat.and_two_pow_sub_one_eq_mod]
  rfl

set_option maxRecDepth 100000 in
set_option maxHeartbeats 1000000 in
theorem abs_any (b : Nat) (hb : b < 18446744073709551616) (w : World) :
    Calls Try.prog 30 #[.float .f64 b] w fun e w' => e = .returned (.float .f64 (rg b)) ∧ w' = w := by
  have hx := run_bits
  have hy := run_frombits
  have Hk := hide (abs_form b hb)
  clear hb
  go_enter Try.func30, Try.ntmps30
  go_wp2
  go_ret
  rw [← unhide Hk]
  exact ⟨rfl, rfl⟩

theorem lt_least (b : Nat) (hn : isnan b = false) : (FloatKind.f64.format.order (rg b) 103582791429521408 == some .lt) = decide (rg b < 103582791429521408) := by
  have hl : rg b < 9223372036854775808 := by unfold rg; omega
  have hr : rg (rg b) = rg b := by unfold rg; omega
  have hg : ng (rg b) = false := by simp [ng]; omega
  have hnn : isnan (rg b) = false := by unfold isnan at hn ⊢; rw [hr]; exact hn
  rw [order_lt _ _ (by omega) (by decide), hnn, show isnan 103582791429521408 = false by decide]
  refine Bool.eq_iff_iff.2 ?_
  simp only [Bool.not_false, Bool.true_and, decide_eq_true_eq, key, hg, hr, Bool.false_eq_true, if_false, show ng 103582791429521408 = false by decide, show rg 103582791429521408 = 103582791429521408 by decide]
  omega

theorem eq_self (b : Nat) (hb : b < 18446744073709551616) (hn : isnan b = false) : (FloatKind.f64.format.order b b == some .eq) = true := by
  rw [order_eq b b hb hb, hn]; simp

theorem normal_pw (b : Nat) (h : cls b = 2) : 1 ≤ pw b ∧ pw b < 2047 := by
  unfold cls at h
  split at h
  · cases h
  · split at h
    · cases h
    · split at h
      · omega
      · split at h <;> cases h

/-- The halves' sum of a normal number and its Next, both normal. -/
theorem mid_facts (b : Nat) (hb : b < 18446744073709551616) (hn : isnan b = false) (hi : b ≠ 9218868437227405312) (h1 : cls b = 2) (h2 : cls (nextOf b) = 2) (h3 : ¬ rg b < 103582791429521408) :
    FloatKind.f64.format.mul b 4602678819172646912 = some (b - 4503599627370496) ∧ FloatKind.f64.format.mul (nextOf b) 4602678819172646912 = some (nextOf b - 4503599627370496) ∧
    ∃ z, FloatKind.f64.format.add (b - 4503599627370496) (nextOf b - 4503599627370496) = some z ∧ (z = b ∨ (z = nextOf b ∧ key z ≠ key b)) := by
  obtain ⟨y1, y2, y3, _⟩ := next_facts b hb hn hi
  have p1 := normal_pw b h1
  have p2 := normal_pw _ h2
  have e := rg_eq b
  have hl := fr_lt b
  have hy := next_form b hn hi
  rcases rank_cases b hb hn with ⟨c1, c2, c3⟩ | ⟨c1, c2, c3⟩
  · have n1 : nextOf b = b + 1 := by rw [hy, c2]; unfold atOf; rw [if_neg (by omega)]; omega
    rw [n1] at p2 y1 ⊢
    have hpw : pw b ≤ pw (b + 1) := by unfold pw; omega
    have hg : ng (b + 1) = ng b := by
      have g1 : ng b = false := by simp [ng]; omega
      have g2 : ng (b + 1) = false := by simp [ng]; unfold pw at p2; omega
      rw [g1, g2]
    obtain ⟨s1, s2⟩ := half_sum b (by omega) (by omega) (by omega) (by omega) hg
    refine ⟨half_mul b hb (by omega) (by omega), half_mul (b + 1) y1 (by omega) (by omega), _, s1, ?_⟩
    rcases (by omega : b % 2 = 0 ∨ b % 2 = 1) with q | q
    · left; omega
    · right
      refine ⟨by omega, ?_⟩
      rw [q]
      have g1 : ng b = false := by simp [ng]; omega
      unfold key
      rw [hg, g1]
      simp only [Bool.false_eq_true, if_false]
      have : rg (b + 1) = rg b + 1 := by
        have g2 : ng (b + 1) = false := by rw [hg, g1]
        simp only [ng, decide_eq_false_iff_not] at g2
        unfold rg; omega
      omega
  · have hr : rg b = b - 9223372036854775808 := by unfold rg; omega
    have n1 : nextOf b = b - 1 := by rw [hy, c2]; unfold atOf; rw [if_pos (by omega)]; omega
    obtain ⟨a, rfl⟩ : ∃ a, b = a + 1 := ⟨b - 1, by omega⟩
    rw [Nat.add_sub_cancel] at n1
    rw [n1] at p2 y1 ⊢
    have hpw : pw (a + 1) ≤ pw a + 1 := by unfold pw; omega
    have hg : ng (a + 1) = ng a := by
      have g1 : ng a = true := by simp [ng]; omega
      have g2 : ng (a + 1) = true := by simp [ng]; omega
      rw [g1, g2]
    obtain ⟨s1, s2⟩ := half_sum a hb (by omega) (by omega) (by omega) hg
    refine ⟨half_mul (a + 1) hb (by omega) (by omega), half_mul a y1 (by omega) (by omega), _, s2, ?_⟩
    rcases (by omega : a % 2 = 0 ∨ a % 2 = 1) with q | q
    · right
      refine ⟨by omega, ?_⟩
      rw [q, Nat.add_zero]
      have g1 : ng a = true := by simp [ng]; omega
      unfold key
      rw [hg, g1]
      simp only [if_true]
      have : rg (a + 1) = rg a + 1 := by unfold rg; omega
      omega
    · left; omega

theorem neg_run (x : Nat) (w : World) : (Op.unary .neg (.float .f64 x)).run Try.prog w = .ok (.float .f64 (Op.negFloat .f64 x)) w := rfl

theorem partNeighbours_any (x : Nat) (hx : x < 18446744073709551616) (w : World) :
    Calls Try.prog 7 #[.float .f64 x] w fun e w' => e = .returned (.bool true) ∧ w' = w := by
  have ec := isnan_cls x hx
  have hself := order_self x hx
  cases hn : isnan x
  · rw [hn] at ec hself
    have HP := prev_any (Op.negFloat .f64 x) (neg_xor x hx).1
    rw [prev_neg x hx hn] at HP
    have HB := bits_any (Op.negFloat .f64 (nextOf x)) (Op.negFloat .f64 (nextOf x))
    rw [show alike (Op.negFloat .f64 (nextOf x)) (Op.negFloat .f64 (nextOf x)) = true by simp [alike]] at HB
    have HI := isInf_pos x hx
    by_cases hi : x = 9218868437227405312
    · rw [decide_eq_true hi] at HI
      have hy : nextOf x = x := by unfold nextOf; simp [hi]
      have HQ := bits_any (nextOf x) x
      rw [show alike (nextOf x) x = true by rw [hy]; simp [alike]] at HQ
      exact nbr_inf x (nextOf x) _ _ (next_any x hx) HP HB HI HQ hself (fun w => neg_run x w) (fun w => neg_run _ w) w
    · rw [decide_eq_false hi] at HI
      obtain ⟨y1, y2, y3, y4⟩ := next_facts x hx hn hi
      have HU := ulps_num x (nextOf x) hx y1 hn y2
      rw [show dist (rank x) (rank (nextOf x)) = 1 by rw [y3]; unfold dist; rw [if_pos (by omega)]; omega] at HU
      have HO1 := order_any x (nextOf x) hx y1
      rw [show cmpOf (rank x) (rank (nextOf x)) = -1 by rw [y3]; unfold cmpOf; rw [if_pos (by omega)]] at HO1
      have HO2 := order_any (nextOf x) x y1 hx
      rw [show cmpOf (rank (nextOf x)) (rank x) = 1 by rw [y3]; unfold cmpOf; rw [if_neg (by omega), if_pos (by omega)]] at HO2
      have HV := prev_any (nextOf x) y1
      rw [y4] at HV
      have HX := bits_any x x
      rw [show alike x x = true by simp [alike]] at HX
      have HS := same_any x (nextOf x) hx y1
      rw [same_rank x (nextOf x) hx y1, decide_eq_false (by omega)] at HS
      have hlt : (FloatKind.f64.format.order (nextOf x) x == some .lt) = false := by
        rw [Bool.eq_false_iff]
        intro h
        have := lt_rank' (nextOf x) x y1 hx h
        omega
      have HO := of_any x hx
      have HC := of_any (nextOf x) y1
      by_cases c1 : cls x = 2
      · rw [c1] at HO
        by_cases c2 : cls (nextOf x) = 2
        · rw [c2] at HC
          have HA := abs_any x hx
          have hab := lt_least x hn
          by_cases c3 : rg x < 103582791429521408
          · rw [decide_eq_true c3] at hab
            exact nbr_low x (nextOf x) _ _ _ (next_any x hx) HP HB HI HU HO1 HO2 HV HX HS hself (fun w => neg_run x w) (fun w => neg_run _ w) hlt HO HC HA hab w
          · rw [decide_eq_false c3] at hab
            obtain ⟨m1, m2, z, m3, m4⟩ := mid_facts x hx hn hi c1 c2 c3
            have M1 := fun w => run_float_arith (P := Try.prog) w .mul 22 .f64 x 4602678819172646912 _ m1
            have M2 := fun w => run_float_arith (P := Try.prog) w .mul 22 .f64 (nextOf x) 4602678819172646912 _ m2
            have M3 := fun w => run_float_arith (P := Try.prog) w .add 22 .f64 _ _ _ m3
            rcases m4 with rfl | ⟨rfl, m5⟩
            · exact nbr_mid z (nextOf z) _ _ _ _ _ _ (next_any z hx) HP HB HI HU HO1 HO2 HV HX HS hself (fun w => neg_run z w) (fun w => neg_run _ w) hlt HO HC HA hab M1 M2 M3 (eq_self z hx hn) w
            · refine nbr_mid2 x (nextOf x) _ _ _ _ _ _ (next_any x hx) HP HB HI HU HO1 HO2 HV HX HS hself (fun w => neg_run x w) (fun w => neg_run _ w) hlt HO HC HA hab M1 M2 M3 ?_ (eq_self _ y1 y2) w
              rw [order_eq _ _ y1 hx, decide_eq_false m5, Bool.and_false]
        · exact nbr_two x (nextOf x) _ _ _ (next_any x hx) HP HB HI HU HO1 HO2 HV HX HS hself (fun w => neg_run x w) (fun w => neg_run _ w) hlt HO HC (by simpa using c2) w
      · exact nbr_one x (nextOf x) _ _ _ (next_any x hx) HP HB HI HU HO1 HO2 HV HX HS hself (fun w => neg_run x w) (fun w => neg_run _ w) hlt HO (by simpa using c1) w
  · rw [hn] at ec hself
    have hc : cls x = 4 := by simpa using ec
    have HO := of_any x hx
    rw [hc] at HO
    have HN := next_any x hx
    rw [show nextOf x = x by unfold nextOf; simp [hn]] at HN
    have HP := prev_any x hx
    rw [show prevOf x = x by unfold prevOf; simp [hn]] at HP
    exact nbr_nan x HO HN HP hself w

set_option maxRecDepth 100000 in
theorem partNeighbours_lifted (os : Os) (started : os.Started) (H : Type) (enc : TypeId × Value → H) :
    ReturnsInHanded {} Try.checked os 7 .any (Rows.partNeighboursSpec.pre6 enc Try.prog Try.f7 Rows.partNeighboursRow.domain false) (Rows.partNeighboursSpec.post enc Try.prog Try.f7 false true false false) := by
  refine returnsInHanded_of_change (C := Try.checked) (by kernel_rfl) started (by kernel_rfl) Try.func7
    (ChangeSpec.witness6 (enc := enc) (C := Try.checked) false ⟨#[], #[.float .f64 0], []⟩ 8 (by kernel_rfl) (by kernel_rfl) (by kernel_rfl) (by kernel_rfl)) ?_
  intro W base args ds gs before hval0 hW hcnd _
  have hval : ∀ (j : Nat) t v, Try.f7.params[j]? = some t → args[j]? = some v → Value.okWide Try.prog W .any base t v := hval0
  have hW' := hW
  obtain ⟨p, q, hA0, hV, rfl, hfz, hnd⟩ := hW
  have hA : DataW.TrodAll enc Try.prog W 0 (fun _ => true) true Try.f7.params.toList args.toList ds p := hA0
  rw [Try.params7] at hA hval
  obtain ⟨v0, d0, rfl, rfl, h0⟩ := trodAll_one hA
  obtain ⟨rfl, rfl⟩ := trodVars_none hV
  obtain ⟨x0, rfl, rfl, rfl, w0⟩ := open_float Try.underlying22 (hval 0 22 v0 rfl rfl) h0
  clear hA0 hval0
  simp only [List.append_nil] at hW'
  refine (partNeighbours_any x0 (bound_f x0 w0) W).mono fun e W' ⟨he, hw⟩ => ?_
  subst he; subst hw
  exact ⟨_, rfl, post_of_same (pa := []) (pv := []) hW' (fun _ _ _ => trodAll_mk1 (shut_bool Try.underlying4 true)) (fun sp _ => trodAll_mk1 (shut_float Try.underlying22 w0)) (fun _ _ => rfl) rfl
    (World.keptBut_refl _ _) (fun _ => rfl) (ok_one (by kernel_rfl) rfl (okWide_bool_mk Try.underlying4 true))⟩

theorem partNeighbours_holds : Rows.PartNeighboursSaid :=
  OpenClaim.holds_of_wide 7 Try.f7 rfl rfl rfl rfl rfl rfl rfl ⟨rfl, rfl, rfl, rfl, rfl⟩ rfl rfl rfl rfl rfl (by kernel_rfl) Try.func7 (by kernel_rfl)
    (of_decide_eq_true (by kernel_rfl)) (by unfold Func.isWrapper; first | (rw [if_pos (by decide +kernel)]; kernel_rfl) | (rw [if_neg (by decide +kernel)]; exact ⟨rfl, rfl⟩))
    (fun os started H enc _ => partNeighbours_lifted os started H enc)

end Go.Proofs.Ytdifckiemmldoaa
