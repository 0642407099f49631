/- For every two float64s x, y, PartPairs(x, y) is true: Ulps, Same and Order answer as the document's own functions do. No condition. -/
import Derived.Test.YtdifckiemmldoaaRankNum
import Derived.Test.YtdifckiemmldoaaRef
import Derived.ProofKit
namespace Go.Proofs.Ytdifckiemmldoaa
open Go.ChangeShapes Go.WideShapes Go.ChangeAt Go.RowKit

theorem idx_num (b : Nat) (hb : b < 18446744073709551616) (h : isnan b = false) : rank b = idx b + 4503599627370495 ∧ idx b ≤ 18437736874454810625 := by
  obtain ⟨a1, a2, a3, a4⟩ := rank_num b hb h
  simp only [isnan, decide_eq_false_iff_not] at h
  unfold idx key at *
  rw [show isnan b = false by simp [isnan, h]]
  cases hn : ng b <;> simp only [hn, Bool.false_eq_true, if_true, if_false, false_implies, true_implies] at a1 a3 a4 ⊢ <;> omega
theorem idx_nan (b : Nat) (h : isnan b = true) : idx b = 18437736874454810627 := by simp [idx, h]

theorem same_idx (a b : Nat) (ha : a < 18446744073709551616) (hb : b < 18446744073709551616) : ((idx a : Int) == (idx b : Int)) = sameOf a b := by
  rw [same_rank a b ha hb]
  refine Bool.eq_iff_iff.2 ?_
  simp only [beq_iff_eq, decide_eq_true_eq]
  cases na : isnan a <;> cases nb : isnan b
  · have := idx_num a ha na; have := idx_num b hb nb; omega
  · have := idx_num a ha na; have := idx_nan b nb; have := rank_nan b hb nb; omega
  · have := idx_num b hb nb; have := idx_nan a na; have := rank_nan a ha na; omega
  · have := idx_nan a na; have := rank_nan a ha na; have := idx_nan b nb; have := rank_nan b hb nb; omega
theorem cmp_idx (a b : Nat) (ha : a < 18446744073709551616) (hb : b < 18446744073709551616) : cmpOf (idx a) (idx b) = cmpOf (rank a) (rank b) := by
  unfold cmpOf
  cases na : isnan a <;> cases nb : isnan b
  · have := idx_num a ha na; have := idx_num b hb nb
    split <;> (try split) <;> (try split) <;> (try split) <;> omega
  · have := idx_num a ha na; have := idx_nan b nb; have := rank_nan b hb nb
    split <;> (try split) <;> (try split) <;> (try split) <;> omega
  · have := idx_num b hb nb; have := idx_nan a na; have := rank_nan a ha na
    split <;> (try split) <;> (try split) <;> (try split) <;> omega
  · have := idx_nan a na; have := rank_nan a ha na; have := idx_nan b nb; have := rank_nan b hb nb
    split <;> (try split) <;> (try split) <;> (try split) <;> omega
theorem dist_idx (a b : Nat) (ha : a < 18446744073709551616) (hb : b < 18446744073709551616) (na : isnan a = false) (nb : isnan b = false) : dist (idx a) (idx b) = dist (rank a) (rank b) := by
  have := idx_num a ha na
  have := idx_num b hb nb
  unfold dist
  split <;> split <;> omega

set_option maxRecDepth 100000 in
set_option maxHeartbeats 4000000 in
theorem pairs_core (x y : Nat) (n e c : Int) (s : Bool) (he : e = 0 ∨ e = 5)
    (HU : Hid (∀ w, Calls Try.prog 23 #[.float .f64 x, .float .f64 y] w fun r w' => r = .returned (.tuple #[.int .u64 n, .int .i64 e]) ∧ w' = w))
    (HD : Hid (∀ w, Calls Try.prog 24 #[.float .f64 x, .float .f64 y] w fun r w' => r = .returned (.tuple #[.int .u64 n, .int .i64 e]) ∧ w' = w))
    (HS : Hid (∀ w, Calls Try.prog 25 #[.float .f64 x, .float .f64 y] w fun e w' => e = .returned (.bool s) ∧ w' = w))
    (HT : Hid (∀ w, Calls Try.prog 26 #[.float .f64 x, .float .f64 y] w fun e w' => e = .returned (.bool s) ∧ w' = w))
    (HO : Hid (∀ w, Calls Try.prog 27 #[.float .f64 x, .float .f64 y] w fun e w' => e = .returned (.int .i64 c) ∧ w' = w))
    (HP : Hid (∀ w, Calls Try.prog 28 #[.float .f64 x, .float .f64 y] w fun e w' => e = .returned (.int .i64 c) ∧ w' = w)) (w : World) :
    Calls Try.prog 6 #[.float .f64 x, .float .f64 y] w fun e w' => e = .returned (.bool true) ∧ w' = w := by
  have t1 : (n == n) = true := by simp
  have t2 : (c == c) = true := by simp
  have t3 : (s == s) = true := by simp
  rcases he with rfl | rfl
  all_goals (
    go_enter Try.func6, Try.ntmps6
    go_wp2_with fail
    refine (unhide HU _).mono ?_
    rintro e w' ⟨rfl, rfl⟩
    go_wp2_with fail
    refine (unhide HD _).mono ?_
    rintro e w' ⟨rfl, rfl⟩
    go_wp2_with fail
    refine (awake_any _).mono ?_
    rintro e w' ⟨rfl, rfl⟩
    go_wp2_with fail
    refine (unhide HS _).mono ?_
    rintro e w' ⟨rfl, rfl⟩
    go_wp2_with fail
    refine (unhide HT _).mono ?_
    rintro e w' ⟨rfl, rfl⟩
    go_wp2_with fail
    refine (unhide HO _).mono ?_
    rintro e w' ⟨rfl, rfl⟩
    go_wp2_with fail
    refine (unhide HP _).mono ?_
    rintro e w' ⟨rfl, rfl⟩
    go_wp2
    go_ret
    exact ⟨rfl, rfl⟩)

theorem partPairs_any (x y : Nat) (hx : x < 18446744073709551616) (hy : y < 18446744073709551616) (w : World) :
    Calls Try.prog 6 #[.float .f64 x, .float .f64 y] w fun e w' => e = .returned (.bool true) ∧ w' = w := by
  have HT := refSame_any x y hx hy
  rw [same_idx x y hx hy] at HT
  have HP := refOrder_any x y hx hy
  rw [cmp_idx x y hx hy] at HP
  by_cases h : (isnan x || isnan y) = true
  · exact pairs_core x y 0 5 _ _ (Or.inr rfl) (ulps_nan x y hx hy h) (docUlps_nan x y hx hy h) (same_any x y hx hy) HT (order_any x y hx hy) HP w
  · simp only [Bool.not_eq_true, Bool.or_eq_false_iff] at h
    have HD := docUlps_num x y hx hy h.1 h.2
    rw [dist_idx x y hx hy h.1 h.2] at HD
    exact pairs_core x y _ 0 _ _ (Or.inl rfl) (ulps_num x y hx hy h.1 h.2) HD (same_any x y hx hy) HT (order_any x y hx hy) HP w

set_option maxRecDepth 100000 in
theorem partPairs_lifted (os : Os) (started : os.Started) (H : Type) (enc : TypeId × Value → H) :
    ReturnsInHanded {} Try.checked os 6 .any (Rows.partPairsSpec.pre6 enc Try.prog Try.f6 Rows.partPairsRow.domain false) (Rows.partPairsSpec.post enc Try.prog Try.f6 false true false false) := by
  refine returnsInHanded_of_change (C := Try.checked) (by kernel_rfl) started (by kernel_rfl) Try.func6
    (ChangeSpec.witness6 (enc := enc) (C := Try.checked) false ⟨#[], #[.float .f64 0, .float .f64 0], []⟩ 8 (by kernel_rfl) (by kernel_rfl) (by kernel_rfl) (by kernel_rfl)) ?_
  intro W base args ds gs before hval0 hW hcnd _
  have hval : ∀ (j : Nat) t v, Try.f6.params[j]? = some t → args[j]? = some v → Value.okWide Try.prog W .any base t v := hval0
  have hW' := hW
  obtain ⟨p, q, hA0, hV, rfl, hfz, hnd⟩ := hW
  have hA : DataW.TrodAll enc Try.prog W 0 (fun _ => true) true Try.f6.params.toList args.toList ds p := hA0
  rw [Try.params6] at hA hval
  obtain ⟨v0, v1, d0, d1, p0, p1, rfl, rfl, rfl, h0, h1⟩ := trodAll_two hA
  obtain ⟨rfl, rfl⟩ := trodVars_none hV
  obtain ⟨x0, rfl, rfl, rfl, w0⟩ := open_float Try.underlying22 (hval 0 22 v0 rfl rfl) h0
  obtain ⟨x1, rfl, rfl, rfl, w1⟩ := open_float Try.underlying22 (hval 1 22 v1 rfl rfl) h1
  clear hA0 hval0
  simp only [List.append_nil] at hW'
  refine (partPairs_any x0 x1 (bound_f x0 w0) (bound_f x1 w1) W).mono fun e W' ⟨he, hw⟩ => ?_
  subst he; subst hw
  exact ⟨_, rfl, post_of_same (pa := []) (pv := []) hW' (fun _ _ _ => trodAll_mk1 (shut_bool Try.underlying4 true)) (fun sp _ => trodAll_mk2 (shut_float Try.underlying22 w0) (shut_float Try.underlying22 w1)) (fun _ _ => rfl) rfl
    (World.keptBut_refl _ _) (fun _ => rfl) (ok_one (by kernel_rfl) rfl (okWide_bool_mk Try.underlying4 true))⟩

theorem partPairs_holds : Rows.PartPairsSaid :=
  OpenClaim.holds_of_wide 6 Try.f6 rfl rfl rfl rfl rfl rfl rfl ⟨rfl, rfl, rfl, rfl, rfl⟩ rfl rfl rfl rfl rfl (by kernel_rfl) Try.func6 (by kernel_rfl)
    (of_decide_eq_true (by kernel_rfl)) (by unfold Func.isWrapper; first | (rw [if_pos (by decide +kernel)]; kernel_rfl) | (rw [if_neg (by decide +kernel)]; exact ⟨rfl, rfl⟩))
    (fun os started H enc _ => partPairs_lifted os started H enc)

end Go.Proofs.Ytdifckiemmldoaa
