/- For every float64 x, PartSteps(x) is true: Next, Prev and Flush answer as the document's own functions do. No condition. -/
import Derived.Test.YtdifckiemmldoaaSteps
import Derived.Test.YtdifckiemmldoaaIdxNum
import Derived.ProofKit
namespace Go.Proofs.Ytdifckiemmldoaa
open Go.ChangeShapes Go.WideShapes Go.ChangeAt Go.RowKit

theorem idx_form (b : Nat) (hb : b < 18446744073709551616) (h : isnan b = false) :
    (ng b = true → idx b = 9218868437227405312 - rg b ∧ b = 9223372036854775808 + rg b) ∧ (ng b = false → idx b = 9218868437227405313 + b) ∧ rg b ≤ 9218868437227405312 := by
  obtain ⟨a1, a2, a3, a4⟩ := rank_num b hb h
  have hr : rg b ≤ 9218868437227405312 := by simpa [isnan] using h
  refine ⟨fun hn => ⟨by simp [idx, h, hn], a3 hn⟩, fun hn => by simp [idx, h, hn], hr⟩

theorem next_ref (b : Nat) (hb : b < 18446744073709551616) (h : isnan b = false) : atRef (min (idx b + 1) 18437736874454810625) = nextOf b := by
  obtain ⟨i1, i2⟩ := idx_num b hb h
  obtain ⟨f1, f2, f3⟩ := idx_form b hb h
  unfold nextOf
  by_cases hi : b = 9218868437227405312
  · subst hi
    have : idx 9218868437227405312 = 18437736874454810625 := by decide
    rw [this]; decide
  · have hne : (isnan b || decide (b = 9218868437227405312)) = false := by simp [h, hi]
    rw [hne]
    simp only [Bool.false_eq_true, if_false]
    have hlt : idx b < 18437736874454810625 := by
      cases hn : ng b
      · have g := f2 hn
        have : ¬ 9223372036854775808 ≤ b := by simpa [ng] using hn
        unfold rg at f3
        omega
      · have g := f1 hn; omega
    rw [show min (idx b + 1) 18437736874454810625 = idx b + 1 by omega, i1]
    unfold atRef atOf
    split <;> split <;> omega
theorem prev_ref (b : Nat) (hb : b < 18446744073709551616) (h : isnan b = false) (h0 : idx b ≠ 0) : atRef (idx b - 1) = prevOf b := by
  obtain ⟨i1, i2⟩ := idx_num b hb h
  obtain ⟨f1, f2, f3⟩ := idx_form b hb h
  unfold prevOf
  have hi : b ≠ 18442240474082181120 := by
    intro hi
    subst hi
    exact h0 (by decide)
  have hne : (isnan b || decide (b = 18442240474082181120)) = false := by simp [h, hi]
  rw [hne]
  simp only [Bool.false_eq_true, if_false]
  rw [i1]
  unfold atRef atOf
  split <;> split <;> omega
theorem prev_zero (b : Nat) (hb : b < 18446744073709551616) (h : isnan b = false) (h0 : idx b = 0) : prevOf b = b := by
  obtain ⟨f1, f2, f3⟩ := idx_form b hb h
  have : b = 18442240474082181120 := by
    cases hn : ng b
    · have g := f2 hn; omega
    · have g := f1 hn; omega
  simp [prevOf, this]

set_option maxRecDepth 100000 in
set_option maxHeartbeats 1000000 in
theorem docNext_any (b : Nat) (hb : b < 18446744073709551616) (w : World) :
    Calls Try.prog 18 #[.float .f64 b] w fun e w' => e = .returned (.float .f64 (nextOf b)) ∧ w' = w := by
  have Hc := hide (class_any b)
  have Hi := hide (index_any b hb)
  have e := isnan_cls b hb
  cases ta : isnan b
  · rw [ta] at e
    have Hk := hide (next_ref b hb ta)
    obtain ⟨i1, i2⟩ := idx_num b hb ta
    by_cases h : idx b + 1 ≤ 18437736874454810625
    · rw [show min (idx b + 1) 18437736874454810625 = idx b + 1 by omega] at Hk
      obtain ⟨z, hz⟩ : ∃ z : Int, z = (idx b : Int) := ⟨_, rfl⟩
      have Ha := hide (refAt_any (z + 1) (by omega) (by omega))
      rw [show (z + 1).toNat = idx b + 1 by omega, unhide Hk] at Ha
      rw [← hz] at Hi
      have z0 : 0 ≤ z := by omega
      have z1 : z + 1 ≤ 18437736874454810625 := by omega
      clear hb ta h i1 i2 hz Hk
      go_enter Try.func18, Try.ntmps18
      go_wp2_with fail
      refine (unhide Hc _).mono ?_
      rintro e w' ⟨rfl, rfl⟩
      go_wp2_with fail
      refine (unhide Hi _).mono ?_
      rintro e w' ⟨rfl, rfl⟩
      go_wp2_with fail
      refine (unhide Ha _).mono ?_
      rintro e w' ⟨rfl, rfl⟩
      go_wp2
      go_ret
      exact ⟨rfl, rfl⟩
    · rw [show min (idx b + 1) 18437736874454810625 = 18437736874454810625 by omega] at Hk
      have Ha := hide (refAt_any 18437736874454810625 (by omega) (by omega))
      rw [show (18437736874454810625 : Int).toNat = 18437736874454810625 by decide, unhide Hk] at Ha
      have hz : idx b = 18437736874454810625 := by omega
      rw [hz] at Hi
      clear hb ta h i1 i2 hz Hk
      go_enter Try.func18, Try.ntmps18
      go_wp2_with fail
      refine (unhide Hc _).mono ?_
      rintro e w' ⟨rfl, rfl⟩
      go_wp2_with fail
      refine (unhide Hi _).mono ?_
      rintro e w' ⟨rfl, rfl⟩
      go_wp2_with fail
      refine (unhide Ha _).mono ?_
      rintro e w' ⟨rfl, rfl⟩
      go_wp2
      go_ret
      exact ⟨rfl, rfl⟩
  · rw [ta] at e
    have Hk : Hid (nextOf b = b) := by simp [Hid, nextOf, ta]
    clear hb ta Hi
    go_enter Try.func18, Try.ntmps18
    go_wp2_with fail
    refine (unhide Hc _).mono ?_
    rintro e w' ⟨rfl, rfl⟩
    go_wp2
    go_ret
    rw [unhide Hk]
    exact ⟨rfl, rfl⟩

set_option maxRecDepth 100000 in
set_option maxHeartbeats 1000000 in
theorem docPrev_any (b : Nat) (hb : b < 18446744073709551616) (w : World) :
    Calls Try.prog 20 #[.float .f64 b] w fun e w' => e = .returned (.float .f64 (prevOf b)) ∧ w' = w := by
  have Hc := hide (class_any b)
  have Hi := hide (index_any b hb)
  have e := isnan_cls b hb
  cases ta : isnan b
  · rw [ta] at e
    obtain ⟨i1, i2⟩ := idx_num b hb ta
    obtain ⟨z, hz⟩ : ∃ z : Int, z = (idx b : Int) := ⟨_, rfl⟩
    rw [← hz] at Hi
    by_cases h : idx b = 0
    · have Hk := hide (prev_zero b hb ta h)
      have t : (z == 0) = true := by simp; omega
      clear hb ta h i1 i2 hz
      go_enter Try.func20, Try.ntmps20
      go_wp2_with fail
      refine (unhide Hi _).mono ?_
      rintro e w' ⟨rfl, rfl⟩
      go_wp2_with fail
      refine (unhide Hc _).mono ?_
      rintro e w' ⟨rfl, rfl⟩
      go_wp2
      go_ret
      rw [unhide Hk]
      exact ⟨rfl, rfl⟩
    · have Hk := hide (prev_ref b hb ta h)
      have t : (z == 0) = false := by simp; omega
      have Ha := hide (refAt_any (z - 1) (by omega) (by omega))
      rw [show (z - 1).toNat = idx b - 1 by omega, unhide Hk] at Ha
      have z0 : 1 ≤ z := by omega
      have z1 : z ≤ 18437736874454810625 := by omega
      clear hb ta h i1 i2 hz Hk
      go_enter Try.func20, Try.ntmps20
      go_wp2_with fail
      refine (unhide Hi _).mono ?_
      rintro e w' ⟨rfl, rfl⟩
      go_wp2_with fail
      refine (unhide Hc _).mono ?_
      rintro e w' ⟨rfl, rfl⟩
      go_wp2_with fail
      refine (unhide Ha _).mono ?_
      rintro e w' ⟨rfl, rfl⟩
      go_wp2
      go_ret
      exact ⟨rfl, rfl⟩
  · rw [ta] at e
    have Hk : Hid (prevOf b = b) := by simp [Hid, prevOf, ta]
    clear hb ta
    go_enter Try.func20, Try.ntmps20
    go_wp2_with fail
    refine (unhide Hi _).mono ?_
    rintro e w' ⟨rfl, rfl⟩
    go_wp2_with fail
    refine (unhide Hc _).mono ?_
    rintro e w' ⟨rfl, rfl⟩
    go_wp2
    go_ret
    rw [unhide Hk]
    exact ⟨rfl, rfl⟩

theorem alike_same (b : Nat) : alike b b = true := by simp [alike]

set_option maxRecDepth 100000 in
set_option maxHeartbeats 1000000 in
theorem partSteps_any (b : Nat) (hb : b < 18446744073709551616) (w : World) :
    Calls Try.prog 5 #[.float .f64 b] w fun e w' => e = .returned (.bool true) ∧ w' = w := by
  have H1 := hide (next_any b hb)
  have H2 := hide (docNext_any b hb)
  have H3 := hide (bits_any (nextOf b) (nextOf b))
  have H4 := hide (prev_any b hb)
  have H5 := hide (docPrev_any b hb)
  have H6 := hide (bits_any (prevOf b) (prevOf b))
  have H7 := hide (flush_any b hb)
  have H8 := hide (refFlush_any b hb)
  have H9 := hide (bits_any (flushed b) (flushed b))
  rw [alike_same] at H3 H6 H9
  clear hb
  go_enter Try.func5, Try.ntmps5
  go_wp2_with fail
  refine (awake_any _).mono ?_
  rintro e w' ⟨rfl, rfl⟩
  go_wp2_with fail
  refine (unhide H1 _).mono ?_
  rintro e w' ⟨rfl, rfl⟩
  go_wp2_with fail
  refine (unhide H2 _).mono ?_
  rintro e w' ⟨rfl, rfl⟩
  go_wp2_with fail
  refine (unhide H3 _).mono ?_
  rintro e w' ⟨rfl, rfl⟩
  go_wp2_with fail
  refine (unhide H4 _).mono ?_
  rintro e w' ⟨rfl, rfl⟩
  go_wp2_with fail
  refine (unhide H5 _).mono ?_
  rintro e w' ⟨rfl, rfl⟩
  go_wp2_with fail
  refine (unhide H6 _).mono ?_
  rintro e w' ⟨rfl, rfl⟩
  go_wp2_with fail
  refine (unhide H7 _).mono ?_
  rintro e w' ⟨rfl, rfl⟩
  go_wp2_with fail
  refine (unhide H8 _).mono ?_
  rintro e w' ⟨rfl, rfl⟩
  go_wp2_with fail
  refine (unhide H9 _).mono ?_
  rintro e w' ⟨rfl, rfl⟩
  go_wp2
  go_ret
  exact ⟨rfl, rfl⟩

set_option maxRecDepth 100000 in
theorem partSteps_lifted (os : Os) (started : os.Started) (H : Type) (enc : TypeId × Value → H) :
    ReturnsInHanded {} Try.checked os 5 .any (Rows.partStepsSpec.pre6 enc Try.prog Try.f5 Rows.partStepsRow.domain false) (Rows.partStepsSpec.post enc Try.prog Try.f5 false true false false) := by
  refine returnsInHanded_of_change (C := Try.checked) (by kernel_rfl) started (by kernel_rfl) Try.func5
    (ChangeSpec.witness6 (enc := enc) (C := Try.checked) false ⟨#[], #[.float .f64 0], []⟩ 8 (by kernel_rfl) (by kernel_rfl) (by kernel_rfl) (by kernel_rfl)) ?_
  intro W base args ds gs before hval0 hW hcnd _
  have hval : ∀ (j : Nat) t v, Try.f5.params[j]? = some t → args[j]? = some v → Value.okWide Try.prog W .any base t v := hval0
  have hW' := hW
  obtain ⟨p, q, hA0, hV, rfl, hfz, hnd⟩ := hW
  have hA : DataW.TrodAll enc Try.prog W 0 (fun _ => true) true Try.f5.params.toList args.toList ds p := hA0
  rw [Try.params5] at hA hval
  obtain ⟨v0, d0, rfl, rfl, h0⟩ := trodAll_one hA
  obtain ⟨rfl, rfl⟩ := trodVars_none hV
  obtain ⟨x0, rfl, rfl, rfl, w0⟩ := open_float Try.underlying22 (hval 0 22 v0 rfl rfl) h0
  clear hA0 hval0
  simp only [List.append_nil] at hW'
  refine (partSteps_any x0 (bound_f x0 w0) W).mono fun e W' ⟨he, hw⟩ => ?_
  subst he; subst hw
  exact ⟨_, rfl, post_of_same (pa := []) (pv := []) hW' (fun _ _ _ => trodAll_mk1 (shut_bool Try.underlying4 true)) (fun sp _ => trodAll_mk1 (shut_float Try.underlying22 w0)) (fun _ _ => rfl) rfl
    (World.keptBut_refl _ _) (fun _ => rfl) (ok_one (by kernel_rfl) rfl (okWide_bool_mk Try.underlying4 true))⟩

theorem partSteps_holds : Rows.PartStepsSaid :=
  OpenClaim.holds_of_wide 5 Try.f5 rfl rfl rfl rfl rfl rfl rfl ⟨rfl, rfl, rfl, rfl, rfl⟩ rfl rfl rfl rfl rfl (by kernel_rfl) Try.func5 (by kernel_rfl)
    (of_decide_eq_true (by kernel_rfl)) (by unfold Func.isWrapper; first | (rw [if_pos (by decide +kernel)]; kernel_rfl) | (rw [if_neg (by decide +kernel)]; exact ⟨rfl, rfl⟩))
    (fun os started H enc _ => partSteps_lifted os started H enc)

end Go.Proofs.Ytdifckiemmldoaa
