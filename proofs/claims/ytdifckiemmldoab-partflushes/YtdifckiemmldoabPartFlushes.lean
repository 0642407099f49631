/- For every float64 x, PartFlushes(x) is true: Flush changes just the subnormal numbers, to noughts of their sign, and nothing twice. No condition. -/
import Derived.Test.YtdifckiemmldoabFlushA
import Derived.Test.YtdifckiemmldoabAwake
import Derived.ProofKit
namespace Go.Proofs.Ytdifckiemmldoab
open Go.ChangeShapes Go.WideShapes Go.ChangeAt Go.RowKit

theorem nought_lt (b : Nat) : nought b < 18446744073709551616 := by unfold nought; split <;> decide
theorem flushed_lt (b : Nat) (hb : b < 18446744073709551616) : flushed b < 18446744073709551616 := by
  unfold flushed; split
  · exact nought_lt b
  · exact hb
theorem cls_nought (b : Nat) : cls (nought b) = 0 := by unfold nought; split <;> decide
theorem flushed_nought (b : Nat) : flushed (nought b) = nought b := by unfold flushed; rw [cls_nought]; rfl
theorem flushed_twice (b : Nat) : flushed (flushed b) = flushed b := by
  by_cases h : cls b = 1
  · rw [show flushed b = nought b by simp [flushed, h], flushed_nought]
  · rw [show flushed b = b by simp [flushed, h], show flushed b = b by simp [flushed, h]]
theorem alike_self (b : Nat) : alike b b = true := by simp [alike]
theorem ng_nought (b : Nat) : ng (nought b) = ng b := by
  unfold nought
  cases h : ng b <;> simp <;> decide
theorem order_nought (b : Nat) : (FloatKind.f64.format.order (nought b) 0 == some .eq) = true := by unfold nought; split <;> decide

theorem sign_form (b : Nat) (hb : b < 18446744073709551616) : decide (wrap64 (b : Int) < 0) = ng b := by
  unfold wrap64 ng
  by_cases h : 9223372036854775808 ≤ b <;> simp <;> omega

set_option maxRecDepth 100000 in
set_option maxHeartbeats 1000000 in
theorem signbit_any (b : Nat) (hb : b < 18446744073709551616) (w : World) :
    Calls Try.prog 8 #[.float .f64 b] w fun e w' => e = .returned (.bool (ng b)) ∧ w' = w := by
  have hx := run_bits
  have Hk := hide (sign_form b hb)
  clear hb
  go_enter Try.func8, Try.ntmps8
  go_wp2
  go_ret
  rw [← unhide Hk]
  exact ⟨rfl, rfl⟩

set_option maxRecDepth 100000 in
set_option maxHeartbeats 1000000 in
theorem partFlushes_sub (b : Nat) (hb : b < 18446744073709551616) (h : cls b = 1) (w : World) :
    Calls Try.prog 4 #[.float .f64 b] w fun e w' => e = .returned (.bool true) ∧ w' = w := by
  have hf : flushed b = nought b := by simp [flushed, h]
  have H1 := hide (flush_any b hb)
  rw [hf] at H1
  have H2 := hide (flush_any (nought b) (nought_lt b))
  rw [flushed_nought] at H2
  have H3 := hide (bits_any (nought b) (nought b))
  rw [alike_self] at H3
  have H4 := hide (of_any b hb)
  rw [h] at H4
  have H5 := hide (of_any (nought b) (nought_lt b))
  rw [cls_nought] at H5
  have H6 := hide (signbit_any (nought b) (nought_lt b))
  rw [ng_nought] at H6
  have H7 := hide (signbit_any b hb)
  have ho := order_nought b
  have hn : (ng b == ng b) = true := by simp
  generalize nought b = y at *
  generalize ng b = s at *
  clear hb h hf
  go_enter Try.func4, Try.ntmps4
  go_wp2_with fail
  refine (unhide H1 _).mono ?_
  rintro e w' ⟨rfl, rfl⟩
  go_wp2_with fail
  refine (awake_any _).mono ?_
  rintro e w' ⟨rfl, rfl⟩
  go_wp2_with fail
  refine (unhide H2 _).mono ?_
  rintro e w' ⟨rfl, rfl⟩
  go_wp2_with fail
  refine (unhide H3 _).mono ?_
  rintro e w' ⟨rfl, rfl⟩
  go_wp2_with fail
  refine (unhide H4 _).mono ?_
  rintro e w' ⟨rfl, rfl⟩
  go_wp2_with fail
  refine (unhide H5 _).mono ?_
  rintro e w' ⟨rfl, rfl⟩
  go_wp2_with fail
  refine (unhide H6 _).mono ?_
  rintro e w' ⟨rfl, rfl⟩
  go_wp2_with fail
  refine (unhide H7 _).mono ?_
  rintro e w' ⟨rfl, rfl⟩
  go_wp2
  go_ret
  exact ⟨rfl, rfl⟩

set_option maxRecDepth 100000 in
set_option maxHeartbeats 1000000 in
theorem partFlushes_other (b : Nat) (hb : b < 18446744073709551616) (h : ¬ cls b = 1) (w : World) :
    Calls Try.prog 4 #[.float .f64 b] w fun e w' => e = .returned (.bool true) ∧ w' = w := by
  have hf : flushed b = b := by simp [flushed, h]
  have H1 := hide (flush_any b hb)
  rw [hf] at H1
  have H3 := hide (bits_any b b)
  rw [alike_self] at H3
  have H4 := hide (of_any b hb)
  have t1 : (cls b == 1) = false := by simpa using h
  clear hb h hf
  go_enter Try.func4, Try.ntmps4
  go_wp2_with fail
  refine (unhide H1 _).mono ?_
  rintro e w' ⟨rfl, rfl⟩
  go_wp2_with fail
  refine (awake_any _).mono ?_
  rintro e w' ⟨rfl, rfl⟩
  go_wp2_with fail
  refine (unhide H1 _).mono ?_
  rintro e w' ⟨rfl, rfl⟩
  go_wp2_with fail
  refine (unhide H3 _).mono ?_
  rintro e w' ⟨rfl, rfl⟩
  go_wp2_with fail
  refine (unhide H4 _).mono ?_
  rintro e w' ⟨rfl, rfl⟩
  go_wp2_with fail
  refine (unhide H3 _).mono ?_
  rintro e w' ⟨rfl, rfl⟩
  go_wp2
  go_ret
  exact ⟨rfl, rfl⟩

theorem partFlushes_any (b : Nat) (hb : b < 18446744073709551616) (w : World) :
    Calls Try.prog 4 #[.float .f64 b] w fun e w' => e = .returned (.bool true) ∧ w' = w := by
  by_cases h : cls b = 1
  · exact partFlushes_sub b hb h w
  · exact partFlushes_other b hb h w

set_option maxRecDepth 100000 in
theorem partFlushes_lifted (os : Os) (started : os.Started) (H : Type) (enc : TypeId × Value → H) :
    ReturnsInHanded {} Try.checked os 4 .any (Rows.partFlushesSpec.pre6 enc Try.prog Try.f4 Rows.partFlushesRow.domain false) (Rows.partFlushesSpec.post enc Try.prog Try.f4 false true false false) := by
  refine returnsInHanded_of_change (C := Try.checked) (by kernel_rfl) started (by kernel_rfl) Try.func4
    (ChangeSpec.witness6 (enc := enc) (C := Try.checked) false ⟨#[], #[.float .f64 0], []⟩ 8 (by kernel_rfl) (by kernel_rfl) (by kernel_rfl) (by kernel_rfl)) ?_
  intro W base args ds gs before hval0 hW hcnd _
  have hval : ∀ (j : Nat) t v, Try.f4.params[j]? = some t → args[j]? = some v → Value.okWide Try.prog W .any base t v := hval0
  have hW' := hW
  obtain ⟨p, q, hA0, hV, rfl, hfz, hnd⟩ := hW
  have hA : DataW.TrodAll enc Try.prog W 0 (fun _ => true) true Try.f4.params.toList args.toList ds p := hA0
  rw [Try.params4] at hA hval
  obtain ⟨v0, d0, rfl, rfl, h0⟩ := trodAll_one hA
  obtain ⟨rfl, rfl⟩ := trodVars_none hV
  obtain ⟨x0, rfl, rfl, rfl, w0⟩ := open_float Try.underlying25 (hval 0 25 v0 rfl rfl) h0
  clear hA0 hval0
  simp only [List.append_nil] at hW'
  refine (partFlushes_any x0 (bound_f x0 w0) W).mono fun e W' ⟨he, hw⟩ => ?_
  subst he; subst hw
  exact ⟨_, rfl, post_of_same (pa := []) (pv := []) hW' (fun _ _ _ => trodAll_mk1 (shut_bool Try.underlying4 true)) (fun sp _ => trodAll_mk1 (shut_float Try.underlying25 w0)) (fun _ _ => rfl) rfl
    (World.keptBut_refl _ _) (fun _ => rfl) (ok_one (by kernel_rfl) rfl (okWide_bool_mk Try.underlying4 true))⟩

theorem partFlushes_holds : Rows.PartFlushesSaid :=
  OpenClaim.holds_of_wide 4 Try.f4 rfl rfl rfl rfl rfl rfl rfl ⟨rfl, rfl, rfl, rfl, rfl⟩ rfl rfl rfl rfl rfl (by kernel_rfl) Try.func4 (by kernel_rfl)
    (of_decide_eq_true (by kernel_rfl)) (by unfold Func.isWrapper; first | (rw [if_pos (by decide +kernel)]; kernel_rfl) | (rw [if_neg (by decide +kernel)]; exact ⟨rfl, rfl⟩))
    (fun os started H enc _ => partFlushes_lifted os started H enc)

end Go.Proofs.Ytdifckiemmldoab
