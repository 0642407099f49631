/- For every float64 x, PartSplits(x) is true: Of and Split answer as the document's own functions do, and Join of what Split answers is the number itself. No condition. -/
import Derived.Test.YtdifckiemmldoaaRef
import Derived.ProofKit
namespace Go.Proofs.Ytdifckiemmldoaa
open Go.ChangeShapes Go.WideShapes Go.ChangeAt Go.RowKit

theorem bitLen_full (m : Nat) (h0 : 4503599627370496 ≤ m) (h1 : m < 9007199254740992) : Lib.bitLen m = 53 := by
  obtain ⟨b1, b2⟩ := bitLen_bounds m (by omega)
  obtain ⟨b3, b4⟩ := b2 (by omega)
  apply Nat.le_antisymm
  · apply Nat.le_of_not_lt
    intro h
    have : 2 ^ 53 ≤ 2 ^ (Lib.bitLen m - 1) := Nat.pow_le_pow_right (by decide) (by omega)
    omega
  · apply Nat.le_of_not_lt
    intro h
    have : 2 ^ Lib.bitLen m ≤ 2 ^ 52 := Nat.pow_le_pow_right (by decide) (by omega)
    omega
theorem bitLen_part (m : Nat) (h1 : m < 4503599627370496) : Lib.bitLen m ≤ 52 := Lib.bitLen_le m 52 (by decide) h1

theorem join_sub_bits (b : Nat) (hb : b < 18446744073709551616) (h : pw b = 0) : putBits (ng b) (joinRung (fr b) (-1074)) = b := by
  have hf := fields b hb
  have hl := fr_lt b
  have hr : joinRung (fr b) (-1074) = fr b := by
    unfold joinRung
    by_cases h0 : fr b = 0
    · rw [if_pos (Or.inl h0), h0]
    · have hL := bitLen_part (fr b) hl
      have hs : stepOf (fr b) (-1074) = -1074 := by unfold stepOf; omega
      rw [if_neg (by omega), if_neg (by omega)]
      unfold kept
      rw [hs]
      simp only [Int.le_refl, if_true, Int.sub_self, Int.toNat_zero, Nat.pow_zero, Nat.mul_one]
      omega
  rw [hr]
  unfold putBits
  rw [h] at hf
  cases hn : ng b <;> rw [hn] at hf <;> simp only [Bool.false_eq_true, if_true, if_false] at hf ⊢ <;> omega

theorem join_norm_bits (b : Nat) (hb : b < 18446744073709551616) (h : pw b ≠ 0) (h' : pw b ≠ 2047) : putBits (ng b) (joinRung (fr b + 4503599627370496) ((pw b : Int) - 1075)) = b := by
  have hf := fields b hb
  have hl := fr_lt b
  have hp := pw_le b
  have hr : joinRung (fr b + 4503599627370496) ((pw b : Int) - 1075) = pw b * 4503599627370496 + fr b := by
    unfold joinRung
    have hL := bitLen_full (fr b + 4503599627370496) (by omega) (by omega)
    have hs : stepOf (fr b + 4503599627370496) ((pw b : Int) - 1075) = (pw b : Int) - 1075 := by unfold stepOf; rw [hL]; omega
    rw [if_neg (by omega), if_neg (by omega)]
    unfold kept
    rw [hs]
    simp only [Int.le_refl, if_true, Int.sub_self, Int.toNat_zero, Nat.pow_zero, Nat.mul_one]
    omega
  rw [hr]
  unfold putBits
  cases hn : ng b <;> rw [hn] at hf <;> simp only [Bool.false_eq_true, if_true, if_false] at hf ⊢ <;> omega

theorem ge_sign (b : Nat) : decide ((9223372036854775808 : Int) ≤ (b : Int)) = ng b := by
  unfold ng
  refine Bool.eq_iff_iff.2 ?_
  simp only [decide_eq_true_eq]; omega
theorem quo_power (b : Nat) : (b : Int) % 9223372036854775808 / 4503599627370496 = (pw b : Int) := by unfold pw; omega
theorem rem_fraction (b : Nat) : (b : Int) % 9223372036854775808 % 4503599627370496 = (fr b : Int) := by unfold fr; omega
theorem rem_fraction' (b : Nat) : (b : Int) % 4503599627370496 = (fr b : Int) := by unfold fr; omega
theorem cls_top (b : Nat) (h : pw b = 2047) : 3 ≤ cls b := by
  unfold cls
  rw [if_neg (by omega), if_neg (by omega), if_neg (by omega)]
  split <;> omega
theorem cls_fin (b : Nat) (h : pw b ≠ 2047) : cls b < 3 := by
  have := pw_le b
  unfold cls
  split
  · omega
  · split
    · omega
    · rw [if_pos (by omega)]; omega

set_option maxRecDepth 100000 in
set_option maxHeartbeats 1000000 in
theorem docSplit_none (b : Nat) (h : pw b = 2047) (w : World) :
    Calls Try.prog 10 #[.float .f64 b] w fun e w' => e = .returned (.tuple #[.bool false, .int .u64 0, .int .i64 0, .int .i64 5]) ∧ w' = w := by
  have Hc := hide (class_any b)
  have t := cls_top b h
  clear h
  go_enter Try.func10, Try.ntmps10
  go_wp2_with fail
  refine (unhide Hc _).mono ?_
  rintro e w' ⟨rfl, rfl⟩
  go_wp2
  (try simp only [Exit.inBlock, Exit.then]); refine bodyPost_ret (results_tmp4 rfl _ _ _) rfl ?_
  exact ⟨rfl, rfl⟩

set_option maxRecDepth 100000 in
set_option maxHeartbeats 1000000 in
theorem docSplit_sub (b : Nat) (h : pw b = 0) (w : World) :
    Calls Try.prog 10 #[.float .f64 b] w fun e w' => e = .returned (.tuple #[.bool (ng b), .int .u64 (fr b), .int .i64 (-1074), .int .i64 0]) ∧ w' = w := by
  have Hc := hide (class_any b)
  have hx := run_bits
  have t := cls_fin b (by omega)
  have Hs := hide (ge_sign b)
  have Hq := hide (quo_power b)
  have Hr := hide (rem_fraction b)
  have t2 : ((b : Int) % 9223372036854775808 / 4503599627370496 == 0) = true := by rw [quo_power, h]; rfl
  clear h
  go_enter Try.func10, Try.ntmps10
  go_wp2_with fail
  refine (unhide Hc _).mono ?_
  rintro e w' ⟨rfl, rfl⟩
  go_wp2
  (try simp only [Exit.inBlock, Exit.then]); refine bodyPost_ret (results_tmp4 rfl _ _ _) rfl ?_
  rw [← unhide Hs, ← unhide Hr]
  exact ⟨rfl, rfl⟩

set_option maxRecDepth 100000 in
set_option maxHeartbeats 1000000 in
theorem docSplit_norm (b : Nat) (h : pw b ≠ 0) (h' : pw b ≠ 2047) (w : World) :
    Calls Try.prog 10 #[.float .f64 b] w fun e w' => e = .returned (.tuple #[.bool (ng b), .int .u64 (fr b + 4503599627370496), .int .i64 (pw b - 1075), .int .i64 0]) ∧ w' = w := by
  have Hc := hide (class_any b)
  have hx := run_bits
  have t := cls_fin b h'
  have Hs := hide (ge_sign b)
  have Hq := hide (quo_power b)
  have Hr := hide (rem_fraction' b)
  have t2 : ((b : Int) % 9223372036854775808 / 4503599627370496 == 0) = false := by rw [quo_power]; simp; omega
  clear h h'
  go_enter Try.func10, Try.ntmps10
  go_wp2_with fail
  refine (unhide Hc _).mono ?_
  rintro e w' ⟨rfl, rfl⟩
  go_wp2
  (try simp only [Exit.inBlock, Exit.then]); refine bodyPost_ret (results_tmp4 rfl _ _ _) rfl ?_
  rw [← unhide Hs, ← unhide Hr, ← unhide Hq]
  exact ⟨rfl, rfl⟩

set_option maxRecDepth 100000 in
set_option maxHeartbeats 1000000 in
theorem splits_none (x : Nat) (neg : Bool) (m e : Int) (hx : x < 18446744073709551616)
    (HS : Hid (∀ w, Calls Try.prog 9 #[.float .f64 x] w fun r w' => r = .returned (.tuple #[.bool neg, .int .u64 m, .int .i64 e, .int .i64 5]) ∧ w' = w))
    (HD : Hid (∀ w, Calls Try.prog 10 #[.float .f64 x] w fun r w' => r = .returned (.tuple #[.bool neg, .int .u64 m, .int .i64 e, .int .i64 5]) ∧ w' = w)) (w : World) :
    Calls Try.prog 3 #[.float .f64 x] w fun e w' => e = .returned (.bool true) ∧ w' = w := by
  have HO := hide (of_any x hx)
  have HC := hide (class_any x)
  have HB := hide (bits_any x x)
  rw [show alike x x = true by simp [alike]] at HB
  have t1 : (neg != neg) = false := by cases neg <;> rfl
  have t2 : (m != m) = false := by simp
  have t3 : (e != e) = false := by simp
  have c0 := (cls_le x).1
  have c1 := (cls_le x).2
  generalize cls x = c at *
  have t4 : (c != c) = false := by simp
  clear hx
  go_enter Try.func3, Try.ntmps3
  go_wp2_with fail
  refine (unhide HS _).mono ?_
  rintro e w' ⟨rfl, rfl⟩
  go_wp2_with fail
  refine (unhide HD _).mono ?_
  rintro e w' ⟨rfl, rfl⟩
  go_wp2_with fail
  refine (awake_any _).mono ?_
  rintro e w' ⟨rfl, rfl⟩
  go_wp2_with fail
  refine (unhide HO _).mono ?_
  rintro e w' ⟨rfl, rfl⟩
  go_wp2_with fail
  refine (unhide HC _).mono ?_
  rintro e w' ⟨rfl, rfl⟩
  go_wp2
  go_ret
  exact ⟨rfl, rfl⟩

set_option maxRecDepth 100000 in
set_option maxHeartbeats 1000000 in
theorem splits_num (x : Nat) (neg : Bool) (m e : Int) (hx : x < 18446744073709551616)
    (HS : Hid (∀ w, Calls Try.prog 9 #[.float .f64 x] w fun r w' => r = .returned (.tuple #[.bool neg, .int .u64 m, .int .i64 e, .int .i64 0]) ∧ w' = w))
    (HD : Hid (∀ w, Calls Try.prog 10 #[.float .f64 x] w fun r w' => r = .returned (.tuple #[.bool neg, .int .u64 m, .int .i64 e, .int .i64 0]) ∧ w' = w))
    (HJ : Hid (∀ w, Calls Try.prog 15 #[.bool neg, .int .u64 m, .int .i64 e] w fun r w' => r = .returned (.float .f64 x) ∧ w' = w)) (w : World) :
    Calls Try.prog 3 #[.float .f64 x] w fun e w' => e = .returned (.bool true) ∧ w' = w := by
  have HO := hide (of_any x hx)
  have HC := hide (class_any x)
  have HB := hide (bits_any x x)
  rw [show alike x x = true by simp [alike]] at HB
  have t1 : (neg != neg) = false := by cases neg <;> rfl
  have t2 : (m != m) = false := by simp
  have t3 : (e != e) = false := by simp
  have c0 := (cls_le x).1
  have c1 := (cls_le x).2
  generalize cls x = c at *
  have t4 : (c != c) = false := by simp
  clear hx
  go_enter Try.func3, Try.ntmps3
  go_wp2_with fail
  refine (unhide HS _).mono ?_
  rintro e w' ⟨rfl, rfl⟩
  go_wp2_with fail
  refine (unhide HD _).mono ?_
  rintro e w' ⟨rfl, rfl⟩
  go_wp2_with fail
  refine (awake_any _).mono ?_
  rintro e w' ⟨rfl, rfl⟩
  go_wp2_with fail
  refine (unhide HO _).mono ?_
  rintro e w' ⟨rfl, rfl⟩
  go_wp2_with fail
  refine (unhide HC _).mono ?_
  rintro e w' ⟨rfl, rfl⟩
  go_wp2_with fail
  refine (unhide HJ _).mono ?_
  rintro e w' ⟨rfl, rfl⟩
  go_wp2_with fail
  refine (unhide HB _).mono ?_
  rintro e w' ⟨rfl, rfl⟩
  go_wp2
  go_ret
  exact ⟨rfl, rfl⟩

theorem partSplits_any (x : Nat) (hx : x < 18446744073709551616) (w : World) :
    Calls Try.prog 3 #[.float .f64 x] w fun e w' => e = .returned (.bool true) ∧ w' = w := by
  have hl := fr_lt x
  by_cases h1 : pw x = 2047
  · exact splits_none x _ _ _ hx (split_none x hx h1) (docSplit_none x h1) w
  · by_cases h2 : pw x = 0
    · have HJ := join_any (ng x) (fr x) (-1074) (by omega) (by omega)
      rw [Int.toNat_natCast, join_sub_bits x hx h2] at HJ
      exact splits_num x _ _ _ hx (split_sub x hx h2) (docSplit_sub x h2) HJ w
    · have HJ := join_any (ng x) ((fr x : Int) + 4503599627370496) ((pw x : Int) - 1075) (by omega) (by omega)
      rw [show ((fr x : Int) + 4503599627370496).toNat = fr x + 4503599627370496 by omega, join_norm_bits x hx h2 h1] at HJ
      exact splits_num x _ _ _ hx (split_norm x hx h2 h1) (docSplit_norm x h2 h1) HJ w

set_option maxRecDepth 100000 in
theorem partSplits_lifted (os : Os) (started : os.Started) (H : Type) (enc : TypeId × Value → H) :
    ReturnsInHanded {} Try.checked os 3 .any (Rows.partSplitsSpec.pre6 enc Try.prog Try.f3 Rows.partSplitsRow.domain false) (Rows.partSplitsSpec.post enc Try.prog Try.f3 false true false false) := by
  refine returnsInHanded_of_change (C := Try.checked) (by kernel_rfl) started (by kernel_rfl) Try.func3
    (ChangeSpec.witness6 (enc := enc) (C := Try.checked) false ⟨#[], #[.float .f64 0], []⟩ 8 (by kernel_rfl) (by kernel_rfl) (by kernel_rfl) (by kernel_rfl)) ?_
  intro W base args ds gs before hval0 hW hcnd _
  have hval : ∀ (j : Nat) t v, Try.f3.params[j]? = some t → args[j]? = some v → Value.okWide Try.prog W .any base t v := hval0
  have hW' := hW
  obtain ⟨p, q, hA0, hV, rfl, hfz, hnd⟩ := hW
  have hA : DataW.TrodAll enc Try.prog W 0 (fun _ => true) true Try.f3.params.toList args.toList ds p := hA0
  rw [Try.params3] at hA hval
  obtain ⟨v0, d0, rfl, rfl, h0⟩ := trodAll_one hA
  obtain ⟨rfl, rfl⟩ := trodVars_none hV
  obtain ⟨x0, rfl, rfl, rfl, w0⟩ := open_float Try.underlying22 (hval 0 22 v0 rfl rfl) h0
  clear hA0 hval0
  simp only [List.append_nil] at hW'
  refine (partSplits_any x0 (bound_f x0 w0) W).mono fun e W' ⟨he, hw⟩ => ?_
  subst he; subst hw
  exact ⟨_, rfl, post_of_same (pa := []) (pv := []) hW' (fun _ _ _ => trodAll_mk1 (shut_bool Try.underlying4 true)) (fun sp _ => trodAll_mk1 (shut_float Try.underlying22 w0)) (fun _ _ => rfl) rfl
    (World.keptBut_refl _ _) (fun _ => rfl) (ok_one (by kernel_rfl) rfl (okWide_bool_mk Try.underlying4 true))⟩

theorem partSplits_holds : Rows.PartSplitsSaid :=
  OpenClaim.holds_of_wide 3 Try.f3 rfl rfl rfl rfl rfl rfl rfl ⟨rfl, rfl, rfl, rfl, rfl⟩ rfl rfl rfl rfl rfl (by kernel_rfl) Try.func3 (by kernel_rfl)
    (of_decide_eq_true (by kernel_rfl)) (by unfold Func.isWrapper; first | (rw [if_pos (by decide +kernel)]; kernel_rfl) | (rw [if_neg (by decide +kernel)]; exact ⟨rfl, rfl⟩))
    (fun os started H enc _ => partSplits_lifted os started H enc)

end Go.Proofs.Ytdifckiemmldoaa
