/- What the document's own functions of layer 1 answer, by the bits: Class, Index, DocUlps, Same, Order, Flush. -/
import Derived.Test.YtdifckiemmldoaaPairs
namespace Go.Proofs.Ytdifckiemmldoaa
open Go.RowKit

theorem cls_rg (b : Nat) : cls b = if rg b = 0 then 0 else if rg b < 4503599627370496 then 1 else if rg b < 9218868437227405312 then 2 else if rg b = 9218868437227405312 then 3 else 4 := by
  have e := rg_eq b
  have h1 := pw_le b
  have h2 := fr_lt b
  unfold cls
  by_cases c1 : pw b = 0 ∧ fr b = 0
  · rw [if_pos c1, if_pos (show rg b = 0 by omega)]
  · rw [if_neg c1, if_neg (show ¬ rg b = 0 by omega)]
    by_cases c2 : pw b = 0
    · rw [if_pos c2, if_pos (show rg b < 4503599627370496 by omega)]
    · rw [if_neg c2, if_neg (show ¬ rg b < 4503599627370496 by omega)]
      by_cases c3 : pw b < 2047
      · rw [if_pos c3, if_pos (show rg b < 9218868437227405312 by omega)]
      · rw [if_neg c3, if_neg (show ¬ rg b < 9218868437227405312 by omega)]
        by_cases c4 : fr b = 0
        · rw [if_pos c4, if_pos (show rg b = 9218868437227405312 by omega)]
        · rw [if_neg c4, if_neg (show ¬ rg b = 9218868437227405312 by omega)]

theorem mod_sign (b : Nat) : (b : Int) % 9223372036854775808 = (rg b : Int) := by unfold rg; omega

set_option maxRecDepth 100000 in
set_option maxHeartbeats 1000000 in
theorem class_any (b : Nat) (w : World) :
    Calls Try.prog 13 #[.float .f64 b] w fun e w' => e = .returned (.int .i64 (cls b)) ∧ w' = w := by
  have hx := run_bits
  have hm := mod_sign b
  have Hk := hide (cls_rg b)
  by_cases c1 : rg b = 0
  · rw [if_pos c1] at Hk
    have t1 : ((b : Int) % 9223372036854775808 == 0) = true := by simp; omega
    clear hm c1
    go_enter Try.func13, Try.ntmps13
    go_wp2
    go_ret
    rw [unhide Hk]
    exact ⟨rfl, rfl⟩
  · rw [if_neg c1] at Hk
    have t1 : ((b : Int) % 9223372036854775808 == 0) = false := by simp; omega
    by_cases c2 : rg b < 4503599627370496
    · rw [if_pos c2] at Hk
      have t2 : (b : Int) % 9223372036854775808 < 4503599627370496 := by omega
      clear hm c1 c2
      go_enter Try.func13, Try.ntmps13
      go_wp2
      go_ret
      rw [unhide Hk]
      exact ⟨rfl, rfl⟩
    · rw [if_neg c2] at Hk
      have t2 : ¬ (b : Int) % 9223372036854775808 < 4503599627370496 := by omega
      by_cases c3 : rg b < 9218868437227405312
      · rw [if_pos c3] at Hk
        have t3 : (b : Int) % 9223372036854775808 < 9218868437227405312 := by omega
        clear hm c1 c2 c3
        go_enter Try.func13, Try.ntmps13
        go_wp2
        go_ret
        rw [unhide Hk]
        exact ⟨rfl, rfl⟩
      · rw [if_neg c3] at Hk
        have t3 : ¬ (b : Int) % 9223372036854775808 < 9218868437227405312 := by omega
        by_cases c4 : rg b = 9218868437227405312
        · rw [if_pos c4] at Hk
          have t4 : ((b : Int) % 9223372036854775808 == 9218868437227405312) = true := by simp; omega
          clear hm c1 c2 c3 c4
          go_enter Try.func13, Try.ntmps13
          go_wp2
          go_ret
          rw [unhide Hk]
          exact ⟨rfl, rfl⟩
        · rw [if_neg c4] at Hk
          have t4 : ((b : Int) % 9223372036854775808 == 9218868437227405312) = false := by simp; omega
          clear hm c1 c2 c3 c4
          go_enter Try.func13, Try.ntmps13
          go_wp2
          go_ret
          rw [unhide Hk]
          exact ⟨rfl, rfl⟩

/-- The place of a float by the document's own order. -/
def idx (b : Nat) : Nat := if isnan b then 18437736874454810627 else if ng b then 9218868437227405312 - rg b else 9218868437227405313 + b

set_option maxRecDepth 100000 in
set_option maxHeartbeats 1000000 in
theorem index_any (b : Nat) (hb : b < 18446744073709551616) (w : World) :
    Calls Try.prog 41 #[.float .f64 b] w fun e w' => e = .returned (.int .u64 (idx b)) ∧ w' = w := by
  have hx := run_bits
  have Hc := hide (class_any b)
  have e := isnan_cls b hb
  cases ta : isnan b
  · rw [ta] at e
    by_cases h : 9223372036854775808 ≤ (b : Int)
    · have hr : rg b ≤ 9218868437227405312 := by simpa [isnan] using ta
      have hm := mod_sign b
      have hr' : (b : Int) % 9223372036854775808 ≤ 9218868437227405312 := by omega
      have Hk : Hid ((idx b : Int) = 9218868437227405312 - (b : Int) % 9223372036854775808) := by
        have : ng b = true := by simp [ng]; omega
        simp only [Hid, idx, ta, this, Bool.false_eq_true, if_true, if_false]; omega
      clear ta hb hm hr
      go_enter Try.func41, Try.ntmps41
      go_wp2_with fail
      refine (unhide Hc _).mono ?_
      rintro e w' ⟨rfl, rfl⟩
      go_wp2
      go_ret
      rw [unhide Hk]
      exact ⟨rfl, rfl⟩
    · have Hk : Hid ((idx b : Int) = 9218868437227405313 + b) := by
        have : ng b = false := by simp [ng]; omega
        simp only [Hid, idx, ta, this, Bool.false_eq_true, if_false]; omega
      obtain ⟨z, hz⟩ : ∃ z : Int, z = (b : Int) := ⟨_, rfl⟩
      clear hx
      have hx := fun w => run_bits b w
      rw [← hz] at hx Hk
      have h' : z < 9223372036854775808 := by omega
      have h'' : 0 ≤ z := by omega
      clear ta hb h hz
      go_enter Try.func41, Try.ntmps41
      go_wp2_with fail
      refine (unhide Hc _).mono ?_
      rintro e w' ⟨rfl, rfl⟩
      go_wp2
      go_ret
      rw [unhide Hk]
      exact ⟨rfl, rfl⟩
  · rw [ta] at e
    have Hk : Hid ((idx b : Int) = 18437736874454810627) := by simp [Hid, idx, ta]
    clear ta hb
    go_enter Try.func41, Try.ntmps41
    go_wp2_with fail
    refine (unhide Hc _).mono ?_
    rintro e w' ⟨rfl, rfl⟩
    go_wp2
    go_ret
    rw [unhide Hk]
    exact ⟨rfl, rfl⟩

set_option maxRecDepth 100000 in
set_option maxHeartbeats 1000000 in
theorem refSame_any (a b : Nat) (ha : a < 18446744073709551616) (hb : b < 18446744073709551616) (w : World) :
    Calls Try.prog 26 #[.float .f64 a, .float .f64 b] w fun e w' => e = .returned (.bool ((idx a : Int) == (idx b : Int))) ∧ w' = w := by
  have Ha := hide (index_any a ha)
  have Hb := hide (index_any b hb)
  clear ha hb
  go_enter Try.func26, Try.ntmps26
  go_wp2_with fail
  refine (unhide Ha _).mono ?_
  rintro e w' ⟨rfl, rfl⟩
  go_wp2_with fail
  refine (unhide Hb _).mono ?_
  rintro e w' ⟨rfl, rfl⟩
  go_wp2
  go_ret
  exact ⟨rfl, rfl⟩

set_option maxRecDepth 100000 in
set_option maxHeartbeats 1000000 in
theorem refOrder_any (a b : Nat) (ha : a < 18446744073709551616) (hb : b < 18446744073709551616) (w : World) :
    Calls Try.prog 28 #[.float .f64 a, .float .f64 b] w fun e w' => e = .returned (.int .i64 (cmpOf (idx a) (idx b))) ∧ w' = w := by
  have Ha := hide (index_any a ha)
  have Hb := hide (index_any b hb)
  clear ha hb
  by_cases h1 : (idx a : Int) < idx b
  · have Hk : Hid (cmpOf (idx a) (idx b) = -1) := by simp only [Hid, cmpOf]; rw [if_pos h1]
    go_enter Try.func28, Try.ntmps28
    go_wp2_with fail
    refine (unhide Ha _).mono ?_
    rintro e w' ⟨rfl, rfl⟩
    go_wp2_with fail
    refine (unhide Hb _).mono ?_
    rintro e w' ⟨rfl, rfl⟩
    go_wp2
    go_ret
    rw [unhide Hk]
    exact ⟨rfl, rfl⟩
  · by_cases h2 : (idx b : Int) < idx a
    · have Hk : Hid (cmpOf (idx a) (idx b) = 1) := by simp only [Hid, cmpOf]; rw [if_neg h1, if_pos h2]
      go_enter Try.func28, Try.ntmps28
      go_wp2_with fail
      refine (unhide Ha _).mono ?_
      rintro e w' ⟨rfl, rfl⟩
      go_wp2_with fail
      refine (unhide Hb _).mono ?_
      rintro e w' ⟨rfl, rfl⟩
      go_wp2
      go_ret
      rw [unhide Hk]
      exact ⟨rfl, rfl⟩
    · have Hk : Hid (cmpOf (idx a) (idx b) = 0) := by simp only [Hid, cmpOf]; rw [if_neg h1, if_neg h2]
      go_enter Try.func28, Try.ntmps28
      go_wp2_with fail
      refine (unhide Ha _).mono ?_
      rintro e w' ⟨rfl, rfl⟩
      go_wp2_with fail
      refine (unhide Hb _).mono ?_
      rintro e w' ⟨rfl, rfl⟩
      go_wp2
      go_ret
      rw [unhide Hk]
      exact ⟨rfl, rfl⟩

theorem idx_lt (b : Nat) (_hb : b < 18446744073709551616) : idx b < 18446744073709551616 := by
  unfold idx
  split
  · omega
  · split
    · omega
    · rename_i h; simp [ng] at h; omega

set_option maxRecDepth 100000 in
set_option maxHeartbeats 1000000 in
theorem docUlps_nan (a b : Nat) (ha : a < 18446744073709551616) (hb : b < 18446744073709551616) (h : (isnan a || isnan b) = true) (w : World) :
    Calls Try.prog 24 #[.float .f64 a, .float .f64 b] w fun e w' => e = .returned (.tuple #[.int .u64 0, .int .i64 5]) ∧ w' = w := by
  have Ha := hide (class_any a)
  have Hb := hide (class_any b)
  have ea := isnan_cls a ha
  have eb := isnan_cls b hb
  cases ta : isnan a
  · have tb : isnan b = true := by rw [ta] at h; simpa using h
    rw [ta] at ea
    rw [tb] at eb
    clear ha hb ta tb h
    go_enter Try.func24, Try.ntmps24
    go_wp2_with fail
    refine (unhide Ha _).mono ?_
    rintro e w' ⟨rfl, rfl⟩
    go_wp2_with fail
    refine (unhide Hb _).mono ?_
    rintro e w' ⟨rfl, rfl⟩
    go_wp2
    go_ret2
    exact ⟨rfl, rfl⟩
  · rw [ta] at ea
    clear ha hb ta h eb
    go_enter Try.func24, Try.ntmps24
    go_wp2_with fail
    refine (unhide Ha _).mono ?_
    rintro e w' ⟨rfl, rfl⟩
    go_wp2
    go_ret2
    exact ⟨rfl, rfl⟩

set_option maxRecDepth 100000 in
set_option maxHeartbeats 1000000 in
theorem docUlps_num (a b : Nat) (ha : a < 18446744073709551616) (hb : b < 18446744073709551616) (ta : isnan a = false) (tb : isnan b = false) (w : World) :
    Calls Try.prog 24 #[.float .f64 a, .float .f64 b] w fun e w' => e = .returned (.tuple #[.int .u64 (dist (idx a) (idx b)), .int .i64 0]) ∧ w' = w := by
  have Ha := hide (class_any a)
  have Hb := hide (class_any b)
  have Ra := hide (index_any a ha)
  have Rb := hide (index_any b hb)
  have la := idx_lt a ha
  have lb := idx_lt b hb
  have ea := isnan_cls a ha
  have eb := isnan_cls b hb
  rw [ta] at ea
  rw [tb] at eb
  clear ha hb ta tb
  rcases Nat.lt_trichotomy (idx a) (idx b) with hlt | heq | hgt
  · have Hk : Hid (dist (idx a) (idx b) = (idx b : Int) - idx a) := by simp only [Hid, dist]; rw [if_pos (by omega)]
    go_enter Try.func24, Try.ntmps24
    go_wp2_with fail
    refine (unhide Ha _).mono ?_
    rintro e w' ⟨rfl, rfl⟩
    go_wp2_with fail
    refine (unhide Hb _).mono ?_
    rintro e w' ⟨rfl, rfl⟩
    go_wp2_with fail
    refine (unhide Ra _).mono ?_
    rintro e w' ⟨rfl, rfl⟩
    go_wp2_with fail
    refine (unhide Rb _).mono ?_
    rintro e w' ⟨rfl, rfl⟩
    go_wp2
    go_ret2
    rw [unhide Hk]
    exact ⟨rfl, rfl⟩
  · have Hk : Hid (dist (idx a) (idx b) = 0) := by simp only [Hid, dist, heq]; rw [if_pos (by omega)]; omega
    have hn : ¬ idx a < idx b := by omega
    have hn' : ¬ idx b < idx a := by omega
    have He := hide heq
    clear heq
    go_enter Try.func24, Try.ntmps24
    go_wp2_with fail
    refine (unhide Ha _).mono ?_
    rintro e w' ⟨rfl, rfl⟩
    go_wp2_with fail
    refine (unhide Hb _).mono ?_
    rintro e w' ⟨rfl, rfl⟩
    go_wp2_with fail
    refine (unhide Ra _).mono ?_
    rintro e w' ⟨rfl, rfl⟩
    go_wp2_with fail
    refine (unhide Rb _).mono ?_
    rintro e w' ⟨rfl, rfl⟩
    go_wp2
    go_ret2
    rw [unhide Hk]
    exact ⟨rfl, rfl⟩
  · have Hk : Hid (dist (idx a) (idx b) = (idx a : Int) - idx b) := by simp only [Hid, dist]; rw [if_neg (by omega)]
    go_enter Try.func24, Try.ntmps24
    go_wp2_with fail
    refine (unhide Ha _).mono ?_
    rintro e w' ⟨rfl, rfl⟩
    go_wp2_with fail
    refine (unhide Hb _).mono ?_
    rintro e w' ⟨rfl, rfl⟩
    go_wp2_with fail
    refine (unhide Ra _).mono ?_
    rintro e w' ⟨rfl, rfl⟩
    go_wp2_with fail
    refine (unhide Rb _).mono ?_
    rintro e w' ⟨rfl, rfl⟩
    go_wp2
    go_ret2
    rw [unhide Hk]
    exact ⟨rfl, rfl⟩

theorem quo_sign (b : Nat) (hb : b < 18446744073709551616) : (IntKind.u64.wrap (IntKind.u64.wrap ((b : Int) / 9223372036854775808) * 9223372036854775808)).toNat = nought b := by
  rw [IntKind.wrap_u64, IntKind.wrap_u64]
  unfold nought ng
  by_cases h : 9223372036854775808 ≤ b
  · simp only [h, decide_true, if_true]; omega
  · simp only [h, decide_false, Bool.false_eq_true, if_false]; omega

set_option maxRecDepth 100000 in
set_option maxHeartbeats 1000000 in
theorem refFlush_any (b : Nat) (hb : b < 18446744073709551616) (w : World) :
    Calls Try.prog 22 #[.float .f64 b] w fun e w' => e = .returned (.float .f64 (flushed b)) ∧ w' = w := by
  have hx := run_bits
  have hy := run_frombits
  have Hc := hide (class_any b)
  have Hq := hide (quo_sign b hb)
  cases h1 : (cls b == 1)
  · have Hk : Hid (flushed b = b) := by simp at h1; simp [Hid, flushed, h1]
    clear hb
    go_enter Try.func22, Try.ntmps22
    go_wp2_with fail
    refine (unhide Hc _).mono ?_
    rintro e w' ⟨rfl, rfl⟩
    go_wp2
    go_ret
    rw [unhide Hk]
    exact ⟨rfl, rfl⟩
  · have Hk : Hid (flushed b = nought b) := by simp at h1; simp [Hid, flushed, h1]
    clear hb
    go_enter Try.func22, Try.ntmps22
    go_wp2_with fail
    refine (unhide Hc _).mono ?_
    rintro e w' ⟨rfl, rfl⟩
    go_wp2
    go_ret
    rw [unhide Hk, ← unhide Hq]
    exact ⟨rfl, rfl⟩

end Go.Proofs.Ytdifckiemmldoaa
