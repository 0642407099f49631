/- What Same and Ulps answer, for every two floats by their bits. -/
import Derived.Test.YtdifckiemmldoaaOrd
import Derived.Test.YtdifckiemmldoaaFlushA
import Derived.Test.YtdifckiemmldoaaAwake
namespace Go.Proofs.Ytdifckiemmldoaa
open Go.RowKit

theorem isnan_cls (b : Nat) (_hb : b < 18446744073709551616) : (cls b == 4) = isnan b := by
  have e := rg_eq b
  have h1 := pw_le b
  have h2 := fr_lt b
  unfold isnan cls
  by_cases c1 : pw b = 0 ∧ fr b = 0
  · rw [if_pos c1]
    have : ¬ 9218868437227405312 < rg b := by omega
    simp [this]
  · rw [if_neg c1]
    by_cases c2 : pw b = 0
    · rw [if_pos c2]
      have : ¬ 9218868437227405312 < rg b := by omega
      simp [this]
    · rw [if_neg c2]
      by_cases c3 : pw b < 2047
      · rw [if_pos c3]
        have : ¬ 9218868437227405312 < rg b := by omega
        simp [this]
      · rw [if_neg c3]
        by_cases c4 : fr b = 0
        · rw [if_pos c4]
          have : ¬ 9218868437227405312 < rg b := by omega
          simp [this]
        · rw [if_neg c4]
          have : 9218868437227405312 < rg b := by omega
          simp [this]

theorem order_self (b : Nat) (hb : b < 18446744073709551616) : (FloatKind.f64.format.order b b != some .eq) = isnan b := by
  have h := order_eq b b hb hb
  rw [show (FloatKind.f64.format.order b b != some .eq) = !(FloatKind.f64.format.order b b == some .eq) from rfl, h]
  cases isnan b <;> simp

/-- Same, by the bits. -/
def sameOf (a b : Nat) : Bool := if isnan a || isnan b then isnan a && isnan b else a == b

theorem cls_ne (a b : Nat) (ha : a < 18446744073709551616) (hb : b < 18446744073709551616) (h : isnan a = true) : (cls a == cls b) = isnan b := by
  have e1 := isnan_cls a ha
  have e2 := isnan_cls b hb
  rw [h] at e1
  have : cls a = 4 := by simpa using e1
  rw [this, ← e2]
  exact Bool.eq_iff_iff.2 (by simp only [beq_iff_eq]; omega)

set_option maxRecDepth 100000 in
set_option maxHeartbeats 1000000 in
theorem same_any (a b : Nat) (ha : a < 18446744073709551616) (hb : b < 18446744073709551616) (w : World) :
    Calls Try.prog 25 #[.float .f64 a, .float .f64 b] w fun e w' => e = .returned (.bool (sameOf a b)) ∧ w' = w := by
  have Ha := hide (of_any a ha)
  have Hb := hide (of_any b hb)
  have hx := run_bits
  have ea := isnan_cls a ha
  have eb := isnan_cls b hb
  cases ta : isnan a
  · cases tb : isnan b
    · rw [ta] at ea
      rw [tb] at eb
      have Hk : Hid (sameOf a b = ((a : Int) == (b : Int))) := by
        simp only [Hid, sameOf, ta, tb, Bool.or_self, Bool.false_eq_true, if_false]
        exact Bool.eq_iff_iff.2 (by simp only [beq_iff_eq]; omega)
      clear ha hb ta tb
      go_enter Try.func25, Try.ntmps25
      go_wp2_with fail
      refine (unhide Ha _).mono ?_
      rintro e w' ⟨rfl, rfl⟩
      go_wp2_with fail
      refine (unhide Hb _).mono ?_
      rintro e w' ⟨rfl, rfl⟩
      go_wp2
      go_ret
      rw [unhide Hk]
      exact ⟨rfl, rfl⟩
    · rw [ta] at ea
      rw [tb] at eb
      have Hk : Hid (sameOf a b = (cls a == cls b)) := by
        have : (cls a == cls b) = false := by
          have q : cls b = 4 := by simpa using eb
          rw [q, ea]
        simp only [Hid, sameOf, ta, tb, Bool.or_true, if_true, this, Bool.and_true]
      clear ha hb ta tb
      go_enter Try.func25, Try.ntmps25
      go_wp2_with fail
      refine (unhide Ha _).mono ?_
      rintro e w' ⟨rfl, rfl⟩
      go_wp2_with fail
      refine (unhide Hb _).mono ?_
      rintro e w' ⟨rfl, rfl⟩
      go_wp2_with fail
      refine (unhide Ha _).mono ?_
      rintro e w' ⟨rfl, rfl⟩
      go_wp2_with fail
      refine (unhide Hb _).mono ?_
      rintro e w' ⟨rfl, rfl⟩
      go_wp2
      go_ret
      rw [unhide Hk]
      exact ⟨rfl, rfl⟩
  · have Hk : Hid (sameOf a b = (cls a == cls b)) := by
      simp only [Hid, sameOf, ta, Bool.true_or, if_true, Bool.true_and, cls_ne a b ha hb ta]
    rw [ta] at ea
    clear ha hb ta eb
    go_enter Try.func25, Try.ntmps25
    go_wp2_with fail
    refine (unhide Ha _).mono ?_
    rintro e w' ⟨rfl, rfl⟩
    go_wp2_with fail
    refine (unhide Ha _).mono ?_
    rintro e w' ⟨rfl, rfl⟩
    go_wp2_with fail
    refine (unhide Hb _).mono ?_
    rintro e w' ⟨rfl, rfl⟩
    go_wp2
    go_ret
    rw [unhide Hk]
    exact ⟨rfl, rfl⟩

/-- How many steps lie between. -/
def dist (x y : Int) : Int := if x ≤ y then y - x else x - y

theorem rank_lt (b : Nat) (hb : b < 18446744073709551616) : rank b < 18446744073709551616 := by
  unfold rank
  split
  · omega
  · split
    · omega
    · rename_i h; simp [ng] at h; omega

set_option maxRecDepth 100000 in
set_option maxHeartbeats 1000000 in
theorem ulps_nan (a b : Nat) (ha : a < 18446744073709551616) (hb : b < 18446744073709551616) (h : (isnan a || isnan b) = true) (w : World) :
    Calls Try.prog 23 #[.float .f64 a, .float .f64 b] w fun e w' => e = .returned (.tuple #[.int .u64 0, .int .i64 5]) ∧ w' = w := by
  have Ha := hide (of_any a ha)
  have Hb := hide (of_any b hb)
  have ea := isnan_cls a ha
  have eb := isnan_cls b hb
  cases ta : isnan a
  · have tb : isnan b = true := by rw [ta] at h; simpa using h
    rw [ta] at ea
    rw [tb] at eb
    clear ha hb ta tb h
    go_enter Try.func23, Try.ntmps23
    go_wp2_with fail
    refine (unhide Ha _).mono ?_
    rintro e w' ⟨rfl, rfl⟩
    go_wp2_with fail
    refine (unhide Hb _).mono ?_
    rintro e w' ⟨rfl, rfl⟩
    go_wp2
    go_ret2
    exact ⟨rfl, rfl⟩
  · rw [ta] at ea
    clear ha hb ta h eb
    go_enter Try.func23, Try.ntmps23
    go_wp2_with fail
    refine (unhide Ha _).mono ?_
    rintro e w' ⟨rfl, rfl⟩
    go_wp2
    go_ret2
    exact ⟨rfl, rfl⟩

set_option maxRecDepth 100000 in
set_option maxHeartbeats 1000000 in
theorem ulps_num (a b : Nat) (ha : a < 18446744073709551616) (hb : b < 18446744073709551616) (ta : isnan a = false) (tb : isnan b = false) (w : World) :
    Calls Try.prog 23 #[.float .f64 a, .float .f64 b] w fun e w' => e = .returned (.tuple #[.int .u64 (dist (rank a) (rank b)), .int .i64 0]) ∧ w' = w := by
  have Ha := hide (of_any a ha)
  have Hb := hide (of_any b hb)
  have Ra := hide (rank_any a ha)
  have Rb := hide (rank_any b hb)
  have la := rank_lt a ha
  have lb := rank_lt b hb
  have ea := isnan_cls a ha
  have eb := isnan_cls b hb
  rw [ta] at ea
  rw [tb] at eb
  clear ha hb ta tb
  rcases Nat.lt_trichotomy (rank a) (rank b) with hlt | heq | hgt
  · have Hk : Hid (dist (rank a) (rank b) = (rank b : Int) - rank a) := by simp only [Hid, dist]; rw [if_pos (by omega)]
    go_enter Try.func23, Try.ntmps23
    go_wp2_with fail
    refine (unhide Ha _).mono ?_
    rintro e w' ⟨rfl, rfl⟩
    go_wp2_with fail
    refine (unhide Hb _).mono ?_
    rintro e w' ⟨rfl, rfl⟩
    go_wp2_with fail
    refine (unhide Ra _).mono ?_
    rintro e w' ⟨rfl, rfl⟩
    go_wp2_with fail
    refine (unhide Rb _).mono ?_
    rintro e w' ⟨rfl, rfl⟩
    go_wp2
    go_ret2
    rw [unhide Hk]
    exact ⟨rfl, rfl⟩
  · have Hk : Hid (dist (rank a) (rank b) = 0) := by simp only [Hid, dist, heq]; rw [if_pos (by omega)]; omega
    have hn : ¬ rank a < rank b := by omega
    have hn' : ¬ rank b < rank a := by omega
    have He := hide heq
    clear heq
    go_enter Try.func23, Try.ntmps23
    go_wp2_with fail
    refine (unhide Ha _).mono ?_
    rintro e w' ⟨rfl, rfl⟩
    go_wp2_with fail
    refine (unhide Hb _).mono ?_
    rintro e w' ⟨rfl, rfl⟩
    go_wp2_with fail
    refine (unhide Ra _).mono ?_
    rintro e w' ⟨rfl, rfl⟩
    go_wp2_with fail
    refine (unhide Rb _).mono ?_
    rintro e w' ⟨rfl, rfl⟩
    go_wp2
    go_ret2
    rw [unhide Hk]
    exact ⟨rfl, rfl⟩
  · have Hk : Hid (dist (rank a) (rank b) = (rank a : Int) - rank b) := by simp only [Hid, dist]; rw [if_neg (by omega)]
    go_enter Try.func23, Try.ntmps23
    go_wp2_with fail
    refine (unhide Ha _).mono ?_
    rintro e w' ⟨rfl, rfl⟩
    go_wp2_with fail
    refine (unhide Hb _).mono ?_
    rintro e w' ⟨rfl, rfl⟩
    go_wp2_with fail
    refine (unhide Ra _).mono ?_
    rintro e w' ⟨rfl, rfl⟩
    go_wp2_with fail
    refine (unhide Rb _).mono ?_
    rintro e w' ⟨rfl, rfl⟩
    go_wp2
    go_ret2
    rw [unhide Hk]
    exact ⟨rfl, rfl⟩

end Go.Proofs.Ytdifckiemmldoaa
