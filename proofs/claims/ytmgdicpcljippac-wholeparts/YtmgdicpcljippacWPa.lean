/- What package cplx's Mul, Turn, Conj and Same answer of all float64s, NaNs too (they are all one), and what the statement's own comparisons do. -/
import Derived.Test.YtmgdicpcljippacCX
import Derived.Test.YtmgdicpcljippacLf
namespace Go.Proofs.Ytmgdicpcljippac
open Go.RowKit

/-- Nothing but draws between two worlds. -/
def Still (w w' : World) : Prop := ∀ B, Below B w w'
theorem Still.refl (w : World) : Still w w := fun B => Below.refl B w
theorem Still.trans {a b c : World} (h : Still a b) (k : Still b c) : Still a c := fun B => (h B).trans (k B)
theorem still_drew (w : World) : Still w w.drew := fun B => (Below.refl B w).drew

theorem cut_nan (x y t : Nat) : isnan ((Question.nanBits .f64 x y).cut t) = true ∧ (Question.nanBits .f64 x y).cut t < 18446744073709551616 := by
  have e : (Question.nanBits .f64 x y).cut t = (t % 2) * 2 ^ 63 + 0x7ff0000000000000 + 1 + (t / 2) % (2 ^ 52 - 1) := rfl
  rw [e]
  have h := Nat.mod_lt (t / 2) (show 0 < 2 ^ 52 - 1 by decide)
  generalize (t / 2) % (2 ^ 52 - 1) = q at *
  unfold isnan rg
  constructor
  · rw [decide_eq_true_eq]; omega
  · omega

/-- A sum, difference or product: what it is does not hang on which NaN was met. -/
theorem op_any (op : BinOp) (hop : op = .add ∨ op = .sub ∨ op = .mul) (x y : Nat) (hx : x < 18446744073709551616) (hy : y < 18446744073709551616) (w : World) :
    ∃ r w', (binOp op 24 (.float .f64 x) (.float .f64 y)).run Try.prog w = .ok (.float .f64 r) w' ∧ r < 18446744073709551616 ∧ lf r = fop op (lf x) (lf y) ∧ Still w w' := by
  rw [← fop_bits op hop x y hx hy]
  cases h : floatBits op .f64 x y with
  | some r =>
    refine ⟨r, w, run_float_arith w op _ .f64 x y r h, bound_f r (floatBits_wf h), ?_, Still.refl w⟩
    unfold lf
    rw [bits_kind op hop x y r h]; rfl
  | none =>
    have hc := cut_nan x y (w.tape w.drawn (.nanBits .f64 x y))
    refine ⟨(Question.nanBits .f64 x y).cut (w.tape w.drawn (.nanBits .f64 x y)), w.drew, ?_, hc.2, ?_, still_drew w⟩
    · rcases hop with rfl | rfl | rfl
      · have h' : FloatKind.f64.format.add x y = none := h
        simp [binOp, Op.floatArith, h', Question.forced]
      · have h' : FloatKind.f64.format.sub x y = none := h
        simp [binOp, Op.floatArith, h', Question.forced]
      · have h' : FloatKind.f64.format.mul x y = none := h
        simp [binOp, Op.floatArith, h', Question.forced]
    · unfold lf
      rw [hc.1]; rfl

/-- The parts of a product. -/
def mulRe (a b c d : Nat) : Option Nat := fop .sub (fop .mul (lf a) (lf c)) (fop .mul (lf b) (lf d))
def mulIm (a b c d : Nat) : Option Nat := fop .add (fop .mul (lf a) (lf d)) (fop .mul (lf b) (lf c))

theorem mul_lf (a b c d : Nat) (ha : a < 18446744073709551616) (hb : b < 18446744073709551616) (hc : c < 18446744073709551616) (hd : d < 18446744073709551616) (w : World) :
    Calls Try.prog 7 #[.complex .f64 a b, .complex .f64 c d] w fun e w' => ∃ re im, e = .returned (.complex .f64 re im) ∧ re < 18446744073709551616 ∧ im < 18446744073709551616 ∧ lf re = mulRe a b c d ∧ lf im = mulIm a b c d ∧ Still w w' := by
  obtain ⟨p, w1, k1, b1, l1, s1⟩ := op_any .mul (by simp) a c ha hc w
  obtain ⟨q, w2, k2, b2, l2, s2⟩ := op_any .mul (by simp) b d hb hd w1
  obtain ⟨re, w3, k3, b3, l3, s3⟩ := op_any .sub (by simp) p q b1 b2 w2
  obtain ⟨r, w4, k4, b4, l4, s4⟩ := op_any .mul (by simp) a d ha hd w3
  obtain ⟨s, w5, k5, b5, l5, s5⟩ := op_any .mul (by simp) b c hb hc w4
  obtain ⟨im, w6, k6, b6, l6, s6⟩ := op_any .add (by simp) r s b4 b5 w5
  refine (mul_walk a b c d p q r s re im w w1 w2 w3 w4 w5 w6 k1 k2 k3 k4 k5 k6).mono ?_
  rintro e w' ⟨rfl, rfl⟩
  refine ⟨re, im, rfl, b3, b6, ?_, ?_, (((((s1.trans s2).trans s3).trans s4).trans s5).trans s6)⟩
  · rw [l3, l1, l2]; rfl
  · rw [l6, l4, l5]; rfl

set_option maxRecDepth 100000 in
set_option maxHeartbeats 1000000 in
theorem turn_walk (a b : Nat) (w : World) : Calls Try.prog 11 #[.complex .f64 a b] w fun e w' => e = .returned (.complex .f64 (Op.negFloat .f64 b) a) ∧ w' = w := by
  have hn : ∀ b w, (Op.unary .neg (.float .f64 b)).run Try.prog w = .ok (.float .f64 (Op.negFloat .f64 b)) w := fun _ _ => rfl
  go_enter Try.func11, Try.ntmps11
  go_wp2
  go_ret
  exact ⟨rfl, rfl⟩
set_option maxRecDepth 100000 in
set_option maxHeartbeats 1000000 in
theorem conj_walk (a b : Nat) (w : World) : Calls Try.prog 12 #[.complex .f64 a b] w fun e w' => e = .returned (.complex .f64 a (Op.negFloat .f64 b)) ∧ w' = w := by
  have hn : ∀ b w, (Op.unary .neg (.float .f64 b)).run Try.prog w = .ok (.float .f64 (Op.negFloat .f64 b)) w := fun _ _ => rfl
  go_enter Try.func12, Try.ntmps12
  go_wp2
  go_ret
  exact ⟨rfl, rfl⟩

theorem neq_self (b : Nat) (hb : b < 18446744073709551616) : (FloatKind.f64.format.order b b != some .eq) = isnan b := by
  have h := order_eq b b hb hb
  cases hn : isnan b
  · rw [hn] at h
    simp at h
    simp [h]
  · rw [hn] at h
    simp at h
    simp [h]

theorem nat_beq (x y : Nat) : (x == y) = ((x : Int) == (y : Int)) := by
  by_cases h : x = y
  · subst h; simp
  · rw [beq_eq_false_iff_ne.2 h, beq_eq_false_iff_ne.2 (by omega)]

theorem lf_eq (x y : Nat) : decide (lf x = lf y) = if isnan x then isnan y else (!isnan y && x == y) := by
  unfold lf
  cases isnan x <;> cases isnan y <;> simp
  by_cases h : x = y <;> simp [h]

set_option maxRecDepth 100000 in
set_option maxHeartbeats 1000000 in
theorem same_walk (x y : Nat) (hx : x < 18446744073709551616) (hy : y < 18446744073709551616) (w : World) : Calls Try.prog 33 #[.float .f64 x, .float .f64 y] w fun e w' => e = .returned (.bool (decide (lf x = lf y))) ∧ w' = w := by
  have hb := run_bits
  have hk := lf_eq x y
  have t1 := neq_self x hx
  have t2 := neq_self y hy
  cases h1 : isnan x
  · cases h2 : isnan y
    · rw [h1] at t1 hk
      rw [h2] at t2 hk
      have Hk : Hid (decide (lf x = lf y) = ((x : Int) == (y : Int))) := by
        rw [Hid, hk, ← nat_beq]; rfl
      clear hk h1 h2 hx hy
      go_enter Try.func33, Try.ntmps33
      go_wp2
      go_ret
      rw [unhide Hk]
      exact ⟨rfl, rfl⟩
    · rw [h1] at t1 hk
      rw [h2] at t2 hk
      have Hk : Hid (decide (lf x = lf y) = false) := by rw [Hid, hk]; rfl
      clear hk h1 h2 hx hy
      go_enter Try.func33, Try.ntmps33
      go_wp2
      go_ret
      rw [unhide Hk]
      exact ⟨rfl, rfl⟩
  · rw [h1] at t1 hk
    have Hk : Hid (decide (lf x = lf y) = isnan y) := by rw [Hid, hk]; rfl
    cases h2 : isnan y
    · rw [h2] at t2 Hk
      clear hk h1 h2 hx hy
      go_enter Try.func33, Try.ntmps33
      go_wp2
      go_ret
      rw [unhide Hk]
      exact ⟨rfl, rfl⟩
    · rw [h2] at t2 Hk
      clear hk h1 h2 hx hy
      go_enter Try.func33, Try.ntmps33
      go_wp2
      go_ret
      rw [unhide Hk]
      exact ⟨rfl, rfl⟩

set_option maxRecDepth 100000 in
set_option maxHeartbeats 1000000 in
theorem alike_walk (a b c d : Nat) (ha : a < 18446744073709551616) (hb : b < 18446744073709551616) (hc : c < 18446744073709551616) (hd : d < 18446744073709551616) (w : World) :
    Calls Try.prog 9 #[.complex .f64 a b, .complex .f64 c d] w fun e w' => e = .returned (.bool (decide (lf a = lf c) && decide (lf b = lf d))) ∧ w' = w := by
  have H1 := hide (same_walk a c ha hc)
  have H2 := hide (same_walk b d hb hd)
  clear ha hb hc hd
  cases h1 : decide (lf a = lf c)
  · rw [h1] at H1
    go_enter Try.func9, Try.ntmps9
    go_wp2_with fail
    refine (unhide H1 _).mono ?_
    rintro e w' ⟨rfl, rfl⟩
    go_wp2
    go_ret
    exact ⟨rfl, rfl⟩
  · rw [h1] at H1
    go_enter Try.func9, Try.ntmps9
    go_wp2_with fail
    refine (unhide H1 _).mono ?_
    rintro e w' ⟨rfl, rfl⟩
    go_wp2_with fail
    refine (unhide H2 _).mono ?_
    rintro e w' ⟨rfl, rfl⟩
    go_wp2
    go_ret
    exact ⟨rfl, rfl⟩

theorem alike_yes (a b c d : Nat) (ha : a < 18446744073709551616) (hb : b < 18446744073709551616) (hc : c < 18446744073709551616) (hd : d < 18446744073709551616) (h1 : lf a = lf c) (h2 : lf b = lf d) (w : World) :
    Calls Try.prog 9 #[.complex .f64 a b, .complex .f64 c d] w fun e w' => e = .returned (.bool true) ∧ w' = w := by
  have := alike_walk a b c d ha hb hc hd w
  rw [decide_eq_true h1, decide_eq_true h2] at this
  exact this

theorem nan_cls (b : Nat) : (cls b == 4) = isnan b := by
  have e := rg_eq b
  have h1 := fr_lt b
  have h2 := pw_le b
  unfold isnan cls
  by_cases h : 9218868437227405312 < rg b
  · rw [decide_eq_true h]
    have a2 : ¬ pw b = 0 := by omega
    have a3 : ¬ pw b < 2047 := by omega
    have a4 : ¬ fr b = 0 := by omega
    simp [a2, a3, a4]
  · rw [decide_eq_false h]
    split
    · rfl
    · split
      · rfl
      · split
        · rfl
        · have a4 : fr b = 0 := by omega
          simp [a4]

set_option maxRecDepth 100000 in
set_option maxHeartbeats 1000000 in
theorem psame_walk (x y : Nat) (hx : x < 18446744073709551616) (hy : y < 18446744073709551616) (w : World) : Calls Try.prog 34 #[.float .f64 x, .float .f64 y] w fun e w' => e = .returned (.bool (decide (lf x = lf y))) ∧ w' = w := by
  have hb := run_bits
  have hk := lf_eq x y
  have Hx := hide (of_any x hx)
  have Hy := hide (of_any y hy)
  have t1 := nan_cls x
  have t2 := nan_cls y
  clear hx hy
  cases h1 : isnan x
  · cases h2 : isnan y
    · rw [h1] at t1 hk
      rw [h2] at t2 hk
      have Hk : Hid (decide (lf x = lf y) = ((x : Int) == (y : Int))) := by
        rw [Hid, hk, ← nat_beq]; rfl
      clear hk h1 h2
      go_enter Try.func34, Try.ntmps34
      go_wp2_with fail
      refine (unhide Hx _).mono ?_
      rintro e w' ⟨rfl, rfl⟩
      go_wp2_with fail
      refine (unhide Hy _).mono ?_
      rintro e w' ⟨rfl, rfl⟩
      go_wp2
      go_ret
      rw [unhide Hk]
      exact ⟨rfl, rfl⟩
    · rw [h1] at t1 hk
      rw [h2] at t2 hk
      have t3 : (cls x == cls y) = false := by
        have e : cls y = 4 := by simpa using t2
        rw [e]; exact t1
      have Hk : Hid (decide (lf x = lf y) = false) := by rw [Hid, hk]; rfl
      clear hk h1 h2
      go_enter Try.func34, Try.ntmps34
      go_wp2_with fail
      refine (unhide Hx _).mono ?_
      rintro e w' ⟨rfl, rfl⟩
      go_wp2_with fail
      refine (unhide Hy _).mono ?_
      rintro e w' ⟨rfl, rfl⟩
      go_wp2_with fail
      refine (unhide Hx _).mono ?_
      rintro e w' ⟨rfl, rfl⟩
      go_wp2_with fail
      refine (unhide Hy _).mono ?_
      rintro e w' ⟨rfl, rfl⟩
      go_wp2
      go_ret
      rw [unhide Hk]
      exact ⟨rfl, rfl⟩
  · rw [h1] at t1 hk
    have t3 : (cls x == cls y) = isnan y := by
      have e : cls x = 4 := by simpa using t1
      rw [e, ← t2]
      by_cases h : cls y = 4
      · rw [h]
      · rw [beq_eq_false_iff_ne.2 h, beq_eq_false_iff_ne.2 (fun e => h e.symm)]
    have Hk : Hid (decide (lf x = lf y) = (cls x == cls y)) := by rw [Hid, hk, t3]; rfl
    clear hk h1 t2 t3
    go_enter Try.func34, Try.ntmps34
    go_wp2_with fail
    refine (unhide Hx _).mono ?_
    rintro e w' ⟨rfl, rfl⟩
    go_wp2_with fail
    refine (unhide Hx _).mono ?_
    rintro e w' ⟨rfl, rfl⟩
    go_wp2_with fail
    refine (unhide Hy _).mono ?_
    rintro e w' ⟨rfl, rfl⟩
    go_wp2
    go_ret
    rw [unhide Hk]
    exact ⟨rfl, rfl⟩

set_option maxRecDepth 100000 in
set_option maxHeartbeats 1000000 in
theorem csame_walk (a b c d : Nat) (ha : a < 18446744073709551616) (hb : b < 18446744073709551616) (hc : c < 18446744073709551616) (hd : d < 18446744073709551616) (w : World) :
    Calls Try.prog 10 #[.complex .f64 a b, .complex .f64 c d] w fun e w' => e = .returned (.bool (decide (lf a = lf c) && decide (lf b = lf d))) ∧ w' = w := by
  have H1 := hide (psame_walk a c ha hc)
  have H2 := hide (psame_walk b d hb hd)
  clear ha hb hc hd
  cases h1 : decide (lf a = lf c)
  · rw [h1] at H1
    go_enter Try.func10, Try.ntmps10
    go_wp2_with fail
    refine (unhide H1 _).mono ?_
    rintro e w' ⟨rfl, rfl⟩
    go_wp2
    go_ret
    exact ⟨rfl, rfl⟩
  · rw [h1] at H1
    go_enter Try.func10, Try.ntmps10
    go_wp2_with fail
    refine (unhide H1 _).mono ?_
    rintro e w' ⟨rfl, rfl⟩
    go_wp2_with fail
    refine (unhide H2 _).mono ?_
    rintro e w' ⟨rfl, rfl⟩
    go_wp2
    go_ret
    exact ⟨rfl, rfl⟩

/-- A number. -/
def fin (b : Nat) : Bool := decide (rg b < 9218868437227405312)

theorem inf_test (b : Nat) (_hb : b < 18446744073709551616) : (FloatKind.f64.format.order (b % 9223372036854775808) 9218868437227405311 == some .gt) = decide (rg b = 9218868437227405312) := by
  have hr : b % 9223372036854775808 < 18446744073709551616 := by omega
  have h := order_gt (b % 9223372036854775808) 9218868437227405311 hr (by decide)
  have e1 : rg (b % 9223372036854775808) = rg b := by unfold rg; omega
  have e2 : ng (b % 9223372036854775808) = false := by unfold ng; simp; omega
  rw [h]
  unfold isnan key
  rw [e1, e2, show rg 9218868437227405311 = 9218868437227405311 from rfl, show ng 9218868437227405311 = false from rfl]
  generalize rg b = r
  by_cases h1 : r = 9218868437227405312
  · subst h1; decide
  · by_cases h2 : 9218868437227405312 < r
    · simp [h1, h2]
    · have h3 : ¬ (9218868437227405311 : Int) < r := by omega
      simp [h1, h2, h3]

set_option maxRecDepth 100000 in
set_option maxHeartbeats 1000000 in
theorem plain_walk (b : Nat) (hb : b < 18446744073709551616) (w : World) : Calls Try.prog 35 #[.float .f64 b] w fun e w' => e = .returned (.bool (fin b)) ∧ w' = w := by
  have H1 := hide (isnan_walk b)
  have H2 := hide (isinf_any b hb)
  have t1 := neq_self b hb
  have t2 := inf_test b hb
  clear hb
  cases h1 : isnan b
  · rw [h1] at t1
    rw [t1] at H1
    rw [t2] at H2
    have Hk : Hid (fin b = !decide (rg b = 9218868437227405312)) := by
      unfold isnan at h1
      simp at h1
      unfold Hid fin
      by_cases h : rg b = 9218868437227405312
      · simp [h]
      · have : rg b < 9218868437227405312 := by omega
        simp [h, this]
    clear t1 t2 h1
    go_enter Try.func35, Try.ntmps35
    go_wp2_with fail
    refine (unhide H1 _).mono ?_
    rintro e w' ⟨rfl, rfl⟩
    go_wp2_with fail
    refine (unhide H2 _).mono ?_
    rintro e w' ⟨rfl, rfl⟩
    go_wp2
    go_ret
    rw [unhide Hk]
    exact ⟨rfl, rfl⟩
  · rw [h1] at t1
    rw [t1] at H1
    have Hk : Hid (fin b = false) := by
      unfold isnan at h1
      simp at h1
      unfold Hid fin
      simp; omega
    clear t1 t2 h1
    go_enter Try.func35, Try.ntmps35
    go_wp2_with fail
    refine (unhide H1 _).mono ?_
    rintro e w' ⟨rfl, rfl⟩
    go_wp2
    go_ret
    rw [unhide Hk]
    exact ⟨rfl, rfl⟩

set_option maxRecDepth 100000 in
set_option maxHeartbeats 1000000 in
theorem finite_walk (a b : Nat) (ha : a < 18446744073709551616) (hb : b < 18446744073709551616) (w : World) : Calls Try.prog 14 #[.complex .f64 a b] w fun e w' => e = .returned (.bool (fin a && fin b)) ∧ w' = w := by
  have H1 := hide (plain_walk a ha)
  have H2 := hide (plain_walk b hb)
  clear ha hb
  cases h1 : fin a
  · rw [h1] at H1
    go_enter Try.func14, Try.ntmps14
    go_wp2_with fail
    refine (unhide H1 _).mono ?_
    rintro e w' ⟨rfl, rfl⟩
    go_wp2
    go_ret
    exact ⟨rfl, rfl⟩
  · rw [h1] at H1
    go_enter Try.func14, Try.ntmps14
    go_wp2_with fail
    refine (unhide H1 _).mono ?_
    rintro e w' ⟨rfl, rfl⟩
    go_wp2_with fail
    refine (unhide H2 _).mono ?_
    rintro e w' ⟨rfl, rfl⟩
    go_wp2
    go_ret
    exact ⟨rfl, rfl⟩

end Go.Proofs.Ytmgdicpcljippac
