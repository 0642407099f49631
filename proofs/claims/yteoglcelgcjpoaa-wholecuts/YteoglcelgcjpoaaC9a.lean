/- What package cplx's Mul, Of and Finite and package part's Of answer, by the bits of the parts; sums, differences and products of all float64s, NaNs as one; the statement's own comparison. -/
import Derived.Test.YteoglcelgcjpoaaRows
import Derived.Test.YteoglcelgcjpoaaNum
import Derived.Test.YteoglcelgcjpoaaFloE
import Derived.Test.YteoglcelgcjpoaaLf
import Derived.Laws.Externs
import Derived.Laws.ComplexArith
import Derived.WalkKit
namespace Go.Proofs.Yteoglcelgcjpoaa
open Go.RowKit

theorem run_bits (b : Nat) (w : World) : (callFunc 33 #[.float .f64 b]).run Try.prog w = .ok (.value (.int .u64 b)) w := by
  rw [run_callFunc_extern Try.func33 (by kernel_rfl) (by kernel_rfl) (by kernel_rfl) (e := Extern.MathFloatBits.float64bits) (by kernel_rfl)]
  rfl
theorem run_frombits (n : Int) (w : World) : (callFunc 28 #[.int .u64 n]).run Try.prog w = .ok (.value (.float .f64 n.toNat)) w := by
  rw [run_callFunc_extern Try.func28 (by kernel_rfl) (by kernel_rfl) (by kernel_rfl) (e := Extern.MathFloatBits.float64frombits) (by kernel_rfl)]
  rfl
theorem run_same (b : Nat) (w : World) : (convert 31 31 (.float .f64 b)).run Try.prog w = .ok (.float .f64 b) w :=
  run_convert_float_float w _ _ .f64 .f64 b b (by rw [Try.underlying31]; rfl) Try.underlying31 rfl
set_option maxRecDepth 100000 in
set_option maxHeartbeats 1000000 in
theorem mul_walk (a b c d p q r s re im : Nat) (w0 w1 w2 w3 w4 w5 w6 : World)
    (k1 : (binOp .mul 31 (.float .f64 a) (.float .f64 c)).run Try.prog w0 = .ok (.float .f64 p) w1)
    (k2 : (binOp .mul 31 (.float .f64 b) (.float .f64 d)).run Try.prog w1 = .ok (.float .f64 q) w2)
    (k3 : (binOp .sub 31 (.float .f64 p) (.float .f64 q)).run Try.prog w2 = .ok (.float .f64 re) w3)
    (k4 : (binOp .mul 31 (.float .f64 a) (.float .f64 d)).run Try.prog w3 = .ok (.float .f64 r) w4)
    (k5 : (binOp .mul 31 (.float .f64 b) (.float .f64 c)).run Try.prog w4 = .ok (.float .f64 s) w5)
    (k6 : (binOp .add 31 (.float .f64 r) (.float .f64 s)).run Try.prog w5 = .ok (.float .f64 im) w6) :
    Calls Try.prog 22 #[.complex .f64 a b, .complex .f64 c d] w0 fun e w' => e = .returned (.complex .f64 re im) ∧ w' = w6 := by
  have hs := run_same
  go_enter Try.func22, Try.ntmps22
  go_wp2
  go_ret
  exact ⟨rfl, rfl⟩
set_option maxHeartbeats 400000 in
theorem take_any (b : Nat) (hb : b < 18446744073709551616) (w : World) :
    Calls Try.prog 36 #[.float .f64 b] w fun e w' => e = .returned (.tuple #[.bool (ng b), .int .i64 (pw b), .int .u64 (fr b)]) ∧ w' = w := by
  have h1 := and_sign_ne b hb
  have h2 := and_power b hb
  have h3 := and_fraction b hb
  have Hf := hide (And.intro h1 (And.intro h2 h3))
  clear h1 h2 h3 hb
  have hx := run_bits
  go_enter Try.func36, Try.ntmps36
  go_wp2
  go_ret3
  obtain ⟨h1, h2, h3⟩ := unhide Hf
  rw [← h1, ← h2, ← h3]
  exact ⟨rfl, rfl⟩
theorem cls0 (b : Nat) (h1 : ((pw b : Int) == 0) = true) (h2 : ((fr b : Int) == 0) = true) : cls b = 0 := by
  simp at h1 h2; simp [cls, h1, h2]
theorem cls1 (b : Nat) (h1 : ((pw b : Int) == 0) = true) (h2 : ((fr b : Int) == 0) = false) : cls b = 1 := by
  simp at h1 h2; simp [cls, h1, h2]
theorem cls2 (b : Nat) (h1 : ((pw b : Int) == 0) = false) (h2 : (pw b : Int) < 2047) : cls b = 2 := by
  simp at h1; simp [cls, h1]; omega
theorem cls3 (b : Nat) (h1 : ((pw b : Int) == 0) = false) (h2 : ¬ (pw b : Int) < 2047) (h3 : ((fr b : Int) == 0) = true) : cls b = 3 := by
  simp at h1 h3; simp [cls, h1, h3]; omega
theorem cls4 (b : Nat) (h1 : ((pw b : Int) == 0) = false) (h2 : ¬ (pw b : Int) < 2047) (h3 : ((fr b : Int) == 0) = false) : cls b = 4 := by
  simp at h1 h3; simp [cls, h1, h3]; omega
set_option maxRecDepth 100000 in
set_option maxHeartbeats 1000000 in
theorem of_any (b : Nat) (hb : b < 18446744073709551616) (w : World) :
    Calls Try.prog 35 #[.float .f64 b] w fun e w' => e = .returned (.int .i64 (cls b)) ∧ w' = w := by
  have hc := take_any b hb
  have Hc := hide hc
  clear hc hb
  cases h1 : ((pw b : Int) == 0)
  · by_cases h2 : (pw b : Int) < 2047
    · have Hk := hide (cls2 b h1 h2)
      go_enter Try.func35, Try.ntmps35
      go_wp2_with fail
      refine (unhide Hc _).mono ?_
      rintro e w' ⟨rfl, rfl⟩
      go_wp2
      go_ret
      rw [unhide Hk]
      exact ⟨rfl, rfl⟩
    · cases h3 : ((fr b : Int) == 0)
      · have Hk := hide (cls4 b h1 h2 h3)
        go_enter Try.func35, Try.ntmps35
        go_wp2_with fail
        refine (unhide Hc _).mono ?_
        rintro e w' ⟨rfl, rfl⟩
        go_wp2
        go_ret
        rw [unhide Hk]
        exact ⟨rfl, rfl⟩
      · have Hk := hide (cls3 b h1 h2 h3)
        go_enter Try.func35, Try.ntmps35
        go_wp2_with fail
        refine (unhide Hc _).mono ?_
        rintro e w' ⟨rfl, rfl⟩
        go_wp2
        go_ret
        rw [unhide Hk]
        exact ⟨rfl, rfl⟩
  · cases h3 : ((fr b : Int) == 0)
    · have Hk := hide (cls1 b h1 h3)
      go_enter Try.func35, Try.ntmps35
      go_wp2_with fail
      refine (unhide Hc _).mono ?_
      rintro e w' ⟨rfl, rfl⟩
      go_wp2
      go_ret
      rw [unhide Hk]
      exact ⟨rfl, rfl⟩
    · have Hk := hide (cls0 b h1 h3)
      go_enter Try.func35, Try.ntmps35
      go_wp2_with fail
      refine (unhide Hc _).mono ?_
      rintro e w' ⟨rfl, rfl⟩
      go_wp2
      go_ret
      rw [unhide Hk]
      exact ⟨rfl, rfl⟩
set_option maxRecDepth 100000 in
set_option maxHeartbeats 1000000 in
theorem cof_any (a b : Nat) (ha : a < 18446744073709551616) (hb : b < 18446744073709551616) (w : World) :
    Calls Try.prog 34 #[.complex .f64 a b] w fun e w' => e = .returned (.int .i64 (max (cls a) (cls b))) ∧ w' = w := by
  have Ha := hide (of_any a ha)
  have Hb := hide (of_any b hb)
  clear ha hb
  go_enter Try.func34, Try.ntmps34
  go_wp2_with fail
  refine (unhide Ha _).mono ?_
  rintro e w' ⟨rfl, rfl⟩
  go_wp2_with fail
  refine (unhide Hb _).mono ?_
  rintro e w' ⟨rfl, rfl⟩
  go_wp2
  all_goals go_ret
  all_goals refine ⟨?_, rfl⟩
  · rw [Int.max_eq_right (by omega)]; rfl
  · rw [Int.max_eq_left (by omega)]; rfl
theorem run_fl {op : BinOp} {x y r : Nat} (h : floatBits op .f64 x y = some r) (w : World) : (binOp op 31 (.float .f64 x) (.float .f64 y)).run Try.prog w = .ok (.float .f64 r) w :=
  run_float_arith w op _ .f64 x y r h
set_option maxRecDepth 100000 in
set_option maxHeartbeats 1000000 in
theorem finite_any (a b : Nat) (ha : a < 18446744073709551616) (hb : b < 18446744073709551616) (w : World) :
    Calls Try.prog 32 #[.complex .f64 a b] w fun e w' => e = .returned (.bool (decide (max (cls a) (cls b) < 3))) ∧ w' = w := by
  have Ha := hide (cof_any a b ha hb)
  clear ha hb
  go_enter Try.func32, Try.ntmps32
  go_wp2_with fail
  refine (unhide Ha _).mono ?_
  rintro e w' ⟨rfl, rfl⟩
  go_wp2
  go_ret
  exact ⟨rfl, rfl⟩
theorem finite_yes (a b : Nat) (ha : a < 18446744073709551616) (hb : b < 18446744073709551616) (h : max (cls a) (cls b) < 3) (w : World) :
    Calls Try.prog 32 #[.complex .f64 a b] w fun e w' => e = .returned (.bool true) ∧ w' = w := by
  have := finite_any a b ha hb w
  rw [decide_eq_true h] at this
  exact this
/-- Nothing but draws between two worlds. -/
def Still (w w' : World) : Prop := ∀ B, Below B w w'
theorem Still.refl (w : World) : Still w w := fun B => Below.refl B w
theorem Still.trans {a b c : World} (h : Still a b) (k : Still b c) : Still a c := fun B => (h B).trans (k B)
theorem still_drew (w : World) : Still w w.drew := fun B => (Below.refl B w).drew
theorem cut_nan (x y t : Nat) : isnan ((Question.nanBits .f64 x y).cut t) = true ∧ (Question.nanBits .f64 x y).cut t < 18446744073709551616 := by
  have e : (Question.nanBits .f64 x y).cut t = (t % 2) * 2 ^ 63 + 0x7ff0000000000000 + 1 + (t / 2) % (2 ^ 52 - 1) := rfl
  rw [e]
  have h := Nat.mod_lt (t / 2) (show 0 < 2 ^ 52 - 1 by decide)
  generalize (t / 2) % (2 ^ 52 - 1) = q at *
  unfold isnan rg
  constructor
  · rw [decide_eq_true_eq]; omega
  · omega
/-- A sum, difference or product: what it is does not hang on which NaN was met. -/
theorem op_any (op : BinOp) (hop : op = .add ∨ op = .sub ∨ op = .mul) (x y : Nat) (hx : x < 18446744073709551616) (hy : y < 18446744073709551616) (w : World) :
    ∃ r w', (binOp op 31 (.float .f64 x) (.float .f64 y)).run Try.prog w = .ok (.float .f64 r) w' ∧ r < 18446744073709551616 ∧ lf r = fop op (lf x) (lf y) ∧ Still w w' := by
  rw [← fop_bits op hop x y hx hy]
  cases h : floatBits op .f64 x y with
  | some r =>
    refine ⟨r, w, run_float_arith w op _ .f64 x y r h, bound_f r (floatBits_wf h), ?_, Still.refl w⟩
    unfold lf
    rw [bits_kind op hop x y r h]; rfl
  | none =>
    have hc := cut_nan x y (w.tape w.drawn (.nanBits .f64 x y))
    refine ⟨(Question.nanBits .f64 x y).cut (w.tape w.drawn (.nanBits .f64 x y)), w.drew, ?_, hc.2, ?_, still_drew w⟩
    · rcases hop with rfl | rfl | rfl
      · have h' : FloatKind.f64.format.add x y = none := h
        simp [binOp, Op.floatArith, h', Question.forced]
      · have h' : FloatKind.f64.format.sub x y = none := h
        simp [binOp, Op.floatArith, h', Question.forced]
      · have h' : FloatKind.f64.format.mul x y = none := h
        simp [binOp, Op.floatArith, h', Question.forced]
    · unfold lf
      rw [hc.1]; rfl
/-- The parts of a product. -/
def mulRe (a b c d : Nat) : Option Nat := fop .sub (fop .mul (lf a) (lf c)) (fop .mul (lf b) (lf d))
def mulIm (a b c d : Nat) : Option Nat := fop .add (fop .mul (lf a) (lf d)) (fop .mul (lf b) (lf c))
theorem mul_lf (a b c d : Nat) (ha : a < 18446744073709551616) (hb : b < 18446744073709551616) (hc : c < 18446744073709551616) (hd : d < 18446744073709551616) (w : World) :
    Calls Try.prog 22 #[.complex .f64 a b, .complex .f64 c d] w fun e w' => ∃ re im, e = .returned (.complex .f64 re im) ∧ re < 18446744073709551616 ∧ im < 18446744073709551616 ∧ lf re = mulRe a b c d ∧ lf im = mulIm a b c d ∧ Still w w' := by
  obtain ⟨p, w1, k1, b1, l1, s1⟩ := op_any .mul (by simp) a c ha hc w
  obtain ⟨q, w2, k2, b2, l2, s2⟩ := op_any .mul (by simp) b d hb hd w1
  obtain ⟨re, w3, k3, b3, l3, s3⟩ := op_any .sub (by simp) p q b1 b2 w2
  obtain ⟨r, w4, k4, b4, l4, s4⟩ := op_any .mul (by simp) a d ha hd w3
  obtain ⟨s, w5, k5, b5, l5, s5⟩ := op_any .mul (by simp) b c hb hc w4
  obtain ⟨im, w6, k6, b6, l6, s6⟩ := op_any .add (by simp) r s b4 b5 w5
  refine (mul_walk a b c d p q r s re im w w1 w2 w3 w4 w5 w6 k1 k2 k3 k4 k5 k6).mono ?_
  rintro e w' ⟨rfl, rfl⟩
  refine ⟨re, im, rfl, b3, b6, ?_, ?_, (((((s1.trans s2).trans s3).trans s4).trans s5).trans s6)⟩
  · rw [l3, l1, l2]; rfl
  · rw [l6, l4, l5]; rfl
theorem neq_self (b : Nat) (hb : b < 18446744073709551616) : (FloatKind.f64.format.order b b != some .eq) = isnan b := by
  have h := order_eq b b hb hb
  cases hn : isnan b
  · rw [hn] at h
    simp at h
    simp [h]
  · rw [hn] at h
    simp at h
    simp [h]
theorem nat_beq (x y : Nat) : (x == y) = ((x : Int) == (y : Int)) := by
  by_cases h : x = y
  · subst h; simp
  · rw [beq_eq_false_iff_ne.2 h, beq_eq_false_iff_ne.2 (by omega)]
theorem lf_eq (x y : Nat) : decide (lf x = lf y) = if isnan x then isnan y else (!isnan y && x == y) := by
  unfold lf
  cases isnan x <;> cases isnan y <;> simp
  by_cases h : x = y <;> simp [h]
set_option maxRecDepth 100000 in
set_option maxHeartbeats 1000000 in
theorem same_walk (x y : Nat) (hx : x < 18446744073709551616) (hy : y < 18446744073709551616) (w : World) : Calls Try.prog 31 #[.float .f64 x, .float .f64 y] w fun e w' => e = .returned (.bool (decide (lf x = lf y))) ∧ w' = w := by
  have hb := run_bits
  have hk := lf_eq x y
  have t1 := neq_self x hx
  have t2 := neq_self y hy
  cases h1 : isnan x
  · cases h2 : isnan y
    · rw [h1] at t1 hk
      rw [h2] at t2 hk
      have Hk : Hid (decide (lf x = lf y) = ((x : Int) == (y : Int))) := by
        rw [Hid, hk, ← nat_beq]; rfl
      clear hk h1 h2 hx hy
      go_enter Try.func31, Try.ntmps31
      go_wp2
      go_ret
      rw [unhide Hk]
      exact ⟨rfl, rfl⟩
    · rw [h1] at t1 hk
      rw [h2] at t2 hk
      have Hk : Hid (decide (lf x = lf y) = false) := by rw [Hid, hk]; rfl
      clear hk h1 h2 hx hy
      go_enter Try.func31, Try.ntmps31
      go_wp2
      go_ret
      rw [unhide Hk]
      exact ⟨rfl, rfl⟩
  · rw [h1] at t1 hk
    have Hk : Hid (decide (lf x = lf y) = isnan y) := by rw [Hid, hk]; rfl
    cases h2 : isnan y
    · rw [h2] at t2 Hk
      clear hk h1 h2 hx hy
      go_enter Try.func31, Try.ntmps31
      go_wp2
      go_ret
      rw [unhide Hk]
      exact ⟨rfl, rfl⟩
    · rw [h2] at t2 Hk
      clear hk h1 h2 hx hy
      go_enter Try.func31, Try.ntmps31
      go_wp2
      go_ret
      rw [unhide Hk]
      exact ⟨rfl, rfl⟩
set_option maxRecDepth 100000 in
set_option maxHeartbeats 1000000 in
theorem alike_walk (a b c d : Nat) (ha : a < 18446744073709551616) (hb : b < 18446744073709551616) (hc : c < 18446744073709551616) (hd : d < 18446744073709551616) (w : World) :
    Calls Try.prog 25 #[.complex .f64 a b, .complex .f64 c d] w fun e w' => e = .returned (.bool (decide (lf a = lf c) && decide (lf b = lf d))) ∧ w' = w := by
  have H1 := hide (same_walk a c ha hc)
  have H2 := hide (same_walk b d hb hd)
  clear ha hb hc hd
  cases h1 : decide (lf a = lf c)
  · rw [h1] at H1
    go_enter Try.func25, Try.ntmps25
    go_wp2_with fail
    refine (unhide H1 _).mono ?_
    rintro e w' ⟨rfl, rfl⟩
    go_wp2
    go_ret
    exact ⟨rfl, rfl⟩
  · rw [h1] at H1
    go_enter Try.func25, Try.ntmps25
    go_wp2_with fail
    refine (unhide H1 _).mono ?_
    rintro e w' ⟨rfl, rfl⟩
    go_wp2_with fail
    refine (unhide H2 _).mono ?_
    rintro e w' ⟨rfl, rfl⟩
    go_wp2
    go_ret
    exact ⟨rfl, rfl⟩
theorem alike_yes (a b c d : Nat) (ha : a < 18446744073709551616) (hb : b < 18446744073709551616) (hc : c < 18446744073709551616) (hd : d < 18446744073709551616) (h1 : lf a = lf c) (h2 : lf b = lf d) (w : World) :
    Calls Try.prog 25 #[.complex .f64 a b, .complex .f64 c d] w fun e w' => e = .returned (.bool true) ∧ w' = w := by
  have := alike_walk a b c d ha hb hc hd w
  rw [decide_eq_true h1, decide_eq_true h2] at this
  exact this

end Go.Proofs.Yteoglcelgcjpoaa
