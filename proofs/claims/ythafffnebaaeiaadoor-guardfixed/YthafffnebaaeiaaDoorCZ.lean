/- Complex numbers as what their parts are, NaNs as one: products, sums and differences as package cplx and Go reckon them. -/
import Derived.Test.YthafffnebaaeiaaDoorReg
namespace Go.Proofs.YthafffnebaaeiaaDoor
open Go.RowKit

/-- A complex number: each part a float64 by its bits, or a NaN. -/
abbrev C2 := Option Nat × Option Nat
def cop (op : BinOp) (a b : C2) : C2 := (fop op a.1 b.1, fop op a.2 b.2)
def cadd (a b : C2) : C2 := cop .add a b
def csub (a b : C2) : C2 := cop .sub a b
def cmul (a b : C2) : C2 := (fop .sub (fop .mul a.1 b.1) (fop .mul a.2 b.2), fop .add (fop .mul a.1 b.2) (fop .mul a.2 b.1))
/-- The value is this number. -/
def CIs (v : Value) (z : C2) : Prop := ∃ r i, v = .complex .f64 r i ∧ r < 18446744073709551616 ∧ i < 18446744073709551616 ∧ lf r = z.1 ∧ lf i = z.2
theorem CIs.of (r i : Nat) (hr : r < 18446744073709551616) (hi : i < 18446744073709551616) : CIs (.complex .f64 r i) (lf r, lf i) := ⟨r, i, rfl, hr, hi, rfl, rfl⟩

theorem mulC {u v : Value} {a b : C2} (hu : CIs u a) (hv : CIs v b) (w : World) : Calls Tryd.prog 36 #[u, v] w fun e w' => ∃ r, e = .returned r ∧ CIs r (cmul a b) ∧ Still w w' := by
  obtain ⟨r, i, rfl, hr, hi, h1, h2⟩ := hu
  obtain ⟨s, j, rfl, hs, hj, h3, h4⟩ := hv
  refine (mul_lf r i s j hr hi hs hj w).mono ?_
  rintro e w' ⟨re, im, rfl, b1, b2, l1, l2, hst⟩
  refine ⟨_, rfl, ⟨re, im, rfl, b1, b2, ?_, ?_⟩, hst⟩
  · rw [l1, mulRe, h1, h2, h3, h4]; rfl
  · rw [l2, mulIm, h1, h2, h3, h4]; rfl

theorem arith_any (op : BinOp) (hop : op = .add ∨ op = .sub) (x y : Nat) (hx : x < 18446744073709551616) (hy : y < 18446744073709551616) (w : World) :
    ∃ r w', (Op.Complex.arith op .f64 x y).run Tryd.prog w = .ok r w' ∧ r < 18446744073709551616 ∧ lf r = fop op (lf x) (lf y) ∧ Still w w' := by
  have hop' : op = .add ∨ op = .sub ∨ op = .mul := by rcases hop with h | h <;> simp [h]
  rw [← fop_bits op hop' x y hx hy]
  cases h : floatBits op .f64 x y with
  | some r =>
    refine ⟨r, w, run_carith w h, bound_f r (floatBits_wf h), ?_, Still.refl w⟩
    unfold lf
    rw [bits_kind op hop' x y r h]; rfl
  | none =>
    have hc := cut_nan x y (w.tape w.drawn (.nanBits .f64 x y))
    refine ⟨(Question.nanBits .f64 x y).cut (w.tape w.drawn (.nanBits .f64 x y)), w.drew, ?_, hc.2, ?_, still_drew w⟩
    · rcases hop with rfl | rfl
      · have h' : FloatKind.f64.format.add x y = none := h
        simp [Op.Complex.arith, Op.floatArith, h', Question.forced]
      · have h' : FloatKind.f64.format.sub x y = none := h
        simp [Op.Complex.arith, Op.floatArith, h', Question.forced]
    · unfold lf
      rw [hc.1]; rfl

theorem sumC (op : BinOp) (hop : op = .add ∨ op = .sub) {u v : Value} {a b : C2} (hu : CIs u a) (hv : CIs v b) (t : TypeId) (w : World) :
    ∃ r w', (binOp op t u v).run Tryd.prog w = .ok r w' ∧ CIs r (cop op a b) ∧ Still w w' := by
  obtain ⟨r, i, rfl, hr, hi, h1, h2⟩ := hu
  obtain ⟨s, j, rfl, hs, hj, h3, h4⟩ := hv
  obtain ⟨p, w1, k1, b1, l1, s1⟩ := arith_any op hop r s hr hs w
  obtain ⟨q, w2, k2, b2, l2, s2⟩ := arith_any op hop i j hi hj w1
  refine ⟨.complex .f64 p q, w2, ?_, ⟨p, q, rfl, b1, b2, ?_, ?_⟩, s1.trans s2⟩
  · rcases hop with rfl | rfl <;> simp [binOp, Op.complexOp, k1, k2]
  · rw [l1, h1, h3]; rfl
  · rw [l2, h2, h4]; rfl

theorem Still.cell {w w' : World} (h : Still w w') (p : Addr) : w'.cell? p = w.cell? p := (h (p.block + 1)).cell (Nat.lt_succ_self _)
theorem Still.frozen {w w' : World} (h : Still w w') (p : Addr) : w'.frozen? p = w.frozen? p := (h (p.block + 1)).frozen (Nat.lt_succ_self _)
theorem Still.block {w w' : World} (h : Still w w') (k : Nat) : w'.heap[k]? = w.heap[k]? := (h (k + 1)).block k (Nat.lt_succ_self _)
theorem Still.grown {w w' : World} (h : Still w w') (row : Option Nat) : w.grownBy w' row := ⟨(h 0).os, (h 0).tape, (h 0).output, (h 0).size, fun k _ _ => h.block k⟩
theorem grown_refl (w : World) (row : Option Nat) : w.grownBy w row := ⟨rfl, rfl, rfl, Nat.le_refl _, fun _ _ _ => rfl⟩
theorem grown_trans {a b c : World} {row : Option Nat} (h : a.grownBy b row) (k : b.grownBy c row) : a.grownBy c row :=
  ⟨k.os.trans h.os, k.tape.trans h.tape, k.output.trans h.output, Nat.le_trans h.size k.size, fun i hi hn => (k.block i (Nat.lt_of_lt_of_le hi h.size) hn).trans (h.block i hi hn)⟩
theorem grown_drew (w : World) (row : Option Nat) : w.grownBy w.drew row := ⟨rfl, rfl, rfl, Nat.le_refl _, fun _ _ _ => rfl⟩

/-- A section. -/
structure Sec where
  b0 : C2
  b1 : C2
  b2 : C2
  a1 : C2
  a2 : C2
/-- The answer and the next state of a section. -/
def rY (s : Sec) (p x : C2) : C2 := cadd (cmul s.b0 x) p
def rS1 (s : Sec) (q x y : C2) : C2 := csub (cadd (cmul s.b1 x) q) (cmul s.a1 y)
def rS2 (s : Sec) (x y : C2) : C2 := csub (cmul s.b2 x) (cmul s.a2 y)
end Go.Proofs.YthafffnebaaeiaaDoor
