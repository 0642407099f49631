/- Plain facts on float64s with NaNs as one: what an operation answers does not hang on which NaN it met; sums and products may change places; opposites. -/
import Derived.Test.YtmgdicpcljippacOrd
import Derived.Test.YtmgdicpcljippacFloD
namespace Go.Proofs.Ytmgdicpcljippac
open Go.RowKit

/-- The number or infinity; nothing of a NaN. -/
def lf (b : Nat) : Option Nat := if isnan b then none else some b
/-- An operation on these. -/
def fop (op : BinOp) (x y : Option Nat) : Option Nat := x.bind fun a => y.bind fun b => floatBits op .f64 a b

theorem sum_kind (d e : Ieee.Datum) : ∀ f, d.sum e = some f → f.isNaN = false := by
  intro f h
  cases d <;> cases e <;> simp only [Ieee.Datum.sum] at h
  all_goals first
    | (cases h; done)
    | (split at h <;> cases h <;> rfl)
    | (cases h; rfl)
theorem product_kind (d e : Ieee.Datum) : ∀ f, d.product e = some f → f.isNaN = false := by
  intro f h
  cases d <;> cases e <;> simp only [Ieee.Datum.product] at h
  all_goals first
    | (cases h; done)
    | (split at h <;> cases h <;> rfl)
    | (cases h; rfl)

theorem rg_word (s : Bool) (r : Nat) (h : r < 9223372036854775808) : rg (Ieee.double.word s r) = r := by
  unfold rg; rw [word_of]; cases s <;> simp <;> omega

theorem write_kind (d : Ieee.Datum) (h : d.isNaN = false) : isnan (Ieee.double.write d) = false := by
  cases d with
  | number s m p =>
    show isnan (Ieee.double.nearest s m p) = false
    unfold isnan Ieee.Format.nearest
    split
    · rw [rg_word _ _ (by omega)]; simp
    · dsimp only
      have h1 : Ieee.double.infRung = 9218868437227405312 := by decide
      rw [h1, rg_word _ _ (by omega)]
      simp; omega
  | infinity s =>
    show isnan (Ieee.double.word s Ieee.double.infRung) = false
    have h1 : Ieee.double.infRung = 9218868437227405312 := by decide
    unfold isnan
    rw [h1, rg_word _ _ (by omega)]; simp
  | nan s f => cases h

theorem bits_kind (op : BinOp) (hop : op = .add ∨ op = .sub ∨ op = .mul) (x y r : Nat) (h : floatBits op .f64 x y = some r) : isnan r = false := by
  rcases hop with rfl | rfl | rfl
  · obtain ⟨d, hd, rfl⟩ := Option.map_eq_some_iff.1 (show ((Ieee.double.read x).sum (Ieee.double.read y)).map Ieee.double.write = some r from h)
    exact write_kind d (sum_kind _ _ d hd)
  · obtain ⟨d, hd, rfl⟩ := Option.map_eq_some_iff.1 (show ((Ieee.double.read x).sum (Ieee.double.read y).opposite).map Ieee.double.write = some r from h)
    exact write_kind d (sum_kind _ _ d hd)
  · obtain ⟨d, hd, rfl⟩ := Option.map_eq_some_iff.1 (show ((Ieee.double.read x).product (Ieee.double.read y)).map Ieee.double.write = some r from h)
    exact write_kind d (product_kind _ _ d hd)

theorem read_isnan (b : Nat) (hb : b < 18446744073709551616) (h : isnan b = true) : ∃ s f, Ieee.double.read b = .nan s f := by
  simp only [isnan, decide_eq_true_eq] at h
  exact ⟨_, _, read_nan b hb h⟩

theorem bits_nan (op : BinOp) (hop : op = .add ∨ op = .sub ∨ op = .mul) (x y : Nat) (hx : x < 18446744073709551616) (hy : y < 18446744073709551616) (h : isnan x = true ∨ isnan y = true) : floatBits op .f64 x y = none := by
  rcases h with h | h
  · obtain ⟨s, f, e⟩ := read_isnan x hx h
    rcases hop with rfl | rfl | rfl
    · show ((Ieee.double.read x).sum (Ieee.double.read y)).map Ieee.double.write = none
      rw [e]; cases Ieee.double.read y <;> rfl
    · show ((Ieee.double.read x).sum (Ieee.double.read y).opposite).map Ieee.double.write = none
      rw [e]; cases Ieee.double.read y <;> rfl
    · show ((Ieee.double.read x).product (Ieee.double.read y)).map Ieee.double.write = none
      rw [e]; cases Ieee.double.read y <;> rfl
  · obtain ⟨s, f, e⟩ := read_isnan y hy h
    rcases hop with rfl | rfl | rfl
    · show ((Ieee.double.read x).sum (Ieee.double.read y)).map Ieee.double.write = none
      rw [e]; cases Ieee.double.read x <;> rfl
    · show ((Ieee.double.read x).sum (Ieee.double.read y).opposite).map Ieee.double.write = none
      rw [e]; cases Ieee.double.read x <;> rfl
    · show ((Ieee.double.read x).product (Ieee.double.read y)).map Ieee.double.write = none
      rw [e]; cases Ieee.double.read x <;> rfl

theorem fop_bits (op : BinOp) (hop : op = .add ∨ op = .sub ∨ op = .mul) (x y : Nat) (hx : x < 18446744073709551616) (hy : y < 18446744073709551616) : floatBits op .f64 x y = fop op (lf x) (lf y) := by
  unfold fop lf
  cases h1 : isnan x
  · cases h2 : isnan y
    · rfl
    · rw [bits_nan op hop x y hx hy (Or.inr h2)]; rfl
  · rw [bits_nan op hop x y hx hy (Or.inl h1)]; rfl

theorem sum_comm (d e : Ieee.Datum) : d.sum e = e.sum d := by
  cases d <;> cases e <;> simp only [Ieee.Datum.sum]
  · rename_i s m i t n j
    rw [Int.min_comm j i]
    generalize Ieee.signed s m (i - min i j).toNat = A
    generalize Ieee.signed t n (j - min i j).toNat = B
    rw [Int.add_comm B A, Bool.and_comm t s]
  · rename_i s t
    cases s <;> cases t <;> rfl
theorem product_comm (d e : Ieee.Datum) : d.product e = e.product d := by
  cases d <;> cases e <;> simp only [Ieee.Datum.product]
  · rename_i s m i t n j
    rw [Bool.xor_comm t s, Nat.mul_comm n m, Int.add_comm j i]
  · rename_i s t
    rw [Bool.xor_comm]

theorem fop_add_comm (x y : Option Nat) : fop .add x y = fop .add y x := by
  cases x <;> cases y <;> simp [fop]
  show Option.map _ _ = Option.map _ _
  rw [sum_comm]
theorem fop_mul_comm (x y : Option Nat) : fop .mul x y = fop .mul y x := by
  cases x <;> cases y <;> simp [fop]
  show Option.map _ _ = Option.map _ _
  rw [product_comm]

theorem neg_neg (b : Nat) : Op.negFloat .f64 (Op.negFloat .f64 b) = b := by
  show (b ^^^ 2 ^ 63) ^^^ 2 ^ 63 = b
  rw [Nat.xor_assoc, Nat.xor_self, Nat.xor_zero]

theorem bits_word (b : Nat) (hb : b < 18446744073709551616) : b = Ieee.double.word (ng b) (rg b) := by
  unfold ng rg
  rw [word_of]
  by_cases h : 9223372036854775808 ≤ b
  · rw [if_pos (by simp [h])]; omega
  · rw [if_neg (by simp [h])]; omega

theorem neg_bits (b : Nat) (hb : b < 18446744073709551616) : Op.negFloat .f64 b = Ieee.double.word (!ng b) (rg b) := by
  have h : rg b < 9223372036854775808 := by unfold rg; omega
  rw [← neg_word (ng b) (rg b) h, ← bits_word b hb]

theorem word_lt64 (s : Bool) (r : Nat) (h : r < 9223372036854775808) : Ieee.double.word s r < 18446744073709551616 := by rw [word_of]; cases s <;> simp <;> omega
theorem neg_lt64 (b : Nat) (hb : b < 18446744073709551616) : Op.negFloat .f64 b < 18446744073709551616 := by
  rw [neg_bits b hb]
  exact word_lt64 _ _ (by unfold rg; omega)
theorem ng_word (s : Bool) (r : Nat) (h : r < 9223372036854775808) : ng (Ieee.double.word s r) = s := by
  unfold ng; rw [word_of]; cases s <;> simp <;> omega
theorem neg_parts (b : Nat) (hb : b < 18446744073709551616) : rg (Op.negFloat .f64 b) = rg b ∧ ng (Op.negFloat .f64 b) = !ng b := by
  have h : rg b < 9223372036854775808 := by unfold rg; omega
  rw [neg_bits b hb, rg_word _ _ h, ng_word _ _ h]
  exact ⟨rfl, rfl⟩

theorem read_parts (b : Nat) (hb : b < 18446744073709551616) : Ieee.double.read b =
    if rg b < 4503599627370496 then .number (ng b) (rg b) (-1074) else if rg b < 9218868437227405312 then .number (ng b) (4503599627370496 + rg b % 4503599627370496) (-1074 + (rg b / 4503599627370496 - 1 : Nat))
    else if rg b = 9218868437227405312 then .infinity (ng b) else .nan (ng b) (rg b - 9218868437227405312) := by
  have := read_form b
  rw [show FloatKind.f64.format.read b = Ieee.double.read b from rfl, neg_form b hb] at this
  exact this

theorem read_neg (b : Nat) (hb : b < 18446744073709551616) : Ieee.double.read (Op.negFloat .f64 b) = (Ieee.double.read b).opposite := by
  rw [read_parts _ (neg_lt64 b hb), read_parts b hb, (neg_parts b hb).1, (neg_parts b hb).2]
  split
  · rfl
  · split
    · rfl
    · split <;> rfl

theorem isnan_neg' (b : Nat) (hb : b < 18446744073709551616) : isnan (Op.negFloat .f64 b) = isnan b := by
  unfold isnan; rw [(neg_parts b hb).1]
theorem lf_neg (b : Nat) (hb : b < 18446744073709551616) : lf (Op.negFloat .f64 b) = (lf b).map (Op.negFloat .f64) := by
  unfold lf
  rw [isnan_neg' b hb]
  cases isnan b <;> rfl

/-- Both signs turned: the product is the same. -/
theorem mul_neg_neg (x y : Nat) (hx : x < 18446744073709551616) (hy : y < 18446744073709551616) : floatBits .mul .f64 (Op.negFloat .f64 x) (Op.negFloat .f64 y) = floatBits .mul .f64 x y := by
  show ((Ieee.double.read _).product (Ieee.double.read _)).map Ieee.double.write = ((Ieee.double.read _).product (Ieee.double.read _)).map Ieee.double.write
  rw [read_neg x hx, read_neg y hy]
  congr 1
  cases Ieee.double.read x <;> cases Ieee.double.read y <;> simp only [Ieee.Datum.product, Ieee.Datum.opposite] <;> simp

theorem write_opposite (d : Ieee.Datum) (h : d.isNaN = false) : Ieee.double.write d.opposite = Op.negFloat .f64 (Ieee.double.write d) := by
  cases d with
  | number s m p =>
    show Ieee.double.nearest (!s) m p = Op.negFloat .f64 (Ieee.double.nearest s m p)
    have h1 : Ieee.double.infRung = 9218868437227405312 := by decide
    unfold Ieee.Format.nearest
    by_cases hm : m = 0
    · rw [if_pos hm, if_pos hm, neg_word _ _ (by omega)]
    · rw [if_neg hm, if_neg hm]
      dsimp only
      rw [h1, neg_word _ _ (by omega)]
      rfl
  | infinity s =>
    show Ieee.double.word (!s) Ieee.double.infRung = _
    have h1 : Ieee.double.infRung = 9218868437227405312 := by decide
    show _ = Op.negFloat .f64 (Ieee.double.word s Ieee.double.infRung)
    rw [h1, neg_word _ _ (by omega)]
  | nan s f => cases h

theorem product_opp (d e : Ieee.Datum) : d.product e.opposite = (d.product e).map Ieee.Datum.opposite := by
  cases d <;> cases e <;> simp only [Ieee.Datum.product, Ieee.Datum.opposite] <;> first | rfl | (split <;> simp [Ieee.Datum.opposite]) | simp [Ieee.Datum.opposite]

/-- One sign turned: the product's is. -/
theorem mul_neg (x y : Nat) (hy : y < 18446744073709551616) : floatBits .mul .f64 x (Op.negFloat .f64 y) = (floatBits .mul .f64 x y).map (Op.negFloat .f64) := by
  show ((Ieee.double.read _).product (Ieee.double.read _)).map Ieee.double.write = (((Ieee.double.read _).product (Ieee.double.read _)).map Ieee.double.write).map _
  rw [read_neg y hy, product_opp]
  cases hp : (Ieee.double.read x).product (Ieee.double.read y) with
  | none => rfl
  | some d =>
    show some _ = some _
    rw [write_opposite d (product_kind _ _ d hp)]

/-- Both signs turned: the sum's is, or both sums are noughts. -/
theorem add_neg_neg (x y r s : Nat) (hx : x < 18446744073709551616) (hy : y < 18446744073709551616) (h1 : floatBits .add .f64 x y = some r) (h2 : floatBits .add .f64 (Op.negFloat .f64 x) (Op.negFloat .f64 y) = some s) :
    s = Op.negFloat .f64 r ∨ (rg r = 0 ∧ rg s = 0) := by
  have e1 : ((Ieee.double.read x).sum (Ieee.double.read y)).map Ieee.double.write = some r := h1
  have e2 : ((Ieee.double.read (Op.negFloat .f64 x)).sum (Ieee.double.read (Op.negFloat .f64 y))).map Ieee.double.write = some s := h2
  rw [read_neg x hx, read_neg y hy] at e2
  cases hX : Ieee.double.read x with
  | nan sx fx => rw [hX] at e1; cases Ieee.double.read y <;> cases e1
  | infinity sx =>
    rw [hX] at e1 e2
    cases hY : Ieee.double.read y with
    | nan sy fy => rw [hY] at e1; cases e1
    | infinity sy =>
      rw [hY] at e1 e2
      left
      cases sx <;> cases sy <;> simp [Ieee.Datum.sum, Ieee.Datum.opposite] at e1 e2 <;> subst e1 <;> subst e2 <;> decide
    | number sy my py =>
      rw [hY] at e1 e2
      left
      simp only [Ieee.Datum.sum, Ieee.Datum.opposite, Option.map_some, Option.some.injEq] at e1 e2
      subst e1; subst e2
      exact write_opposite (.infinity sx) rfl
  | number sx mx px =>
    rw [hX] at e1 e2
    cases hY : Ieee.double.read y with
    | nan sy fy => rw [hY] at e1; cases e1
    | infinity sy =>
      rw [hY] at e1 e2
      left
      simp only [Ieee.Datum.sum, Ieee.Datum.opposite, Option.map_some, Option.some.injEq] at e1 e2
      subst e1; subst e2
      exact write_opposite (.infinity sy) rfl
    | number sy my py =>
      rw [hY] at e1 e2
      simp only [Ieee.Datum.sum, Ieee.Datum.opposite, Option.map_some, Option.some.injEq] at e1 e2
      have es : ∀ (b : Bool) (m u : Nat), Ieee.signed (!b) m u = - Ieee.signed b m u := by
        intro b m u; unfold Ieee.signed; cases b <;> simp
      rw [es, es] at e2
      generalize Ieee.signed sx mx (px - min px py).toNat = A at *
      generalize Ieee.signed sy my (py - min px py).toNat = B at *
      by_cases h0 : A + B = 0
      · right
        have h0' : -A + -B = 0 := by omega
        rw [h0] at e1
        rw [h0'] at e2
        subst e1; subst e2
        have ez : ∀ b p, rg (Ieee.double.write (.number b 0 p)) = 0 := by
          intro b p
          show rg (Ieee.double.nearest b 0 p) = 0
          unfold Ieee.Format.nearest
          rw [if_pos rfl, rg_word _ _ (by omega)]
        exact ⟨ez _ _, ez _ _⟩
      · left
        have h0' : ¬ -A + -B = 0 := by omega
        rw [if_neg h0] at e1
        rw [if_neg h0'] at e2
        subst e1; subst e2
        have := write_opposite (.number (decide (A + B < 0)) (A + B).natAbs (min px py)) rfl
        rw [← this]
        show Ieee.double.write _ = Ieee.double.write (.number (!decide (A + B < 0)) _ _)
        congr 2
        · by_cases h : A + B < 0
          · simp [h]; omega
          · simp [h]; omega
        · omega

end Go.Proofs.Ytmgdicpcljippac
