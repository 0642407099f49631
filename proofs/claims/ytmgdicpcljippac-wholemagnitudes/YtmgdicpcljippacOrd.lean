/- How two float64s compare, by their bits: as their signed places do, and not at all where one is a NaN. -/
import Derived.Test.YtmgdicpcljippacNum
namespace Go.Proofs.Ytmgdicpcljippac
open Go.RowKit

/-- A magnitude in units of the least subnormal number. -/
def val (r : Nat) : Nat := if r < 4503599627370496 then r else (4503599627370496 + r % 4503599627370496) * 2 ^ (r / 4503599627370496 - 1)

theorem val_succ (r : Nat) : val r < val (r + 1) := by
  unfold val
  by_cases h1 : r + 1 < 4503599627370496
  · rw [if_pos (by omega), if_pos h1]; omega
  · by_cases h2 : r < 4503599627370496
    · have : r = 4503599627370495 := by omega
      subst this; decide
    · rw [if_neg h2, if_neg h1]
      have e : r = 4503599627370496 * (r / 4503599627370496) + r % 4503599627370496 := (Nat.div_add_mod _ _).symm
      generalize hq : r / 4503599627370496 = q at *
      generalize hf : r % 4503599627370496 = f at *
      have hfl : f < 4503599627370496 := by omega
      obtain ⟨p, rfl⟩ : ∃ p, q = p + 1 := ⟨q - 1, by omega⟩
      by_cases h3 : f + 1 < 4503599627370496
      · have d1 : (r + 1) / 4503599627370496 = p + 1 := by omega
        have d2 : (r + 1) % 4503599627370496 = f + 1 := by omega
        rw [d1, d2]
        exact Nat.mul_lt_mul_of_pos_right (by omega) (Nat.two_pow_pos _)
      · have d1 : (r + 1) / 4503599627370496 = p + 1 + 1 := by omega
        have d2 : (r + 1) % 4503599627370496 = 0 := by omega
        rw [d1, d2, Nat.add_sub_cancel, Nat.add_sub_cancel, Nat.pow_succ]
        have hp := Nat.two_pow_pos p
        generalize 2 ^ p = X at *
        have h5 : (4503599627370496 + f) * X < 9007199254740992 * X := Nat.mul_lt_mul_of_pos_right (by omega) hp
        omega

theorem val_lt {r s : Nat} (h : r < s) : val r < val s := by
  induction s with
  | zero => omega
  | succ s ih =>
    by_cases h' : r = s
    · subst h'; exact val_succ r
    · exact Nat.lt_trans (ih (by omega)) (val_succ s)
theorem val_lt_iff (r s : Nat) : val r < val s ↔ r < s := by
  constructor
  · intro h
    apply Nat.lt_of_not_le
    intro h'
    rcases Nat.lt_or_eq_of_le h' with g | g
    · have := val_lt g; omega
    · subst g; omega
  · exact val_lt
theorem val_eq_iff (r s : Nat) : val r = val s ↔ r = s := by
  constructor
  · intro h
    rcases Nat.lt_trichotomy r s with g | g | g
    · have := val_lt g; omega
    · exact g
    · have := val_lt g; omega
  · intro h; rw [h]
theorem val_zero : val 0 = 0 := by decide

/-- The bits without their sign, signed. -/
def key (b : Nat) : Int := if ng b then -(rg b : Int) else (rg b : Int)
/-- A NaN, by its bits. -/
def isnan (b : Nat) : Bool := decide (9218868437227405312 < rg b)

def sgn (s : Bool) (n : Int) : Int := if s then -n else n

theorem cmp_mul (a b c : Int) (hc : 0 < c) : compare (a * c) (b * c) = compare a b := by
  simp only [compare, compareOfLessAndEq]
  have h1 : (a * c < b * c) ↔ a < b := ⟨fun h => Int.lt_of_mul_lt_mul_right h (by omega), fun h => Int.mul_lt_mul_of_pos_right h hc⟩
  have h2 : (a * c = b * c) ↔ a = b := ⟨fun h => Int.eq_of_mul_eq_mul_right (by omega) h, fun h => by rw [h]⟩
  simp only [h1, h2]

theorem signed_eq (s : Bool) (m i : Nat) : Ieee.signed s m i = sgn s ((m * 2 ^ i : Nat) : Int) := by
  unfold Ieee.signed sgn
  rw [Nat.shiftLeft_eq]

/-- Two numbers whose places stand i and j above the least one. -/
theorem order_numbers (s t : Bool) (m n i j : Nat) (l : Int) :
    (Ieee.Datum.number s m (l + i)).order (.number t n (l + j)) = some (compare (sgn s ((m * 2 ^ i : Nat) : Int)) (sgn t ((n * 2 ^ j : Nat) : Int))) := by
  simp only [Ieee.Datum.order]
  have e1 : (l + (i : Int) - min (l + (i : Int)) (l + (j : Int))).toNat = i - min i j := by omega
  have e2 : (l + (j : Int) - min (l + (i : Int)) (l + (j : Int))).toNat = j - min i j := by omega
  rw [e1, e2, signed_eq, signed_eq]
  have hc : (0 : Int) < ((2 ^ min i j : Nat) : Int) := by have := Nat.two_pow_pos (min i j); omega
  have f1 : sgn s ((m * 2 ^ i : Nat) : Int) = sgn s ((m * 2 ^ (i - min i j) : Nat) : Int) * ((2 ^ min i j : Nat) : Int) := by
    have : m * 2 ^ i = m * 2 ^ (i - min i j) * 2 ^ min i j := by rw [Nat.mul_assoc, ← Nat.pow_add, show i - min i j + min i j = i by omega]
    unfold sgn; split <;> rw [this, Int.natCast_mul] <;> simp [Int.neg_mul]
  have f2 : sgn t ((n * 2 ^ j : Nat) : Int) = sgn t ((n * 2 ^ (j - min i j) : Nat) : Int) * ((2 ^ min i j : Nat) : Int) := by
    have : n * 2 ^ j = n * 2 ^ (j - min i j) * 2 ^ min i j := by rw [Nat.mul_assoc, ← Nat.pow_add, show j - min i j + min i j = j by omega]
    unfold sgn; split <;> rw [this, Int.natCast_mul] <;> simp [Int.neg_mul]
  rw [f1, f2, cmp_mul _ _ _ hc]

theorem neg_form (b : Nat) (hb : b < 18446744073709551616) : (b / 9223372036854775808 % 2 == 1) = ng b := by
  unfold ng
  by_cases h : 9223372036854775808 ≤ b
  · have : b / 9223372036854775808 = 1 := by omega
    simp [h, this]
  · have : b / 9223372036854775808 = 0 := by omega
    simp [h, this]

theorem read_form (b : Nat) : FloatKind.f64.format.read b =
    (if rg b < 4503599627370496 then .number (b / 9223372036854775808 % 2 == 1) (rg b) (-1074)
    else if rg b < 9218868437227405312 then .number (b / 9223372036854775808 % 2 == 1) (4503599627370496 + rg b % 4503599627370496) (-1074 + ((rg b / 4503599627370496 - 1 : Nat) : Int))
    else if rg b = 9218868437227405312 then .infinity (b / 9223372036854775808 % 2 == 1) else .nan (b / 9223372036854775808 % 2 == 1) (rg b - 9218868437227405312)) := rfl

/-- A number's datum. -/
theorem read_number (b : Nat) (hb : b < 18446744073709551616) (h : rg b < 9218868437227405312) :
    ∃ m i : Nat, FloatKind.f64.format.read b = .number (ng b) m (-1074 + (i : Int)) ∧ m * 2 ^ i = val (rg b) := by
  rw [read_form, neg_form b hb]
  by_cases h1 : rg b < 4503599627370496
  · exact ⟨rg b, 0, by rw [if_pos h1]; rfl, by simp [val, h1]⟩
  · exact ⟨_, _, by rw [if_neg h1, if_pos h], by simp [val, h1]⟩
theorem read_infinity (b : Nat) (hb : b < 18446744073709551616) (h : rg b = 9218868437227405312) :
    FloatKind.f64.format.read b = .infinity (ng b) := by
  rw [read_form, neg_form b hb, if_neg (by omega), if_neg (by omega), if_pos h]
theorem read_nan (b : Nat) (hb : b < 18446744073709551616) (h : 9218868437227405312 < rg b) :
    FloatKind.f64.format.read b = .nan (ng b) (rg b - 9218868437227405312) := by
  rw [read_form, neg_form b hb, if_neg (by omega), if_neg (by omega), if_neg (by omega)]

theorem cmp_val (s t : Bool) (r u : Nat) : compare (sgn s (val r)) (sgn t (val u)) = compare (sgn s r) (sgn t u) := by
  have h1 := val_lt_iff r u
  have h2 := val_lt_iff u r
  have h3 := val_eq_iff r u
  have z1 := val_lt_iff 0 r
  have z2 := val_lt_iff 0 u
  rw [val_zero] at z1 z2
  simp only [compare, compareOfLessAndEq]
  cases s <;> cases t <;> simp only [sgn, Bool.false_eq_true, if_true, if_false]
  · have e1 : ((val r : Int) < (val u : Int)) ↔ ((r : Int) < (u : Int)) := by omega
    have e2 : ((val r : Int) = (val u : Int)) ↔ ((r : Int) = (u : Int)) := by omega
    simp only [e1, e2]
  · have e1 : ((val r : Int) < -(val u : Int)) ↔ ((r : Int) < -(u : Int)) := by omega
    have e2 : ((val r : Int) = -(val u : Int)) ↔ ((r : Int) = -(u : Int)) := by omega
    simp only [e1, e2]
  · have e1 : (-(val r : Int) < (val u : Int)) ↔ (-(r : Int) < (u : Int)) := by omega
    have e2 : (-(val r : Int) = (val u : Int)) ↔ (-(r : Int) = (u : Int)) := by omega
    simp only [e1, e2]
  · have e1 : (-(val r : Int) < -(val u : Int)) ↔ (-(r : Int) < -(u : Int)) := by omega
    have e2 : (-(val r : Int) = -(val u : Int)) ↔ (-(r : Int) = -(u : Int)) := by omega
    simp only [e1, e2]

theorem key_sgn (b : Nat) : key b = sgn (ng b) (rg b) := rfl

theorem order_spec (a b : Nat) (ha : a < 18446744073709551616) (hb : b < 18446744073709551616) :
    FloatKind.f64.format.order a b = if isnan a || isnan b then none else some (compare (key a) (key b)) := by
  unfold Ieee.Format.order
  by_cases na : 9218868437227405312 < rg a
  · rw [read_nan a ha na]; simp [isnan, na, Ieee.Datum.order]
  by_cases nb : 9218868437227405312 < rg b
  · rw [read_nan b hb nb]
    simp only [isnan, na, nb, decide_true, Bool.or_true, if_true]
    cases FloatKind.f64.format.read a <;> rfl
  have hn : (isnan a || isnan b) = false := by simp [isnan]; omega
  rw [hn, key_sgn, key_sgn]
  simp only [Bool.false_eq_true, if_false]
  by_cases ia : rg a = 9218868437227405312
  · rw [read_infinity a ha ia]
    by_cases ib : rg b = 9218868437227405312
    · rw [read_infinity b hb ib, ia, ib]
      cases ng a <;> cases ng b <;> decide
    · obtain ⟨m, i, e, _⟩ := read_number b hb (by omega)
      rw [e]
      simp only [Ieee.Datum.order]
      cases ng a
      · have : compare (sgn false (rg a : Int)) (sgn (ng b) (rg b)) = .gt := by
          simp only [compare, compareOfLessAndEq, sgn]
          cases ng b <;> simp only [Bool.false_eq_true, if_true, if_false] <;> rw [if_neg (by omega), if_neg (by omega)]
        rw [this]; rfl
      · have : compare (sgn true (rg a : Int)) (sgn (ng b) (rg b)) = .lt := by
          simp only [compare, compareOfLessAndEq, sgn]
          cases ng b <;> simp only [Bool.false_eq_true, if_true, if_false] <;> rw [if_pos (by omega)]
        rw [this]; rfl
  · obtain ⟨m, i, e, v⟩ := read_number a ha (by omega)
    rw [e]
    by_cases ib : rg b = 9218868437227405312
    · rw [read_infinity b hb ib]
      simp only [Ieee.Datum.order]
      cases ng b
      · have : compare (sgn (ng a) (rg a : Int)) (sgn false (rg b)) = .lt := by
          simp only [compare, compareOfLessAndEq, sgn]
          cases ng a <;> simp only [Bool.false_eq_true, if_true, if_false] <;> rw [if_pos (by omega)]
        rw [this]; rfl
      · have : compare (sgn (ng a) (rg a : Int)) (sgn true (rg b)) = .gt := by
          simp only [compare, compareOfLessAndEq, sgn]
          cases ng a <;> simp only [Bool.false_eq_true, if_true, if_false] <;> rw [if_neg (by omega), if_neg (by omega)]
        rw [this]; rfl
    · obtain ⟨n, j, e', v'⟩ := read_number b hb (by omega)
      rw [e', order_numbers, v, v', cmp_val]

theorem order_eq (a b : Nat) (ha : a < 18446744073709551616) (hb : b < 18446744073709551616) :
    (FloatKind.f64.format.order a b == some .eq) = (!isnan a && !isnan b && decide (key a = key b)) := by
  rw [order_spec a b ha hb]
  cases isnan a <;> cases isnan b <;> simp only [Bool.or_true, Bool.or_false, Bool.false_eq_true, if_true, if_false, Bool.not_true, Bool.not_false, Bool.true_and, Bool.false_and] <;> try rfl
  simp only [compare, compareOfLessAndEq]
  by_cases h1 : key a < key b
  · rw [if_pos h1, decide_eq_false (by omega)]; rfl
  · by_cases h2 : key a = key b
    · rw [if_neg h1, if_pos h2, decide_eq_true h2]; rfl
    · rw [if_neg h1, if_neg h2, decide_eq_false h2]; rfl
theorem order_lt (a b : Nat) (ha : a < 18446744073709551616) (hb : b < 18446744073709551616) :
    (FloatKind.f64.format.order a b == some .lt) = (!isnan a && !isnan b && decide (key a < key b)) := by
  rw [order_spec a b ha hb]
  cases isnan a <;> cases isnan b <;> simp only [Bool.or_true, Bool.or_false, Bool.false_eq_true, if_true, if_false, Bool.not_true, Bool.not_false, Bool.true_and, Bool.false_and] <;> try rfl
  simp only [compare, compareOfLessAndEq]
  by_cases h1 : key a < key b
  · rw [if_pos h1, decide_eq_true h1]; rfl
  · by_cases h2 : key a = key b
    · rw [if_neg h1, if_pos h2, decide_eq_false h1]; rfl
    · rw [if_neg h1, if_neg h2, decide_eq_false h1]; rfl
theorem order_gt (a b : Nat) (ha : a < 18446744073709551616) (hb : b < 18446744073709551616) :
    (FloatKind.f64.format.order a b == some .gt) = (!isnan a && !isnan b && decide (key b < key a)) := by
  rw [order_spec a b ha hb]
  cases isnan a <;> cases isnan b <;> simp only [Bool.or_true, Bool.or_false, Bool.false_eq_true, if_true, if_false, Bool.not_true, Bool.not_false, Bool.true_and, Bool.false_and] <;> try rfl
  simp only [compare, compareOfLessAndEq]
  by_cases h1 : key a < key b
  · rw [if_pos h1, decide_eq_false (by omega)]; rfl
  · by_cases h2 : key a = key b
    · rw [if_neg h1, if_pos h2, decide_eq_false (by omega)]; rfl
    · rw [if_neg h1, if_neg h2, decide_eq_true (by omega)]; rfl

end Go.Proofs.Ytmgdicpcljippac
