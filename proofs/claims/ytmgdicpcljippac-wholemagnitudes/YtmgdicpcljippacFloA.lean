/- Plain facts: powers of two among the rationals; what it is to be the float64 nearest to a number; that the model's rounding is that. -/
import Derived.Laws.FloatArith
namespace Go.Proofs.Ytmgdicpcljippac

/-- Two to the power k. -/
def p2 (k : Int) : Rat := (2 : Rat) ^ k

theorem p2_pos (k : Int) : 0 < p2 k := Rat.zpow_pos (by decide)
theorem p2_add (a b : Int) : p2 (a + b) = p2 a * p2 b := Rat.zpow_add (by decide) a b
theorem p2_nat (n : Nat) : p2 n = ((2 ^ n : Nat) : Rat) := by
  unfold p2
  rw [Rat.zpow_natCast, Rat.natCast_pow]
  rfl
theorem p2_zero : p2 0 = 1 := by rw [show (0 : Int) = ((0 : Nat) : Int) from rfl, p2_nat]; rfl
theorem p2_split (a b : Int) (h : a ≤ b) : p2 b = ((2 ^ (b - a).toNat : Nat) : Rat) * p2 a := by
  rw [← p2_nat, ← p2_add]
  congr 1; omega
theorem one_le_pow (n : Nat) : (1 : Rat) ≤ ((2 ^ n : Nat) : Rat) := by
  have := Nat.two_pow_pos n
  exact_mod_cast this
theorem p2_le {a b : Int} (h : a ≤ b) : p2 a ≤ p2 b := by
  rw [p2_split a b h]
  have h1 := one_le_pow (b - a).toNat
  have h2 := p2_pos a
  have h3 := Rat.mul_le_mul_of_nonneg_right h1 (Rat.le_of_lt h2)
  grind
theorem p2_lt {a b : Int} (h : a < b) : p2 a < p2 b := by
  have h1 : p2 (a + 1) ≤ p2 b := p2_le (by omega)
  rw [p2_add] at h1
  have h2 := p2_pos a
  have h3 : p2 1 = 2 := by rw [show (1 : Int) = ((1 : Nat) : Int) from rfl, p2_nat]; rfl
  rw [h3] at h1
  grind
theorem p2_lt_iff {a b : Int} (h : p2 a < p2 b) : a < b := by
  apply Int.lt_of_not_ge
  intro hc
  have := p2_le hc
  grind
theorem cancel_le {a b P : Rat} (hP : 0 < P) (h : a * P ≤ b * P) : a ≤ b := Rat.le_of_mul_le_mul_right h hP
theorem cancel_lt {a b P : Rat} (hP : 0 < P) (h : a * P < b * P) : a < b := by
  apply Rat.not_le.1
  intro hc
  have := Rat.mul_le_mul_of_nonneg_right hc (Rat.le_of_lt hP)
  grind

/-- R is a float64 nearest to V (neither is below nought). -/
def Near (R V : Rat) : Prop :=
  ∃ (last : Int) (kept : Nat), R = kept * p2 last ∧ 2 * R ≤ 2 * V + p2 last ∧ 2 * V ≤ 2 * R + p2 last ∧ -1074 ≤ last ∧ (last = -1074 ∨ p2 (52 + last) ≤ V) ∧ V ≤ p2 (53 + last)

theorem half_le {a b : Nat} {P : Rat} (hP : 0 < P) (h : 2 * ((a : Rat) * P) ≤ 2 * ((b : Rat) * P) + P) : a ≤ b := by
  have h1 : ((2 * a : Nat) : Rat) * P ≤ ((2 * b + 1 : Nat) : Rat) * P := by
    push_cast
    grind
  have h2 := cancel_le hP h1
  have h3 : 2 * a ≤ 2 * b + 1 := by exact_mod_cast h2
  omega

theorem small_lt (k : Nat) (q l : Int) (hk : k < 9007199254740992) (h : q < l) : (k : Rat) * p2 q < p2 (52 + l) := by
  have h1 : p2 (53 + q) ≤ p2 (52 + l) := p2_le (by omega)
  rw [p2_add, show (53 : Int) = ((53 : Nat) : Int) from rfl, p2_nat] at h1
  have h2 : (k : Rat) < ((2 ^ 53 : Nat) : Rat) := by exact_mod_cast hk
  have h3 := Rat.mul_lt_mul_of_pos_right h2 (p2_pos q)
  grind

theorem near_exact {R V : Rat} (hN : Near R V) (k : Nat) (q : Int) (hk : k < 9007199254740992) (hq : -1074 ≤ q) (hV : V = k * p2 q) : R = V := by
  obtain ⟨last, kept, rfl, h1, h2, h3, h4, _⟩ := hN
  have hP := p2_pos last
  by_cases hl : last ≤ q
  · rw [p2_split last q hl] at hV
    have e : V = ((k * 2 ^ (q - last).toNat : Nat) : Rat) * p2 last := by rw [hV]; push_cast; grind
    rw [e] at h1 h2 ⊢
    have a1 := half_le hP h1
    have a2 := half_le hP h2
    rw [Nat.le_antisymm a1 a2]
  · have h5 : p2 (52 + last) ≤ V := by rcases h4 with h | h; omega; exact h
    have h6 := small_lt k q last hk (by omega)
    grind

theorem near_rel {R V : Rat} (hN : Near R V) (h : V = 0 ∨ p2 (-1022) ≤ V) : 9007199254740992 * R ≤ 9007199254740993 * V ∧ 9007199254740991 * V ≤ 9007199254740992 * R := by
  rcases h with h | h
  · have := near_exact hN 0 0 (by omega) (by omega) (by rw [h]; grind)
    subst h
    rw [this]
    constructor <;> grind
  · obtain ⟨last, kept, _, h1, h2, h3, h4, _⟩ := hN
    have h5 : p2 (52 + last) ≤ V := by
      rcases h4 with h4 | h4
      · rw [h4]; exact h
      · exact h4
    rw [p2_add, show (52 : Int) = ((52 : Nat) : Int) from rfl, p2_nat] at h5
    have e : ((2 ^ 52 : Nat) : Rat) = 4503599627370496 := by rfl
    rw [e] at h5
    constructor <;> grind

theorem near_ge {R V : Rat} (hN : Near R V) (k : Nat) (q : Int) (hk : k < 9007199254740992) (h : (k : Rat) * p2 q ≤ V) (hq : -1074 ≤ q) : (k : Rat) * p2 q ≤ R := by
  obtain ⟨last, kept, rfl, h1, h2, h3, h4, _⟩ := hN
  have hP := p2_pos last
  by_cases hl : last ≤ q
  · rw [p2_split last q hl] at h ⊢
    have e : (k : Rat) * (((2 ^ (q - last).toNat : Nat) : Rat) * p2 last) = ((k * 2 ^ (q - last).toNat : Nat) : Rat) * p2 last := by push_cast; grind
    rw [e] at h ⊢
    have a2 : k * 2 ^ (q - last).toNat ≤ kept := half_le hP (by grind)
    exact Rat.mul_le_mul_of_nonneg_right (by exact_mod_cast a2) (Rat.le_of_lt hP)
  · have h5 : p2 (52 + last) ≤ V := by rcases h4 with h | h; omega; exact h
    have h6 := small_lt k q last hk (by omega)
    rw [p2_add, show (52 : Int) = ((52 : Nat) : Int) from rfl, p2_nat] at h5 h6
    have a2 : 2 ^ 52 ≤ kept := half_le hP (by grind)
    have a3 : ((2 ^ 52 : Nat) : Rat) * p2 last ≤ (kept : Rat) * p2 last := Rat.mul_le_mul_of_nonneg_right (by exact_mod_cast a2) (Rat.le_of_lt hP)
    grind

theorem near_le {R V : Rat} (hN : Near R V) (k : Nat) (q : Int) (hk : k < 9007199254740992) (h : V ≤ (k : Rat) * p2 q) (hq : -1074 ≤ q) : R ≤ (k : Rat) * p2 q := by
  obtain ⟨last, kept, rfl, h1, h2, h3, h4, _⟩ := hN
  have hP := p2_pos last
  by_cases hl : last ≤ q
  · rw [p2_split last q hl] at h ⊢
    have e : (k : Rat) * (((2 ^ (q - last).toNat : Nat) : Rat) * p2 last) = ((k * 2 ^ (q - last).toNat : Nat) : Rat) * p2 last := by push_cast; grind
    rw [e] at h ⊢
    have a2 : kept ≤ k * 2 ^ (q - last).toNat := half_le hP (by grind)
    exact Rat.mul_le_mul_of_nonneg_right (by exact_mod_cast a2) (Rat.le_of_lt hP)
  · have h5 : p2 (52 + last) ≤ V := by rcases h4 with h | h; omega; exact h
    have h6 := small_lt k q last hk (by omega)
    grind

theorem near_nonneg {R V : Rat} (hN : Near R V) : 0 ≤ R := by
  obtain ⟨last, kept, rfl, _⟩ := hN
  have : (0 : Rat) ≤ kept := by exact_mod_cast Nat.zero_le kept
  exact Rat.mul_nonneg this (Rat.le_of_lt (p2_pos last))

/-- Half a unit is the most that a cut to the even one takes or gives. -/
theorem cut_half (neg : Bool) (n drop : Nat) : 2 * (Ieee.Toward.even.cut neg n drop * 2 ^ drop) ≤ 2 * n + 2 ^ drop ∧ 2 * n ≤ 2 * (Ieee.Toward.even.cut neg n drop * 2 ^ drop) + 2 ^ drop := by
  unfold Ieee.Toward.cut
  by_cases h : drop ≤ n.log2 + 2
  · rw [Nat.min_eq_left h, Nat.one_shiftLeft]
    dsimp only
    have hp := Nat.two_pow_pos drop
    have e := Nat.div_add_mod n (2 ^ drop)
    have hl := Nat.mod_lt n hp
    generalize n % 2 ^ drop = r at *
    generalize n / 2 ^ drop = q at *
    generalize 2 ^ drop = G at *
    subst e
    have hc : G * q = q * G := Nat.mul_comm _ _
    rw [hc]
    by_cases h1 : G < 2 * r
    · rw [decide_eq_true h1]
      simp only [Bool.true_or, Bool.toNat_true, Nat.add_mul, Nat.one_mul]
      generalize q * G = X
      omega
    · rw [decide_eq_false h1]
      by_cases h2 : G = 2 * r
      · subst h2
        rcases (by omega : q % 2 = 0 ∨ q % 2 = 1) with h3 | h3 <;> simp [h3, Nat.add_mul] <;> generalize q * (2 * r) = X <;> omega
      · have : (G == 2 * r) = false := by simp [h2]
        simp only [this, Bool.false_or, Bool.false_and, Bool.toNat_false, Nat.add_zero]
        generalize q * G = X
        omega
  · have hn : n < 2 ^ (n.log2 + 1) := Nat.lt_log2_self
    have h1 : 2 ^ (n.log2 + 1) * 2 = 2 ^ (n.log2 + 2) := by rw [← Nat.pow_succ]
    have h2 : 2 ^ (n.log2 + 2) ≤ 2 ^ drop := Nat.pow_le_pow_right (by omega) (by omega)
    rw [Nat.min_eq_right (by omega), Nat.one_shiftLeft]
    dsimp only
    have e1 : n / 2 ^ (n.log2 + 2) = 0 := Nat.div_eq_of_lt (by omega)
    have e2 : n % 2 ^ (n.log2 + 2) = n := Nat.mod_eq_of_lt (by omega)
    rw [e1, e2]
    generalize 2 ^ (n.log2 + 2) = G at *
    generalize 2 ^ drop = D at *
    rw [decide_eq_false (by omega : ¬ G < 2 * n)]
    simp
    omega

def sg (s : Bool) (v : Rat) : Rat := if s then -v else v
/-- The number that sign, magnitude and place make. -/
def vl (s : Bool) (m : Nat) (p : Int) : Rat := sg s (m * p2 p)

/-- The float64 with these bits is the number v. -/
def Is (b : Nat) (v : Rat) : Prop := b < 18446744073709551616 ∧ ∃ s m p, Ieee.double.read b = .number s m p ∧ vl s m p = v

theorem word_of (neg : Bool) (r : Nat) : Ieee.double.word neg r = (if neg then 9223372036854775808 else 0) + r := by
  unfold Ieee.Format.word
  cases neg
  · rw [if_neg (by decide), if_neg (by decide)]; omega
  · rw [if_pos rfl, if_pos rfl]; rfl

theorem read_word (neg : Bool) (r : Nat) (h : r < 9218868437227405312) : Ieee.double.read (Ieee.double.word neg r) =
    if r < 4503599627370496 then .number neg r (-1074) else .number neg (4503599627370496 + r % 4503599627370496) (-1074 + (r / 4503599627370496 - 1 : Nat)) := by
  rw [word_of]
  show (if ((if neg then 9223372036854775808 else 0) + r) % 9223372036854775808 < 4503599627370496 then Ieee.Datum.number (((if neg then 9223372036854775808 else 0) + r) / 9223372036854775808 % 2 == 1) (((if neg then 9223372036854775808 else 0) + r) % 9223372036854775808) (-1074) else if ((if neg then 9223372036854775808 else 0) + r) % 9223372036854775808 < 9218868437227405312 then
    Ieee.Datum.number (((if neg then 9223372036854775808 else 0) + r) / 9223372036854775808 % 2 == 1) (4503599627370496 + ((if neg then 9223372036854775808 else 0) + r) % 9223372036854775808 % 4503599627370496) (-1074 + (((if neg then 9223372036854775808 else 0) + r) % 9223372036854775808 / 4503599627370496 - 1 : Nat)) else _) = _
  have e1 : ((if neg then 9223372036854775808 else 0) + r) % 9223372036854775808 = r := by cases neg <;> simp <;> omega
  have e2 : (((if neg then 9223372036854775808 else 0) + r) / 9223372036854775808 % 2 == 1) = neg := by
    cases neg
    · simp; omega
    · simp; omega
  rw [e1, e2, if_pos h]

/-- A rung's number. -/
theorem is_rung (neg : Bool) (i kept : Nat) (hi : i ≤ 2044) (hk : kept ≤ 9007199254740992) (h : i = 0 ∨ 4503599627370496 ≤ kept) :
    Is (Ieee.double.word neg (min (i * 4503599627370496 + kept) 9218868437227405312)) (sg neg (kept * p2 ((i : Int) - 1074))) := by
  have hr : i * 4503599627370496 + kept < 9218868437227405312 := by omega
  rw [Nat.min_eq_left (Nat.le_of_lt hr)]
  refine ⟨?_, ?_⟩
  · rw [word_of]; cases neg <;> simp <;> omega
  · rw [read_word _ _ hr]
    by_cases h1 : i * 4503599627370496 + kept < 4503599627370496
    · rw [if_pos h1]
      have : i = 0 := by omega
      subst this
      refine ⟨_, _, _, rfl, ?_⟩
      unfold vl
      congr 2; congr 1; omega
    · rw [if_neg h1]
      refine ⟨_, _, _, rfl, ?_⟩
      unfold vl
      congr 1
      by_cases h2 : kept = 9007199254740992
      · subst h2
        have d1 : (i * 4503599627370496 + 9007199254740992) / 4503599627370496 = i + 2 := by omega
        have d2 : (i * 4503599627370496 + 9007199254740992) % 4503599627370496 = 0 := by omega
        rw [d1, d2]
        have : (-1074 + ((i + 2 - 1 : Nat) : Int)) = ((i : Int) - 1074) + ((1 : Nat) : Int) := by omega
        rw [this, p2_add, p2_nat]
        have e1 : ((4503599627370496 + 0 : Nat) : Rat) = 4503599627370496 := by rfl
        have e2 : ((9007199254740992 : Nat) : Rat) = 9007199254740992 := by rfl
        have e3 : ((2 ^ 1 : Nat) : Rat) = 2 := by rfl
        rw [e1, e2, e3]
        grind
      · have g1 : 4503599627370496 ≤ kept := by omega
        have d1 : (i * 4503599627370496 + kept) / 4503599627370496 = i + 1 := by omega
        have d2 : (i * 4503599627370496 + kept) % 4503599627370496 = kept - 4503599627370496 := by omega
        rw [d1, d2, show 4503599627370496 + (kept - 4503599627370496) = kept by omega]
        congr 2

/-- The model's rounding is to a nearest one. -/
theorem nearest_near (neg : Bool) (mag : Nat) (place : Int) (h : (mag : Rat) * p2 place < p2 1023) :
    ∃ R, Is (Ieee.double.nearest neg mag place) (sg neg R) ∧ Near R (mag * p2 place) := by
  by_cases h0 : mag = 0
  · subst h0
    refine ⟨0, ?_, -1074, 0, ?_⟩
    · have hr := is_rung neg 0 0 (by omega) (by omega) (Or.inl rfl)
      have e : Ieee.double.nearest neg 0 place = Ieee.double.word neg (min (0 * 4503599627370496 + 0) 9218868437227405312) := by
        unfold Ieee.Format.nearest; rw [if_pos rfl]; rfl
      rw [e]
      have e2 : ((0 : Nat) : Rat) * p2 (((0 : Nat) : Int) - 1074) = 0 := by grind
      rw [e2] at hr
      exact hr
    · have hP := p2_pos (-1074)
      have hQ := p2_pos (53 + -1074)
      refine ⟨by grind, by grind, by grind, by omega, Or.inl rfl, by grind⟩
  · have l1 : 2 ^ mag.log2 ≤ mag := Nat.log2_self_le h0
    have l2 : mag < 2 ^ (mag.log2 + 1) := Nat.lt_log2_self
    generalize hL : mag.log2 = L at *
    have hPp := p2_pos place
    have v1 : p2 ((L : Int) + place) ≤ mag * p2 place := by
      rw [p2_add, p2_nat]
      exact Rat.mul_le_mul_of_nonneg_right (by exact_mod_cast l1) (Rat.le_of_lt hPp)
    have v2 : (mag : Rat) * p2 place < p2 (((L + 1 : Nat) : Int) + place) := by
      rw [p2_add, p2_nat]
      exact Rat.mul_lt_mul_of_pos_right (by exact_mod_cast l2) hPp
    have hLp : (L : Int) + place < 1023 := p2_lt_iff (by grind)
    obtain ⟨last, hlast⟩ : ∃ last : Int, last = max (place + L - 52) (-1074) := ⟨_, rfl⟩
    have ef : Ieee.double.nearest neg mag place = Ieee.double.word neg (min ((last - (-1074)).toNat * 4503599627370496 + Ieee.Toward.even.cut neg (mag <<< (place - last).toNat) (last - place).toNat) 9218868437227405312) := by
      rw [hlast, ← hL]
      unfold Ieee.Format.nearest
      rw [if_neg h0]
      rfl
    have hc := cut_half neg (mag <<< (place - last).toNat) (last - place).toNat
    rw [ef]
    generalize hk : Ieee.Toward.even.cut neg (mag <<< (place - last).toNat) (last - place).toNat = kept at hc
    rw [Nat.shiftLeft_eq] at hc
    have hP := p2_pos last
    -- the kept digits are half a unit off at most
    have hv : 2 * ((kept : Rat) * p2 last) ≤ 2 * ((mag : Rat) * p2 place) + p2 last ∧ 2 * ((mag : Rat) * p2 place) ≤ 2 * ((kept : Rat) * p2 last) + p2 last := by
      by_cases hpl : last ≤ place
      · have ed : (last - place).toNat = 0 := by omega
        rw [ed] at hc
        rw [p2_split last place hpl]
        generalize (place - last).toNat = j at *
        have e1 : kept = mag * 2 ^ j := by omega
        rw [e1]
        push_cast
        constructor <;> grind
      · have ed : (place - last).toNat = 0 := by omega
        rw [ed] at hc
        rw [p2_split place last (by omega)]
        generalize (last - place).toNat = j at *
        rw [Nat.pow_zero, Nat.mul_one] at hc
        have c1 : ((2 * (kept * 2 ^ j) : Nat) : Rat) ≤ ((2 * mag + 2 ^ j : Nat) : Rat) := by exact_mod_cast hc.1
        have c2 : ((2 * mag : Nat) : Rat) ≤ ((2 * (kept * 2 ^ j) + 2 ^ j : Nat) : Rat) := by exact_mod_cast hc.2
        have d1 := Rat.mul_le_mul_of_nonneg_right c1 (Rat.le_of_lt hPp)
        have d2 := Rat.mul_le_mul_of_nonneg_right c2 (Rat.le_of_lt hPp)
        push_cast at d1 d2 ⊢
        constructor <;> grind
    have hkl : kept ≤ 9007199254740992 := by
      have w1 : p2 (((L + 1 : Nat) : Int) + place) ≤ p2 (((53 : Nat) : Int) + last) := p2_le (by omega)
      rw [p2_add, p2_add, p2_nat, p2_nat] at w1
      rw [p2_add, p2_nat] at v2
      have : kept ≤ 2 ^ 53 := half_le hP (by grind)
      exact this
    have hkg : (last - (-1074)).toNat = 0 ∨ 4503599627370496 ≤ kept := by
      by_cases g : last = -1074
      · left; omega
      · right
        have w1 : p2 (((52 : Nat) : Int) + last) ≤ p2 ((L : Int) + place) := p2_le (by omega)
        rw [p2_add, p2_nat] at w1
        have : 2 ^ 52 ≤ kept := half_le hP (by grind)
        exact this
    have hr := is_rung neg (last - (-1074)).toNat kept (by omega) hkl hkg
    have el : (((last - (-1074)).toNat : Nat) : Int) - 1074 = last := by omega
    rw [el] at hr
    have hu : (mag : Rat) * p2 place ≤ p2 (53 + last) := by
      have w1 : p2 (((L + 1 : Nat) : Int) + place) ≤ p2 (53 + last) := p2_le (by omega)
      grind
    refine ⟨_, hr, last, kept, rfl, hv.1, hv.2, by omega, ?_, hu⟩
    by_cases g : last = -1074
    · exact Or.inl g
    · right
      have w1 : p2 (52 + last) ≤ p2 ((L : Int) + place) := p2_le (by omega)
      grind

end Go.Proofs.Ytmgdicpcljippac
