/- FloA, FloB, FloC, FloD, one behind the other. -/
import Derived.Laws.FloatArith
/- Plain facts: powers of two among the rationals; what it is to be the float64 nearest to a number; that the model's rounding is that. -/
namespace Go.Proofs.Ytnfgdhnoidpncaa

/-- Two to the power k. -/
def p2 (k : Int) : Rat := (2 : Rat) ^ k

theorem p2_pos (k : Int) : 0 < p2 k := Rat.zpow_pos (by decide)
theorem p2_add (a b : Int) : p2 (a + b) = p2 a * p2 b := Rat.zpow_add (by decide) a b
theorem p2_nat (n : Nat) : p2 n = ((2 ^ n : Nat) : Rat) := by
  unfold p2
  rw [Rat.zpow_natCast, Rat.natCast_pow]
  rfl
theorem p2_zero : p2 0 = 1 := by rw [show (0 : Int) = ((0 : Nat) : Int) from rfl, p2_nat]; rfl
theorem p2_split (a b : Int) (h : a ≤ b) : p2 b = ((2 ^ (b - a).toNat : Nat) : Rat) * p2 a := by
  rw [← p2_nat, ← p2_add]
  congr 1; omega
theorem one_le_pow (n : Nat) : (1 : Rat) ≤ ((2 ^ n : Nat) : Rat) := by
  have := Nat.two_pow_pos n
  exact_mod_cast this
theorem p2_le {a b : Int} (h : a ≤ b) : p2 a ≤ p2 b := by
  rw [p2_split a b h]
  have h1 := one_le_pow (b - a).toNat
  have h2 := p2_pos a
  have h3 := Rat.mul_le_mul_of_nonneg_right h1 (Rat.le_of_lt h2)
  grind
theorem p2_lt {a b : Int} (h : a < b) : p2 a < p2 b := by
  have h1 : p2 (a + 1) ≤ p2 b := p2_le (by omega)
  rw [p2_add] at h1
  have h2 := p2_pos a
  have h3 : p2 1 = 2 := by rw [show (1 : Int) = ((1 : Nat) : Int) from rfl, p2_nat]; rfl
  rw [h3] at h1
  grind
theorem p2_lt_iff {a b : Int} (h : p2 a < p2 b) : a < b := by
  apply Int.lt_of_not_ge
  intro hc
  have := p2_le hc
  grind
theorem cancel_le {a b P : Rat} (hP : 0 < P) (h : a * P ≤ b * P) : a ≤ b := Rat.le_of_mul_le_mul_right h hP
theorem cancel_lt {a b P : Rat} (hP : 0 < P) (h : a * P < b * P) : a < b := by
  apply Rat.not_le.1
  intro hc
  have := Rat.mul_le_mul_of_nonneg_right hc (Rat.le_of_lt hP)
  grind

/-- R is a float64 nearest to V (neither is below nought). -/
def Near (R V : Rat) : Prop :=
  ∃ (last : Int) (kept : Nat), R = kept * p2 last ∧ 2 * R ≤ 2 * V + p2 last ∧ 2 * V ≤ 2 * R + p2 last ∧ -1074 ≤ last ∧ (last = -1074 ∨ p2 (52 + last) ≤ V) ∧ V ≤ p2 (53 + last)

theorem half_le {a b : Nat} {P : Rat} (hP : 0 < P) (h : 2 * ((a : Rat) * P) ≤ 2 * ((b : Rat) * P) + P) : a ≤ b := by
  have h1 : ((2 * a : Nat) : Rat) * P ≤ ((2 * b + 1 : Nat) : Rat) * P := by
    push_cast
    grind
  have h2 := cancel_le hP h1
  have h3 : 2 * a ≤ 2 * b + 1 := by exact_mod_cast h2
  omega

theorem small_lt (k : Nat) (q l : Int) (hk : k < 9007199254740992) (h : q < l) : (k : Rat) * p2 q < p2 (52 + l) := by
  have h1 : p2 (53 + q) ≤ p2 (52 + l) := p2_le (by omega)
  rw [p2_add, show (53 : Int) = ((53 : Nat) : Int) from rfl, p2_nat] at h1
  have h2 : (k : Rat) < ((2 ^ 53 : Nat) : Rat) := by exact_mod_cast hk
  have h3 := Rat.mul_lt_mul_of_pos_right h2 (p2_pos q)
  grind

theorem near_exact {R V : Rat} (hN : Near R V) (k : Nat) (q : Int) (hk : k < 9007199254740992) (hq : -1074 ≤ q) (hV : V = k * p2 q) : R = V := by
  obtain ⟨last, kept, rfl, h1, h2, h3, h4, _⟩ := hN
  have hP := p2_pos last
  by_cases hl : last ≤ q
  · rw [p2_split last q hl] at hV
    have e : V = ((k * 2 ^ (q - last).toNat : Nat) : Rat) * p2 last := by rw [hV]; push_cast; grind
    rw [e] at h1 h2 ⊢
    have a1 := half_le hP h1
    have a2 := half_le hP h2
    rw [Nat.le_antisymm a1 a2]
  · have h5 : p2 (52 + last) ≤ V := by rcases h4 with h | h; omega; exact h
    have h6 := small_lt k q last hk (by omega)
    grind

theorem near_rel {R V : Rat} (hN : Near R V) (h : V = 0 ∨ p2 (-1022) ≤ V) : 9007199254740992 * R ≤ 9007199254740993 * V ∧ 9007199254740991 * V ≤ 9007199254740992 * R := by
  rcases h with h | h
  · have := near_exact hN 0 0 (by omega) (by omega) (by rw [h]; grind)
    subst h
    rw [this]
    constructor <;> grind
  · obtain ⟨last, kept, _, h1, h2, h3, h4, _⟩ := hN
    have h5 : p2 (52 + last) ≤ V := by
      rcases h4 with h4 | h4
      · rw [h4]; exact h
      · exact h4
    rw [p2_add, show (52 : Int) = ((52 : Nat) : Int) from rfl, p2_nat] at h5
    have e : ((2 ^ 52 : Nat) : Rat) = 4503599627370496 := by rfl
    rw [e] at h5
    constructor <;> grind

theorem near_ge {R V : Rat} (hN : Near R V) (k : Nat) (q : Int) (hk : k < 9007199254740992) (h : (k : Rat) * p2 q ≤ V) (hq : -1074 ≤ q) : (k : Rat) * p2 q ≤ R := by
  obtain ⟨last, kept, rfl, h1, h2, h3, h4, _⟩ := hN
  have hP := p2_pos last
  by_cases hl : last ≤ q
  · rw [p2_split last q hl] at h ⊢
    have e : (k : Rat) * (((2 ^ (q - last).toNat : Nat) : Rat) * p2 last) = ((k * 2 ^ (q - last).toNat : Nat) : Rat) * p2 last := by push_cast; grind
    rw [e] at h ⊢
    have a2 : k * 2 ^ (q - last).toNat ≤ kept := half_le hP (by grind)
    exact Rat.mul_le_mul_of_nonneg_right (by exact_mod_cast a2) (Rat.le_of_lt hP)
  · have h5 : p2 (52 + last) ≤ V := by rcases h4 with h | h; omega; exact h
    have h6 := small_lt k q last hk (by omega)
    rw [p2_add, show (52 : Int) = ((52 : Nat) : Int) from rfl, p2_nat] at h5 h6
    have a2 : 2 ^ 52 ≤ kept := half_le hP (by grind)
    have a3 : ((2 ^ 52 : Nat) : Rat) * p2 last ≤ (kept : Rat) * p2 last := Rat.mul_le_mul_of_nonneg_right (by exact_mod_cast a2) (Rat.le_of_lt hP)
    grind

theorem near_le {R V : Rat} (hN : Near R V) (k : Nat) (q : Int) (hk : k < 9007199254740992) (h : V ≤ (k : Rat) * p2 q) (hq : -1074 ≤ q) : R ≤ (k : Rat) * p2 q := by
  obtain ⟨last, kept, rfl, h1, h2, h3, h4, _⟩ := hN
  have hP := p2_pos last
  by_cases hl : last ≤ q
  · rw [p2_split last q hl] at h ⊢
    have e : (k : Rat) * (((2 ^ (q - last).toNat : Nat) : Rat) * p2 last) = ((k * 2 ^ (q - last).toNat : Nat) : Rat) * p2 last := by push_cast; grind
    rw [e] at h ⊢
    have a2 : kept ≤ k * 2 ^ (q - last).toNat := half_le hP (by grind)
    exact Rat.mul_le_mul_of_nonneg_right (by exact_mod_cast a2) (Rat.le_of_lt hP)
  · have h5 : p2 (52 + last) ≤ V := by rcases h4 with h | h; omega; exact h
    have h6 := small_lt k q last hk (by omega)
    grind

theorem near_nonneg {R V : Rat} (hN : Near R V) : 0 ≤ R := by
  obtain ⟨last, kept, rfl, _⟩ := hN
  have : (0 : Rat) ≤ kept := by exact_mod_cast Nat.zero_le kept
  exact Rat.mul_nonneg this (Rat.le_of_lt (p2_pos last))

/-- Half a unit is the most that a cut to the even one takes or gives. -/
theorem cut_half (neg : Bool) (n drop : Nat) : 2 * (Ieee.Toward.even.cut neg n drop * 2 ^ drop) ≤ 2 * n + 2 ^ drop ∧ 2 * n ≤ 2 * (Ieee.Toward.even.cut neg n drop * 2 ^ drop) + 2 ^ drop := by
  unfold Ieee.Toward.cut
  by_cases h : drop ≤ n.log2 + 2
  · rw [Nat.min_eq_left h, Nat.one_shiftLeft]
    dsimp only
    have hp := Nat.two_pow_pos drop
    have e := Nat.div_add_mod n (2 ^ drop)
    have hl := Nat.mod_lt n hp
    generalize n % 2 ^ drop = r at *
    generalize n / 2 ^ drop = q at *
    generalize 2 ^ drop = G at *
    subst e
    have hc : G * q = q * G := Nat.mul_comm _ _
    rw [hc]
    by_cases h1 : G < 2 * r
    · rw [decide_eq_true h1]
      simp only [Bool.true_or, Bool.toNat_true, Nat.add_mul, Nat.one_mul]
      generalize q * G = X
      omega
    · rw [decide_eq_false h1]
      by_cases h2 : G = 2 * r
      · subst h2
        rcases (by omega : q % 2 = 0 ∨ q % 2 = 1) with h3 | h3 <;> simp [h3, Nat.add_mul] <;> generalize q * (2 * r) = X <;> omega
      · have : (G == 2 * r) = false := by simp [h2]
        simp only [this, Bool.false_or, Bool.false_and, Bool.toNat_false, Nat.add_zero]
        generalize q * G = X
        omega
  · have hn : n < 2 ^ (n.log2 + 1) := Nat.lt_log2_self
    have h1 : 2 ^ (n.log2 + 1) * 2 = 2 ^ (n.log2 + 2) := by rw [← Nat.pow_succ]
    have h2 : 2 ^ (n.log2 + 2) ≤ 2 ^ drop := Nat.pow_le_pow_right (by omega) (by omega)
    rw [Nat.min_eq_right (by omega), Nat.one_shiftLeft]
    dsimp only
    have e1 : n / 2 ^ (n.log2 + 2) = 0 := Nat.div_eq_of_lt (by omega)
    have e2 : n % 2 ^ (n.log2 + 2) = n := Nat.mod_eq_of_lt (by omega)
    rw [e1, e2]
    generalize 2 ^ (n.log2 + 2) = G at *
    generalize 2 ^ drop = D at *
    rw [decide_eq_false (by omega : ¬ G < 2 * n)]
    simp
    omega

def sg (s : Bool) (v : Rat) : Rat := if s then -v else v
/-- The number that sign, magnitude and place make. -/
def vl (s : Bool) (m : Nat) (p : Int) : Rat := sg s (m * p2 p)

/-- The float64 with these bits is the number v. -/
def Is (b : Nat) (v : Rat) : Prop := b < 18446744073709551616 ∧ ∃ s m p, Ieee.double.read b = .number s m p ∧ vl s m p = v

theorem word_of (neg : Bool) (r : Nat) : Ieee.double.word neg r = (if neg then 9223372036854775808 else 0) + r := by
  unfold Ieee.Format.word
  cases neg
  · rw [if_neg (by decide), if_neg (by decide)]; omega
  · rw [if_pos rfl, if_pos rfl]; rfl

theorem read_word (neg : Bool) (r : Nat) (h : r < 9218868437227405312) : Ieee.double.read (Ieee.double.word neg r) =
    if r < 4503599627370496 then .number neg r (-1074) else .number neg (4503599627370496 + r % 4503599627370496) (-1074 + (r / 4503599627370496 - 1 : Nat)) := by
  rw [word_of]
  show (if ((if neg then 9223372036854775808 else 0) + r) % 9223372036854775808 < 4503599627370496 then Ieee.Datum.number (((if neg then 9223372036854775808 else 0) + r) / 9223372036854775808 % 2 == 1) (((if neg then 9223372036854775808 else 0) + r) % 9223372036854775808) (-1074) else if ((if neg then 9223372036854775808 else 0) + r) % 9223372036854775808 < 9218868437227405312 then
    Ieee.Datum.number (((if neg then 9223372036854775808 else 0) + r) / 9223372036854775808 % 2 == 1) (4503599627370496 + ((if neg then 9223372036854775808 else 0) + r) % 9223372036854775808 % 4503599627370496) (-1074 + (((if neg then 9223372036854775808 else 0) + r) % 9223372036854775808 / 4503599627370496 - 1 : Nat)) else _) = _
  have e1 : ((if neg then 9223372036854775808 else 0) + r) % 9223372036854775808 = r := by cases neg <;> simp <;> omega
  have e2 : (((if neg then 9223372036854775808 else 0) + r) / 9223372036854775808 % 2 == 1) = neg := by
    cases neg
    · simp; omega
    · simp; omega
  rw [e1, e2, if_pos h]

/-- A rung's number. -/
theorem is_rung (neg : Bool) (i kept : Nat) (hi : i ≤ 2044) (hk : kept ≤ 9007199254740992) (h : i = 0 ∨ 4503599627370496 ≤ kept) :
    Is (Ieee.double.word neg (min (i * 4503599627370496 + kept) 9218868437227405312)) (sg neg (kept * p2 ((i : Int) - 1074))) := by
  have hr : i * 4503599627370496 + kept < 9218868437227405312 := by omega
  rw [Nat.min_eq_left (Nat.le_of_lt hr)]
  refine ⟨?_, ?_⟩
  · rw [word_of]; cases neg <;> simp <;> omega
  · rw [read_word _ _ hr]
    by_cases h1 : i * 4503599627370496 + kept < 4503599627370496
    · rw [if_pos h1]
      have : i = 0 := by omega
      subst this
      refine ⟨_, _, _, rfl, ?_⟩
      unfold vl
      congr 2; congr 1; omega
    · rw [if_neg h1]
      refine ⟨_, _, _, rfl, ?_⟩
      unfold vl
      congr 1
      by_cases h2 : kept = 9007199254740992
      · subst h2
        have d1 : (i * 4503599627370496 + 9007199254740992) / 4503599627370496 = i + 2 := by omega
        have d2 : (i * 4503599627370496 + 9007199254740992) % 4503599627370496 = 0 := by omega
        rw [d1, d2]
        have : (-1074 + ((i + 2 - 1 : Nat) : Int)) = ((i : Int) - 1074) + ((1 : Nat) : Int) := by omega
        rw [this, p2_add, p2_nat]
        have e1 : ((4503599627370496 + 0 : Nat) : Rat) = 4503599627370496 := by rfl
        have e2 : ((9007199254740992 : Nat) : Rat) = 9007199254740992 := by rfl
        have e3 : ((2 ^ 1 : Nat) : Rat) = 2 := by rfl
        rw [e1, e2, e3]
        grind
      · have g1 : 4503599627370496 ≤ kept := by omega
        have d1 : (i * 4503599627370496 + kept) / 4503599627370496 = i + 1 := by omega
        have d2 : (i * 4503599627370496 + kept) % 4503599627370496 = kept - 4503599627370496 := by omega
        rw [d1, d2, show 4503599627370496 + (kept - 4503599627370496) = kept by omega]
        congr 2

/-- The model's rounding is to a nearest one. -/
theorem nearest_near (neg : Bool) (mag : Nat) (place : Int) (h : (mag : Rat) * p2 place < p2 1023) :
    ∃ R, Is (Ieee.double.nearest neg mag place) (sg neg R) ∧ Near R (mag * p2 place) := by
  by_cases h0 : mag = 0
  · subst h0
    refine ⟨0, ?_, -1074, 0, ?_⟩
    · have hr := is_rung neg 0 0 (by omega) (by omega) (Or.inl rfl)
      have e : Ieee.double.nearest neg 0 place = Ieee.double.word neg (min (0 * 4503599627370496 + 0) 9218868437227405312) := by
        unfold Ieee.Format.nearest; rw [if_pos rfl]; rfl
      rw [e]
      have e2 : ((0 : Nat) : Rat) * p2 (((0 : Nat) : Int) - 1074) = 0 := by grind
      rw [e2] at hr
      exact hr
    · have hP := p2_pos (-1074)
      have hQ := p2_pos (53 + -1074)
      refine ⟨by grind, by grind, by grind, by omega, Or.inl rfl, by grind⟩
  · have l1 : 2 ^ mag.log2 ≤ mag := Nat.log2_self_le h0
    have l2 : mag < 2 ^ (mag.log2 + 1) := Nat.lt_log2_self
    generalize hL : mag.log2 = L at *
    have hPp := p2_pos place
    have v1 : p2 ((L : Int) + place) ≤ mag * p2 place := by
      rw [p2_add, p2_nat]
      exact Rat.mul_le_mul_of_nonneg_right (by exact_mod_cast l1) (Rat.le_of_lt hPp)
    have v2 : (mag : Rat) * p2 place < p2 (((L + 1 : Nat) : Int) + place) := by
      rw [p2_add, p2_nat]
      exact Rat.mul_lt_mul_of_pos_right (by exact_mod_cast l2) hPp
    have hLp : (L : Int) + place < 1023 := p2_lt_iff (by grind)
    obtain ⟨last, hlast⟩ : ∃ last : Int, last = max (place + L - 52) (-1074) := ⟨_, rfl⟩
    have ef : Ieee.double.nearest neg mag place = Ieee.double.word neg (min ((last - (-1074)).toNat * 4503599627370496 + Ieee.Toward.even.cut neg (mag <<< (place - last).toNat) (last - place).toNat) 9218868437227405312) := by
      rw [hlast, ← hL]
      unfold Ieee.Format.nearest
      rw [if_neg h0]
      rfl
    have hc := cut_half neg (mag <<< (place - last).toNat) (last - place).toNat
    rw [ef]
    generalize hk : Ieee.Toward.even.cut neg (mag <<< (place - last).toNat) (last - place).toNat = kept at hc
    rw [Nat.shiftLeft_eq] at hc
    have hP := p2_pos last
    -- the kept digits are half a unit off at most
    have hv : 2 * ((kept : Rat) * p2 last) ≤ 2 * ((mag : Rat) * p2 place) + p2 last ∧ 2 * ((mag : Rat) * p2 place) ≤ 2 * ((kept : Rat) * p2 last) + p2 last := by
      by_cases hpl : last ≤ place
      · have ed : (last - place).toNat = 0 := by omega
        rw [ed] at hc
        rw [p2_split last place hpl]
        generalize (place - last).toNat = j at *
        have e1 : kept = mag * 2 ^ j := by omega
        rw [e1]
        push_cast
        constructor <;> grind
      · have ed : (place - last).toNat = 0 := by omega
        rw [ed] at hc
        rw [p2_split place last (by omega)]
        generalize (last - place).toNat = j at *
        rw [Nat.pow_zero, Nat.mul_one] at hc
        have c1 : ((2 * (kept * 2 ^ j) : Nat) : Rat) ≤ ((2 * mag + 2 ^ j : Nat) : Rat) := by exact_mod_cast hc.1
        have c2 : ((2 * mag : Nat) : Rat) ≤ ((2 * (kept * 2 ^ j) + 2 ^ j : Nat) : Rat) := by exact_mod_cast hc.2
        have d1 := Rat.mul_le_mul_of_nonneg_right c1 (Rat.le_of_lt hPp)
        have d2 := Rat.mul_le_mul_of_nonneg_right c2 (Rat.le_of_lt hPp)
        push_cast at d1 d2 ⊢
        constructor <;> grind
    have hkl : kept ≤ 9007199254740992 := by
      have w1 : p2 (((L + 1 : Nat) : Int) + place) ≤ p2 (((53 : Nat) : Int) + last) := p2_le (by omega)
      rw [p2_add, p2_add, p2_nat, p2_nat] at w1
      rw [p2_add, p2_nat] at v2
      have : kept ≤ 2 ^ 53 := half_le hP (by grind)
      exact this
    have hkg : (last - (-1074)).toNat = 0 ∨ 4503599627370496 ≤ kept := by
      by_cases g : last = -1074
      · left; omega
      · right
        have w1 : p2 (((52 : Nat) : Int) + last) ≤ p2 ((L : Int) + place) := p2_le (by omega)
        rw [p2_add, p2_nat] at w1
        have : 2 ^ 52 ≤ kept := half_le hP (by grind)
        exact this
    have hr := is_rung neg (last - (-1074)).toNat kept (by omega) hkl hkg
    have el : (((last - (-1074)).toNat : Nat) : Int) - 1074 = last := by omega
    rw [el] at hr
    have hu : (mag : Rat) * p2 place ≤ p2 (53 + last) := by
      have w1 : p2 (((L + 1 : Nat) : Int) + place) ≤ p2 (53 + last) := p2_le (by omega)
      grind
    refine ⟨_, hr, last, kept, rfl, hv.1, hv.2, by omega, ?_, hu⟩
    by_cases g : last = -1074
    · exact Or.inl g
    · right
      have w1 : p2 (52 + last) ≤ p2 ((L : Int) + place) := p2_le (by omega)
      grind

end Go.Proofs.Ytnfgdhnoidpncaa

/- Plain facts: sums, differences, products, quotients and roots of float64s by the numbers that they are: the nearest float64 to the true one; comparisons. -/
namespace Go.Proofs.Ytnfgdhnoidpncaa

theorem sg_neg (s : Bool) (v : Rat) : sg (!s) v = - sg s v := by cases s <;> simp [sg]
theorem sg_xor (s t : Bool) (u v : Rat) : sg (s ^^ t) (u * v) = sg s u * sg t v := by cases s <;> cases t <;> simp [sg] <;> grind

/-- R is a float64 nearest to z. -/
def Rnd (R z : Rat) : Prop := (0 ≤ z ∧ Near R z) ∨ (z ≤ 0 ∧ Near (-R) (-z))

theorem cast_nonneg (m : Nat) : (0 : Rat) ≤ m := by exact_mod_cast Nat.zero_le m
theorem vl_abs (m : Nat) (p : Int) : (0 : Rat) ≤ m * p2 p := Rat.mul_nonneg (cast_nonneg m) (Rat.le_of_lt (p2_pos p))

theorem write_is (s : Bool) (m : Nat) (p : Int) (h1 : -p2 1023 < vl s m p) (h2 : vl s m p < p2 1023) : ∃ R, Is (Ieee.double.write (.number s m p)) R ∧ Rnd R (vl s m p) := by
  have h0 := vl_abs m p
  have hb : (m : Rat) * p2 p < p2 1023 := by
    unfold vl sg at h1 h2
    cases s <;> simp at h1 h2 <;> grind
  obtain ⟨R, hR, hN⟩ := nearest_near s m p hb
  refine ⟨_, hR, ?_⟩
  unfold vl
  cases s
  · exact Or.inl ⟨h0, hN⟩
  · refine Or.inr ⟨by simp only [sg, if_true]; grind, ?_⟩
    simp only [sg, if_true]
    rw [show - -R = R by grind, show - -((m : Rat) * p2 p) = m * p2 p by grind]
    exact hN

theorem signed_rat (s : Bool) (m up : Nat) : ((Ieee.signed s m up : Int) : Rat) = sg s (m * ((2 ^ up : Nat) : Rat)) := by
  unfold Ieee.signed sg
  rw [Nat.shiftLeft_eq]
  cases s
  · rw [if_neg (by decide), if_neg (by decide), Rat.intCast_natCast]
    push_cast; rfl
  · rw [if_pos rfl, if_pos rfl, Rat.intCast_neg, Rat.intCast_natCast]
    push_cast; rfl

theorem abs_vl (c : Bool) (t : Int) (p : Int) : vl (if t = 0 then c else t < 0) t.natAbs p = (t : Rat) * p2 p := by
  unfold vl sg
  by_cases h : t = 0
  · subst h
    cases c <;> simp <;> grind
  · rw [if_neg h]
    by_cases h1 : t < 0
    · have e : ((t.natAbs : Nat) : Rat) = -(t : Rat) := by
        have : ((t.natAbs : Nat) : Int) = -t := by omega
        have h2 : (((t.natAbs : Nat) : Int) : Rat) = ((-t : Int) : Rat) := by rw [this]
        rw [Rat.intCast_natCast, Rat.intCast_neg] at h2
        exact h2
      rw [e]
      simp [h1]
      grind
    · have e : ((t.natAbs : Nat) : Rat) = (t : Rat) := by
        have : ((t.natAbs : Nat) : Int) = t := by omega
        have h2 : (((t.natAbs : Nat) : Int) : Rat) = (t : Rat) := by rw [this]
        rw [Rat.intCast_natCast] at h2
        exact h2
      rw [e]
      simp [h1]

theorem signed_vl (s : Bool) (m : Nat) (i base : Int) (h : base ≤ i) : ((Ieee.signed s m (i - base).toNat : Int) : Rat) * p2 base = vl s m i := by
  rw [signed_rat]
  unfold vl
  rw [p2_split base i h]
  cases s <;> simp [sg] <;> grind

theorem sum_vl (s t : Bool) (m n : Nat) (i j : Int) : ∃ s' m' p', Ieee.Datum.sum (.number s m i) (.number t n j) = some (.number s' m' p') ∧ vl s' m' p' = vl s m i + vl t n j := by
  refine ⟨_, _, _, rfl, ?_⟩
  rw [abs_vl, ← signed_vl s m i (min i j) (by omega), ← signed_vl t n j (min i j) (by omega), Rat.intCast_add]
  grind

theorem add_is {x y : Nat} {u v : Rat} (hx : Is x u) (hy : Is y v) (h1 : -p2 1023 < u + v) (h2 : u + v < p2 1023) :
    ∃ r R, floatBits .add .f64 x y = some r ∧ Is r R ∧ Rnd R (u + v) := by
  obtain ⟨_, s, m, i, ex, rfl⟩ := hx
  obtain ⟨_, t, n, j, ey, rfl⟩ := hy
  obtain ⟨s', m', p', e, ev⟩ := sum_vl s t m n i j
  rw [← ev] at h1 h2 ⊢
  obtain ⟨R, hR, hN⟩ := write_is s' m' p' h1 h2
  refine ⟨_, R, ?_, hR, hN⟩
  show ((Ieee.double.read x).sum (Ieee.double.read y)).map Ieee.double.write = _
  rw [ex, ey, e]; rfl

theorem sub_is {x y : Nat} {u v : Rat} (hx : Is x u) (hy : Is y v) (h1 : -p2 1023 < u - v) (h2 : u - v < p2 1023) :
    ∃ r R, floatBits .sub .f64 x y = some r ∧ Is r R ∧ Rnd R (u - v) := by
  obtain ⟨_, s, m, i, ex, rfl⟩ := hx
  obtain ⟨_, t, n, j, ey, rfl⟩ := hy
  obtain ⟨s', m', p', e, ev⟩ := sum_vl s (!t) m n i j
  have en : vl s m i - vl t n j = vl s m i + vl (!t) n j := by unfold vl; rw [sg_neg]; grind
  rw [en, ← ev] at h1 h2 ⊢
  obtain ⟨R, hR, hN⟩ := write_is s' m' p' h1 h2
  refine ⟨_, R, ?_, hR, hN⟩
  show ((Ieee.double.read x).sum (Ieee.double.read y).opposite).map Ieee.double.write = _
  rw [ex, ey]
  show ((Ieee.Datum.number s m i).sum (.number (!t) n j)).map Ieee.double.write = _
  rw [e]; rfl

theorem prod_vl (s t : Bool) (m n : Nat) (i j : Int) : vl (s ^^ t) (m * n) (i + j) = vl s m i * vl t n j := by
  unfold vl
  rw [← sg_xor, p2_add]
  congr 1
  push_cast
  grind

theorem mul_is {x y : Nat} {u v : Rat} (hx : Is x u) (hy : Is y v) (h1 : -p2 1023 < u * v) (h2 : u * v < p2 1023) :
    ∃ r R, floatBits .mul .f64 x y = some r ∧ Is r R ∧ Rnd R (u * v) := by
  obtain ⟨_, s, m, i, ex, rfl⟩ := hx
  obtain ⟨_, t, n, j, ey, rfl⟩ := hy
  rw [← prod_vl] at h1 h2 ⊢
  obtain ⟨R, hR, hN⟩ := write_is _ _ _ h1 h2
  refine ⟨_, R, ?_, hR, hN⟩
  show ((Ieee.double.read x).product (Ieee.double.read y)).map Ieee.double.write = _
  rw [ex, ey]; rfl

/-- A last digit that only tells that something is left over does not change the rounding. -/
theorem sticky (neg : Bool) (q st : Nat) (place : Int) (hq : 9007199254740992 ≤ q) (hs : st ≤ 1) (h : ((2 * q + st : Nat) : Rat) * p2 place < p2 1023) :
    ∃ R, Is (Ieee.double.nearest neg (2 * q + st) place) (sg neg R) ∧ ∀ z, (q : Rat) * p2 (place + 1) ≤ z → z ≤ ((q + st : Nat) : Rat) * p2 (place + 1) → Near R z := by
  obtain ⟨R, hR, hN⟩ := nearest_near neg _ place h
  refine ⟨R, hR, ?_⟩
  have hU := p2_pos (place + 1)
  have eU : p2 (place + 1) = 2 * p2 place := by
    rw [p2_add, show (1 : Int) = ((1 : Nat) : Int) from rfl, p2_nat]
    have : ((2 ^ 1 : Nat) : Rat) = 2 := by rfl
    rw [this]; grind
  intro z z1 z2
  rcases (by omega : st = 0 ∨ st = 1) with rfl | rfl
  · have : z = ((2 * q + 0 : Nat) : Rat) * p2 place := by
      rw [eU] at z1 z2
      push_cast at z1 z2 ⊢
      grind
    rw [this]; exact hN
  · obtain ⟨last, kept, hk, h1, h2, h3, h4, h5⟩ := hN
    have hl : place + 2 ≤ last := by
      have w : p2 (place + 54) < p2 (53 + last) := by
        have e : p2 (place + 54) = ((2 ^ 54 : Nat) : Rat) * p2 place := by
          rw [p2_add, show (54 : Int) = ((54 : Nat) : Int) from rfl, p2_nat]; grind
        have hlt : ((2 ^ 54 : Nat) : Rat) < ((2 * q + 1 : Nat) : Rat) := by
          have : 2 ^ 54 < 2 * q + 1 := by omega
          exact_mod_cast this
        have := Rat.mul_lt_mul_of_pos_right hlt (p2_pos place)
        grind
      have := p2_lt_iff w
      omega
    obtain ⟨j, hj⟩ : ∃ j : Nat, last = (place + 1) + ((j + 1 : Nat) : Int) := ⟨(last - place - 2).toNat, by omega⟩
    have eP : p2 last = ((2 ^ (j + 1) : Nat) : Rat) * p2 (place + 1) := by rw [hj, p2_add, p2_nat]; grind
    have e52 : p2 (52 + last) = ((2 ^ 52 : Nat) : Rat) * p2 last := by rw [p2_add, show (52 : Int) = ((52 : Nat) : Int) from rfl, p2_nat]
    have e53 : p2 (53 + last) = ((2 ^ 53 : Nat) : Rat) * p2 last := by rw [p2_add, show (53 : Int) = ((53 : Nat) : Int) from rfl, p2_nat]
    rw [hk] at h1 h2
    rw [e52] at h4
    rw [e53] at h5
    rw [eP] at h1 h2 h4 h5
    have ep : p2 (place + 1) = p2 place * 2 := by rw [eU]; grind
    have hp0 := p2_pos place
    rw [ep] at h1 h2 h4 h5
    have n1 : 4 * (kept * 2 ^ (j + 1)) ≤ 2 * (2 * q + 1) + 2 * 2 ^ (j + 1) := by
      have : ((4 * (kept * 2 ^ (j + 1)) : Nat) : Rat) ≤ ((2 * (2 * q + 1) + 2 * 2 ^ (j + 1) : Nat) : Rat) := cancel_le hp0 (by push_cast at h1 ⊢; grind)
      exact_mod_cast this
    have n2 : 2 * (2 * q + 1) ≤ 4 * (kept * 2 ^ (j + 1)) + 2 * 2 ^ (j + 1) := by
      have : ((2 * (2 * q + 1) : Nat) : Rat) ≤ ((4 * (kept * 2 ^ (j + 1)) + 2 * 2 ^ (j + 1) : Nat) : Rat) := cancel_le hp0 (by push_cast at h2 ⊢; grind)
      exact_mod_cast this
    have n5 : 2 * q + 1 ≤ 2 * (2 ^ 53 * 2 ^ (j + 1)) := by
      have : ((2 * q + 1 : Nat) : Rat) ≤ ((2 * (2 ^ 53 * 2 ^ (j + 1)) : Nat) : Rat) := cancel_le hp0 (by push_cast at h5 ⊢; grind)
      exact_mod_cast this
    have n4 : last = -1074 ∨ 2 * (2 ^ 52 * 2 ^ (j + 1)) ≤ 2 * q + 1 := by
      rcases h4 with h4 | h4
      · exact Or.inl h4
      · right
        have : ((2 * (2 ^ 52 * 2 ^ (j + 1)) : Nat) : Rat) ≤ ((2 * q + 1 : Nat) : Rat) := cancel_le hp0 (by push_cast at h4 ⊢; grind)
        exact_mod_cast this
    have ej : 2 ^ (j + 1) = 2 * 2 ^ j := by rw [Nat.pow_succ]; omega
    have ek : kept * 2 ^ (j + 1) = 2 * (kept * 2 ^ j) := by rw [ej]; exact Nat.mul_left_comm _ _ _
    have m1 : 2 * (kept * 2 ^ (j + 1)) ≤ 2 * q + 2 ^ (j + 1) := by
      rw [ek, ej] at n1 ⊢
      generalize kept * 2 ^ j = K at *
      generalize 2 ^ j = J at *
      omega
    have m2 : 2 * (q + 1) ≤ 2 * (kept * 2 ^ (j + 1)) + 2 ^ (j + 1) := by
      rw [ek, ej] at n2 ⊢
      generalize kept * 2 ^ j = K at *
      generalize 2 ^ j = J at *
      omega
    refine ⟨last, kept, hk, ?_, ?_, h3, ?_, ?_⟩
    · rw [hk, eP]
      have c : ((2 * (kept * 2 ^ (j + 1)) : Nat) : Rat) ≤ ((2 * q + 2 ^ (j + 1) : Nat) : Rat) := by exact_mod_cast m1
      have := Rat.mul_le_mul_of_nonneg_right c (Rat.le_of_lt hU)
      push_cast at this ⊢
      grind
    · rw [hk, eP]
      have c : ((2 * (q + 1) : Nat) : Rat) ≤ ((2 * (kept * 2 ^ (j + 1)) + 2 ^ (j + 1) : Nat) : Rat) := by exact_mod_cast m2
      have := Rat.mul_le_mul_of_nonneg_right c (Rat.le_of_lt hU)
      push_cast at this z2 ⊢
      grind
    · rcases n4 with n4 | n4
      · exact Or.inl n4
      · right
        rw [e52, eP]
        have m4 : 2 ^ 52 * 2 ^ (j + 1) ≤ q := by omega
        have c : ((2 ^ 52 * 2 ^ (j + 1) : Nat) : Rat) ≤ ((q : Nat) : Rat) := by exact_mod_cast m4
        have := Rat.mul_le_mul_of_nonneg_right c (Rat.le_of_lt hU)
        push_cast at this ⊢
        grind
    · rw [e53, eP]
      have m5 : q + 1 ≤ 2 ^ 53 * 2 ^ (j + 1) := by omega
      have c : ((q + 1 : Nat) : Rat) ≤ ((2 ^ 53 * 2 ^ (j + 1) : Nat) : Rat) := by exact_mod_cast m5
      have := Rat.mul_le_mul_of_nonneg_right c (Rat.le_of_lt hU)
      push_cast at this z2 ⊢
      grind

end Go.Proofs.Ytnfgdhnoidpncaa

/- Plain facts: quotients and roots of float64s are the nearest to the true ones; how float64s compare; what rounding keeps. -/
namespace Go.Proofs.Ytnfgdhnoidpncaa

theorem p2_twice (k : Int) : p2 (k + 1) = 2 * p2 k := by
  rw [p2_add, show (1 : Int) = ((1 : Nat) : Int) from rfl, p2_nat]
  have : ((2 ^ 1 : Nat) : Rat) = 2 := by rfl
  rw [this]; grind

theorem lin4 {q st Q U z S T : Rat} (d3 : (2 * q + st) * Q ≤ 4 * q * Q) (eU : U = 2 * Q) (z1 : q * U ≤ z) (h : z < T) (e3 : S = 2 * T) : (2 * q + st) * Q < S := by
  subst eU e3; grind

theorem quot_floor (m n more : Nat) (hm : m ≠ 0) (hn : n ≠ 0) (h : more = 54 + n.log2 - m.log2) : 9007199254740992 ≤ m * 2 ^ more / n := by
  have a1 : 2 ^ m.log2 ≤ m := Nat.log2_self_le hm
  have a2 : n < 2 ^ (n.log2 + 1) := Nat.lt_log2_self
  rw [Nat.le_div_iff_mul_le (by omega)]
  have b1 : 2 ^ m.log2 * 2 ^ more ≤ m * 2 ^ more := Nat.mul_le_mul_right _ a1
  rw [← Nat.pow_add] at b1
  have b2 : 2 ^ (54 + n.log2) ≤ 2 ^ (m.log2 + more) := Nat.pow_le_pow_right (by omega) (by omega)
  have b3 : 2 ^ 53 * n ≤ 2 ^ 53 * 2 ^ (n.log2 + 1) := Nat.mul_le_mul_left _ (Nat.le_of_lt a2)
  rw [← Nat.pow_add, show 53 + (n.log2 + 1) = 54 + n.log2 by omega] at b3
  have e : (9007199254740992 : Nat) = 2 ^ 53 := by decide
  rw [e]
  exact Nat.le_trans b3 (Nat.le_trans b2 b1)

theorem div_bounds (m n X : Nat) (hn : n ≠ 0) (hX : X = m) : (X / n : Nat) * n ≤ m ∧ m ≤ (X / n + (X % n != 0).toNat) * n := by
  subst hX
  have e := Nat.div_add_mod X n
  have hl := Nat.mod_lt X (Nat.pos_of_ne_zero hn)
  have hc : n * (X / n) = (X / n) * n := Nat.mul_comm _ _
  constructor
  · omega
  · by_cases h : X % n = 0
    · simp [h]; omega
    · have : (X % n != 0) = true := by simp [h]
      rw [this]
      simp only [Bool.toNat_true, Nat.add_mul, Nat.one_mul]
      omega

theorem sg_zero (s : Bool) : sg s 0 = 0 := by cases s <;> simp [sg]
theorem vl_zero (s : Bool) (p : Int) : vl s 0 p = 0 := by
  unfold vl
  rw [show ((0 : Nat) : Rat) = 0 from rfl, Rat.zero_mul, sg_zero]
theorem zero_quot (a b : Rat) : 0 * a / b = 0 := by grind
theorem quot_nonneg {a b : Rat} (ha : 0 ≤ a) (hb : 0 < b) : 0 ≤ a / b := by
  have e : a / b * b = a := by grind
  apply Rat.not_lt.1
  intro h
  have := Rat.mul_lt_mul_of_pos_right h hb
  grind
theorem inv_mul {a b : Rat} (h : b ≠ 0) : a / b * b = a := by grind

/-- The quotient's size, rounded. -/
theorem quot_near (neg : Bool) (m n : Nat) (i j : Int) (hm : m ≠ 0) (hn : n ≠ 0) (h : (m : Rat) * p2 i / ((n : Rat) * p2 j) < p2 1022) :
    ∃ R, Is (Ieee.double.nearest neg (2 * ((m <<< (54 + n.log2 - m.log2)) / n) + ((m <<< (54 + n.log2 - m.log2)) % n != 0).toNat) (i - j - (54 + n.log2 - m.log2 : Nat) - 1)) (sg neg R) ∧
      Near R ((m : Rat) * p2 i / ((n : Rat) * p2 j)) := by
  obtain ⟨more, hmore⟩ : ∃ more, more = 54 + n.log2 - m.log2 := ⟨_, rfl⟩
  rw [← hmore, Nat.shiftLeft_eq]
  have hq := quot_floor m n more hm hn hmore
  have hb := div_bounds (m * 2 ^ more) n _ hn rfl
  generalize hst : ((m * 2 ^ more) % n != 0).toNat = st at *
  have hst1 : st ≤ 1 := by rw [← hst]; exact Bool.toNat_le _
  generalize m * 2 ^ more / n = q at *
  have hnr : (0 : Rat) < n := by
    have : 0 < n := Nat.pos_of_ne_zero hn
    exact_mod_cast this
  have hpj := p2_pos j
  have hpi := p2_pos i
  have hD : (0 : Rat) < (n : Rat) * p2 j := Rat.mul_pos hnr hpj
  have e1 := inv_mul (a := (m : Rat) * p2 i) (b := (n : Rat) * p2 j) (by grind)
  generalize hz : (m : Rat) * p2 i / ((n : Rat) * p2 j) = z at *
  -- z n 2^j = m 2^i; 2^i = 2^more 2^(i-more)
  have ei : p2 i = ((2 ^ more : Nat) : Rat) * p2 (i - more) := by
    rw [← p2_nat, ← p2_add]; congr 1; omega
  have eu : p2 (i - more) = p2 (i - j - more - 1 + 1) * p2 j := by
    rw [← p2_add]; congr 1; omega
  have c1 : ((q * n : Nat) : Rat) ≤ ((m * 2 ^ more : Nat) : Rat) := by exact_mod_cast hb.1
  have c2 : ((m * 2 ^ more : Nat) : Rat) ≤ (((q + st) * n : Nat) : Rat) := by exact_mod_cast hb.2
  have hU := p2_pos (i - j - more - 1 + 1)
  have eU := p2_twice (i - j - more - 1)
  have hS := sticky neg q st (i - j - more - 1) hq hst1
  generalize p2 (i - j - more - 1 + 1) = U at *
  have hUj : 0 < U * p2 j := Rat.mul_pos hU hpj
  have d1 := Rat.mul_le_mul_of_nonneg_right c1 (Rat.le_of_lt hUj)
  have d2 := Rat.mul_le_mul_of_nonneg_right c2 (Rat.le_of_lt hUj)
  have z1 : (q : Rat) * U ≤ z := cancel_le hD (by rw [e1, ei, eu]; push_cast at d1 ⊢; grind)
  have z2 : z ≤ ((q + st : Nat) : Rat) * U := cancel_le hD (by rw [e1, ei, eu]; push_cast at d2 ⊢; grind)
  have hlt : ((2 * q + st : Nat) : Rat) * p2 (i - j - more - 1) < p2 1023 := by
    have e3 := p2_twice 1022
    have c3 : ((2 * q + st : Nat) : Rat) ≤ ((4 * q : Nat) : Rat) := by
      have : 2 * q + st ≤ 4 * q := by omega
      exact_mod_cast this
    have d3 := Rat.mul_le_mul_of_nonneg_right c3 (Rat.le_of_lt (p2_pos (i - j - more - 1)))
    rw [show (1022 : Int) + 1 = 1023 from rfl] at e3
    push_cast at d3 ⊢
    exact lin4 d3 eU z1 h e3
  obtain ⟨R, hR, hN⟩ := hS hlt
  exact ⟨R, hR, hN z z1 z2⟩

theorem div_is {x y : Nat} {u v : Rat} (hx : Is x u) (hy : Is y v) (hv : v ≠ 0) (h1 : -p2 1022 < u / v) (h2 : u / v < p2 1022) :
    ∃ r R, floatBits .quo .f64 x y = some r ∧ Is r R ∧ Rnd R (u / v) := by
  obtain ⟨_, s, m, i, ex, rfl⟩ := hx
  obtain ⟨_, t, n, j, ey, rfl⟩ := hy
  have hn : n ≠ 0 := by
    intro h; subst h
    apply hv
    unfold vl sg
    cases t <;> simp
  have hnr : (0 : Rat) < n := by
    have : 0 < n := Nat.pos_of_ne_zero hn
    exact_mod_cast this
  have hD : (0 : Rat) < (n : Rat) * p2 j := Rat.mul_pos hnr (p2_pos j)
  have ez : vl s m i / vl t n j = sg (s ^^ t) ((m : Rat) * p2 i / ((n : Rat) * p2 j)) := by
    unfold vl
    generalize (n : Rat) * p2 j = D at *
    generalize (m : Rat) * p2 i = M
    cases s <;> cases t <;> simp [sg] <;> grind
  have hz0 : 0 ≤ (m : Rat) * p2 i / ((n : Rat) * p2 j) := quot_nonneg (vl_abs m i) hD
  rw [ez] at h1 h2 ⊢
  have hq : (m : Rat) * p2 i / ((n : Rat) * p2 j) < p2 1022 := by
    unfold sg at h1 h2
    generalize (m : Rat) * p2 i / ((n : Rat) * p2 j) = z at *
    cases hst : (s ^^ t) <;> simp [hst] at h1 h2 <;> grind
  have ed : floatBits .quo .f64 x y = (Ieee.Datum.quotient 54 (.number s m i) (.number t n j)).map Ieee.double.write := by
    show ((Ieee.double.read x).quotient 54 (Ieee.double.read y)).map Ieee.double.write = _
    rw [ex, ey]
  by_cases hm : m = 0
  · subst hm
    have eq : Ieee.Datum.quotient 54 (.number s 0 i) (.number t n j) = some (.number (s ^^ t) 0 (i - j - (54 + n.log2 - Nat.log2 0 : Nat) - 1)) := by
      unfold Ieee.Datum.quotient
      simp [hn]
    rw [ed, eq]
    have e0 := zero_quot (p2 i) ((n : Rat) * p2 j)
    rw [show (((0 : Nat) : Rat) * p2 i / ((n : Rat) * p2 j)) = 0 from e0]
    have hp := p2_pos 1023
    have hn1 := Rat.neg_lt_neg hp
    rw [Rat.neg_zero] at hn1
    obtain ⟨R, hR, hN⟩ := write_is (s ^^ t) 0 (i - j - (54 + n.log2 - Nat.log2 0 : Nat) - 1) (by rw [vl_zero]; exact hn1) (by rw [vl_zero]; exact hp)
    rw [vl_zero] at hN
    rw [sg_zero]
    exact ⟨_, R, rfl, hR, hN⟩
  · obtain ⟨R, hR, hN⟩ := quot_near (s ^^ t) m n i j hm hn hq
    have eq : Ieee.Datum.quotient 54 (.number s m i) (.number t n j) = some (.number (s ^^ t) (2 * ((m <<< (54 + n.log2 - m.log2)) / n) + ((m <<< (54 + n.log2 - m.log2)) % n != 0).toNat) (i - j - (54 + n.log2 - m.log2 : Nat) - 1)) := by
      unfold Ieee.Datum.quotient
      simp only [hn, if_false]
    rw [ed, eq]
    refine ⟨_, _, rfl, hR, ?_⟩
    unfold sg
    cases (s ^^ t)
    · exact Or.inl ⟨hz0, hN⟩
    · refine Or.inr ⟨by simp only [if_true]; grind, ?_⟩
      simp only [if_true]
      rw [show - -R = R by grind, show - -((m : Rat) * p2 i / ((n : Rat) * p2 j)) = (m : Rat) * p2 i / ((n : Rat) * p2 j) by grind]
      exact hN

/-- The root by digits. -/
theorem rootFrom_spec (n : Nat) : ∀ todo root : Nat, root * root ≤ n → n < (root + 2 ^ todo) * (root + 2 ^ todo) →
    Ieee.Datum.rootFrom n todo root * Ieee.Datum.rootFrom n todo root ≤ n ∧ n < (Ieee.Datum.rootFrom n todo root + 1) * (Ieee.Datum.rootFrom n todo root + 1)
  | 0, root, h1, h2 => by
    unfold Ieee.Datum.rootFrom
    exact ⟨h1, by simpa using h2⟩
  | todo + 1, root, h1, h2 => by
    unfold Ieee.Datum.rootFrom
    dsimp only
    rw [Nat.one_shiftLeft]
    by_cases h : (root + 2 ^ todo) * (root + 2 ^ todo) ≤ n
    · rw [if_pos h]
      refine rootFrom_spec n todo _ h ?_
      rw [show root + 2 ^ todo + 2 ^ todo = root + 2 ^ (todo + 1) by rw [Nat.pow_succ]; omega]
      exact h2
    · rw [if_neg h]
      exact rootFrom_spec n todo _ h1 (by omega)

theorem root_spec (n : Nat) : let r := Ieee.Datum.rootFrom n (n.log2 / 2 + 1) 0; r * r ≤ n ∧ n < (r + 1) * (r + 1) := by
  refine rootFrom_spec n _ 0 (by omega) ?_
  have h : n < 2 ^ (n.log2 + 1) := Nat.lt_log2_self
  rw [Nat.zero_add, ← Nat.pow_add]
  exact Nat.lt_of_lt_of_le h (Nat.pow_le_pow_right (by omega) (by omega))

theorem sq_lt {a b : Nat} (h : a * a < b * b) : a < b := by
  apply Nat.lt_of_not_le
  intro hc
  have := Nat.mul_le_mul hc hc
  omega

theorem rsq_le {a b : Rat} (ha : 0 ≤ a) (h : a ≤ b) : a * a ≤ b * b := by
  have h1 := Rat.mul_le_mul_of_nonneg_left h ha
  have h2 := Rat.mul_le_mul_of_nonneg_right h (Rat.le_trans ha h)
  grind

/-- The root: whatever lies between its two borders is rounded to it; their squares have the number between. -/
theorem sqrt_is {x : Nat} {v : Rat} (hx : Is x v) (hv : 0 < v) (hb : v < p2 1022) :
    ∃ r R lo hi, Ieee.double.sqrt x = some r ∧ Is r R ∧ 0 ≤ lo ∧ lo ≤ hi ∧ lo * lo ≤ v ∧ v ≤ hi * hi ∧ ∀ z, lo ≤ z → z ≤ hi → Near R z := by
  obtain ⟨_, s, m, i, ex, rfl⟩ := hx
  have hs : s = false := by
    have h0 := vl_abs m i
    cases s
    · rfl
    · unfold vl sg at hv
      simp only [if_true] at hv
      grind
  subst hs
  have hm : m ≠ 0 := by
    intro h; subst h
    unfold vl sg at hv
    rw [show ((0 : Nat) : Rat) = 0 from rfl] at hv
    simp only [Bool.false_eq_true, if_false] at hv
    grind
  have el : vl false m i = m * p2 i := rfl
  rw [el] at hv hb ⊢
  obtain ⟨more, hmore⟩ : ∃ more, more = (2 * 54 - m.log2) + ((i - (2 * 54 - m.log2 : Nat)) % 2).toNat := ⟨_, rfl⟩
  have hev : ∃ k : Int, i - more = 2 * k := ⟨(i - more) / 2, by omega⟩
  obtain ⟨k, hk⟩ := hev
  have hkd : (i - more) / 2 = k := by omega
  have hge : 2 * 54 ≤ m.log2 + more := by omega
  have a1 : 2 ^ m.log2 ≤ m := Nat.log2_self_le hm
  have hn : 2 ^ 108 ≤ m * 2 ^ more := by
    have b1 : 2 ^ m.log2 * 2 ^ more ≤ m * 2 ^ more := Nat.mul_le_mul_right _ a1
    rw [← Nat.pow_add] at b1
    exact Nat.le_trans (Nat.pow_le_pow_right (by omega) (by omega)) b1
  obtain ⟨r1, r2⟩ := root_spec (m * 2 ^ more)
  have ed : Ieee.double.sqrt x = some (Ieee.double.nearest false (2 * (Ieee.Datum.rootFrom (m * 2 ^ more) ((m * 2 ^ more).log2 / 2 + 1) 0) + ((Ieee.Datum.rootFrom (m * 2 ^ more) ((m * 2 ^ more).log2 / 2 + 1) 0) * (Ieee.Datum.rootFrom (m * 2 ^ more) ((m * 2 ^ more).log2 / 2 + 1) 0) != m * 2 ^ more).toNat) (k - 1)) := by
    show ((Ieee.double.read x).root 54).map Ieee.double.write = _
    rw [ex]
    unfold Ieee.Datum.root
    simp only [hm, if_false, Bool.false_eq_true]
    rw [← hmore, hkd, Nat.shiftLeft_eq]
    rfl
  rw [ed]
  generalize Ieee.Datum.rootFrom (m * 2 ^ more) ((m * 2 ^ more).log2 / 2 + 1) 0 = q at *
  have hq : 9007199254740992 ≤ q := by
    have : 2 ^ 54 < q + 1 := sq_lt (by
      have e : (2 ^ 54 * 2 ^ 54 : Nat) = 2 ^ 108 := by rw [← Nat.pow_add]
      rw [e]; omega)
    omega
  have ev : (m : Rat) * p2 i = ((m * 2 ^ more : Nat) : Rat) * (p2 k * p2 k) := by
    rw [← p2_add, show k + k = i - more by omega]
    have : p2 i = ((2 ^ more : Nat) : Rat) * p2 (i - more) := by
      rw [← p2_nat, ← p2_add]; congr 1; omega
    rw [this]; push_cast; grind
  rw [ev] at hv hb ⊢
  generalize m * 2 ^ more = n at *
  have hst1 : (q * q != n).toNat ≤ 1 := Bool.toNat_le _
  have hb2 : n ≤ (q + (q * q != n).toNat) * (q + (q * q != n).toNat) := by
    by_cases h : q * q = n
    · rw [h]; simp; omega
    · have : (q * q != n) = true := by simp [h]
      rw [this]; simp only [Bool.toNat_true]; omega
  generalize (q * q != n).toNat = st at *
  have hP := p2_pos k
  have hPP : 0 < p2 k * p2 k := Rat.mul_pos hP hP
  have hS := sticky false q st (k - 1) hq hst1
  rw [show k - 1 + 1 = k by omega] at hS
  have c1 : ((q * q : Nat) : Rat) ≤ (n : Rat) := by exact_mod_cast r1
  have d1 := Rat.mul_le_mul_of_nonneg_right c1 (Rat.le_of_lt hPP)
  have c2 : (n : Rat) ≤ (((q + st) * (q + st) : Nat) : Rat) := by exact_mod_cast hb2
  have d2 := Rat.mul_le_mul_of_nonneg_right c2 (Rat.le_of_lt hPP)
  have hlo : (q : Rat) * p2 k < p2 1000 := by
    apply Rat.not_le.1
    intro hc
    have := rsq_le (Rat.le_of_lt (p2_pos 1000)) hc
    rw [← p2_add] at this
    have h3 : p2 1022 ≤ p2 (1000 + 1000) := p2_le (by omega)
    push_cast at d1
    grind
  have hlt : ((2 * q + st : Nat) : Rat) * p2 (k - 1) < p2 1023 := by
    have e3 := p2_twice (k - 1)
    rw [show k - 1 + 1 = k by omega] at e3
    have c3 : ((2 * q + st : Nat) : Rat) ≤ ((4 * q : Nat) : Rat) := by
      have : 2 * q + st ≤ 4 * q := by omega
      exact_mod_cast this
    have d3 := Rat.mul_le_mul_of_nonneg_right c3 (Rat.le_of_lt (p2_pos (k - 1)))
    have h5 : p2 (1000 + 1) ≤ p2 1023 := p2_le (by omega)
    push_cast at d3 ⊢
    have h6 := lin4 d3 e3 Rat.le_refl hlo (p2_twice 1000)
    apply Rat.not_le.1
    intro hc
    exact Rat.not_le.2 h6 (Rat.le_trans h5 hc)
  obtain ⟨R, hR, hN⟩ := hS hlt
  refine ⟨_, R, (q : Rat) * p2 k, ((q + st : Nat) : Rat) * p2 k, rfl, hR, vl_abs q k, ?_, ?_, ?_, hN⟩
  · exact Rat.mul_le_mul_of_nonneg_right (by exact_mod_cast Nat.le_add_right q st) (Rat.le_of_lt hP)
  · push_cast at d1; grind
  · push_cast at d2 ⊢; grind

end Go.Proofs.Ytnfgdhnoidpncaa

/- Plain facts: exact results; comparisons by the numbers; opposites and magnitudes; whole numbers as float64s. -/
namespace Go.Proofs.Ytnfgdhnoidpncaa

/-- A number that float64 has. -/
def Ex (z : Rat) : Prop := ∃ (k : Int) (q : Int), -9007199254740992 < k ∧ k < 9007199254740992 ∧ -1074 ≤ q ∧ z = k * p2 q

theorem int_nonneg {k : Int} (h : 0 ≤ k) : (k : Rat) = ((k.natAbs : Nat) : Rat) := by
  have : ((k.natAbs : Nat) : Int) = k := by omega
  have h2 : (((k.natAbs : Nat) : Int) : Rat) = (k : Rat) := by rw [this]
  rw [Rat.intCast_natCast] at h2
  exact h2.symm
theorem int_neg {k : Int} (h : k ≤ 0) : (k : Rat) = -((k.natAbs : Nat) : Rat) := by
  have : ((k.natAbs : Nat) : Int) = -k := by omega
  have h2 : (((k.natAbs : Nat) : Int) : Rat) = ((-k : Int) : Rat) := by rw [this]
  rw [Rat.intCast_natCast, Rat.intCast_neg] at h2
  grind

theorem rnd_exact {R z : Rat} (h : Rnd R z) (he : Ex z) : R = z := by
  obtain ⟨k, q, h1, h2, h3, rfl⟩ := he
  have hP := p2_pos q
  rcases Int.le_total 0 k with h0 | h0
  · rw [int_nonneg h0] at h ⊢
    have hz := vl_abs k.natAbs q
    rcases h with ⟨_, hN⟩ | ⟨hz1, hN⟩
    · exact near_exact hN k.natAbs q (by omega) h3 rfl
    · have e : ((k.natAbs : Nat) : Rat) * p2 q = 0 := by grind
      rw [e] at hN ⊢
      have := near_exact hN 0 0 (by omega) (by omega) (by rw [show ((0 : Nat) : Rat) = 0 from rfl]; grind)
      grind
  · rw [int_neg h0] at h ⊢
    have hz := vl_abs k.natAbs q
    have em : -((k.natAbs : Nat) : Rat) * p2 q = -(((k.natAbs : Nat) : Rat) * p2 q) := by grind
    rw [em] at h ⊢
    rcases h with ⟨hz1, hN⟩ | ⟨_, hN⟩
    · have e : -(((k.natAbs : Nat) : Rat) * p2 q) = 0 := by grind
      rw [e] at hN ⊢
      have := near_exact hN 0 0 (by omega) (by omega) (by rw [show ((0 : Nat) : Rat) = 0 from rfl]; grind)
      grind
    · have := near_exact hN k.natAbs q (by omega) h3 (by grind)
      grind

theorem near_any {R V : Rat} (hN : Near R V) (hV : 0 ≤ V) : 9007199254740992 * R ≤ 9007199254740993 * V + p2 (-1022) ∧ 9007199254740991 * V ≤ 9007199254740992 * R + p2 (-1022) := by
  obtain ⟨last, kept, hk, h1, h2, h3, h4, h5⟩ := hN
  rcases h4 with h4 | h4
  · subst h4
    have e : p2 (-1022) = ((2 ^ 52 : Nat) : Rat) * p2 (-1074) := by rw [← p2_nat, ← p2_add]; rfl
    have e2 : ((2 ^ 52 : Nat) : Rat) = 4503599627370496 := by rfl
    rw [e, e2]
    constructor <;> grind
  · rw [p2_add, show (52 : Int) = ((52 : Nat) : Int) from rfl, p2_nat] at h4
    have e : ((2 ^ 52 : Nat) : Rat) = 4503599627370496 := by rfl
    rw [e] at h4
    have := p2_pos (-1022)
    constructor <;> grind

/-- The word of a number, its sign taken off. -/
theorem is_word {b : Nat} {v : Rat} (h : Is b v) : ∃ s r V, b = Ieee.double.word s r ∧ r < 9218868437227405312 ∧ v = sg s V ∧ 0 ≤ V ∧ ∀ t, Is (Ieee.double.word t r) (sg t V) := by
  obtain ⟨hb, s, m, p, e, rfl⟩ := h
  have hw : b = Ieee.double.word (decide (9223372036854775808 ≤ b)) (b % 9223372036854775808) := by
    rw [word_of]
    by_cases h : 9223372036854775808 ≤ b
    · rw [if_pos (by simp [h])]; omega
    · rw [if_neg (by simp [h])]; omega
  have hr : b % 9223372036854775808 < 9218868437227405312 := by
    apply Nat.lt_of_not_le
    intro hc
    have e2 : Ieee.double.read b = if b % 9223372036854775808 = 9218868437227405312 then .infinity (b / 9223372036854775808 % 2 == 1) else .nan (b / 9223372036854775808 % 2 == 1) (b % 9223372036854775808 - 9218868437227405312) := by
      show (if b % 9223372036854775808 < 4503599627370496 then _ else if b % 9223372036854775808 < 9218868437227405312 then _ else if b % 9223372036854775808 = 9218868437227405312 then _ else _) = _
      rw [if_neg (by omega), if_neg (by omega)]
      rfl
    rw [e] at e2
    split at e2 <;> cases e2
  have key : ∃ M P, ∀ t, Ieee.double.read (Ieee.double.word t (b % 9223372036854775808)) = .number t M P := by
    by_cases h : b % 9223372036854775808 < 4503599627370496
    · exact ⟨_, _, fun t => by rw [read_word t _ hr, if_pos h]⟩
    · exact ⟨_, _, fun t => by rw [read_word t _ hr, if_neg h]⟩
  obtain ⟨M, P, hk⟩ := key
  rw [hw, hk] at e
  cases e
  refine ⟨_, _, (m : Rat) * p2 p, hw, hr, rfl, vl_abs m p, fun t => ⟨?_, t, m, p, hk t, rfl⟩⟩
  rw [word_of]
  cases t <;> simp <;> omega

theorem neg_word (s : Bool) (r : Nat) (h : r < 9223372036854775808) : Op.negFloat .f64 (Ieee.double.word s r) = Ieee.double.word (!s) r := by
  rw [word_of, word_of]
  show _ ^^^ 2 ^ 63 = _
  have e0 : (0 + r) ^^^ 2 ^ 63 = 9223372036854775808 + r := by
    have h1 : r + 2 ^ 63 = r ^^^ 2 ^ 63 := by
      have := Nat.two_pow_add_eq_or_of_lt (i := 63) (b := r) h 1
      rw [Nat.mul_one] at this
      rw [Nat.add_comm, this]
      apply Nat.eq_of_testBit_eq
      intro i
      rw [Nat.testBit_or, Nat.testBit_xor, Nat.testBit_two_pow]
      by_cases hi : 63 = i
      · subst hi
        have : r.testBit 63 = false := Nat.testBit_lt_two_pow h
        simp [this]
      · simp [hi]
    rw [Nat.zero_add, ← h1]; omega
  cases s
  · simpa using e0
  · have : (9223372036854775808 + r) ^^^ 2 ^ 63 = r := by
      rw [← e0, Nat.xor_assoc, Nat.xor_self]; simp
    simpa using this

theorem neg_is {b : Nat} {v : Rat} (h : Is b v) : Is (Op.negFloat .f64 b) (-v) := by
  obtain ⟨s, r, V, rfl, hr, rfl, _, hall⟩ := is_word h
  rw [neg_word _ _ (by omega), ← sg_neg]
  exact hall (!s)

/-- The magnitude. -/
def rabs (v : Rat) : Rat := if 0 ≤ v then v else -v

theorem rabs_nonneg (v : Rat) : 0 ≤ rabs v := by unfold rabs; grind
theorem abs_is {b : Nat} {v : Rat} (h : Is b v) : Is (b % 9223372036854775808) (rabs v) := by
  obtain ⟨s, r, V, rfl, hr, rfl, hV, hall⟩ := is_word h
  have e : Ieee.double.word s r % 9223372036854775808 = Ieee.double.word false r := by
    rw [word_of, word_of]; cases s <;> simp <;> omega
  have e2 : rabs (sg s V) = sg false V := by
    unfold rabs sg
    cases s
    · simp [hV]
    · simp only [if_true, Bool.false_eq_true, if_false]; grind
  rw [e, e2]
  exact hall false

theorem order_is {x y : Nat} {u v : Rat} (hx : Is x u) (hy : Is y v) : Ieee.double.order x y = some (if u < v then .lt else if u = v then .eq else .gt) := by
  obtain ⟨_, s, m, i, ex, rfl⟩ := hx
  obtain ⟨_, t, n, j, ey, rfl⟩ := hy
  show (Ieee.double.read x).order (Ieee.double.read y) = _
  rw [ex, ey]
  show some (compare (Ieee.signed s m (i - min i j).toNat) (Ieee.signed t n (j - min i j).toNat)) = _
  rw [← signed_vl s m i (min i j) (by omega), ← signed_vl t n j (min i j) (by omega)]
  have hP := p2_pos (min i j)
  generalize Ieee.signed s m (i - min i j).toNat = A
  generalize Ieee.signed t n (j - min i j).toNat = B
  generalize p2 (min i j) = P at *
  congr 1
  show (if A < B then Ordering.lt else if A = B then .eq else .gt) = _
  by_cases h1 : A < B
  · have : (A : Rat) * P < B * P := Rat.mul_lt_mul_of_pos_right (by exact_mod_cast h1) hP
    rw [if_pos h1, if_pos this]
  · rw [if_neg h1]
    have h3 : (B : Rat) ≤ A := by
      have : B ≤ A := by omega
      exact_mod_cast this
    have h4 := Rat.mul_le_mul_of_nonneg_right h3 (Rat.le_of_lt hP)
    rw [if_neg (Rat.not_lt.2 h4)]
    by_cases h2 : A = B
    · subst h2; rw [if_pos rfl, if_pos rfl]
    · rw [if_neg h2]
      have h5 : (B : Rat) < A := by
        have : B < A := by omega
        exact_mod_cast this
      have := Rat.mul_lt_mul_of_pos_right h5 hP
      rw [if_neg (by grind)]

theorem lt_is {x y : Nat} {u v : Rat} (hx : Is x u) (hy : Is y v) : (FloatKind.f64.format.order x y == some .lt) = decide (u < v) := by
  rw [show FloatKind.f64.format.order x y = Ieee.double.order x y from rfl, order_is hx hy]
  by_cases h1 : u < v
  · simp [h1]
  · by_cases h2 : u = v <;> simp [h1, h2]
theorem eq_is {x y : Nat} {u v : Rat} (hx : Is x u) (hy : Is y v) : (FloatKind.f64.format.order x y == some .eq) = decide (u = v) := by
  rw [show FloatKind.f64.format.order x y = Ieee.double.order x y from rfl, order_is hx hy]
  by_cases h1 : u < v
  · have : u ≠ v := by grind
    simp [h1, this]
  · by_cases h2 : u = v
    · subst h2; simp [h1]
    · simp [h1, h2]
theorem gt_is {x y : Nat} {u v : Rat} (hx : Is x u) (hy : Is y v) : (FloatKind.f64.format.order x y == some .gt) = decide (v < u) := by
  rw [show FloatKind.f64.format.order x y = Ieee.double.order x y from rfl, order_is hx hy]
  by_cases h1 : u < v
  · have : ¬ v < u := by grind
    simp [h1, this]
  · by_cases h2 : u = v
    · subst h2; simp [h1]
    · have : v < u := by grind
      simp [h1, h2, this]

theorem ofInt_is (n : Int) (h1 : -9007199254740992 < n) (h2 : n < 9007199254740992) : Is (floatOfInt .f64 n) (n : Rat) := by
  have ev : vl (decide (n < 0)) n.natAbs 0 = (n : Rat) := by
    have := abs_vl (decide (n < 0)) n 0
    rw [p2_zero, Rat.mul_one] at this
    rw [← this]
    by_cases h : n = 0
    · subst h; rfl
    · rw [if_neg h]
  have hs : (n : Rat) * p2 0 = n := by rw [p2_zero, Rat.mul_one]
  have hb : p2 53 ≤ p2 1023 := p2_le (by omega)
  rw [show (53 : Int) = ((53 : Nat) : Int) from rfl, p2_nat] at hb
  have e : ((2 ^ 53 : Nat) : Rat) = ((9007199254740992 : Int) : Rat) := by rfl
  rw [e] at hb
  have c1 : ((-9007199254740992 : Int) : Rat) < n := Rat.intCast_lt_intCast.2 h1
  have c2 : (n : Rat) < ((9007199254740992 : Int) : Rat) := Rat.intCast_lt_intCast.2 h2
  rw [Rat.intCast_neg] at c1
  obtain ⟨R, hR, hN⟩ := write_is (decide (n < 0)) n.natAbs 0 (by rw [ev]; grind) (by rw [ev]; grind)
  rw [ev] at hN
  have := rnd_exact hN ⟨n, 0, h1, h2, by omega, hs.symm⟩
  rw [this] at hR
  exact hR

end Go.Proofs.Ytnfgdhnoidpncaa
