/- Plain facts: exact results; comparisons by the numbers; opposites and magnitudes; whole numbers as float64s. -/
import Derived.Test.YtmgdicpcljippabFloC
namespace Go.Proofs.Ytmgdicpcljippab

/-- A number that float64 has. -/
def Ex (z : Rat) : Prop := ∃ (k : Int) (q : Int), -9007199254740992 < k ∧ k < 9007199254740992 ∧ -1074 ≤ q ∧ z = k * p2 q

theorem int_nonneg {k : Int} (h : 0 ≤ k) : (k : Rat) = ((k.natAbs : Nat) : Rat) := by
  have : ((k.natAbs : Nat) : Int) = k := by omega
  have h2 : (((k.natAbs : Nat) : Int) : Rat) = (k : Rat) := by rw [this]
  rw [Rat.intCast_natCast] at h2
  exact h2.symm
theorem int_neg {k : Int} (h : k ≤ 0) : (k : Rat) = -((k.natAbs : Nat) : Rat) := by
  have : ((k.natAbs : Nat) : Int) = -k := by omega
  have h2 : (((k.natAbs : Nat) : Int) : Rat) = ((-k : Int) : Rat) := by rw [this]
  rw [Rat.intCast_natCast, Rat.intCast_neg] at h2
  grind

theorem rnd_exact {R z : Rat} (h : Rnd R z) (he : Ex z) : R = z := by
  obtain ⟨k, q, h1, h2, h3, rfl⟩ := he
  have hP := p2_pos q
  rcases Int.le_total 0 k with h0 | h0
  · rw [int_nonneg h0] at h ⊢
    have hz := vl_abs k.natAbs q
    rcases h with ⟨_, hN⟩ | ⟨hz1, hN⟩
    · exact near_exact hN k.natAbs q (by omega) h3 rfl
    · have e : ((k.natAbs : Nat) : Rat) * p2 q = 0 := by grind
      rw [e] at hN ⊢
      have := near_exact hN 0 0 (by omega) (by omega) (by rw [show ((0 : Nat) : Rat) = 0 from rfl]; grind)
      grind
  · rw [int_neg h0] at h ⊢
    have hz := vl_abs k.natAbs q
    have em : -((k.natAbs : Nat) : Rat) * p2 q = -(((k.natAbs : Nat) : Rat) * p2 q) := by grind
    rw [em] at h ⊢
    rcases h with ⟨hz1, hN⟩ | ⟨_, hN⟩
    · have e : -(((k.natAbs : Nat) : Rat) * p2 q) = 0 := by grind
      rw [e] at hN ⊢
      have := near_exact hN 0 0 (by omega) (by omega) (by rw [show ((0 : Nat) : Rat) = 0 from rfl]; grind)
      grind
    · have := near_exact hN k.natAbs q (by omega) h3 (by grind)
      grind

theorem near_any {R V : Rat} (hN : Near R V) (hV : 0 ≤ V) : 9007199254740992 * R ≤ 9007199254740993 * V + p2 (-1022) ∧ 9007199254740991 * V ≤ 9007199254740992 * R + p2 (-1022) := by
  obtain ⟨last, kept, hk, h1, h2, h3, h4, h5⟩ := hN
  rcases h4 with h4 | h4
  · subst h4
    have e : p2 (-1022) = ((2 ^ 52 : Nat) : Rat) * p2 (-1074) := by rw [← p2_nat, ← p2_add]; rfl
    have e2 : ((2 ^ 52 : Nat) : Rat) = 4503599627370496 := by rfl
    rw [e, e2]
    constructor <;> grind
  · rw [p2_add, show (52 : Int) = ((52 : Nat) : Int) from rfl, p2_nat] at h4
    have e : ((2 ^ 52 : Nat) : Rat) = 4503599627370496 := by rfl
    rw [e] at h4
    have := p2_pos (-1022)
    constructor <;> grind

/-- The word of a number, its sign taken off. -/
theorem is_word {b : Nat} {v : Rat} (h : Is b v) : ∃ s r V, b = Ieee.double.word s r ∧ r < 9218868437227405312 ∧ v = sg s V ∧ 0 ≤ V ∧ ∀ t, Is (Ieee.double.word t r) (sg t V) := by
  obtain ⟨hb, s, m, p, e, rfl⟩ := h
  have hw : b = Ieee.double.word (decide (9223372036854775808 ≤ b)) (b % 9223372036854775808) := by
    rw [word_of]
    by_cases h : 9223372036854775808 ≤ b
    · rw [if_pos (by simp [h])]; omega
    · rw [if_neg (by simp [h])]; omega
  have hr : b % 9223372036854775808 < 9218868437227405312 := by
    apply Nat.lt_of_not_le
    intro hc
    have e2 : Ieee.double.read b = if b % 9223372036854775808 = 9218868437227405312 then .infinity (b / 9223372036854775808 % 2 == 1) else .nan (b / 9223372036854775808 % 2 == 1) (b % 9223372036854775808 - 9218868437227405312) := by
      show (if b % 9223372036854775808 < 4503599627370496 then _ else if b % 9223372036854775808 < 9218868437227405312 then _ else if b % 9223372036854775808 = 9218868437227405312 then _ else _) = _
      rw [if_neg (by omega), if_neg (by omega)]
      rfl
    rw [e] at e2
    split at e2 <;> cases e2
  have key : ∃ M P, ∀ t, Ieee.double.read (Ieee.double.word t (b % 9223372036854775808)) = .number t M P := by
    by_cases h : b % 9223372036854775808 < 4503599627370496
    · exact ⟨_, _, fun t => by rw [read_word t _ hr, if_pos h]⟩
    · exact ⟨_, _, fun t => by rw [read_word t _ hr, if_neg h]⟩
  obtain ⟨M, P, hk⟩ := key
  rw [hw, hk] at e
  cases e
  refine ⟨_, _, (m : Rat) * p2 p, hw, hr, rfl, vl_abs m p, fun t => ⟨?_, t, m, p, hk t, rfl⟩⟩
  rw [word_of]
  cases t <;> simp <;> omega

theorem neg_word (s : Bool) (r : Nat) (h : r < 9223372036854775808) : Op.negFloat .f64 (Ieee.double.word s r) = Ieee.double.word (!s) r := by
  rw [word_of, word_of]
  show _ ^^^ 2 ^ 63 = _
  have e0 : (0 + r) ^^^ 2 ^ 63 = 9223372036854775808 + r := by
    have h1 : r + 2 ^ 63 = r ^^^ 2 ^ 63 := by
      have := Nat.two_pow_add_eq_or_of_lt (i := 63) (b := r) h 1
      rw [Nat.mul_one] at this
      rw [Nat.add_comm, this]
      apply Nat.eq_of_testBit_eq
      intro i
      rw [Nat.testBit_or, Nat.testBit_xor, Nat.testBit_two_pow]
      by_cases hi : 63 = i
      · subst hi
        have : r.testBit 63 = false := Nat.testBit_lt_two_pow h
        simp [this]
      · simp [hi]
    rw [Nat.zero_add, ← h1]; omega
  cases s
  · simpa using e0
  · have : (9223372036854775808 + r) ^^^ 2 ^ 63 = r := by
      rw [← e0, Nat.xor_assoc, Nat.xor_self]; simp
    simpa using this

theorem neg_is {b : Nat} {v : Rat} (h : Is b v) : Is (Op.negFloat .f64 b) (-v) := by
  obtain ⟨s, r, V, rfl, hr, rfl, _, hall⟩ := is_word h
  rw [neg_word _ _ (by omega), ← sg_neg]
  exact hall (!s)

/-- The magnitude. -/
def rabs (v : Rat) : Rat := if 0 ≤ v then v else -v

theorem rabs_nonneg (v : Rat) : 0 ≤ rabs v := by unfold rabs; grind
theorem abs_is {b : Nat} {v : Rat} (h : Is b v) : Is (b % 9223372036854775808) (rabs v) := by
  obtain ⟨s, r, V, rfl, hr, rfl, hV, hall⟩ := is_word h
  have e : Ieee.double.word s r % 9223372036854775808 = Ieee.double.word false r := by
    rw [word_of, word_of]; cases s <;> simp <;> omega
  have e2 : rabs (sg s V) = sg false V := by
    unfold rabs sg
    cases s
    · simp [hV]
    · simp only [if_true, Bool.false_eq_true, if_false]; grind
  rw [e, e2]
  exact hall false

theorem order_is {x y : Nat} {u v : Rat} (hx : Is x u) (hy : Is y v) : Ieee.double.order x y = some (if u < v then .lt else if u = v then .eq else .gt) := by
  obtain ⟨_, s, m, i, ex, rfl⟩ := hx
  obtain ⟨_, t, n, j, ey, rfl⟩ := hy
  show (Ieee.double.read x).order (Ieee.double.read y) = _
  rw [ex, ey]
  show some (compare (Ieee.signed s m (i - min i j).toNat) (Ieee.signed t n (j - min i j).toNat)) = _
  rw [← signed_vl s m i (min i j) (by omega), ← signed_vl t n j (min i j) (by omega)]
  have hP := p2_pos (min i j)
  generalize Ieee.signed s m (i - min i j).toNat = A
  generalize Ieee.signed t n (j - min i j).toNat = B
  generalize p2 (min i j) = P at *
  congr 1
  show (if A < B then Ordering.lt else if A = B then .eq else .gt) = _
  by_cases h1 : A < B
  · have : (A : Rat) * P < B * P := Rat.mul_lt_mul_of_pos_right (by exact_mod_cast h1) hP
    rw [if_pos h1, if_pos this]
  · rw [if_neg h1]
    have h3 : (B : Rat) ≤ A := by
      have : B ≤ A := by omega
      exact_mod_cast this
    have h4 := Rat.mul_le_mul_of_nonneg_right h3 (Rat.le_of_lt hP)
    rw [if_neg (Rat.not_lt.2 h4)]
    by_cases h2 : A = B
    · subst h2; rw [if_pos rfl, if_pos rfl]
    · rw [if_neg h2]
      have h5 : (B : Rat) < A := by
        have : B < A := by omega
        exact_mod_cast this
      have := Rat.mul_lt_mul_of_pos_right h5 hP
      rw [if_neg (by grind)]

theorem lt_is {x y : Nat} {u v : Rat} (hx : Is x u) (hy : Is y v) : (FloatKind.f64.format.order x y == some .lt) = decide (u < v) := by
  rw [show FloatKind.f64.format.order x y = Ieee.double.order x y from rfl, order_is hx hy]
  by_cases h1 : u < v
  · simp [h1]
  · by_cases h2 : u = v <;> simp [h1, h2]
theorem eq_is {x y : Nat} {u v : Rat} (hx : Is x u) (hy : Is y v) : (FloatKind.f64.format.order x y == some .eq) = decide (u = v) := by
  rw [show FloatKind.f64.format.order x y = Ieee.double.order x y from rfl, order_is hx hy]
  by_cases h1 : u < v
  · have : u ≠ v := by grind
    simp [h1, this]
  · by_cases h2 : u = v
    · subst h2; simp [h1]
    · simp [h1, h2]
theorem gt_is {x y : Nat} {u v : Rat} (hx : Is x u) (hy : Is y v) : (FloatKind.f64.format.order x y == some .gt) = decide (v < u) := by
  rw [show FloatKind.f64.format.order x y = Ieee.double.order x y from rfl, order_is hx hy]
  by_cases h1 : u < v
  · have : ¬ v < u := by grind
    simp [h1, this]
  · by_cases h2 : u = v
    · subst h2; simp [h1]
    · have : v < u := by grind
      simp [h1, h2, this]

theorem ofInt_is (n : Int) (h1 : -9007199254740992 < n) (h2 : n < 9007199254740992) : Is (floatOfInt .f64 n) (n : Rat) := by
  have ev : vl (decide (n < 0)) n.natAbs 0 = (n : Rat) := by
    have := abs_vl (decide (n < 0)) n 0
    rw [p2_zero, Rat.mul_one] at this
    rw [← this]
    by_cases h : n = 0
    · subst h; rfl
    · rw [if_neg h]
  have hs : (n : Rat) * p2 0 = n := by rw [p2_zero, Rat.mul_one]
  have hb : p2 53 ≤ p2 1023 := p2_le (by omega)
  rw [show (53 : Int) = ((53 : Nat) : Int) from rfl, p2_nat] at hb
  have e : ((2 ^ 53 : Nat) : Rat) = ((9007199254740992 : Int) : Rat) := by rfl
  rw [e] at hb
  have c1 : ((-9007199254740992 : Int) : Rat) < n := Rat.intCast_lt_intCast.2 h1
  have c2 : (n : Rat) < ((9007199254740992 : Int) : Rat) := Rat.intCast_lt_intCast.2 h2
  rw [Rat.intCast_neg] at c1
  obtain ⟨R, hR, hN⟩ := write_is (decide (n < 0)) n.natAbs 0 (by rw [ev]; grind) (by rw [ev]; grind)
  rw [ev] at hN
  have := rnd_exact hN ⟨n, 0, h1, h2, by omega, hs.symm⟩
  rw [this] at hR
  exact hR

end Go.Proofs.Ytmgdicpcljippab
