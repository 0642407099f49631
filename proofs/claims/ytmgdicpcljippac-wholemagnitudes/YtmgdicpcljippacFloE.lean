/- Plain facts: exact sums, products, quotients; whole numbers; which floats are no infinities and no NaNs. -/
import Derived.Test.YtmgdicpcljippacFloD
import Derived.Test.YtmgdicpcljippacNum
namespace Go.Proofs.Ytmgdicpcljippac

/-- Not too great. -/
def Sm (z : Rat) : Prop := -p2 1000 < z ∧ z < p2 1000

theorem p2_1000_1022 : p2 1000 ≤ p2 1022 := p2_le (by omega)
theorem p2_1000_1023 : p2 1000 ≤ p2 1023 := p2_le (by omega)
theorem lt_le {a b c : Rat} (h : a < b) (k : b ≤ c) : a < c := by grind
theorem neg_lt_le {a b c : Rat} (h : -b < a) (k : b ≤ c) : -c < a := by grind

theorem addE {x y : Nat} {u v z : Rat} (hx : Is x u) (hy : Is y v) (hz : z = u + v) (he : Ex z) (hs : Sm z) : ∃ r, floatBits .add .f64 x y = some r ∧ Is r z := by
  subst hz
  obtain ⟨r, R, h1, h2, h3⟩ := add_is hx hy (neg_lt_le hs.1 p2_1000_1023) (lt_le hs.2 p2_1000_1023)
  rw [rnd_exact h3 he] at h2
  exact ⟨r, h1, h2⟩
theorem subE {x y : Nat} {u v z : Rat} (hx : Is x u) (hy : Is y v) (hz : z = u - v) (he : Ex z) (hs : Sm z) : ∃ r, floatBits .sub .f64 x y = some r ∧ Is r z := by
  subst hz
  obtain ⟨r, R, h1, h2, h3⟩ := sub_is hx hy (neg_lt_le hs.1 p2_1000_1023) (lt_le hs.2 p2_1000_1023)
  rw [rnd_exact h3 he] at h2
  exact ⟨r, h1, h2⟩
theorem mulE {x y : Nat} {u v z : Rat} (hx : Is x u) (hy : Is y v) (hz : z = u * v) (he : Ex z) (hs : Sm z) : ∃ r, floatBits .mul .f64 x y = some r ∧ Is r z := by
  subst hz
  obtain ⟨r, R, h1, h2, h3⟩ := mul_is hx hy (neg_lt_le hs.1 p2_1000_1023) (lt_le hs.2 p2_1000_1023)
  rw [rnd_exact h3 he] at h2
  exact ⟨r, h1, h2⟩
theorem divE {x y : Nat} {u v z : Rat} (hx : Is x u) (hy : Is y v) (hv : v ≠ 0) (hz : z * v = u) (he : Ex z) (hs : Sm z) : ∃ r, floatBits .quo .f64 x y = some r ∧ Is r z := by
  have e : u / v = z := by subst hz; grind
  obtain ⟨r, R, h1, h2, h3⟩ := div_is hx hy hv (by rw [e]; exact neg_lt_le hs.1 p2_1000_1022) (by rw [e]; exact lt_le hs.2 p2_1000_1022)
  rw [e] at h3
  rw [rnd_exact h3 he] at h2
  exact ⟨r, h1, h2⟩
/-- The root of a square. -/
theorem sqrtE {x : Nat} {c : Rat} (hx : Is x (c * c)) (hc : 0 < c) (he : Ex c) (hs2 : Sm (c * c)) : ∃ r, Ieee.double.sqrt x = some r ∧ Is r c := by
  have hcc : 0 < c * c := Rat.mul_pos hc hc
  obtain ⟨r, R, lo, hi, h1, h2, h3, h4, h5, h6, h7⟩ := sqrt_is hx hcc (lt_le hs2.2 p2_1000_1022)
  have z1 : lo ≤ c := by
    apply Rat.not_lt.1
    intro h
    have a := rsq_le (Rat.le_of_lt hc) (Rat.le_of_lt h)
    have b := Rat.mul_lt_mul_of_pos_left h hc
    have d := Rat.mul_le_mul_of_nonneg_right (Rat.le_of_lt h) h3
    grind
  have z2 : c ≤ hi := by
    apply Rat.not_lt.1
    intro h
    have b := Rat.mul_lt_mul_of_pos_left h hc
    have d := Rat.mul_le_mul_of_nonneg_right (Rat.le_of_lt h) (Rat.le_trans h3 h4)
    grind
  have hN := h7 c z1 z2
  have : R = c := rnd_exact (Or.inl ⟨Rat.le_of_lt hc, hN⟩) he
  rw [this] at h2
  exact ⟨r, h1, h2⟩

theorem ex_int (n : Int) (h1 : -9007199254740992 < n) (h2 : n < 9007199254740992) : Ex n := ⟨n, 0, h1, h2, by omega, by rw [p2_zero, Rat.mul_one]⟩
theorem ex_frac (n : Int) (e : Int) (h1 : -9007199254740992 < n) (h2 : n < 9007199254740992) (he : -1074 ≤ e) : Ex (n * p2 e) := ⟨n, e, h1, h2, he, rfl⟩
theorem ex_pow (e : Int) (he : -1074 ≤ e) : Ex (p2 e) := ⟨1, e, by omega, by omega, he, by rw [show ((1 : Int) : Rat) = 1 from rfl]; grind⟩
theorem ex_zero : Ex 0 := ⟨0, 0, by omega, by omega, by omega, by rw [show ((0 : Int) : Rat) = 0 from rfl]; grind⟩
theorem ex_one : Ex 1 := ⟨1, 0, by omega, by omega, by omega, by rw [show ((1 : Int) : Rat) = 1 from rfl, p2_zero]; grind⟩

theorem p53 : ((9007199254740992 : Int) : Rat) ≤ p2 1000 := by
  have hb : p2 53 ≤ p2 1000 := p2_le (by omega)
  rw [show (53 : Int) = ((53 : Nat) : Int) from rfl, p2_nat] at hb
  exact hb
theorem sm_int (n : Int) (h1 : -9007199254740992 < n) (h2 : n < 9007199254740992) : Sm n := by
  have hb := p53
  have c1 : ((-9007199254740992 : Int) : Rat) < n := Rat.intCast_lt_intCast.2 h1
  have c2 : (n : Rat) < ((9007199254740992 : Int) : Rat) := Rat.intCast_lt_intCast.2 h2
  rw [Rat.intCast_neg] at c1
  exact ⟨by grind, by grind⟩
theorem sm_zero : Sm 0 := by have := p2_pos 1000; exact ⟨by grind, this⟩
theorem sm_pow (e : Int) (h : e < 1000) : Sm (p2 e) := by
  have := p2_pos 1000
  have h1 := p2_pos e
  exact ⟨by grind, p2_lt h⟩
theorem sm_one : Sm 1 := by rw [← p2_zero]; exact sm_pow 0 (by omega)
theorem sm_frac (n : Int) (e : Int) (h1 : -9007199254740992 < n) (h2 : n < 9007199254740992) (he : e ≤ 0) : Sm (n * p2 e) := by
  have hb := p53
  have c1 : ((-9007199254740992 : Int) : Rat) < n := Rat.intCast_lt_intCast.2 h1
  have c2 : (n : Rat) < ((9007199254740992 : Int) : Rat) := Rat.intCast_lt_intCast.2 h2
  rw [Rat.intCast_neg] at c1
  have h3 : p2 e ≤ 1 := by rw [← p2_zero]; exact p2_le he
  have h4 := p2_pos e
  have d1 := Rat.mul_lt_mul_of_pos_right c1 h4
  have d2 := Rat.mul_lt_mul_of_pos_right c2 h4
  have hp : (0 : Rat) ≤ ((9007199254740992 : Int) : Rat) := by decide
  have d3 := Rat.mul_le_mul_of_nonneg_left h3 hp
  generalize ((9007199254740992 : Int) : Rat) = M at *
  exact ⟨by grind, by grind⟩

theorem c52 : ((4503599627370496 : Nat) : Rat) = p2 52 := by
  have e : (4503599627370496 : Nat) = 2 ^ 52 := by decide
  rw [e, ← p2_nat]
  rfl
theorem is_zero : Is 0 0 := ⟨by decide, false, 0, -1074, by decide, vl_zero _ _⟩
theorem is_pow (e : Nat) (h : e ≤ 900) : Is ((e + 1023) * 4503599627370496) (p2 e) := by
  have hr := is_rung false (e + 1022) 4503599627370496 (by omega) (by omega) (Or.inr (by omega))
  have h1 : min ((e + 1022) * 4503599627370496 + 4503599627370496) 9218868437227405312 = (e + 1023) * 4503599627370496 := by omega
  have e3 : Ieee.double.word false ((e + 1023) * 4503599627370496) = (e + 1023) * 4503599627370496 := by rw [word_of]; simp
  have e4 : 52 + ((((e + 1022 : Nat)) : Int) - 1074) = e := by omega
  have e2 : ((4503599627370496 : Nat) : Rat) * p2 (((e + 1022 : Nat) : Int) - 1074) = p2 e := by
    rw [c52, ← p2_add, e4]
  rw [h1, e3, e2] at hr
  exact hr
theorem is_one : Is 4607182418800017408 1 := by
  have := is_pow 0 (by omega)
  rw [show ((0 : Nat) : Int) = 0 from rfl, p2_zero] at this
  exact this
theorem is_two : Is 4611686018427387904 2 := by
  have := is_pow 1 (by omega)
  rw [p2_nat] at this
  exact this
theorem is_half : Is 4602678819172646912 (p2 (-1)) := by
  refine ⟨by decide, false, 4503599627370496, -53, by decide, ?_⟩
  unfold vl sg
  rw [if_neg (by decide), c52, ← p2_add]
  rfl
theorem is_max : Is 9218868437227405311 (9007199254740991 * p2 971) := ⟨by decide, false, 9007199254740991, 971, by decide, rfl⟩

theorem max_ge : p2 1000 ≤ 9007199254740991 * p2 971 := by
  rw [show (1000 : Int) = ((29 : Nat) : Int) + 971 from rfl, p2_add, p2_nat]
  have := p2_pos 971
  have e : ((2 ^ 29 : Nat) : Rat) = 536870912 := by rfl
  rw [e]
  grind

theorem inf_is {b : Nat} {v : Rat} (h : Is b v) (hs : Sm v) : (FloatKind.f64.format.order b 9218868437227405311 == some .gt) = false := by
  rw [gt_is h is_max, decide_eq_false_iff_not]
  have := max_ge
  have := hs.2
  grind
theorem nan_is {b : Nat} {v : Rat} (h : Is b v) : (FloatKind.f64.format.order b b != some .eq) = false := by
  have := eq_is h h
  simp at this
  simp [this]

theorem cls_is {b : Nat} {v : Rat} (h : Is b v) : cls b < 3 := by
  obtain ⟨s, r, V, rfl, hr, _⟩ := is_word h
  have e : rg (Ieee.double.word s r) = r := by
    unfold rg
    rw [word_of]; cases s <;> simp <;> omega
  have e1 := rg_eq (Ieee.double.word s r)
  rw [e] at e1
  have e2 := fr_lt (Ieee.double.word s r)
  unfold cls
  split
  · omega
  · split
    · omega
    · split
      · omega
      · exfalso; omega

theorem mod_nonneg_is {b : Nat} {v : Rat} (h : Is b v) (hv : 0 ≤ v) : Is (b % 9223372036854775808) v := by
  have := abs_is h
  unfold rabs at this
  rw [if_pos hv] at this
  exact this

end Go.Proofs.Ytmgdicpcljippac
