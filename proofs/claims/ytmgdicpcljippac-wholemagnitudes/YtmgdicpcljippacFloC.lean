/- Plain facts: quotients and roots of float64s are the nearest to the true ones; how float64s compare; what rounding keeps. -/
import Derived.Test.YtmgdicpcljippacFloB
namespace Go.Proofs.Ytmgdicpcljippac

theorem p2_twice (k : Int) : p2 (k + 1) = 2 * p2 k := by
  rw [p2_add, show (1 : Int) = ((1 : Nat) : Int) from rfl, p2_nat]
  have : ((2 ^ 1 : Nat) : Rat) = 2 := by rfl
  rw [this]; grind

theorem lin4 {q st Q U z S T : Rat} (d3 : (2 * q + st) * Q ≤ 4 * q * Q) (eU : U = 2 * Q) (z1 : q * U ≤ z) (h : z < T) (e3 : S = 2 * T) : (2 * q + st) * Q < S := by
  subst eU e3; grind

theorem quot_floor (m n more : Nat) (hm : m ≠ 0) (hn : n ≠ 0) (h : more = 54 + n.log2 - m.log2) : 9007199254740992 ≤ m * 2 ^ more / n := by
  have a1 : 2 ^ m.log2 ≤ m := Nat.log2_self_le hm
  have a2 : n < 2 ^ (n.log2 + 1) := Nat.lt_log2_self
  rw [Nat.le_div_iff_mul_le (by omega)]
  have b1 : 2 ^ m.log2 * 2 ^ more ≤ m * 2 ^ more := Nat.mul_le_mul_right _ a1
  rw [← Nat.pow_add] at b1
  have b2 : 2 ^ (54 + n.log2) ≤ 2 ^ (m.log2 + more) := Nat.pow_le_pow_right (by omega) (by omega)
  have b3 : 2 ^ 53 * n ≤ 2 ^ 53 * 2 ^ (n.log2 + 1) := Nat.mul_le_mul_left _ (Nat.le_of_lt a2)
  rw [← Nat.pow_add, show 53 + (n.log2 + 1) = 54 + n.log2 by omega] at b3
  have e : (9007199254740992 : Nat) = 2 ^ 53 := by decide
  rw [e]
  exact Nat.le_trans b3 (Nat.le_trans b2 b1)

theorem div_bounds (m n X : Nat) (hn : n ≠ 0) (hX : X = m) : (X / n : Nat) * n ≤ m ∧ m ≤ (X / n + (X % n != 0).toNat) * n := by
  subst hX
  have e := Nat.div_add_mod X n
  have hl := Nat.mod_lt X (Nat.pos_of_ne_zero hn)
  have hc : n * (X / n) = (X / n) * n := Nat.mul_comm _ _
  constructor
  · omega
  · by_cases h : X % n = 0
    · simp [h]; omega
    · have : (X % n != 0) = true := by simp [h]
      rw [this]
      simp only [Bool.toNat_true, Nat.add_mul, Nat.one_mul]
      omega

theorem sg_zero (s : Bool) : sg s 0 = 0 := by cases s <;> simp [sg]
theorem vl_zero (s : Bool) (p : Int) : vl s 0 p = 0 := by
  unfold vl
  rw [show ((0 : Nat) : Rat) = 0 from rfl, Rat.zero_mul, sg_zero]
theorem zero_quot (a b : Rat) : 0 * a / b = 0 := by grind
theorem quot_nonneg {a b : Rat} (ha : 0 ≤ a) (hb : 0 < b) : 0 ≤ a / b := by
  have e : a / b * b = a := by grind
  apply Rat.not_lt.1
  intro h
  have := Rat.mul_lt_mul_of_pos_right h hb
  grind
theorem inv_mul {a b : Rat} (h : b ≠ 0) : a / b * b = a := by grind

/-- The quotient's size, rounded. -/
theorem quot_near (neg : Bool) (m n : Nat) (i j : Int) (hm : m ≠ 0) (hn : n ≠ 0) (h : (m : Rat) * p2 i / ((n : Rat) * p2 j) < p2 1022) :
    ∃ R, Is (Ieee.double.nearest neg (2 * ((m <<< (54 + n.log2 - m.log2)) / n) + ((m <<< (54 + n.log2 - m.log2)) % n != 0).toNat) (i - j - (54 + n.log2 - m.log2 : Nat) - 1)) (sg neg R) ∧
      Near R ((m : Rat) * p2 i / ((n : Rat) * p2 j)) := by
  obtain ⟨more, hmore⟩ : ∃ more, more = 54 + n.log2 - m.log2 := ⟨_, rfl⟩
  rw [← hmore, Nat.shiftLeft_eq]
  have hq := quot_floor m n more hm hn hmore
  have hb := div_bounds (m * 2 ^ more) n _ hn rfl
  generalize hst : ((m * 2 ^ more) % n != 0).toNat = st at *
  have hst1 : st ≤ 1 := by rw [← hst]; exact Bool.toNat_le _
  generalize m * 2 ^ more / n = q at *
  have hnr : (0 : Rat) < n := by
    have : 0 < n := Nat.pos_of_ne_zero hn
    exact_mod_cast this
  have hpj := p2_pos j
  have hpi := p2_pos i
  have hD : (0 : Rat) < (n : Rat) * p2 j := Rat.mul_pos hnr hpj
  have e1 := inv_mul (a := (m : Rat) * p2 i) (b := (n : Rat) * p2 j) (by grind)
  generalize hz : (m : Rat) * p2 i / ((n : Rat) * p2 j) = z at *
  -- z n 2^j = m 2^i; 2^i = 2^more 2^(i-more)
  have ei : p2 i = ((2 ^ more : Nat) : Rat) * p2 (i - more) := by
    rw [← p2_nat, ← p2_add]; congr 1; omega
  have eu : p2 (i - more) = p2 (i - j - more - 1 + 1) * p2 j := by
    rw [← p2_add]; congr 1; omega
  have c1 : ((q * n : Nat) : Rat) ≤ ((m * 2 ^ more : Nat) : Rat) := by exact_mod_cast hb.1
  have c2 : ((m * 2 ^ more : Nat) : Rat) ≤ (((q + st) * n : Nat) : Rat) := by exact_mod_cast hb.2
  have hU := p2_pos (i - j - more - 1 + 1)
  have eU := p2_twice (i - j - more - 1)
  have hS := sticky neg q st (i - j - more - 1) hq hst1
  generalize p2 (i - j - more - 1 + 1) = U at *
  have hUj : 0 < U * p2 j := Rat.mul_pos hU hpj
  have d1 := Rat.mul_le_mul_of_nonneg_right c1 (Rat.le_of_lt hUj)
  have d2 := Rat.mul_le_mul_of_nonneg_right c2 (Rat.le_of_lt hUj)
  have z1 : (q : Rat) * U ≤ z := cancel_le hD (by rw [e1, ei, eu]; push_cast at d1 ⊢; grind)
  have z2 : z ≤ ((q + st : Nat) : Rat) * U := cancel_le hD (by rw [e1, ei, eu]; push_cast at d2 ⊢; grind)
  have hlt : ((2 * q + st : Nat) : Rat) * p2 (i - j - more - 1) < p2 1023 := by
    have e3 := p2_twice 1022
    have c3 : ((2 * q + st : Nat) : Rat) ≤ ((4 * q : Nat) : Rat) := by
      have : 2 * q + st ≤ 4 * q := by omega
      exact_mod_cast this
    have d3 := Rat.mul_le_mul_of_nonneg_right c3 (Rat.le_of_lt (p2_pos (i - j - more - 1)))
    rw [show (1022 : Int) + 1 = 1023 from rfl] at e3
    push_cast at d3 ⊢
    exact lin4 d3 eU z1 h e3
  obtain ⟨R, hR, hN⟩ := hS hlt
  exact ⟨R, hR, hN z z1 z2⟩

theorem div_is {x y : Nat} {u v : Rat} (hx : Is x u) (hy : Is y v) (hv : v ≠ 0) (h1 : -p2 1022 < u / v) (h2 : u / v < p2 1022) :
    ∃ r R, floatBits .quo .f64 x y = some r ∧ Is r R ∧ Rnd R (u / v) := by
  obtain ⟨_, s, m, i, ex, rfl⟩ := hx
  obtain ⟨_, t, n, j, ey, rfl⟩ := hy
  have hn : n ≠ 0 := by
    intro h; subst h
    apply hv
    unfold vl sg
    cases t <;> simp
  have hnr : (0 : Rat) < n := by
    have : 0 < n := Nat.pos_of_ne_zero hn
    exact_mod_cast this
  have hD : (0 : Rat) < (n : Rat) * p2 j := Rat.mul_pos hnr (p2_pos j)
  have ez : vl s m i / vl t n j = sg (s ^^ t) ((m : Rat) * p2 i / ((n : Rat) * p2 j)) := by
    unfold vl
    generalize (n : Rat) * p2 j = D at *
    generalize (m : Rat) * p2 i = M
    cases s <;> cases t <;> simp [sg] <;> grind
  have hz0 : 0 ≤ (m : Rat) * p2 i / ((n : Rat) * p2 j) := quot_nonneg (vl_abs m i) hD
  rw [ez] at h1 h2 ⊢
  have hq : (m : Rat) * p2 i / ((n : Rat) * p2 j) < p2 1022 := by
    unfold sg at h1 h2
    generalize (m : Rat) * p2 i / ((n : Rat) * p2 j) = z at *
    cases hst : (s ^^ t) <;> simp [hst] at h1 h2 <;> grind
  have ed : floatBits .quo .f64 x y = (Ieee.Datum.quotient 54 (.number s m i) (.number t n j)).map Ieee.double.write := by
    show ((Ieee.double.read x).quotient 54 (Ieee.double.read y)).map Ieee.double.write = _
    rw [ex, ey]
  by_cases hm : m = 0
  · subst hm
    have eq : Ieee.Datum.quotient 54 (.number s 0 i) (.number t n j) = some (.number (s ^^ t) 0 (i - j - (54 + n.log2 - Nat.log2 0 : Nat) - 1)) := by
      unfold Ieee.Datum.quotient
      simp [hn]
    rw [ed, eq]
    have e0 := zero_quot (p2 i) ((n : Rat) * p2 j)
    rw [show (((0 : Nat) : Rat) * p2 i / ((n : Rat) * p2 j)) = 0 from e0]
    have hp := p2_pos 1023
    have hn1 := Rat.neg_lt_neg hp
    rw [Rat.neg_zero] at hn1
    obtain ⟨R, hR, hN⟩ := write_is (s ^^ t) 0 (i - j - (54 + n.log2 - Nat.log2 0 : Nat) - 1) (by rw [vl_zero]; exact hn1) (by rw [vl_zero]; exact hp)
    rw [vl_zero] at hN
    rw [sg_zero]
    exact ⟨_, R, rfl, hR, hN⟩
  · obtain ⟨R, hR, hN⟩ := quot_near (s ^^ t) m n i j hm hn hq
    have eq : Ieee.Datum.quotient 54 (.number s m i) (.number t n j) = some (.number (s ^^ t) (2 * ((m <<< (54 + n.log2 - m.log2)) / n) + ((m <<< (54 + n.log2 - m.log2)) % n != 0).toNat) (i - j - (54 + n.log2 - m.log2 : Nat) - 1)) := by
      unfold Ieee.Datum.quotient
      simp only [hn, if_false]
    rw [ed, eq]
    refine ⟨_, _, rfl, hR, ?_⟩
    unfold sg
    cases (s ^^ t)
    · exact Or.inl ⟨hz0, hN⟩
    · refine Or.inr ⟨by simp only [if_true]; grind, ?_⟩
      simp only [if_true]
      rw [show - -R = R by grind, show - -((m : Rat) * p2 i / ((n : Rat) * p2 j)) = (m : Rat) * p2 i / ((n : Rat) * p2 j) by grind]
      exact hN

/-- The root by digits. -/
theorem rootFrom_spec (n : Nat) : ∀ todo root : Nat, root * root ≤ n → n < (root + 2 ^ todo) * (root + 2 ^ todo) →
    Ieee.Datum.rootFrom n todo root * Ieee.Datum.rootFrom n todo root ≤ n ∧ n < (Ieee.Datum.rootFrom n todo root + 1) * (Ieee.Datum.rootFrom n todo root + 1)
  | 0, root, h1, h2 => by
    unfold Ieee.Datum.rootFrom
    exact ⟨h1, by simpa using h2⟩
  | todo + 1, root, h1, h2 => by
    unfold Ieee.Datum.rootFrom
    dsimp only
    rw [Nat.one_shiftLeft]
    by_cases h : (root + 2 ^ todo) * (root + 2 ^ todo) ≤ n
    · rw [if_pos h]
      refine rootFrom_spec n todo _ h ?_
      rw [show root + 2 ^ todo + 2 ^ todo = root + 2 ^ (todo + 1) by rw [Nat.pow_succ]; omega]
      exact h2
    · rw [if_neg h]
      exact rootFrom_spec n todo _ h1 (by omega)

theorem root_spec (n : Nat) : let r := Ieee.Datum.rootFrom n (n.log2 / 2 + 1) 0; r * r ≤ n ∧ n < (r + 1) * (r + 1) := by
  refine rootFrom_spec n _ 0 (by omega) ?_
  have h : n < 2 ^ (n.log2 + 1) := Nat.lt_log2_self
  rw [Nat.zero_add, ← Nat.pow_add]
  exact Nat.lt_of_lt_of_le h (Nat.pow_le_pow_right (by omega) (by omega))

theorem sq_lt {a b : Nat} (h : a * a < b * b) : a < b := by
  apply Nat.lt_of_not_le
  intro hc
  have := Nat.mul_le_mul hc hc
  omega

theorem rsq_le {a b : Rat} (ha : 0 ≤ a) (h : a ≤ b) : a * a ≤ b * b := by
  have h1 := Rat.mul_le_mul_of_nonneg_left h ha
  have h2 := Rat.mul_le_mul_of_nonneg_right h (Rat.le_trans ha h)
  grind

/-- The root: whatever lies between its two borders is rounded to it; their squares have the number between. -/
theorem sqrt_is {x : Nat} {v : Rat} (hx : Is x v) (hv : 0 < v) (hb : v < p2 1022) :
    ∃ r R lo hi, Ieee.double.sqrt x = some r ∧ Is r R ∧ 0 ≤ lo ∧ lo ≤ hi ∧ lo * lo ≤ v ∧ v ≤ hi * hi ∧ ∀ z, lo ≤ z → z ≤ hi → Near R z := by
  obtain ⟨_, s, m, i, ex, rfl⟩ := hx
  have hs : s = false := by
    have h0 := vl_abs m i
    cases s
    · rfl
    · unfold vl sg at hv
      simp only [if_true] at hv
      grind
  subst hs
  have hm : m ≠ 0 := by
    intro h; subst h
    unfold vl sg at hv
    rw [show ((0 : Nat) : Rat) = 0 from rfl] at hv
    simp only [Bool.false_eq_true, if_false] at hv
    grind
  have el : vl false m i = m * p2 i := rfl
  rw [el] at hv hb ⊢
  obtain ⟨more, hmore⟩ : ∃ more, more = (2 * 54 - m.log2) + ((i - (2 * 54 - m.log2 : Nat)) % 2).toNat := ⟨_, rfl⟩
  have hev : ∃ k : Int, i - more = 2 * k := ⟨(i - more) / 2, by omega⟩
  obtain ⟨k, hk⟩ := hev
  have hkd : (i - more) / 2 = k := by omega
  have hge : 2 * 54 ≤ m.log2 + more := by omega
  have a1 : 2 ^ m.log2 ≤ m := Nat.log2_self_le hm
  have hn : 2 ^ 108 ≤ m * 2 ^ more := by
    have b1 : 2 ^ m.log2 * 2 ^ more ≤ m * 2 ^ more := Nat.mul_le_mul_right _ a1
    rw [← Nat.pow_add] at b1
    exact Nat.le_trans (Nat.pow_le_pow_right (by omega) (by omega)) b1
  obtain ⟨r1, r2⟩ := root_spec (m * 2 ^ more)
  have ed : Ieee.double.sqrt x = some (Ieee.double.nearest false (2 * (Ieee.Datum.rootFrom (m * 2 ^ more) ((m * 2 ^ more).log2 / 2 + 1) 0) + ((Ieee.Datum.rootFrom (m * 2 ^ more) ((m * 2 ^ more).log2 / 2 + 1) 0) * (Ieee.Datum.rootFrom (m * 2 ^ more) ((m * 2 ^ more).log2 / 2 + 1) 0) != m * 2 ^ more).toNat) (k - 1)) := by
    show ((Ieee.double.read x).root 54).map Ieee.double.write = _
    rw [ex]
    unfold Ieee.Datum.root
    simp only [hm, if_false, Bool.false_eq_true]
    rw [← hmore, hkd, Nat.shiftLeft_eq]
    rfl
  rw [ed]
  generalize Ieee.Datum.rootFrom (m * 2 ^ more) ((m * 2 ^ more).log2 / 2 + 1) 0 = q at *
  have hq : 9007199254740992 ≤ q := by
    have : 2 ^ 54 < q + 1 := sq_lt (by
      have e : (2 ^ 54 * 2 ^ 54 : Nat) = 2 ^ 108 := by rw [← Nat.pow_add]
      rw [e]; omega)
    omega
  have ev : (m : Rat) * p2 i = ((m * 2 ^ more : Nat) : Rat) * (p2 k * p2 k) := by
    rw [← p2_add, show k + k = i - more by omega]
    have : p2 i = ((2 ^ more : Nat) : Rat) * p2 (i - more) := by
      rw [← p2_nat, ← p2_add]; congr 1; omega
    rw [this]; push_cast; grind
  rw [ev] at hv hb ⊢
  generalize m * 2 ^ more = n at *
  have hst1 : (q * q != n).toNat ≤ 1 := Bool.toNat_le _
  have hb2 : n ≤ (q + (q * q != n).toNat) * (q + (q * q != n).toNat) := by
    by_cases h : q * q = n
    · rw [h]; simp; omega
    · have : (q * q != n) = true := by simp [h]
      rw [this]; simp only [Bool.toNat_true]; omega
  generalize (q * q != n).toNat = st at *
  have hP := p2_pos k
  have hPP : 0 < p2 k * p2 k := Rat.mul_pos hP hP
  have hS := sticky false q st (k - 1) hq hst1
  rw [show k - 1 + 1 = k by omega] at hS
  have c1 : ((q * q : Nat) : Rat) ≤ (n : Rat) := by exact_mod_cast r1
  have d1 := Rat.mul_le_mul_of_nonneg_right c1 (Rat.le_of_lt hPP)
  have c2 : (n : Rat) ≤ (((q + st) * (q + st) : Nat) : Rat) := by exact_mod_cast hb2
  have d2 := Rat.mul_le_mul_of_nonneg_right c2 (Rat.le_of_lt hPP)
  have hlo : (q : Rat) * p2 k < p2 1000 := by
    apply Rat.not_le.1
    intro hc
    have := rsq_le (Rat.le_of_lt (p2_pos 1000)) hc
    rw [← p2_add] at this
    have h3 : p2 1022 ≤ p2 (1000 + 1000) := p2_le (by omega)
    push_cast at d1
    grind
  have hlt : ((2 * q + st : Nat) : Rat) * p2 (k - 1) < p2 1023 := by
    have e3 := p2_twice (k - 1)
    rw [show k - 1 + 1 = k by omega] at e3
    have c3 : ((2 * q + st : Nat) : Rat) ≤ ((4 * q : Nat) : Rat) := by
      have : 2 * q + st ≤ 4 * q := by omega
      exact_mod_cast this
    have d3 := Rat.mul_le_mul_of_nonneg_right c3 (Rat.le_of_lt (p2_pos (k - 1)))
    have h5 : p2 (1000 + 1) ≤ p2 1023 := p2_le (by omega)
    push_cast at d3 ⊢
    have h6 := lin4 d3 e3 Rat.le_refl hlo (p2_twice 1000)
    apply Rat.not_le.1
    intro hc
    exact Rat.not_le.2 h6 (Rat.le_trans h5 hc)
  obtain ⟨R, hR, hN⟩ := hS hlt
  refine ⟨_, R, (q : Rat) * p2 k, ((q + st : Nat) : Rat) * p2 k, rfl, hR, vl_abs q k, ?_, ?_, ?_, hN⟩
  · exact Rat.mul_le_mul_of_nonneg_right (by exact_mod_cast Nat.le_add_right q st) (Rat.le_of_lt hP)
  · push_cast at d1; grind
  · push_cast at d2 ⊢; grind

end Go.Proofs.Ytmgdicpcljippac
