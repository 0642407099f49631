/- Plain facts: sums, differences, products, quotients and roots of float64s by the numbers that they are: the nearest float64 to the true one; comparisons. -/
import Derived.Test.YtmgdicpcljippacFloA
namespace Go.Proofs.Ytmgdicpcljippac

theorem sg_neg (s : Bool) (v : Rat) : sg (!s) v = - sg s v := by cases s <;> simp [sg]
theorem sg_xor (s t : Bool) (u v : Rat) : sg (s ^^ t) (u * v) = sg s u * sg t v := by cases s <;> cases t <;> simp [sg] <;> grind

/-- R is a float64 nearest to z. -/
def Rnd (R z : Rat) : Prop := (0 ≤ z ∧ Near R z) ∨ (z ≤ 0 ∧ Near (-R) (-z))

theorem cast_nonneg (m : Nat) : (0 : Rat) ≤ m := by exact_mod_cast Nat.zero_le m
theorem vl_abs (m : Nat) (p : Int) : (0 : Rat) ≤ m * p2 p := Rat.mul_nonneg (cast_nonneg m) (Rat.le_of_lt (p2_pos p))

theorem write_is (s : Bool) (m : Nat) (p : Int) (h1 : -p2 1023 < vl s m p) (h2 : vl s m p < p2 1023) : ∃ R, Is (Ieee.double.write (.number s m p)) R ∧ Rnd R (vl s m p) := by
  have h0 := vl_abs m p
  have hb : (m : Rat) * p2 p < p2 1023 := by
    unfold vl sg at h1 h2
    cases s <;> simp at h1 h2 <;> grind
  obtain ⟨R, hR, hN⟩ := nearest_near s m p hb
  refine ⟨_, hR, ?_⟩
  unfold vl
  cases s
  · exact Or.inl ⟨h0, hN⟩
  · refine Or.inr ⟨by simp only [sg, if_true]; grind, ?_⟩
    simp only [sg, if_true]
    rw [show - -R = R by grind, show - -((m : Rat) * p2 p) = m * p2 p by grind]
    exact hN

theorem signed_rat (s : Bool) (m up : Nat) : ((Ieee.signed s m up : Int) : Rat) = sg s (m * ((2 ^ up : Nat) : Rat)) := by
  unfold Ieee.signed sg
  rw [Nat.shiftLeft_eq]
  cases s
  · rw [if_neg (by decide), if_neg (by decide), Rat.intCast_natCast]
    push_cast; rfl
  · rw [if_pos rfl, if_pos rfl, Rat.intCast_neg, Rat.intCast_natCast]
    push_cast; rfl

theorem abs_vl (c : Bool) (t : Int) (p : Int) : vl (if t = 0 then c else t < 0) t.natAbs p = (t : Rat) * p2 p := by
  unfold vl sg
  by_cases h : t = 0
  · subst h
    cases c <;> simp <;> grind
  · rw [if_neg h]
    by_cases h1 : t < 0
    · have e : ((t.natAbs : Nat) : Rat) = -(t : Rat) := by
        have : ((t.natAbs : Nat) : Int) = -t := by omega
        have h2 : (((t.natAbs : Nat) : Int) : Rat) = ((-t : Int) : Rat) := by rw [this]
        rw [Rat.intCast_natCast, Rat.intCast_neg] at h2
        exact h2
      rw [e]
      simp [h1]
      grind
    · have e : ((t.natAbs : Nat) : Rat) = (t : Rat) := by
        have : ((t.natAbs : Nat) : Int) = t := by omega
        have h2 : (((t.natAbs : Nat) : Int) : Rat) = (t : Rat) := by rw [this]
        rw [Rat.intCast_natCast] at h2
        exact h2
      rw [e]
      simp [h1]

theorem signed_vl (s : Bool) (m : Nat) (i base : Int) (h : base ≤ i) : ((Ieee.signed s m (i - base).toNat : Int) : Rat) * p2 base = vl s m i := by
  rw [signed_rat]
  unfold vl
  rw [p2_split base i h]
  cases s <;> simp [sg] <;> grind

theorem sum_vl (s t : Bool) (m n : Nat) (i j : Int) : ∃ s' m' p', Ieee.Datum.sum (.number s m i) (.number t n j) = some (.number s' m' p') ∧ vl s' m' p' = vl s m i + vl t n j := by
  refine ⟨_, _, _, rfl, ?_⟩
  rw [abs_vl, ← signed_vl s m i (min i j) (by omega), ← signed_vl t n j (min i j) (by omega), Rat.intCast_add]
  grind

theorem add_is {x y : Nat} {u v : Rat} (hx : Is x u) (hy : Is y v) (h1 : -p2 1023 < u + v) (h2 : u + v < p2 1023) :
    ∃ r R, floatBits .add .f64 x y = some r ∧ Is r R ∧ Rnd R (u + v) := by
  obtain ⟨_, s, m, i, ex, rfl⟩ := hx
  obtain ⟨_, t, n, j, ey, rfl⟩ := hy
  obtain ⟨s', m', p', e, ev⟩ := sum_vl s t m n i j
  rw [← ev] at h1 h2 ⊢
  obtain ⟨R, hR, hN⟩ := write_is s' m' p' h1 h2
  refine ⟨_, R, ?_, hR, hN⟩
  show ((Ieee.double.read x).sum (Ieee.double.read y)).map Ieee.double.write = _
  rw [ex, ey, e]; rfl

theorem sub_is {x y : Nat} {u v : Rat} (hx : Is x u) (hy : Is y v) (h1 : -p2 1023 < u - v) (h2 : u - v < p2 1023) :
    ∃ r R, floatBits .sub .f64 x y = some r ∧ Is r R ∧ Rnd R (u - v) := by
  obtain ⟨_, s, m, i, ex, rfl⟩ := hx
  obtain ⟨_, t, n, j, ey, rfl⟩ := hy
  obtain ⟨s', m', p', e, ev⟩ := sum_vl s (!t) m n i j
  have en : vl s m i - vl t n j = vl s m i + vl (!t) n j := by unfold vl; rw [sg_neg]; grind
  rw [en, ← ev] at h1 h2 ⊢
  obtain ⟨R, hR, hN⟩ := write_is s' m' p' h1 h2
  refine ⟨_, R, ?_, hR, hN⟩
  show ((Ieee.double.read x).sum (Ieee.double.read y).opposite).map Ieee.double.write = _
  rw [ex, ey]
  show ((Ieee.Datum.number s m i).sum (.number (!t) n j)).map Ieee.double.write = _
  rw [e]; rfl

theorem prod_vl (s t : Bool) (m n : Nat) (i j : Int) : vl (s ^^ t) (m * n) (i + j) = vl s m i * vl t n j := by
  unfold vl
  rw [← sg_xor, p2_add]
  congr 1
  push_cast
  grind

theorem mul_is {x y : Nat} {u v : Rat} (hx : Is x u) (hy : Is y v) (h1 : -p2 1023 < u * v) (h2 : u * v < p2 1023) :
    ∃ r R, floatBits .mul .f64 x y = some r ∧ Is r R ∧ Rnd R (u * v) := by
  obtain ⟨_, s, m, i, ex, rfl⟩ := hx
  obtain ⟨_, t, n, j, ey, rfl⟩ := hy
  rw [← prod_vl] at h1 h2 ⊢
  obtain ⟨R, hR, hN⟩ := write_is _ _ _ h1 h2
  refine ⟨_, R, ?_, hR, hN⟩
  show ((Ieee.double.read x).product (Ieee.double.read y)).map Ieee.double.write = _
  rw [ex, ey]; rfl

/-- A last digit that only tells that something is left over does not change the rounding. -/
theorem sticky (neg : Bool) (q st : Nat) (place : Int) (hq : 9007199254740992 ≤ q) (hs : st ≤ 1) (h : ((2 * q + st : Nat) : Rat) * p2 place < p2 1023) :
    ∃ R, Is (Ieee.double.nearest neg (2 * q + st) place) (sg neg R) ∧ ∀ z, (q : Rat) * p2 (place + 1) ≤ z → z ≤ ((q + st : Nat) : Rat) * p2 (place + 1) → Near R z := by
  obtain ⟨R, hR, hN⟩ := nearest_near neg _ place h
  refine ⟨R, hR, ?_⟩
  have hU := p2_pos (place + 1)
  have eU : p2 (place + 1) = 2 * p2 place := by
    rw [p2_add, show (1 : Int) = ((1 : Nat) : Int) from rfl, p2_nat]
    have : ((2 ^ 1 : Nat) : Rat) = 2 := by rfl
    rw [this]; grind
  intro z z1 z2
  rcases (by omega : st = 0 ∨ st = 1) with rfl | rfl
  · have : z = ((2 * q + 0 : Nat) : Rat) * p2 place := by
      rw [eU] at z1 z2
      push_cast at z1 z2 ⊢
      grind
    rw [this]; exact hN
  · obtain ⟨last, kept, hk, h1, h2, h3, h4, h5⟩ := hN
    have hl : place + 2 ≤ last := by
      have w : p2 (place + 54) < p2 (53 + last) := by
        have e : p2 (place + 54) = ((2 ^ 54 : Nat) : Rat) * p2 place := by
          rw [p2_add, show (54 : Int) = ((54 : Nat) : Int) from rfl, p2_nat]; grind
        have hlt : ((2 ^ 54 : Nat) : Rat) < ((2 * q + 1 : Nat) : Rat) := by
          have : 2 ^ 54 < 2 * q + 1 := by omega
          exact_mod_cast this
        have := Rat.mul_lt_mul_of_pos_right hlt (p2_pos place)
        grind
      have := p2_lt_iff w
      omega
    obtain ⟨j, hj⟩ : ∃ j : Nat, last = (place + 1) + ((j + 1 : Nat) : Int) := ⟨(last - place - 2).toNat, by omega⟩
    have eP : p2 last = ((2 ^ (j + 1) : Nat) : Rat) * p2 (place + 1) := by rw [hj, p2_add, p2_nat]; grind
    have e52 : p2 (52 + last) = ((2 ^ 52 : Nat) : Rat) * p2 last := by rw [p2_add, show (52 : Int) = ((52 : Nat) : Int) from rfl, p2_nat]
    have e53 : p2 (53 + last) = ((2 ^ 53 : Nat) : Rat) * p2 last := by rw [p2_add, show (53 : Int) = ((53 : Nat) : Int) from rfl, p2_nat]
    rw [hk] at h1 h2
    rw [e52] at h4
    rw [e53] at h5
    rw [eP] at h1 h2 h4 h5
    have ep : p2 (place + 1) = p2 place * 2 := by rw [eU]; grind
    have hp0 := p2_pos place
    rw [ep] at h1 h2 h4 h5
    have n1 : 4 * (kept * 2 ^ (j + 1)) ≤ 2 * (2 * q + 1) + 2 * 2 ^ (j + 1) := by
      have : ((4 * (kept * 2 ^ (j + 1)) : Nat) : Rat) ≤ ((2 * (2 * q + 1) + 2 * 2 ^ (j + 1) : Nat) : Rat) := cancel_le hp0 (by push_cast at h1 ⊢; grind)
      exact_mod_cast this
    have n2 : 2 * (2 * q + 1) ≤ 4 * (kept * 2 ^ (j + 1)) + 2 * 2 ^ (j + 1) := by
      have : ((2 * (2 * q + 1) : Nat) : Rat) ≤ ((4 * (kept * 2 ^ (j + 1)) + 2 * 2 ^ (j + 1) : Nat) : Rat) := cancel_le hp0 (by push_cast at h2 ⊢; grind)
      exact_mod_cast this
    have n5 : 2 * q + 1 ≤ 2 * (2 ^ 53 * 2 ^ (j + 1)) := by
      have : ((2 * q + 1 : Nat) : Rat) ≤ ((2 * (2 ^ 53 * 2 ^ (j + 1)) : Nat) : Rat) := cancel_le hp0 (by push_cast at h5 ⊢; grind)
      exact_mod_cast this
    have n4 : last = -1074 ∨ 2 * (2 ^ 52 * 2 ^ (j + 1)) ≤ 2 * q + 1 := by
      rcases h4 with h4 | h4
      · exact Or.inl h4
      · right
        have : ((2 * (2 ^ 52 * 2 ^ (j + 1)) : Nat) : Rat) ≤ ((2 * q + 1 : Nat) : Rat) := cancel_le hp0 (by push_cast at h4 ⊢; grind)
        exact_mod_cast this
    have ej : 2 ^ (j + 1) = 2 * 2 ^ j := by rw [Nat.pow_succ]; omega
    have ek : kept * 2 ^ (j + 1) = 2 * (kept * 2 ^ j) := by rw [ej]; exact Nat.mul_left_comm _ _ _
    have m1 : 2 * (kept * 2 ^ (j + 1)) ≤ 2 * q + 2 ^ (j + 1) := by
      rw [ek, ej] at n1 ⊢
      generalize kept * 2 ^ j = K at *
      generalize 2 ^ j = J at *
      omega
    have m2 : 2 * (q + 1) ≤ 2 * (kept * 2 ^ (j + 1)) + 2 ^ (j + 1) := by
      rw [ek, ej] at n2 ⊢
      generalize kept * 2 ^ j = K at *
      generalize 2 ^ j = J at *
      omega
    refine ⟨last, kept, hk, ?_, ?_, h3, ?_, ?_⟩
    · rw [hk, eP]
      have c : ((2 * (kept * 2 ^ (j + 1)) : Nat) : Rat) ≤ ((2 * q + 2 ^ (j + 1) : Nat) : Rat) := by exact_mod_cast m1
      have := Rat.mul_le_mul_of_nonneg_right c (Rat.le_of_lt hU)
      push_cast at this ⊢
      grind
    · rw [hk, eP]
      have c : ((2 * (q + 1) : Nat) : Rat) ≤ ((2 * (kept * 2 ^ (j + 1)) + 2 ^ (j + 1) : Nat) : Rat) := by exact_mod_cast m2
      have := Rat.mul_le_mul_of_nonneg_right c (Rat.le_of_lt hU)
      push_cast at this z2 ⊢
      grind
    · rcases n4 with n4 | n4
      · exact Or.inl n4
      · right
        rw [e52, eP]
        have m4 : 2 ^ 52 * 2 ^ (j + 1) ≤ q := by omega
        have c : ((2 ^ 52 * 2 ^ (j + 1) : Nat) : Rat) ≤ ((q : Nat) : Rat) := by exact_mod_cast m4
        have := Rat.mul_le_mul_of_nonneg_right c (Rat.le_of_lt hU)
        push_cast at this ⊢
        grind
    · rw [e53, eP]
      have m5 : q + 1 ≤ 2 ^ 53 * 2 ^ (j + 1) := by omega
      have c : ((q + 1 : Nat) : Rat) ≤ ((2 ^ 53 * 2 ^ (j + 1) : Nat) : Rat) := by exact_mod_cast m5
      have := Rat.mul_le_mul_of_nonneg_right c (Rat.le_of_lt hU)
      push_cast at this z2 ⊢
      grind

end Go.Proofs.Ytmgdicpcljippac
