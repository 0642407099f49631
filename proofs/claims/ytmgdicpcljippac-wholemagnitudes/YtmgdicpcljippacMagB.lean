/- What package cplx's magnitude is, by the numbers: no less than the greater part, no more than half as much again; of middling numbers its square is near to the sum of the squares. -/
import Derived.Test.YtmgdicpcljippacCA
import Derived.Test.YtmgdicpcljippacMagA
namespace Go.Proofs.Ytmgdicpcljippac
open Go.RowKit

theorem one_rep : ((1 : Nat) : Rat) * p2 0 = 1 := by rw [p2_zero, Rat.mul_one]; rfl
theorem two_rep : ((2 : Nat) : Rat) * p2 0 = 2 := by rw [p2_zero, Rat.mul_one]; rfl
theorem half_twice : 2 * p2 (-1) = 1 := by
  have := p2_twice (-1)
  rw [show (-1 : Int) + 1 = 0 from rfl, p2_zero] at this
  exact this.symm
theorem near_ge_one {R V : Rat} (h : Near R V) (hv : 1 ≤ V) : 1 ≤ R := by
  have := near_ge h 1 0 (by omega) (by rw [one_rep]; exact hv) (by omega)
  rw [one_rep] at this; exact this
theorem near_le_one {R V : Rat} (h : Near R V) (hv : V ≤ 1) : R ≤ 1 := by
  have := near_le h 1 0 (by omega) (by rw [one_rep]; exact hv) (by omega)
  rw [one_rep] at this; exact this
theorem near_le_two {R V : Rat} (h : Near R V) (hv : V ≤ 2) : R ≤ 2 := by
  have := near_le h 2 0 (by omega) (by rw [two_rep]; exact hv) (by omega)
  rw [two_rep] at this; exact this
theorem near_le_three {R V : Rat} (h : Near R V) (hv : 2 * V ≤ 3) : 2 * R ≤ 3 := by
  have e := half_twice
  have := near_le h 3 (-1) (by omega) (by rw [show ((3 : Nat) : Rat) = 3 from rfl]; grind) (by omega)
  rw [show ((3 : Nat) : Rat) = 3 from rfl] at this
  grind
theorem near_le_half {R V : Rat} (h : Near R V) (hv : 2 * V ≤ 1) : 2 * R ≤ 1 := by
  have e := half_twice
  have := near_le h 1 (-1) (by omega) (by rw [show ((1 : Nat) : Rat) = 1 from rfl]; grind) (by omega)
  rw [show ((1 : Nat) : Rat) = 1 from rfl] at this
  grind
theorem p2_half : p2 (-1022) ≤ p2 (-1) := p2_le (by omega)
theorem p2_m1022_one : p2 (-1022) ≤ 1 := by rw [← p2_zero]; exact p2_le (by omega)

theorem sq_mono {x y : Rat} (hx : 0 ≤ x) (h : x * x ≤ y * y) (hy : 0 ≤ y) : x ≤ y := by
  apply Rat.not_lt.1
  intro hc
  have a := Rat.mul_le_mul_of_nonneg_left (Rat.le_of_lt hc) hx
  have b := Rat.mul_lt_mul_of_pos_right hc (show 0 < x by grind)
  have c := Rat.mul_le_mul_of_nonneg_right (Rat.le_of_lt hc) hy
  grind

theorem sizes_val {a b : Nat} {X Y : Rat} (ha : Is a X) (hb : Is b Y) : ∃ m n V K, (∀ w, Calls Try.prog 27 #[.complex .f64 a b] w fun e w' => e = .returned (.tuple #[.float .f64 m, .float .f64 n]) ∧ w' = w) ∧ Is m V ∧ Is n K ∧ 0 ≤ K ∧ K ≤ V ∧ ((V = rabs X ∧ K = rabs Y) ∨ (V = rabs Y ∧ K = rabs X)) := by
  have aa := abs_is ha
  have bb := abs_is hb
  have hl := lt_is aa bb
  have x0 := rabs_nonneg X
  have y0 := rabs_nonneg Y
  by_cases h : rabs X < rabs Y
  · rw [decide_eq_true h] at hl
    exact ⟨_, _, _, _, sizes_lt a b ha.1 hb.1 hl, bb, aa, x0, Rat.le_of_lt h, Or.inr ⟨rfl, rfl⟩⟩
  · rw [decide_eq_false h] at hl
    exact ⟨_, _, _, _, sizes_ge a b ha.1 hb.1 hl, aa, bb, y0, Rat.not_lt.1 h, Or.inl ⟨rfl, rfl⟩⟩

theorem sm_of {z : Rat} (h1 : 0 ≤ z) (h2 : z < p2 1000) : Sm z := by
  have := p2_pos 1000
  exact ⟨by grind, h2⟩
theorem small_lims {z : Rat} (h1 : 0 ≤ z) (h2 : z ≤ 2) : -p2 1023 < z ∧ z < p2 1023 ∧ -p2 1022 < z ∧ z < p2 1022 := by
  have a : p2 2 ≤ p2 1022 := p2_le (by omega)
  have b : p2 2 ≤ p2 1023 := p2_le (by omega)
  have c : p2 2 = 4 := by rw [show (2 : Int) = ((2 : Nat) : Int) from rfl, p2_nat]; rfl
  rw [c] at a b
  refine ⟨?_, ?_, ?_, ?_⟩ <;> grind

theorem div_mul {x y : Rat} (h : y ≠ 0) : x / y * y = x := by grind
theorem div_le_one {x y : Rat} (hy : 0 < y) (h : x ≤ y) : x / y ≤ 1 := by
  have e : x / y * y = x := div_mul (by grind)
  exact cancel_le hy (by rw [e, Rat.one_mul]; exact h)

/-- The steps of the magnitude of a number that is not nought. -/
theorem cabs_steps {a b m n : Nat} {V K : Rat} (hsz : ∀ w, Calls Try.prog 27 #[.complex .f64 a b] w fun e w' => e = .returned (.tuple #[.float .f64 m, .float .f64 n]) ∧ w' = w) (hm : Is m V) (hn : Is n K) (hK : 0 ≤ K) (hKV : K ≤ V) (hV : 0 < V) (hVb : V < p2 900) :
    ∃ h H T TT L Q lo hi, (∀ w, Calls Try.prog 8 #[.complex .f64 a b] w fun e w' => e = .returned (.float .f64 h) ∧ w' = w) ∧ Is h H ∧ Near T (K / V) ∧ Near TT (T * T) ∧ Near L (1 + TT) ∧ 0 ≤ lo ∧ lo * lo ≤ L ∧ L ≤ hi * hi ∧ lo ≤ hi ∧ Near Q lo ∧ Near Q hi ∧ Near H (V * Q) ∧
      0 ≤ T ∧ T ≤ 1 ∧ 0 ≤ TT ∧ TT ≤ 1 ∧ 1 ≤ L ∧ L ≤ 2 ∧ 1 ≤ Q ∧ 2 * Q ≤ 3 ∧ 1 < 2 * lo := by
  have hsV : Sm V := sm_of (Rat.le_of_lt hV) (lt_le hVb (p2_le (by omega)))
  have hsK : Sm K := sm_of hK (by have := hsV.2; grind)
  have hne : V ≠ 0 := by grind
  have d0 := quot_nonneg hK hV
  have d1 := div_le_one hV hKV
  obtain ⟨l1, l2, l3, l4⟩ := small_lims d0 (by grind)
  obtain ⟨t, T, e1, ht, rT⟩ := div_is hn hm hne l3 l4
  have nT := rnd_pos rT d0
  have t0 := near_nonneg nT
  have t1 := near_le_one nT d1
  have tt0 := Rat.mul_nonneg t0 t0
  have tt1 : T * T ≤ 1 := by have := rsq_le t0 t1; grind
  obtain ⟨l1, l2, _, _⟩ := small_lims tt0 (by grind)
  obtain ⟨tt, TT, e2, htt, rTT⟩ := mul_is ht ht l1 l2
  have nTT := rnd_pos rTT tt0
  have u0 := near_nonneg nTT
  have u1 := near_le_one nTT tt1
  obtain ⟨l1, l2, _, _⟩ := small_lims (z := 1 + TT) (by grind) (by grind)
  obtain ⟨o, L, e3, ho, rL⟩ := add_is is_one htt l1 l2
  have nL := rnd_pos rL (by grind)
  have o1 := near_ge_one nL (by grind)
  have o2 := near_le_two nL (by grind)
  obtain ⟨_, _, _, l4⟩ := small_lims (z := L) (by grind) o2
  obtain ⟨q, Q, lo, hi, e4, hq, q1, q2, q3, q4, q5⟩ := sqrt_is ho (by grind) l4
  have nlo := q5 lo Rat.le_refl q2
  have nhi := q5 hi q2 Rat.le_refl
  have hi1 : 1 ≤ hi := sq_mono (by decide) (by grind) (Rat.le_trans q1 q2)
  have Q1 := near_ge_one nhi hi1
  have lo32 : 2 * lo ≤ 3 := sq_mono (by grind) (by grind) (by decide)
  have Q2 := near_le_three nlo lo32
  have lo12 : 1 < 2 * lo := by
    apply Rat.not_le.1
    intro hc
    have := near_le_half nlo hc
    grind
  have w0 : 0 ≤ V * Q := Rat.mul_nonneg (Rat.le_of_lt hV) (by grind)
  have w1 := Rat.mul_le_mul_of_nonneg_left Q2 (Rat.le_of_lt hV)
  have hb2 : V * Q < p2 1023 := by
    have a1 := p2_twice 900
    have a2 : p2 (900 + 1) ≤ p2 1023 := p2_le (by omega)
    grind
  have hb3 : -p2 1023 < V * Q := by have := p2_pos 1023; grind
  obtain ⟨h, H, e5, hh, rH⟩ := mul_is hm hq hb3 hb2
  have nH := rnd_pos rH w0
  have z := eq_is hm is_zero
  rw [decide_eq_false hne] at z
  exact ⟨h, H, T, TT, L, Q, lo, hi, cabs_num a b m n t tt o q h hsz (inf_is hm hsV) (inf_is hn hsK) (nan_is hm) (nan_is hn) z e1 e2 e3 e4 e5, hh, nT, nTT, nL, q1, q3, q4, q2, nlo, nhi, nH,
    t0, t1, u0, u1, o1, o2, Q1, Q2, lo12⟩

/-- Whatever the number: no less than the greater part, no more than half as much again, rounded. -/
theorem cabs_any {a b : Nat} {X Y : Rat} (ha : Is a X) (hb : Is b Y) (hX : rabs X < p2 900) (hY : rabs Y < p2 900) :
    ∃ h H, (∀ w, Calls Try.prog 8 #[.complex .f64 a b] w fun e w' => e = .returned (.float .f64 h) ∧ w' = w) ∧ Is h H ∧ rabs X ≤ H ∧ rabs Y ≤ H ∧ (X = 0 → Y = 0 → H = 0) ∧ ∃ V, (V = rabs X ∨ V = rabs Y) ∧ V ≤ H ∧ 18014398509481984 * H ≤ 27021597764222979 * V + 2 * p2 (-1022) := by
  obtain ⟨m, n, V, K, hsz, hm, hn, hK, hKV, hc⟩ := sizes_val ha hb
  have x0 := rabs_nonneg X
  have y0 := rabs_nonneg Y
  by_cases h0 : V = 0
  · have z := eq_is hm is_zero
    rw [decide_eq_true h0] at z
    have hsV : Sm V := by rw [h0]; exact sm_zero
    have hsK : Sm K := sm_of hK (by have := hsV.2; grind)
    have hp := p2_pos (-1022)
    refine ⟨0, 0, cabs_zero a b m n hsz (inf_is hm hsV) (inf_is hn hsK) (nan_is hm) (nan_is hn) z, is_zero, ?_, ?_, fun _ _ => rfl, V, ?_, ?_, ?_⟩
    · rcases hc with ⟨h1, h2⟩ | ⟨h1, h2⟩ <;> grind
    · rcases hc with ⟨h1, h2⟩ | ⟨h1, h2⟩ <;> grind
    · rcases hc with ⟨h1, h2⟩ | ⟨h1, h2⟩
      · exact Or.inl h1
      · exact Or.inr h1
    · rw [h0]; exact Rat.le_refl
    · rw [h0]; grind
  · have hV : 0 < V := by grind
    have hVb : V < p2 900 := by
      rcases hc with ⟨h1, h2⟩ | ⟨h1, h2⟩
      · rw [h1]; exact hX
      · rw [h1]; exact hY
    obtain ⟨h, H, T, TT, L, Q, lo, hi, hab, hh, nT, nTT, nL, q1, q3, q4, q2, nlo, nhi, nH, t0, t1, u0, u1, o1, o2, Q1, Q2, lo12⟩ := cabs_steps hsz hm hn hK hKV hV hVb
    have v1 := Rat.mul_le_mul_of_nonneg_left Q1 (Rat.le_of_lt hV)
    have v2 := Rat.mul_le_mul_of_nonneg_left Q2 (Rat.le_of_lt hV)
    have hVH : V ≤ H := is_ge hm (Rat.le_of_lt hV) nH (by grind)
    have hup := (near_any nH (by grind)).1
    refine ⟨h, H, hab, hh, ?_, ?_, ?_, V, ?_, hVH, ?_⟩
    · rcases hc with ⟨h1, h2⟩ | ⟨h1, h2⟩ <;> grind
    · rcases hc with ⟨h1, h2⟩ | ⟨h1, h2⟩ <;> grind
    · intro hx hy
      exfalso
      have e1 : rabs X = 0 := by rw [hx]; rfl
      have e2 : rabs Y = 0 := by rw [hy]; rfl
      rcases hc with ⟨h1, h2⟩ | ⟨h1, h2⟩ <;> grind
    · rcases hc with ⟨h1, h2⟩ | ⟨h1, h2⟩
      · exact Or.inl h1
      · exact Or.inr h1
    · grind

/-- Nought, or of middling size. -/
def Tame (v : Rat) : Prop := v = 0 ∨ (p2 (-32) ≤ rabs v ∧ rabs v < p2 31)

theorem rabs_sq (v : Rat) : rabs v * rabs v = v * v := by
  unfold rabs
  by_cases h : 0 ≤ v
  · rw [if_pos h]
  · rw [if_neg h]; grind

theorem root_rel {Q L lo hi : Rat} (h0 : 0 ≤ lo) (h1 : lo * lo ≤ L) (h2 : L ≤ hi * hi) (h3 : lo ≤ hi) (nlo : Near Q lo) (nhi : Near Q hi) (hlo : 1 < 2 * lo) (hQ : 0 ≤ Q) (hL : 0 ≤ L) : Rel 2001 (Q * Q) L := by
  have e := half_twice
  have e2 := p2_half
  have r1 : Rel 1000 Q lo := rel_near nlo h0 (Or.inr (by grind))
  have r2 : Rel 1000 Q hi := rel_near nhi (by grind) (Or.inr (by grind))
  have s1 := rel_mul (by grind) (by grind) (by unfold NN; grind) (by unfold NN; grind) hQ r1 r1
  have s2 := rel_mul (by grind) (by grind) (by unfold NN; grind) (by unfold NN; grind) hQ r2 r2
  obtain ⟨a1, _, _⟩ := s1
  obtain ⟨_, b2, _⟩ := s2
  have c : (1000 + 1000 + 1 : Rat) = 2001 := by grind
  rw [c] at a1 b2
  have hN : (0 : Rat) ≤ NN + 2001 := by unfold NN; grind
  have hN2 : (0 : Rat) ≤ NN - 2001 := by unfold NN; grind
  have f1 := Rat.mul_le_mul_of_nonneg_left h1 hN
  have f2 := Rat.mul_le_mul_of_nonneg_left h2 hN2
  exact ⟨by grind, by grind, hL⟩

theorem low_quot {K V : Rat} (hK : p2 (-32) ≤ K) (hV : V < p2 31) (hV0 : 0 < V) : ((1 : Nat) : Rat) * p2 (-63) ≤ K / V := by
  have e : K / V * V = K := div_mul (by grind)
  have e1 : p2 (-32) = p2 (-63) * p2 31 := by rw [← p2_add]; rfl
  have hp := p2_pos (-63)
  have c := Rat.mul_le_mul_of_nonneg_left (Rat.le_of_lt hV) (Rat.le_of_lt hp)
  rw [show ((1 : Nat) : Rat) = 1 from rfl, Rat.one_mul]
  exact cancel_le hV0 (by rw [e]; grind)

/-- Of middling numbers the square is near to the sum of the squares. -/
theorem cabs_tame {a b : Nat} {X Y : Rat} (ha : Is a X) (hb : Is b Y) (tX : Tame X) (tY : Tame Y) (hne : ¬ (X = 0 ∧ Y = 0)) :
    ∃ h H, (∀ w, Calls Try.prog 8 #[.complex .f64 a b] w fun e w' => e = .returned (.float .f64 h) ∧ w' = w) ∧ Is h H ∧ Rel 8010 (H * H) (X * X + Y * Y) ∧ rabs X ≤ H ∧ rabs Y ≤ H ∧ p2 (-32) ≤ H ∧ H < p2 32 ∧ ∃ V, (V = rabs X ∨ V = rabs Y) ∧ H ≤ 2 * V := by
  obtain ⟨m, n, V, K, hsz, hm, hn, hK, hKV, hc⟩ := sizes_val ha hb
  have x0 := rabs_nonneg X
  have y0 := rabs_nonneg Y
  have z32 := p2_pos (-32)
  have hVl : p2 (-32) ≤ V := by
    rcases tX with tX | tX
    · rcases tY with tY | tY
      · exact absurd ⟨tX, tY⟩ hne
      · rcases hc with ⟨h1, h2⟩ | ⟨h1, h2⟩ <;> grind
    · rcases hc with ⟨h1, h2⟩ | ⟨h1, h2⟩ <;> grind
  have hV : 0 < V := by grind
  have b31 : ∀ v, Tame v → rabs v < p2 31 := by
    intro v tv
    rcases tv with h | h
    · have : rabs v = 0 := by rw [h]; rfl
      rw [this]; exact p2_pos 31
    · exact h.2
  have hV31 : V < p2 31 := by
    rcases hc with ⟨h1, h2⟩ | ⟨h1, h2⟩
    · rw [h1]; exact b31 _ tX
    · rw [h1]; exact b31 _ tY
  have hK' : K = 0 ∨ p2 (-32) ≤ K := by
    have k0 : ∀ v, Tame v → rabs v = 0 ∨ p2 (-32) ≤ rabs v := by
      intro v tv
      rcases tv with h | h
      · left; rw [h]; rfl
      · exact Or.inr h.1
    rcases hc with ⟨h1, h2⟩ | ⟨h1, h2⟩
    · rw [h2]; exact k0 _ tY
    · rw [h2]; exact k0 _ tX
  obtain ⟨h, H, T, TT, L, Q, lo, hi, hab, hh, nT, nTT, nL, q1, q3, q4, q2, nlo, nhi, nH, t0, t1, u0, u1, o1, o2, Q1, Q2, lo12⟩ := cabs_steps hsz hm hn hK hKV hV (lt_le hV31 (p2_le (by omega)))
  have v1 := Rat.mul_le_mul_of_nonneg_left Q1 (Rat.le_of_lt hV)
  have v2 := Rat.mul_le_mul_of_nonneg_left Q2 (Rat.le_of_lt hV)
  have hVH : V ≤ H := is_ge hm (Rat.le_of_lt hV) nH (by grind)
  have d0 := quot_nonneg hK hV
  have em : K / V * V = K := div_mul (by grind)
  have small : p2 (-1022) ≤ p2 (-32) := p2_le (by omega)
  have rH : Rel 1000 H (V * Q) := rel_near nH (by grind) (Or.inr (by grind))
  -- the quotient
  have tq : (K / V = 0 ∧ T = 0) ∨ (p2 (-63) ≤ K / V ∧ p2 (-63) ≤ T) := by
    rcases hK' with hk | hk
    · left
      have e0 : K / V = 0 := by rw [hk]; grind
      refine ⟨e0, ?_⟩
      rw [e0] at nT
      exact near_exact nT 0 0 (by omega) (by omega) (by rw [show ((0 : Nat) : Rat) = 0 from rfl]; grind)
    · right
      have l1 := low_quot hk hV31 hV
      have l2 := near_ge nT 1 (-63) (by omega) l1 (by omega)
      rw [show ((1 : Nat) : Rat) = 1 from rfl, Rat.one_mul] at l1 l2
      exact ⟨l1, l2⟩
  have s63 : p2 (-1022) ≤ p2 (-63) := p2_le (by omega)
  have s126 : p2 (-1022) ≤ p2 (-63) * p2 (-63) := by rw [← p2_add]; exact p2_le (by omega)
  have p63 := p2_pos (-63)
  generalize K / V = z at *
  have rT : Rel 1000 T z := rel_near nT d0 (by rcases tq with ⟨e1, _⟩ | ⟨e1, _⟩ <;> grind)
  have rTT0 : Rel 1000 TT (T * T) := by
    refine rel_near nTT (Rat.mul_nonneg t0 t0) ?_
    rcases tq with ⟨_, e1⟩ | ⟨_, e1⟩
    · left; rw [e1]; grind
    · right
      have := rsq_le (Rat.le_of_lt p63) e1
      grind
  have rT2 := rel_mul (by grind) (by grind) (by unfold NN; grind) (by unfold NN; grind) t0 rT rT
  have rTT := rel_trans (by grind) (by grind) (by unfold NN; grind) (by unfold NN; grind) rTT0 rT2
  have rS := rel_add (rel_mono (rel_refl 1 (by decide)) (by grind)) rTT
  have rL0 : Rel 1000 L (1 + TT) := rel_near nL (by grind) (Or.inr (by have := p2_m1022_one; grind))
  have rL := rel_trans (by grind) (by grind) (by unfold NN; grind) (by unfold NN; grind) rL0 rS
  have rQ0 := root_rel q1 q3 q4 q2 nlo nhi lo12 (by grind) (by grind)
  have rQ := rel_trans (by grind) (by grind) (by unfold NN; grind) (by unfold NN; grind) rQ0 rL
  have hVV := Rat.mul_nonneg (Rat.le_of_lt hV) (Rat.le_of_lt hV)
  have rVQ := rel_scale hVV rQ
  have rHH := rel_mul (by grind) (by grind) (by unfold NN; grind) (by unfold NN; grind) (near_nonneg nH) rH rH
  rw [show V * Q * (V * Q) = V * V * (Q * Q) by grind] at rHH
  have rF := rel_trans (by grind) (by grind) (by unfold NN; grind) (by unfold NN; grind) rHH rVQ
  have eF : V * V * (1 + z * z) = X * X + Y * Y := by
    have e1 : V * V * (1 + z * z) = V * V + (z * V) * (z * V) := by grind
    rw [e1, em]
    rcases hc with ⟨h1, h2⟩ | ⟨h1, h2⟩
    · rw [h1, h2, rabs_sq, rabs_sq]
    · rw [h1, h2, rabs_sq, rabs_sq]; grind
  rw [eF] at rF
  refine ⟨h, H, hab, hh, rel_mono rF (by grind), ?_, ?_, by grind, ?_, V, ?_, ?_⟩
  · rcases hc with ⟨h1, h2⟩ | ⟨h1, h2⟩ <;> grind
  · rcases hc with ⟨h1, h2⟩ | ⟨h1, h2⟩ <;> grind
  · obtain ⟨a1, _, _⟩ := rH
    have a2 := p2_twice 31
    rw [show (31 : Int) + 1 = 32 from rfl] at a2
    unfold NN at a1
    grind
  · rcases hc with ⟨h1, h2⟩ | ⟨h1, h2⟩
    · exact Or.inl h1
    · exact Or.inr h1
  · obtain ⟨a1, _, _⟩ := rH
    unfold NN at a1
    grind

end Go.Proofs.Ytmgdicpcljippac
