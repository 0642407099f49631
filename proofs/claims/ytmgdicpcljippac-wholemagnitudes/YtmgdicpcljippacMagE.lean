/- How far the square of the root of a middling number is from the number. -/
import Derived.Test.YtmgdicpcljippacMagD
namespace Go.Proofs.Ytmgdicpcljippac
open Go.RowKit

theorem rnd_neg {R z : Rat} (h : Rnd R z) : Rnd (-R) (-z) := by
  rcases h with ⟨h0, hN⟩ | ⟨h0, hN⟩
  · refine Or.inr ⟨by grind, ?_⟩
    rw [show - -R = R by grind, show - -z = z by grind]; exact hN
  · exact Or.inl ⟨by grind, hN⟩

theorem near_pow {R V : Rat} (h : Near R V) (k : Int) (hk : -1074 ≤ k) (hv : V ≤ p2 k) : R ≤ p2 k := by
  have := near_le h 1 k (by omega) (by rw [pow_rep]; exact hv) hk
  rw [pow_rep] at this; exact this

theorem sg_mul_sg (s : Bool) (x y : Rat) : sg s x * sg s y = x * y := by
  cases s
  · rfl
  · simp only [sg, if_true]; grind
theorem sg_mul_l (s : Bool) (x y : Rat) : x * sg s y = sg s (x * y) := by cases s <;> simp [sg] <;> grind
theorem sg_mul_r (s : Bool) (x y : Rat) : sg s x * y = sg s (x * y) := by cases s <;> simp [sg] <;> grind
theorem sg_add (s : Bool) (x y : Rat) : sg s x + sg s y = sg s (x + y) := by cases s <;> simp [sg] <;> grind
theorem sg_sg (s : Bool) (x : Rat) : sg s (sg s x) = x := by cases s <;> simp [sg]
theorem sg_bound {s : Bool} {x B : Rat} (h0 : 0 ≤ x) (h : x ≤ B) : -B ≤ sg s x ∧ sg s x ≤ B := by
  cases s <;> simp only [sg, if_true, Bool.false_eq_true, if_false] <;> constructor <;> grind

/-- The product of two numbers with signs. -/
theorem mul_near {x y : Nat} {X Y z : Rat} {s : Bool} (hx : Is x X) (hy : Is y Y) (e : X * Y = sg s z) (h0 : 0 ≤ z) (hu : z ≤ p2 99) (hl : z = 0 ∨ p2 (-1022) ≤ z) :
    ∃ r R, floatBits .mul .f64 x y = some r ∧ Is r (sg s R) ∧ 0 ≤ R ∧ R ≤ p2 99 ∧ Rel 1000 R z := by
  have l99 : p2 99 ≤ p2 100 := p2_le (by omega)
  have hb := sg_bound (s := s) h0 (Rat.le_trans hu l99)
  obtain ⟨x1, x2, _, _⟩ := lims hb.1 hb.2
  rw [← e] at x1 x2
  obtain ⟨r, R, e1, hr, rR⟩ := mul_is hx hy x1 x2
  rw [e] at rR
  have nR := rnd_sg rR h0
  refine ⟨r, sg s R, e1, by rw [sg_sg]; exact hr, near_nonneg nR, near_pow nR 99 (by omega) hu, rel_near nR h0 hl⟩

theorem rabs_le {x B : Rat} (h1 : x ≤ B) (h2 : -x ≤ B) : rabs x ≤ B := by unfold rabs; by_cases h : 0 ≤ x <;> simp only [h, if_true, if_false] <;> assumption

/-- The parts of the square, and the distances. -/
theorem square_val {a b s1 s2 : Nat} {A B H U Va : Rat} {c : Bool} (ha : Is a (sg c A)) (hb : Is b (sg (ng b) B)) (hA : 0 ≤ A) (hAH : A ≤ H) (hB0 : 0 ≤ B) (hBH : B ≤ H) (hHl : p2 (-32) ≤ H) (hHu : H < p2 32)
    (h1 : Is s1 (if c then Va else U)) (h2 : Is s2 (sg (ng b) (if c then U else Va))) (hVa : 0 ≤ Va) (Ul : p2 (-17) ≤ U) (Uu : U ≤ p2 17) (Vu : Va ≤ p2 49) (Vl : Va = 0 ∨ p2 (-50) ≤ Va)
    (r1 : Rel 8010 (H * H) (A * A + B * B)) (r2 : Rel 4010 (2 * (U * U)) (A + H)) (r4 : Rel 1000 (2 * U * Va) B) :
    ∃ q1 q2 e1 e2 E1 E2, (∀ w, Calls Try.prog 7 #[.complex .f64 s1 s2, .complex .f64 s1 s2] w fun e w' => e = .returned (.complex .f64 q1 q2) ∧ w' = w) ∧ floatBits .sub .f64 q1 a = some e1 ∧ floatBits .sub .f64 q2 b = some e2 ∧ Is e1 E1 ∧ Is e2 E2 ∧
      NN * rabs E1 ≤ 15000 * H ∧ NN * rabs E2 ≤ 15000 * H := by
  have p17 := p2_pos (-17)
  have U0 : 0 ≤ U := by grind
  have p32 := p2_pos (-32)
  have H0 : 0 < H := by grind
  have z34 : p2 17 * p2 17 ≤ p2 99 := by rw [← p2_add]; exact p2_le (by omega)
  have z98 : p2 49 * p2 49 ≤ p2 99 := by rw [← p2_add]; exact p2_le (by omega)
  have z66 : p2 17 * p2 49 ≤ p2 99 := by rw [← p2_add]; exact p2_le (by omega)
  have y34 : p2 (-1022) ≤ p2 (-17) * p2 (-17) := by rw [← p2_add]; exact p2_le (by omega)
  have y100 : p2 (-1022) ≤ p2 (-50) * p2 (-50) := by rw [← p2_add]; exact p2_le (by omega)
  have y67 : p2 (-1022) ≤ p2 (-17) * p2 (-50) := by rw [← p2_add]; exact p2_le (by omega)
  have uu0 := Rat.mul_nonneg U0 U0
  have vv0 := Rat.mul_nonneg hVa hVa
  have uv0 := Rat.mul_nonneg U0 hVa
  have uuU : U * U ≤ p2 99 := by have := rsq_le U0 Uu; grind
  have uuL : U * U = 0 ∨ p2 (-1022) ≤ U * U := by right; have := rsq_le (Rat.le_of_lt p17) Ul; grind
  have vvU : Va * Va ≤ p2 99 := by have := rsq_le hVa Vu; grind
  have p50 := p2_pos (-50)
  have vvL : Va * Va = 0 ∨ p2 (-1022) ≤ Va * Va := by
    rcases Vl with h | h
    · left; rw [h]; grind
    · right; have := rsq_le (Rat.le_of_lt p50) h; grind
  have p17' := p2_pos 17
  have uvU : U * Va ≤ p2 99 := by
    have f1 := Rat.mul_le_mul_of_nonneg_right Uu hVa
    have f2 := Rat.mul_le_mul_of_nonneg_left Vu (Rat.le_of_lt p17')
    grind
  have uvL : U * Va = 0 ∨ p2 (-1022) ≤ U * Va := by
    rcases Vl with h | h
    · left; rw [h]; grind
    · right
      have f1 := Rat.mul_le_mul_of_nonneg_right Ul hVa
      have f2 := Rat.mul_le_mul_of_nonneg_left h (Rat.le_of_lt p17)
      grind
  have d99 := p2_twice 99
  rw [show (99 : Int) + 1 = 100 from rfl] at d99
  have l32 : p2 32 ≤ p2 99 := p2_le (by omega)
  have p99 := p2_pos 99
  have l101 : p2 100 + p2 100 < p2 1023 := by
    have := p2_twice 100
    have l : p2 (100 + 1) < p2 1023 := p2_lt (by omega)
    grind
  -- the imaginary part
  have ez : ∀ x y : Rat, (x = (if c then Va else U)) → (y = sg (ng b) (if c then U else Va)) → x * y = sg (ng b) (U * Va) ∧ y * x = sg (ng b) (U * Va) := by
    intro x y hx hy
    rw [hx, hy]
    cases c
    · simp only [Bool.false_eq_true, if_false]
      exact ⟨by rw [sg_mul_l], by rw [sg_mul_r, Rat.mul_comm]⟩
    · simp only [if_true]
      exact ⟨by rw [sg_mul_l, Rat.mul_comm], by rw [sg_mul_r]⟩
  obtain ⟨x4, Z1, f4, hz1, z10, z1u, rz1⟩ := mul_near h1 h2 (ez _ _ rfl rfl).1 uv0 uvU uvL
  obtain ⟨x5, Z2, f5, hz2, z20, z2u, rz2⟩ := mul_near h2 h1 (ez _ _ rfl rfl).2 uv0 uvU uvL
  have zs : sg (ng b) Z1 + sg (ng b) Z2 = sg (ng b) (Z1 + Z2) := sg_add _ _ _
  have bz := sg_bound (s := ng b) (show 0 ≤ Z1 + Z2 by grind) (show Z1 + Z2 ≤ p2 100 by grind)
  obtain ⟨w1, w2, _, _⟩ := lims bz.1 bz.2
  rw [← zs] at w1 w2
  obtain ⟨x6, q2, f6, hq2, rq2⟩ := add_is hz1 hz2 w1 w2
  rw [zs] at rq2
  have nq2 := rnd_sg rq2 (show 0 ≤ Z1 + Z2 by grind)
  have relq2 : Rel 1000 (sg (ng b) q2) (Z1 + Z2) := by
    refine rel_near nq2 (by grind) ?_
    rcases uvL with h | h
    · left
      obtain ⟨k1, _, _⟩ := rz1
      obtain ⟨k2, _, _⟩ := rz2
      rw [h] at k1 k2
      unfold NN at k1 k2
      grind
    · right
      obtain ⟨_, k1, _⟩ := rz1
      obtain ⟨_, k2, _⟩ := rz2
      unfold NN at k1 k2
      grind
  have q2b := near_pow nq2 100 (by omega) (by grind)
  have q2n := near_nonneg nq2
  -- its distance
  have es : q2 - sg (ng b) B = sg (ng b) (sg (ng b) q2 - B) := by cases ng b <;> simp [sg] <;> grind
  have lim2 : -p2 1023 < q2 - sg (ng b) B ∧ q2 - sg (ng b) B < p2 1023 := by
    rw [es]
    generalize sg (ng b) q2 = t at *
    cases ng b <;> simp only [sg, if_true, Bool.false_eq_true, if_false] <;> constructor <;> grind
  obtain ⟨e2, E2, f8, hE2, rE2⟩ := sub_is hq2 hb lim2.1 lim2.2
  rw [es] at rE2
  have rE2' : Rnd (sg (ng b) E2) (sg (ng b) q2 - B) := by
    cases hn : ng b
    · rw [hn] at rE2; exact rE2
    · rw [hn] at rE2
      have := rnd_neg rE2
      simp only [sg, if_true] at this ⊢
      rw [show - -(-q2 - B) = -q2 - B by grind] at this
      exact this
  have dE2 := dist_im hHl hBH r4 rz1 rz2 relq2 rE2'
  have bE2 : NN * rabs E2 ≤ 15000 * H := by
    have e : rabs E2 = rabs (sg (ng b) E2) := by
      cases ng b <;> simp only [sg, if_true, Bool.false_eq_true, if_false]
      unfold rabs
      by_cases h : 0 ≤ E2 <;> by_cases h' : 0 ≤ -E2 <;> simp only [h, h', if_true, if_false] <;> grind
    rw [e]
    unfold rabs
    by_cases h : 0 ≤ sg (ng b) E2 <;> simp only [h, if_true, if_false]
    · exact dE2.1
    · exact dE2.2
  -- the real part
  cases c
  · simp only [Bool.false_eq_true, if_false] at h1 h2
    obtain ⟨x1, P, f1, hP, P0, Pu, rP⟩ := mul_near (s := false) h1 h1 rfl uu0 uuU uuL
    obtain ⟨x2, Qv, f2, hQ, Q0, Qu, rQ⟩ := mul_near (s := false) h2 h2 (sg_mul_sg _ _ _) vv0 vvU vvL
    obtain ⟨g1, g2⟩ := root_core hA H0 hAH U0 hVa r1 r2 rP r4 rQ
    obtain ⟨x3, q1, f3, hq1, rq1⟩ := sub_is hP hQ (by simp only [sg, Bool.false_eq_true, if_false]; grind) (by simp only [sg, Bool.false_eq_true, if_false]; grind)
    simp only [sg, Bool.false_eq_true, if_false] at rq1 ha
    have e9 := rnd_err (B := p2 100) rq1 (by grind) (by grind)
    have ht := p2_pos (-1022)
    have ht2 : p2 (-1022) ≤ p2 100 := p2_le (by omega)
    obtain ⟨e1, E1, f7, hE1, rE1⟩ := sub_is hq1 ha (by grind) (by grind)
    have dE1 := dist_re hHl hA hAH g1 g2 rq1 rE1
    refine ⟨x3, x6, e1, e2, E1, E2, mul_calls s1 s2 s1 s2 x1 x2 x4 x5 x3 x6 f1 f2 f3 f4 f5 f6, f7, f8, hE1, hE2, ?_, bE2⟩
    unfold rabs
    by_cases h : 0 ≤ E1 <;> simp only [h, if_true, if_false]
    · exact dE1.1
    · exact dE1.2
  · simp only [if_true] at h1 h2
    obtain ⟨x1, Qv, f1, hQ, Q0, Qu, rQ⟩ := mul_near (s := false) h1 h1 rfl vv0 vvU vvL
    obtain ⟨x2, P, f2, hP, P0, Pu, rP⟩ := mul_near (s := false) h2 h2 (sg_mul_sg _ _ _) uu0 uuU uuL
    obtain ⟨g1, g2⟩ := root_core hA H0 hAH U0 hVa r1 r2 rP r4 rQ
    obtain ⟨x3, q1, f3, hq1, rq1⟩ := sub_is hQ hP (by simp only [sg, Bool.false_eq_true, if_false]; grind) (by simp only [sg, Bool.false_eq_true, if_false]; grind)
    simp only [sg, Bool.false_eq_true, if_false, if_true] at rq1 ha
    have e9 := rnd_err (B := p2 100) rq1 (by grind) (by grind)
    have ht := p2_pos (-1022)
    have ht2 : p2 (-1022) ≤ p2 100 := p2_le (by omega)
    obtain ⟨e1, E1, f7, hE1, rE1⟩ := sub_is hq1 ha (by grind) (by grind)
    have n1 := rnd_neg rq1
    rw [show -(Qv - P) = P - Qv by grind] at n1
    have n2 := rnd_neg rE1
    rw [show -(q1 - -A) = -q1 - A by grind] at n2
    have dE1 := dist_re hHl hA hAH g1 g2 n1 n2
    refine ⟨x3, x6, e1, e2, E1, E2, mul_calls s1 s2 s1 s2 x1 x2 x4 x5 x3 x6 f1 f2 f3 f4 f5 f6, f7, f8, hE1, hE2, ?_, bE2⟩
    unfold rabs
    by_cases h : 0 ≤ E1 <;> simp only [h, if_true, if_false]
    · have := dE1.2
      rw [show - -E1 = E1 by grind] at this
      exact this
    · exact dE1.1

/-- 2^-48. -/
theorem is_m48 : Is 4391009636686233600 (p2 (-48)) := by
  have hr := is_rung false 974 4503599627370496 (by omega) (by omega) (Or.inr (by omega))
  rw [show ((4503599627370496 : Nat) : Rat) * p2 (((974 : Nat) : Int) - 1074) = p2 (-48) by rw [c52, ← p2_add]; rfl] at hr
  exact hr
theorem m48 : NN * p2 (-48) = 32000 := by
  have e : p2 (-48) * p2 48 = 1 := by rw [← p2_add]; exact p2_zero
  have e2 : p2 48 = 281474976710656 := by rw [show (48 : Int) = ((48 : Nat) : Int) from rfl, p2_nat]; rfl
  rw [e2] at e
  unfold NN
  grind

/-- The distance is small. -/
theorem far_val {e1 e2 h : Nat} {E1 E2 H : Rat} (h1 : Is e1 E1) (h2 : Is e2 E2) (hh : Is h H) (hHl : p2 (-32) ≤ H) (hHu : H < p2 32) (b1 : NN * rabs E1 ≤ 15000 * H) (b2 : NN * rabs E2 ≤ 15000 * H) :
    ∃ f bd, (∀ w, Calls Try.prog 8 #[.complex .f64 e1 e2] w fun e w' => e = .returned (.float .f64 f) ∧ w' = w) ∧ floatBits .mul .f64 h 4391009636686233600 = some bd ∧ (FloatKind.f64.format.order f bd == some .lt || FloatKind.f64.format.order f bd == some .eq) = true := by
  have l900 : p2 32 ≤ p2 900 := p2_le (by omega)
  have p32 := p2_pos (-32)
  have small : rabs E1 < p2 900 ∧ rabs E2 < p2 900 := by
    unfold NN at b1 b2
    constructor <;> grind
  obtain ⟨f, F, hab, hF, _, _, _, V, hV, _, hup⟩ := cabs_any h1 h2 small.1 small.2
  have hp := p2_pos (-48)
  have ht := tiny hHl
  have pos := Rat.mul_nonneg (show 0 ≤ H by grind) (Rat.le_of_lt hp)
  have z1 : p2 (-48) ≤ 1 := by rw [← p2_zero]; exact p2_le (by omega)
  have ub := Rat.mul_le_mul_of_nonneg_left z1 (show 0 ≤ H by grind)
  have l100 : p2 32 ≤ p2 100 := p2_le (by omega)
  have p100 := p2_pos 100
  obtain ⟨x1, x2, _, _⟩ := lims (z := H * p2 (-48)) (by grind) (by grind)
  obtain ⟨bd, W, e, hW, rW⟩ := mul_is hh is_m48 x1 x2
  have nW := rnd_pos rW pos
  have l80 : p2 (-1022) ≤ p2 (-32) * p2 (-48) := by rw [← p2_add]; exact p2_le (by omega)
  have lb := Rat.mul_le_mul_of_nonneg_right hHl (Rat.le_of_lt hp)
  obtain ⟨_, relW, _⟩ := rel_near nW pos (Or.inr (by grind))
  have hm := m48
  have hmH : NN * (H * p2 (-48)) = 32000 * H := by rw [show NN * (H * p2 (-48)) = H * (NN * p2 (-48)) by grind, hm]; grind
  have bV : NN * V ≤ 15000 * H := by
    rcases hV with h | h
    · rw [h]; exact b1
    · rw [h]; exact b2
  have hle : F ≤ W := by
    have q := p2_pos (-1022)
    have hx : H * p2 (-48) ≤ H := by grind
    unfold NN at *
    grind
  refine ⟨f, bd, hab, e, ?_⟩
  rw [lt_is hF hW, eq_is hF hW]
  by_cases hlt : F < W
  · rw [decide_eq_true hlt]; rfl
  · have : F = W := by grind
    rw [decide_eq_true this]; simp

end Go.Proofs.Ytmgdicpcljippac
