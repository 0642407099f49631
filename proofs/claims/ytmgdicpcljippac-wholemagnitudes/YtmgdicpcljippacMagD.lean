/- The root of a middling number, by the numbers; how far its square is. -/
import Derived.Test.YtmgdicpcljippacMagC
import Derived.Test.YtmgdicpcljippacLf
namespace Go.Proofs.Ytmgdicpcljippac
open Go.RowKit

theorem is_sign {b : Nat} {Y : Rat} (h : Is b Y) : Y = sg (ng b) (rabs Y) := by
  obtain ⟨s, r, V, rfl, hr, rfl, hV, _⟩ := is_word h
  rw [ng_word s r (by omega)]
  unfold rabs sg
  cases s
  · simp [hV]
  · simp only [if_true]
    by_cases h : V = 0
    · subst h; simp
    · rw [if_neg (by grind)]; grind

theorem csign_sg {u b : Nat} {U : Rat} (hu : Is u U) (hU : 0 ≤ U) : Is (csign u b) (sg (ng b) U) := by
  obtain ⟨s, r, V, rfl, hr, hUV, hV, hall⟩ := is_word hu
  have e1 : csign (Ieee.double.word s r) b = Ieee.double.word (ng b) r := by
    unfold csign
    rw [word_of, word_of]
    cases s <;> cases ng b <;> simp <;> omega
  have e2 : U = V := by
    cases s
    · exact hUV
    · have : U = -V := hUV
      grind
  rw [e1, e2]
  exact hall (ng b)

theorem twice_ex {u : Nat} {U : Rat} (hu : Is u U) (hU : 0 ≤ U) : Ex (2 * U) := by
  obtain ⟨k, q, h1, h2, rfl⟩ := is_rep hu hU
  refine ⟨k, q + 1, by omega, by omega, by omega, ?_⟩
  rw [p2_twice, Rat.intCast_natCast]
  grind

theorem pow_rep (q : Int) : ((1 : Nat) : Rat) * p2 q = p2 q := by rw [show ((1 : Nat) : Rat) = 1 from rfl, Rat.one_mul]

theorem root_rel' {Q L lo hi : Rat} (h0 : p2 (-1022) ≤ lo) (h1 : lo * lo ≤ L) (h2 : L ≤ hi * hi) (h3 : lo ≤ hi) (nlo : Near Q lo) (nhi : Near Q hi) (hQ : 0 ≤ Q) (hL : 0 ≤ L) : Rel 2001 (Q * Q) L := by
  have hp := p2_pos (-1022)
  have r1 : Rel 1000 Q lo := rel_near nlo (by grind) (Or.inr h0)
  have r2 : Rel 1000 Q hi := rel_near nhi (by grind) (Or.inr (by grind))
  have s1 := rel_mul (by grind) (by grind) (by unfold NN; grind) (by unfold NN; grind) hQ r1 r1
  have s2 := rel_mul (by grind) (by grind) (by unfold NN; grind) (by unfold NN; grind) hQ r2 r2
  obtain ⟨a1, _, _⟩ := s1
  obtain ⟨_, b2, _⟩ := s2
  have c : (1000 + 1000 + 1 : Rat) = 2001 := by grind
  rw [c] at a1 b2
  have hN : (0 : Rat) ≤ NN + 2001 := by unfold NN; grind
  have hN2 : (0 : Rat) ≤ NN - 2001 := by unfold NN; grind
  have f1 := Rat.mul_le_mul_of_nonneg_left h1 hN
  have f2 := Rat.mul_le_mul_of_nonneg_left h2 hN2
  exact ⟨by grind, by grind, hL⟩

theorem quot_up {B U : Rat} (hU : p2 (-17) ≤ U) (hB : B ≤ p2 32) : B / (2 * U) ≤ p2 48 := by
  have h17 := p2_pos (-17)
  have U2 : 0 < 2 * U := by grind
  have ed : B / (2 * U) * (2 * U) = B := div_mul (by grind)
  refine cancel_le U2 ?_
  rw [ed]
  have f1 : p2 32 = p2 48 * p2 (-16) := by rw [← p2_add]; rfl
  have f2 := p2_twice (-17)
  rw [show (-17 : Int) + 1 = -16 from rfl] at f2
  have f3 := Rat.mul_le_mul_of_nonneg_left hU (Rat.le_of_lt (p2_pos 48))
  rw [f1, f2] at hB
  generalize p2 48 = P at *
  generalize p2 (-17) = T at *
  grind
theorem quot_low {B U : Rat} (h0 : 0 < U) (hU : U ≤ p2 17) (hB : p2 (-32) ≤ B) : p2 (-50) ≤ B / (2 * U) := by
  have U2 : 0 < 2 * U := by grind
  have ed : B / (2 * U) * (2 * U) = B := div_mul (by grind)
  refine cancel_le U2 ?_
  rw [ed]
  have f1 : p2 (-32) = p2 (-50) * p2 18 := by rw [← p2_add]; rfl
  have f2 := p2_twice 17
  rw [show (17 : Int) + 1 = 18 from rfl] at f2
  have f3 := Rat.mul_le_mul_of_nonneg_left hU (Rat.le_of_lt (p2_pos (-50)))
  rw [f1, f2] at hB
  generalize p2 (-50) = P at *
  generalize p2 17 = T at *
  grind

/-- Limits. -/
theorem lims {z : Rat} (h1 : -p2 100 ≤ z) (h2 : z ≤ p2 100) : -p2 1023 < z ∧ z < p2 1023 ∧ -p2 1022 < z ∧ z < p2 1022 := by
  have a : p2 100 < p2 1022 := p2_lt (by omega)
  have b : p2 100 < p2 1023 := p2_lt (by omega)
  refine ⟨?_, ?_, ?_, ?_⟩ <;> grind

/-- The steps of the root of a middling number, given its magnitude. -/
theorem root_val {a b h : Nat} {A B H : Rat} (_ha : Is (a % 9223372036854775808) A) (hb : Is b (sg (ng b) B)) (hh : Is h H) (hA : 0 ≤ A) (hAH : A ≤ H) (hB : B = 0 ∨ p2 (-32) ≤ B) (hBH : B ≤ H) (hHl : p2 (-32) ≤ H) (hHu : H < p2 32) :
    ∃ g g2 u tu v U Va, floatBits .add .f64 (a % 9223372036854775808) h = some g ∧ floatBits .mul .f64 g 4602678819172646912 = some g2 ∧ Ieee.double.sqrt g2 = some u ∧
      floatBits .mul .f64 4611686018427387904 u = some tu ∧ floatBits .quo .f64 b tu = some v ∧ Is u U ∧ Is v (sg (ng b) Va) ∧ 0 ≤ Va ∧ p2 (-17) ≤ U ∧ U ≤ p2 17 ∧ Va ≤ p2 49 ∧
      Rel 4010 (2 * (U * U)) (A + H) ∧ Rel 1000 (2 * U * Va) B ∧ (Va = 0 ∨ p2 (-50) ≤ Va) := by
  have z32 := p2_pos (-32)
  have B0 : 0 ≤ B := by rcases hB with h | h <;> grind
  have t33 := p2_twice 32
  rw [show (32 : Int) + 1 = 33 from rfl] at t33
  have l33 : p2 33 ≤ p2 100 := p2_le (by omega)
  have pos100 := p2_pos 100
  -- the sum
  obtain ⟨x1, x2, _, _⟩ := lims (z := A + H) (by grind) (by grind)
  obtain ⟨g, G, e1, hg, rG⟩ := add_is _ha hh x1 x2
  have nG := rnd_pos rG (by grind)
  have sm32 : p2 (-1022) ≤ p2 (-32) := p2_le (by omega)
  have relG : Rel 1000 G (A + H) := rel_near nG (by grind) (Or.inr (by grind))
  have Gl : p2 (-32) ≤ G := by
    have := near_ge nG 1 (-32) (by omega) (by rw [pow_rep]; grind) (by omega)
    rw [pow_rep] at this; exact this
  have Gu : G ≤ p2 33 := by
    have := near_le nG 1 33 (by omega) (by rw [pow_rep]; grind) (by omega)
    rw [pow_rep] at this; exact this
  -- half of it
  have hf := half_twice
  have m33 := p2_twice (-33)
  rw [show (-33 : Int) + 1 = -32 from rfl] at m33
  have gh : G * p2 (-1) = G / 2 := by grind
  obtain ⟨x1, x2, _, _⟩ := lims (z := G * p2 (-1)) (by grind) (by grind)
  obtain ⟨g2, G2, e2, hg2, rG2⟩ := mul_is hg is_half x1 x2
  have nG2 := rnd_pos rG2 (by grind)
  have sm33 : p2 (-1022) ≤ p2 (-33) := p2_le (by omega)
  have relG2 : Rel 1000 G2 (G * p2 (-1)) := rel_near nG2 (by grind) (Or.inr (by grind))
  have t32 := p2_twice 31
  have G2l : p2 (-33) ≤ G2 := by
    have := near_ge nG2 1 (-33) (by omega) (by rw [pow_rep]; grind) (by omega)
    rw [pow_rep] at this; exact this
  have G2u : G2 ≤ p2 32 := by
    have := near_le nG2 1 32 (by omega) (by rw [pow_rep]; grind) (by omega)
    rw [pow_rep] at this; exact this
  -- its root
  have p33 := p2_pos (-33)
  have l32 : p2 32 < p2 1022 := p2_lt (by omega)
  obtain ⟨u, U, lo, hi, e3, hu, q1, q2, q3, q4, q5⟩ := sqrt_is hg2 (by grind) (by grind)
  have nlo := q5 lo Rat.le_refl q2
  have nhi := q5 hi q2 Rat.le_refl
  have s17 : p2 (-17) * p2 (-17) ≤ p2 (-33) := by rw [← p2_add]; exact p2_le (by omega)
  have s16 : p2 32 ≤ p2 17 * p2 17 := by rw [← p2_add]; exact p2_le (by omega)
  have hi17 : p2 (-17) ≤ hi := sq_mono (Rat.le_of_lt (p2_pos _)) (by grind) (by grind)
  have lo17 : lo ≤ p2 17 := sq_mono q1 (by grind) (Rat.le_of_lt (p2_pos _))
  have Ul : p2 (-17) ≤ U := by
    have := near_ge nhi 1 (-17) (by omega) (by rw [pow_rep]; exact hi17) (by omega)
    rw [pow_rep] at this; exact this
  have Uu : U ≤ p2 17 := by
    have := near_le nlo 1 17 (by omega) (by rw [pow_rep]; exact lo17) (by omega)
    rw [pow_rep] at this; exact this
  have m18 := p2_twice (-18)
  rw [show (-18 : Int) + 1 = -17 from rfl] at m18
  have p18 := p2_pos (-18)
  have lo18 : p2 (-18) ≤ lo := by
    apply Rat.not_lt.1
    intro hc
    have := near_le nlo 1 (-18) (by omega) (by rw [pow_rep]; exact Rat.le_of_lt hc) (by omega)
    rw [pow_rep] at this
    grind
  have sm18 : p2 (-1022) ≤ p2 (-18) := p2_le (by omega)
  have U0 : 0 ≤ U := by have := p2_pos (-17); grind
  have relU := root_rel' (Rat.le_trans sm18 lo18) q3 q4 q2 nlo nhi U0 (by grind)
  have rU1 := rel_trans (by grind) (by grind) (by unfold NN; grind) (by unfold NN; grind) relU relG2
  have rU2 := rel_scale (c := 2) (by decide) rU1
  rw [show 2 * (G * p2 (-1)) = G by grind] at rU2
  have rU := rel_trans (by grind) (by grind) (by unfold NN; grind) (by unfold NN; grind) rU2 relG
  -- twice the root
  have t18 := p2_twice 17
  have l18 : p2 (17 + 1) ≤ p2 1000 := p2_le (by omega)
  have p1000 := p2_pos 1000
  have p17 := p2_pos 17
  obtain ⟨tu, e4, htu⟩ := mulE (z := 2 * U) is_two hu rfl (twice_ex hu U0) ⟨by grind, by
    have l19 : p2 (17 + 1) < p2 1000 := p2_lt (by omega)
    grind⟩
  -- the other part
  have Upos : 0 < U := by have := p2_pos (-17); grind
  have U2pos : 0 < 2 * U := by grind
  have ed : B / (2 * U) * (2 * U) = B := div_mul (by grind)
  have d0 := quot_nonneg B0 U2pos
  have es : sg (ng b) B / (2 * U) = sg (ng b) (B / (2 * U)) := by cases ng b <;> simp [sg] <;> grind
  have du : B / (2 * U) ≤ p2 48 := quot_up Ul (Rat.le_trans hBH (Rat.le_of_lt hHu))
  have l48 : p2 48 ≤ p2 100 := p2_le (by omega)
  have lim : -p2 100 ≤ sg (ng b) (B / (2 * U)) ∧ sg (ng b) (B / (2 * U)) ≤ p2 100 := by
    cases ng b <;> simp only [sg, if_true, Bool.false_eq_true, if_false] <;> constructor <;> grind
  obtain ⟨_, _, x3, x4⟩ := lims lim.1 lim.2
  obtain ⟨v, V, e5, hv, rV⟩ := div_is hb htu (by grind) (by rw [es]; exact x3) (by rw [es]; exact x4)
  rw [es] at rV
  have nV := rnd_sg rV d0
  have ev : sg (ng b) (sg (ng b) V) = V := by cases ng b <;> simp [sg]
  have low : B / (2 * U) = 0 ∨ p2 (-50) ≤ B / (2 * U) := by
    rcases hB with hB | hB
    · left; rw [hB]; grind
    · exact Or.inr (quot_low Upos Uu hB)
  have sm50 : p2 (-1022) ≤ p2 (-50) := p2_le (by omega)
  have relV : Rel 1000 (sg (ng b) V) (B / (2 * U)) := rel_near nV d0 (by rcases low with l | l <;> grind)
  have rV2 := rel_scale (Rat.le_of_lt U2pos) relV
  rw [show 2 * U * (B / (2 * U)) = B / (2 * U) * (2 * U) by grind, ed] at rV2
  have Vu : sg (ng b) V ≤ p2 49 := by
    have l49 : p2 48 ≤ p2 49 := p2_le (by omega)
    have := near_le nV 1 49 (by omega) (by rw [pow_rep]; grind) (by omega)
    rw [pow_rep] at this; exact this
  have Vl : sg (ng b) V = 0 ∨ p2 (-50) ≤ sg (ng b) V := by
    rcases low with l | l
    · left
      rw [l] at nV
      exact near_exact nV 0 0 (by omega) (by omega) (by rw [show ((0 : Nat) : Rat) = 0 from rfl]; grind)
    · right
      have := near_ge nV 1 (-50) (by omega) (by rw [pow_rep]; exact l) (by omega)
      rw [pow_rep] at this; exact this
  exact ⟨g, g2, u, tu, v, U, sg (ng b) V, e1, e2, e3, e4, e5, hu, by rw [ev]; exact hv, near_nonneg nV, Ul, Uu, Vu, rel_mono rU (by grind), rV2, Vl⟩

end Go.Proofs.Ytmgdicpcljippac
