/- Plain facts: how near the square of the root is, from how near its steps are. -/
import Derived.Test.YtmgdicpcljippacMagB
namespace Go.Proofs.Ytmgdicpcljippac

theorem core_up {a b h D P Qv : Rat} (ha : 0 ≤ a) (hh : 0 < h) (hah : a ≤ h) (hD : D = a + h)
    (r1 : NN * (h * h) ≤ (NN + 8010) * (a * a + b * b)) (_r1' : (NN - 8010) * (a * a + b * b) ≤ NN * (h * h))
    (c1 : NN * (2 * P) ≤ (NN + 5011) * D) (c4 : (NN - 7015) * (b * b) ≤ NN * (2 * D * Qv)) : NN * (P - Qv - a) ≤ 11500 * h := by
  have hDp : 0 < 2 * D := by grind
  have f1 := Rat.mul_le_mul_of_nonneg_right c1 (show 0 ≤ D by grind)
  have f2 := Rat.mul_le_mul_of_nonneg_left hah ha
  have f3 := Rat.mul_nonneg ha ha
  have f4 := Rat.mul_pos hh hh
  have f5 := Rat.mul_nonneg ha (Rat.le_of_lt hh)
  refine cancel_le hDp ?_
  subst hD
  unfold NN at *
  grind

theorem core_down {a b h D P Qv : Rat} (ha : 0 ≤ a) (hh : 0 < h) (hah : a ≤ h) (hD : D = a + h)
    (r1' : (NN - 8010) * (a * a + b * b) ≤ NN * (h * h))
    (c1 : (NN - 5011) * D ≤ NN * (2 * P)) (c4 : NN * (2 * D * Qv) ≤ (NN + 7015) * (b * b)) : NN * (a + Qv - P) ≤ 11500 * h := by
  have hDp : 0 < 2 * D := by grind
  have f1 := Rat.mul_le_mul_of_nonneg_right c1 (show 0 ≤ D by grind)
  have f2 := Rat.mul_le_mul_of_nonneg_left hah ha
  have f3 := Rat.mul_nonneg ha ha
  have f4 := Rat.mul_pos hh hh
  have f5 := Rat.mul_nonneg ha (Rat.le_of_lt hh)
  refine cancel_le hDp ?_
  subst hD
  unfold NN at *
  grind

theorem root_core {a b h U Va P Qv : Rat} (ha : 0 ≤ a) (hh : 0 < h) (hah : a ≤ h) (hU : 0 ≤ U) (hVa : 0 ≤ Va)
    (r1 : Rel 8010 (h * h) (a * a + b * b)) (r2 : Rel 4010 (2 * (U * U)) (a + h)) (r3 : Rel 1000 P (U * U)) (r4 : Rel 1000 (2 * U * Va) b) (r5 : Rel 1000 Qv (Va * Va)) :
    NN * (P - Qv - a) ≤ 11500 * h ∧ NN * (a + Qv - P) ≤ 11500 * h := by
  have hD : 0 ≤ a + h := by grind
  have hUU := Rat.mul_nonneg hU hU
  have hVV := Rat.mul_nonneg hVa hVa
  have s1 := rel_scale (c := 2) (by decide) r3
  have c1 := rel_trans (by grind) (by grind) (by unfold NN; grind) (by unfold NN; grind) s1 r2
  have c2 := rel_mul (by grind) (by grind) (by unfold NN; grind) (by unfold NN; grind) (Rat.mul_nonneg (Rat.mul_nonneg (by decide) hU) hVa) r4 r4
  have c3 := rel_inv (by grind) (by unfold NN; grind) (by unfold NN; grind) (Rat.mul_nonneg (by decide) hUU) r2
  have s3 := rel_scale (c := 2 * (Va * Va)) (Rat.mul_nonneg (by decide) hVV) c3
  rw [show 2 * (Va * Va) * (2 * (U * U)) = 2 * U * Va * (2 * U * Va) by grind] at s3
  have s4 := rel_trans (by grind) (by grind) (by unfold NN; grind) (by unfold NN; grind) s3 c2
  have s5 := rel_scale (c := 2 * (a + h)) (Rat.mul_nonneg (by decide) hD) r5
  rw [show 2 * (a + h) * (Va * Va) = 2 * (Va * Va) * (a + h) by grind] at s5
  have c4 := rel_trans (by grind) (by grind) (by unfold NN; grind) (by unfold NN; grind) s5 s4
  have c1' := rel_mono c1 (show (1000 + 4010 + 1 : Rat) ≤ 5011 by grind)
  have c4' := rel_mono c4 (show (1000 + (4010 + 2 + (1000 + 1000 + 1) + 1) + 1 : Rat) ≤ 7015 by grind)
  exact ⟨core_up ha hh hah rfl r1.1 r1.2.1 c1'.1 c4'.2.1, core_down ha hh hah rfl r1.2.1 c1'.2.1 c4'.1⟩

theorem tiny {h : Rat} (h0 : p2 (-32) ≤ h) : 1000000 * p2 (-1022) ≤ h := by
  have h1 : p2 (-1022 + 20) ≤ p2 (-32) := p2_le (by omega)
  rw [p2_add, show (20 : Int) = ((20 : Nat) : Int) from rfl, p2_nat] at h1
  have e : ((2 ^ 20 : Nat) : Rat) = 1048576 := by rfl
  rw [e] at h1
  have := p2_pos (-1022)
  grind

/-- The real part: rounded difference, rounded distance. -/
theorem dist_re {a h P Qv q E : Rat} (hh : p2 (-32) ≤ h) (ha : 0 ≤ a) (hah : a ≤ h) (h1 : NN * (P - Qv - a) ≤ 11500 * h) (h2 : NN * (a + Qv - P) ≤ 11500 * h)
    (hq : Rnd q (P - Qv)) (hE : Rnd E (q - a)) : NN * E ≤ 15000 * h ∧ NN * (-E) ≤ 15000 * h := by
  have ht := tiny hh
  have hp := p2_pos (-1022)
  unfold NN at *
  have e1 := rnd_err (B := 2 * h) hq (by grind) (by grind)
  have e2 := rnd_err (B := h) hE (by grind) (by grind)
  have z1 : 9007199254740992000 * (q - a) ≤ 14000 * h := by grind
  have z2 : 9007199254740992000 * (a - q) ≤ 14000 * h := by grind
  have e3 := rnd_err (B := 14000 * h / 9007199254740992000) hE (by grind) (by grind)
  constructor <;> grind

/-- The imaginary part. -/
theorem dist_im {b h U Va Z1 Z2 q E : Rat} (hh : p2 (-32) ≤ h) (hbh : b ≤ h) (r4 : Rel 1000 (2 * U * Va) b) (rz1 : Rel 1000 Z1 (U * Va)) (rz2 : Rel 1000 Z2 (U * Va)) (rq : Rel 1000 q (Z1 + Z2))
    (hE : Rnd E (q - b)) : NN * E ≤ 15000 * h ∧ NN * (-E) ≤ 15000 * h := by
  have s := rel_add rz1 rz2
  rw [show U * Va + U * Va = 2 * U * Va by grind] at s
  have s2 := rel_trans (by grind) (by grind) (by unfold NN; grind) (by unfold NN; grind) s r4
  have s3 := rel_trans (by grind) (by grind) (by unfold NN; grind) (by unfold NN; grind) rq s2
  obtain ⟨f1, f2, f3⟩ := s3
  have ht := tiny hh
  have hp := p2_pos (-1022)
  unfold NN at *
  have z1 : 9007199254740992000 * (q - b) ≤ 3100 * h := by grind
  have z2 : 9007199254740992000 * (b - q) ≤ 3100 * h := by grind
  have e3 := rnd_err (B := h) hE (by grind) (by grind)
  have e4 := rnd_err (B := 3100 * h / 9007199254740992000) hE (by grind) (by grind)
  constructor <;> grind

end Go.Proofs.Ytmgdicpcljippac
