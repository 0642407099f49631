/- Plain facts: what is near to what, in thousandths of half a unit in the last place; roundings are near. -/
import Derived.Test.YtmgdicpcljippacFloE
namespace Go.Proofs.Ytmgdicpcljippac

/-- A thousand times 2^53. -/
def NN : Rat := 9007199254740992000
theorem NN_pos : 0 < NN := by unfold NN; decide

/-- x is y, but for k parts of NN at most. -/
def Rel (k x y : Rat) : Prop := NN * x ≤ (NN + k) * y ∧ (NN - k) * y ≤ NN * x ∧ 0 ≤ y

theorem cancelL {a b P : Rat} (hP : 0 < P) (h : P * a ≤ P * b) : a ≤ b := by
  rw [Rat.mul_comm P a, Rat.mul_comm P b] at h
  exact cancel_le hP h

theorem rel_refl (x : Rat) (h : 0 ≤ x) : Rel 0 x x := ⟨by grind, by grind, h⟩
theorem rel_mono {j k x y : Rat} (h : Rel j x y) (hjk : j ≤ k) : Rel k x y := by
  obtain ⟨h1, h2, h3⟩ := h
  have := Rat.mul_le_mul_of_nonneg_right hjk h3
  exact ⟨by grind, by grind, h3⟩
theorem rel_add {k x y x' y' : Rat} (h : Rel k x y) (h' : Rel k x' y') : Rel k (x + x') (y + y') := by
  obtain ⟨h1, h2, h3⟩ := h
  obtain ⟨g1, g2, g3⟩ := h'
  exact ⟨by grind, by grind, by grind⟩
theorem rel_scale {k x y c : Rat} (hc : 0 ≤ c) (h : Rel k x y) : Rel k (c * x) (c * y) := by
  obtain ⟨h1, h2, h3⟩ := h
  have a := Rat.mul_le_mul_of_nonneg_left h1 hc
  have b := Rat.mul_le_mul_of_nonneg_left h2 hc
  exact ⟨by grind, by grind, Rat.mul_nonneg hc h3⟩
theorem rel_trans {j k x y z : Rat} (hj : 0 ≤ j) (hk : 0 ≤ k) (hjN : j ≤ NN) (hjk : j * k ≤ NN) (h : Rel j x y) (h' : Rel k y z) : Rel (j + k + 1) x z := by
  obtain ⟨h1, h2, h3⟩ := h
  obtain ⟨g1, g2, g3⟩ := h'
  have hN := NN_pos
  have p1 := Rat.mul_le_mul_of_nonneg_left h1 (Rat.le_of_lt hN)
  have p2' := Rat.mul_le_mul_of_nonneg_left g1 (show 0 ≤ NN + j by grind)
  have p3 := Rat.mul_le_mul_of_nonneg_right hjk g3
  have q1 := Rat.mul_le_mul_of_nonneg_left h2 (Rat.le_of_lt hN)
  have q2 := Rat.mul_le_mul_of_nonneg_left g2 (show 0 ≤ NN - j by grind)
  have q3 := Rat.mul_nonneg (Rat.mul_nonneg hj hk) g3
  have q4 := Rat.mul_nonneg (Rat.le_of_lt hN) g3
  unfold Rel
  generalize NN = N at *
  refine ⟨cancelL hN ?_, cancelL hN ?_, g3⟩
  · grind
  · grind
theorem rel_mul {j k x y x' y' : Rat} (hj : 0 ≤ j) (hk : 0 ≤ k) (hjN : j ≤ NN) (hjk : j * k ≤ NN) (hx' : 0 ≤ x') (h : Rel j x y) (h' : Rel k x' y') : Rel (j + k + 1) (x * x') (y * y') := by
  have a := rel_scale hx' h
  have b := rel_scale h.2.2 h'
  rw [Rat.mul_comm x' x, Rat.mul_comm x' y] at a
  exact rel_trans hj hk hjN hjk a b
theorem rel_inv {k x y : Rat} (hk : 0 ≤ k) (hkN : k < NN) (hkk : k * k + 2 * k ≤ 2 * NN) (hx : 0 ≤ x) (h : Rel k x y) : Rel (k + 2) y x := by
  obtain ⟨h1, h2, h3⟩ := h
  have hN := NN_pos
  have c1 : 0 < NN - k := by grind
  have p1 := Rat.mul_le_mul_of_nonneg_left h1 (Rat.le_of_lt c1)
  have p2' := Rat.mul_nonneg (Rat.mul_nonneg hk hk) h3
  have q1 := Rat.mul_le_mul_of_nonneg_left h2 (Rat.le_of_lt hN)
  have q2 := Rat.mul_le_mul_of_nonneg_right hkk hx
  unfold Rel
  generalize NN = N at *
  have r1 : (N - k) * x ≤ N * y := cancelL hN (by grind)
  refine ⟨cancelL c1 (by grind), ?_, hx⟩
  grind

theorem rel_near {R V : Rat} (hN : Near R V) (h0 : 0 ≤ V) (h : V = 0 ∨ p2 (-1022) ≤ V) : Rel 1000 R V := by
  obtain ⟨h1, h2⟩ := near_rel hN h
  unfold Rel NN
  exact ⟨by grind, by grind, h0⟩

theorem rnd_pos {R z : Rat} (h : Rnd R z) (hz : 0 ≤ z) : Near R z := by
  rcases h with ⟨_, hN⟩ | ⟨h1, hN⟩
  · exact hN
  · have e : z = 0 := by grind
    subst e
    have e0 : (-0 : Rat) = 0 := by grind
    rw [e0] at hN
    have := near_exact hN 0 0 (by omega) (by omega) (by rw [show ((0 : Nat) : Rat) = 0 from rfl]; grind)
    have e1 : R = 0 := by grind
    rw [e1]
    rw [this] at hN
    exact hN
theorem rnd_sg {R z : Rat} {s : Bool} (h : Rnd R (sg s z)) (hz : 0 ≤ z) : Near (sg s R) z := by
  cases s
  · exact rnd_pos h hz
  · have h' : Rnd (-R) z := by
      rcases h with ⟨h1, hN⟩ | ⟨h1, hN⟩
      · right
        have e : z = 0 := by simp only [sg, if_true] at h1; grind
        refine ⟨by grind, ?_⟩
        rw [show - -R = R by grind]
        exact hN
      · left
        refine ⟨hz, ?_⟩
        have e : - sg true z = z := by simp only [sg, if_true]; grind
        rw [e] at hN
        exact hN
    exact rnd_pos h' hz

/-- A rounding's error, whatever the sign and however small. -/
theorem rnd_err {R z B : Rat} (h : Rnd R z) (h1 : z ≤ B) (h2 : -z ≤ B) : 9007199254740992 * (R - z) ≤ B + p2 (-1022) ∧ 9007199254740992 * (z - R) ≤ B + p2 (-1022) := by
  rcases h with ⟨h0, hN⟩ | ⟨h0, hN⟩
  · have := near_any hN h0
    constructor <;> grind
  · have := near_any hN (by grind)
    constructor <;> grind

theorem is_rep {b : Nat} {v : Rat} (h : Is b v) (hv : 0 ≤ v) : ∃ (k : Nat) (q : Int), k < 9007199254740992 ∧ -1074 ≤ q ∧ v = k * p2 q := by
  obtain ⟨hb, s, m, p, e, rfl⟩ := h
  obtain ⟨s', r, V, rfl, hr, hV, hV0, hall⟩ := is_word ⟨hb, s, m, p, e, rfl⟩
  obtain ⟨_, s2, m2, p2', e2, e3⟩ := hall false
  rw [read_word false r hr] at e2
  have hv2 : vl s m p = (m2 : Rat) * p2 p2' := by
    have h1 : vl s2 m2 p2' = V := e3
    have h2 : s2 = false := by split at e2 <;> (cases e2; rfl)
    subst h2
    have h3 : (m2 : Rat) * p2 p2' = V := h1
    rw [h3, hV]
    cases s'
    · rfl
    · have h5 : vl s m p = -V := hV
      rw [h5] at hv
      have h4 : V = 0 := by grind
      rw [h4]
      exact sg_zero _
  refine ⟨m2, p2', ?_, ?_, hv2⟩
  · split at e2
    · cases e2; omega
    · cases e2; omega
  · split at e2
    · cases e2; omega
    · cases e2; omega

theorem is_ge {b : Nat} {v R V : Rat} (h : Is b v) (hv : 0 ≤ v) (hN : Near R V) (hle : v ≤ V) : v ≤ R := by
  obtain ⟨k, q, h1, h2, rfl⟩ := is_rep h hv
  exact near_ge hN k q h1 hle h2
theorem is_le {b : Nat} {v R V : Rat} (h : Is b v) (hv : 0 ≤ v) (hN : Near R V) (hle : V ≤ v) : R ≤ v := by
  obtain ⟨k, q, h1, h2, rfl⟩ := is_rep h hv
  exact near_le hN k q h1 hle h2

end Go.Proofs.Ytmgdicpcljippac
