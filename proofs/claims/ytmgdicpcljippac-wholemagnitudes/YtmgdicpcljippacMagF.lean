/- WholeMagnitudes: what the calls answer. -/
import Derived.Test.YtmgdicpcljippacMagE
import Derived.Test.YtmgdicpcljippacWPa
namespace Go.Proofs.Ytmgdicpcljippac
open Go.RowKit

theorem is_ex {b : Nat} {v : Rat} (h : Is b v) : Ex v := by
  obtain ⟨s, r, V, rfl, hr, rfl, hV, hall⟩ := is_word h
  have h0 : Is (Ieee.double.word false r) V := hall false
  obtain ⟨k, q, h1, h2, rfl⟩ := is_rep h0 hV
  cases s
  · exact ⟨k, q, by omega, by omega, h2, by rw [Rat.intCast_natCast]; rfl⟩
  · refine ⟨-k, q, by omega, by omega, h2, ?_⟩
    rw [Rat.intCast_neg, Rat.intCast_natCast]
    simp only [sg, if_true]
    grind

theorem tame_abs {v : Rat} (h : Tame v) : rabs v < p2 31 := by
  rcases h with h | h
  · have : rabs v = 0 := by rw [h]; rfl
    rw [this]; exact p2_pos 31
  · exact h.2
theorem tame_sm {v : Rat} (h : Tame v) : Sm v := by
  have h1 := tame_abs h
  have h2 : p2 31 ≤ p2 1000 := p2_le (by omega)
  unfold rabs at h1
  by_cases hv : 0 ≤ v
  · rw [if_pos hv] at h1
    have := p2_pos 1000
    exact ⟨by grind, by grind⟩
  · rw [if_neg hv] at h1
    have := p2_pos 1000
    exact ⟨by grind, by grind⟩

theorem div_one_val {a b : Nat} {X Y : Rat} (ha : Is a X) (hb : Is b Y) (sX : Sm X) (sY : Sm Y) :
    ∃ E f, (∀ w, Calls Try.prog 18 #[.complex .f64 a b, .complex .f64 4607182418800017408 0] w fun e w' => e = .returned (.complex .f64 E f) ∧ w' = w) ∧ Is E X ∧ Is f Y := by
  have h1n : (1 : Rat) ≠ 0 := by decide
  obtain ⟨t, e1, h1⟩ := zdiv is_one h1n
  obtain ⟨y, e2, h2⟩ := zmul is_zero h1
  obtain ⟨D, e3, h3⟩ := zadd is_one h2 ex_one sm_one
  obtain ⟨p, e4, h4⟩ := zmul hb h1
  obtain ⟨P, e5, h5⟩ := zadd ha h4 (is_ex ha) sX
  obtain ⟨E, e6, h6⟩ := divE (z := X) h5 h3 h1n (Rat.mul_one _) (is_ex ha) sX
  obtain ⟨q, e7, h7⟩ := zmul ha h1
  obtain ⟨Q, e8, h8⟩ := zsub hb h7 (is_ex hb) sY
  obtain ⟨f, e9, h9⟩ := divE (z := Y) h8 h3 h1n (Rat.mul_one _) (is_ex hb) sY
  exact ⟨E, f, div_ge a b 4607182418800017408 0 t y D p P E q Q f (by decide) (by decide) (by decide +kernel) e1 e2 e3 e4 e5 e6 e7 e8 e9, h6, h9⟩

theorem div_i_val {a b : Nat} {X Y : Rat} (ha : Is a X) (hb : Is b Y) (sX : Sm X) (sY : Sm Y) :
    ∃ E f, (∀ w, Calls Try.prog 18 #[.complex .f64 (Op.negFloat .f64 b) a, .complex .f64 0 4607182418800017408] w fun e w' => e = .returned (.complex .f64 E f) ∧ w' = w) ∧ Is E X ∧ Is f Y := by
  have h1n : (1 : Rat) ≠ 0 := by decide
  have hn := neg_is hb
  obtain ⟨t, e1, h1⟩ := zdiv is_one h1n
  obtain ⟨y, e2, h2⟩ := zmul is_zero h1
  obtain ⟨D, e3, h3⟩ := zadd is_one h2 ex_one sm_one
  obtain ⟨p, e4, h4⟩ := zmul hn h1
  obtain ⟨P, e5, h5⟩ := zadd' ha h4 (is_ex ha) sX
  obtain ⟨E, e6, h6⟩ := divE (z := X) h5 h3 h1n (Rat.mul_one _) (is_ex ha) sX
  obtain ⟨q, e7, h7⟩ := zmul ha h1
  obtain ⟨Q, e8, h8⟩ := subE (z := Y) h7 hn (by grind) (is_ex hb) sY
  obtain ⟨f, e9, h9⟩ := divE (z := Y) h8 h3 h1n (Rat.mul_one _) (is_ex hb) sY
  exact ⟨E, f, div_lt (Op.negFloat .f64 b) a 0 4607182418800017408 t y D p P E q Q f (by decide) (by decide) (by decide +kernel) e1 e2 e3 e4 e5 e6 e7 e8 e9, h6, h9⟩

theorem sizes_4 (w : World) : Calls Try.prog 27 #[.complex .f64 4616189618054758400 0] w fun e w' => e = .returned (.tuple #[.float .f64 4616189618054758400, .float .f64 0]) ∧ w' = w :=
  sizes_ge 4616189618054758400 0 (by decide) (by decide) (by decide +kernel) w
theorem abs_4 (w : World) : Calls Try.prog 8 #[.complex .f64 4616189618054758400 0] w fun e w' => e = .returned (.float .f64 4616189618054758400) ∧ w' = w :=
  cabs_num 4616189618054758400 0 4616189618054758400 0 0 0 4607182418800017408 4607182418800017408 4616189618054758400 sizes_4 (by decide +kernel) (by decide +kernel) (by decide +kernel) (by decide +kernel) (by decide +kernel) (by decide +kernel) (by decide +kernel) (by decide +kernel) (by decide +kernel) (by decide +kernel) w
theorem root_4 (w : World) : Calls Try.prog 41 #[.complex .f64 4616189618054758400 0] w fun e w' => e = .returned (.complex .f64 4611686018427387904 0) ∧ w' = w :=
  root_pos 4616189618054758400 0 4616189618054758400 4620693217682128896 4616189618054758400 4611686018427387904 4616189618054758400 0 (by decide) abs_4 (by decide +kernel) (by decide +kernel) (by decide +kernel) (by decide +kernel) (by decide +kernel) (by decide +kernel) w
theorem sqrt_4 (w : World) : Calls Try.prog 19 #[.complex .f64 4616189618054758400 0] w fun e w' => e = .returned (.complex .f64 4611686018427387904 0) ∧ w' = w :=
  sqrt_mid 4616189618054758400 0 4616189618054758400 0 _ (by decide) (by decide) (by decide) sizes_4 root_4 (by decide +kernel) (by decide +kernel) (by decide +kernel) w

/-- What the statement asks of a middling number that is not nought. -/
theorem mag_val {a b : Nat} {X Y : Rat} (ha : Is a X) (hb : Is b Y) (tX : Tame X) (tY : Tame Y) (hne : ¬ (X = 0 ∧ Y = 0)) :
    ∃ h H s1 s2 S1 q1 q2 e1 e2 f bd, (∀ w, Calls Try.prog 8 #[.complex .f64 a b] w fun e w' => e = .returned (.float .f64 h) ∧ w' = w) ∧ Is h H ∧ rabs X ≤ H ∧ rabs Y ≤ H ∧ (∃ V, (V = rabs X ∨ V = rabs Y) ∧ H ≤ 2 * V) ∧ H ≠ 0 ∧
      (∀ w, Calls Try.prog 19 #[.complex .f64 a b] w fun e w' => e = .returned (.complex .f64 s1 s2) ∧ w' = w) ∧ Is s1 S1 ∧ 0 ≤ S1 ∧
      (∀ w, Calls Try.prog 7 #[.complex .f64 s1 s2, .complex .f64 s1 s2] w fun e w' => e = .returned (.complex .f64 q1 q2) ∧ w' = w) ∧ floatBits .sub .f64 q1 a = some e1 ∧ floatBits .sub .f64 q2 b = some e2 ∧
      (∀ w, Calls Try.prog 8 #[.complex .f64 e1 e2] w fun e w' => e = .returned (.float .f64 f) ∧ w' = w) ∧ floatBits .mul .f64 h 4391009636686233600 = some bd ∧ (FloatKind.f64.format.order f bd == some .lt || FloatKind.f64.format.order f bd == some .eq) = true := by
  obtain ⟨h, H, hab, hh, r1, xH, yH, hHl, hHu, hV⟩ := cabs_tame ha hb tX tY hne
  have sX := is_sign ha
  have sY := is_sign hb
  have x0 := rabs_nonneg X
  have y0 := rabs_nonneg Y
  have aa := abs_is ha
  have hb' : Is b (sg (ng b) (rabs Y)) := by rw [← sY]; exact hb
  have hB : rabs Y = 0 ∨ p2 (-32) ≤ rabs Y := by
    rcases tY with h | h
    · left; rw [h]; rfl
    · exact Or.inr h.1
  obtain ⟨g, g2, u, tu, v, U, Va, k1, k2, k3, k4, k5, hu, hv, Va0, Ul, Uu, Vu, r2, r4, Vl⟩ := root_val aa hb' hh x0 xH hB yH hHl hHu
  have hU0 : 0 ≤ U := by have := p2_pos (-17); grind
  obtain ⟨m, n, V, W, hsz, hm, hn, hW, hWV, hc⟩ := sizes_val ha hb
  have z32 := p2_pos (-32)
  have hVl : p2 (-32) ≤ V := by
    rcases tX with h | h
    · rcases tY with h' | h'
      · exact absurd ⟨h, h'⟩ hne
      · rcases hc with ⟨c1, c2⟩ | ⟨c1, c2⟩ <;> grind
    · rcases hc with ⟨c1, c2⟩ | ⟨c1, c2⟩ <;> grind
  have hVu : V < p2 1000 := by
    have l : p2 31 ≤ p2 1000 := p2_le (by omega)
    have f1 := tame_abs tX
    have f2 := tame_abs tY
    rcases hc with ⟨c1, c2⟩ | ⟨c1, c2⟩ <;> grind
  have l900 : p2 (-900) ≤ p2 (-32) := p2_le (by omega)
  obtain ⟨m1, m2, m3⟩ := mid_tests hm (by grind) hVu
  rw [← rabs_sq X, ← rabs_sq Y] at r1
  have hH0 : H ≠ 0 := by grind
  by_cases hX : 0 ≤ X
  · have ge : (FloatKind.f64.format.order a 0 == some .gt || FloatKind.f64.format.order a 0 == some .eq) = true := by
      rw [gt_is ha is_zero, eq_is ha is_zero]
      by_cases h0 : 0 < X
      · rw [decide_eq_true h0]; rfl
      · have : X = 0 := by grind
        rw [decide_eq_true this]; simp
    have hsq := sqrt_mid a b m n _ ha.1 hb.1 (max_cls ha hb) hsz (root_pos a b h g g2 u tu v ha.1 hab k1 k2 k3 k4 k5 ge) m1 m2 m3
    have ha' : Is a (sg false (rabs X)) := by rw [rabs_of hX]; exact ha
    obtain ⟨q1, q2, e1, e2, E1, E2, hml, f1, f2, hE1, hE2, b1, b2⟩ := square_val (c := false) (s1 := u) (s2 := v) ha' hb' x0 xH y0 yH hHl hHu (by simpa using hu) (by simpa using hv) Va0 Ul Uu Vu Vl r1 r2 r4
    obtain ⟨f, bd, hf, f3, t⟩ := far_val hE1 hE2 hh hHl hHu b1 b2
    exact ⟨h, H, u, v, U, q1, q2, e1, e2, f, bd, hab, hh, xH, yH, hV, hH0, hsq, hu, hU0, hml, f1, f2, hf, f3, t⟩
  · have n1 : ¬ 0 < X := by grind
    have n2 : ¬ X = 0 := by grind
    have ge : (FloatKind.f64.format.order a 0 == some .gt || FloatKind.f64.format.order a 0 == some .eq) = false := by
      rw [gt_is ha is_zero, eq_is ha is_zero, decide_eq_false n1, decide_eq_false n2]; rfl
    have hsq := sqrt_mid a b m n _ ha.1 hb.1 (max_cls ha hb) hsz (root_neg a b h g g2 u tu v ha.1 hb.1 hu.1 hv.1 hab k1 k2 k3 k4 k5 ge) m1 m2 m3
    have ha' : Is a (sg true (rabs X)) := by
      have : sg true (rabs X) = X := by unfold rabs sg; rw [if_neg hX]; simp
      rw [this]; exact ha
    have hv' : Is (v % 9223372036854775808) Va := by
      have := abs_is hv
      have e : rabs (sg (ng b) Va) = Va := by
        unfold rabs sg
        cases ng b <;> simp only [if_true, Bool.false_eq_true, if_false]
        · rw [if_pos Va0]
        · by_cases h0 : Va = 0
          · subst h0; simp
          · rw [if_neg (by grind)]; grind
      rw [e] at this; exact this
    have hu' : Is (csign u b) (sg (ng b) U) := csign_sg hu hU0
    obtain ⟨q1, q2, e1, e2, E1, E2, hml, f1, f2, hE1, hE2, b1, b2⟩ := square_val (c := true) (s1 := v % 9223372036854775808) (s2 := csign u b) ha' hb' x0 xH y0 yH hHl hHu (by simpa using hv') (by simpa using hu') Va0 Ul Uu Vu Vl r1 r2 r4
    obtain ⟨f, bd, hf, f3, t⟩ := far_val hE1 hE2 hh hHl hHu b1 b2
    exact ⟨h, H, v % 9223372036854775808, csign u b, Va, q1, q2, e1, e2, f, bd, hab, hh, xH, yH, hV, hH0, hsq, hv', Va0, hml, f1, f2, hf, f3, t⟩

/-- .. of nought. -/
theorem mag_zero {a b : Nat} (ha : Is a 0) (hb : Is b 0) :
    ∃ h s1 s2 q1 q2 e1 e2 f bd, (∀ w, Calls Try.prog 8 #[.complex .f64 a b] w fun e w' => e = .returned (.float .f64 h) ∧ w' = w) ∧ Is h 0 ∧
      (∀ w, Calls Try.prog 19 #[.complex .f64 a b] w fun e w' => e = .returned (.complex .f64 s1 s2) ∧ w' = w) ∧ Is s1 0 ∧
      (∀ w, Calls Try.prog 7 #[.complex .f64 s1 s2, .complex .f64 s1 s2] w fun e w' => e = .returned (.complex .f64 q1 q2) ∧ w' = w) ∧ floatBits .sub .f64 q1 a = some e1 ∧ floatBits .sub .f64 q2 b = some e2 ∧
      (∀ w, Calls Try.prog 8 #[.complex .f64 e1 e2] w fun e w' => e = .returned (.float .f64 f) ∧ w' = w) ∧ floatBits .mul .f64 h 4391009636686233600 = some bd ∧ (FloatKind.f64.format.order f bd == some .lt || FloatKind.f64.format.order f bd == some .eq) = true := by
  have r0 : rabs 0 = 0 := rfl
  have hp := p2_pos 900
  obtain ⟨h, H, hab, hh, _, _, hz, _⟩ := cabs_any ha hb (by rw [r0]; exact hp) (by rw [r0]; exact hp)
  rw [hz rfl rfl] at hh
  obtain ⟨m, n, V, W, hsz, hm, hn, hW, hWV, hc⟩ := sizes_val ha hb
  have hV : V = 0 := by rcases hc with ⟨c1, c2⟩ | ⟨c1, c2⟩ <;> rw [c1] <;> rfl
  have z := eq_is hm is_zero
  rw [decide_eq_true hV] at z
  obtain ⟨x1, f1, h1⟩ := zmul is_zero is_zero
  obtain ⟨x2, f2, h2⟩ := zmul hb hb
  obtain ⟨x3, f3, h3⟩ := zsub h1 h2 ex_zero sm_zero
  obtain ⟨x4, f4, h4⟩ := zmul is_zero hb
  obtain ⟨x5, f5, h5⟩ := zmul hb is_zero
  obtain ⟨x6, f6, h6⟩ := zadd h4 h5 ex_zero sm_zero
  obtain ⟨e1, f7, h7⟩ := zsub h3 ha ex_zero sm_zero
  obtain ⟨e2, f8, h8⟩ := zsub h6 hb ex_zero sm_zero
  obtain ⟨f, F, hf, hF, _, _, hz2, _⟩ := cabs_any h7 h8 (by rw [r0]; exact hp) (by rw [r0]; exact hp)
  rw [hz2 rfl rfl] at hF
  obtain ⟨bd, f9, h9⟩ := mulE (z := 0) hh is_m48 (Rat.zero_mul _).symm ex_zero sm_zero
  refine ⟨h, 0, b, x3, x6, e1, e2, f, bd, hab, hh, sqrt_zero a b m n ha.1 hb.1 (max_cls ha hb) hsz z, is_zero, mul_calls 0 b 0 b x1 x2 x4 x5 x3 x6 f1 f2 f3 f4 f5 f6, f7, f8, hf, f9, ?_⟩
  rw [lt_is hF h9, eq_is hF h9, decide_eq_true rfl]; simp

/-- What the machine's own maximum answers. -/
def pickBits (x y : Nat) : Nat :=
  if Ieee.double.read x == .infinity false || Ieee.double.read y == .infinity false then Ieee.double.write (.infinity false)
  else if (Ieee.double.read x).isNaN || (Ieee.double.read y).isNaN then 9221120237041090561
  else if (Ieee.double.read x).isZero && (Ieee.double.read y).isZero then (if (Ieee.double.read x).neg == false then x else y)
  else if (Ieee.double.read x).order (Ieee.double.read y) == some .gt then x else y

theorem run_archmax (x y : Nat) (w : World) : (callFunc 37 #[.float .f64 x, .float .f64 y]).run Try.prog w = .ok (.value (.float .f64 (pickBits x y))) w := by
  rw [run_callFunc_extern Try.func37 (by kernel_rfl) (by kernel_rfl) (by kernel_rfl) (e := Extern.MathDim.pick "math.archMax" false .gt) (by kernel_rfl)]
  rfl

set_option maxRecDepth 100000 in
set_option maxHeartbeats 1000000 in
theorem max_walk (x y : Nat) (w : World) : Calls Try.prog 17 #[.float .f64 x, .float .f64 y] w fun e w' => e = .returned (.float .f64 (pickBits x y)) ∧ w' = w := by
  have hx := run_archmax x y
  go_enter Try.func17, Try.ntmps17
  go_wp2
  go_ret
  exact ⟨rfl, rfl⟩

theorem zero_num {x : Nat} {A : Rat} {s : Bool} {m : Nat} {p : Int} (hx : Is x A) (e : Ieee.double.read x = .number s m p) (h : (Ieee.Datum.number s m p).isZero = true) : A = 0 := by
  obtain ⟨_, s', m', p', e', rfl⟩ := hx
  rw [e] at e'
  cases e'
  cases m with
  | zero => exact vl_zero _ _
  | succ k => cases h

theorem pick_is {x y : Nat} {A B : Rat} (hx : Is x A) (hy : Is y B) : (pickBits x y = x ∧ B ≤ A) ∨ (pickBits x y = y ∧ A ≤ B) := by
  have ho := order_is hx hy
  have ho' : (Ieee.double.read x).order (Ieee.double.read y) = some (if A < B then .lt else if A = B then .eq else .gt) := ho
  obtain ⟨_, s, m, p, ex, _⟩ := id hx
  obtain ⟨_, t, n, q, ey, _⟩ := id hy
  unfold pickBits
  rw [ho', ex, ey]
  rw [if_neg (by simp)]
  rw [if_neg (by simp [Ieee.Datum.isNaN])]
  by_cases hz : ((Ieee.Datum.number s m p).isZero && (Ieee.Datum.number t n q).isZero) = true
  · rw [if_pos hz]
    rw [Bool.and_eq_true] at hz
    have a0 := zero_num hx ex hz.1
    have b0 := zero_num hy ey hz.2
    rw [a0, b0]
    by_cases hs : ((Ieee.Datum.number s m p).neg == false) = true
    · rw [if_pos hs]; exact Or.inl ⟨rfl, Rat.le_refl⟩
    · rw [if_neg hs]; exact Or.inr ⟨rfl, Rat.le_refl⟩
  · rw [if_neg hz]
    by_cases h1 : A < B
    · rw [if_pos h1, if_neg (by decide)]
      exact Or.inr ⟨rfl, Rat.le_of_lt h1⟩
    · rw [if_neg h1]
      by_cases h2 : A = B
      · rw [if_pos h2, if_neg (by decide)]
        exact Or.inr ⟨rfl, by rw [h2]; exact Rat.le_refl⟩
      · rw [if_neg h2, if_pos (by decide)]
        exact Or.inl ⟨rfl, Rat.not_lt.1 h1⟩

theorem max_val {x y : Nat} {A B : Rat} (hx : Is x A) (hy : Is y B) :
    ∃ r C, (∀ w, Calls Try.prog 17 #[.float .f64 x, .float .f64 y] w fun e w' => e = .returned (.float .f64 r) ∧ w' = w) ∧ Is r C ∧ A ≤ C ∧ B ≤ C ∧ (C = A ∨ C = B) := by
  rcases pick_is hx hy with ⟨h1, h2⟩ | ⟨h1, h2⟩
  · exact ⟨pickBits x y, A, max_walk x y, by rw [h1]; exact hx, Rat.le_refl, h2, Or.inl rfl⟩
  · exact ⟨pickBits x y, B, max_walk x y, by rw [h1]; exact hy, h2, Rat.le_refl, Or.inr rfl⟩

end Go.Proofs.Ytmgdicpcljippac
