/- What package cplx answers of whole numbers: products, quotients by powers of two, magnitudes and roots on the axes, exactly. -/
import Derived.Test.YtmgdicpcljippabCX
import Derived.Test.YtmgdicpcljippabFloE
namespace Go.Proofs.Ytmgdicpcljippab
open Go.RowKit

theorem prod_bound (P R : Int) (h1 : -2147483648 ≤ P) (h2 : P ≤ 2147483648) (h3 : -1048576 ≤ R) (h4 : R ≤ 1048576) : -2251799813685248 ≤ P * R ∧ P * R ≤ 2251799813685248 := by
  have h : (P * R).natAbs ≤ 2147483648 * 1048576 := by
    rw [Int.natAbs_mul]
    exact Nat.mul_le_mul (by omega) (by omega)
  omega

theorem whole_mul {a b c d : Nat} {P Q R S : Int} (ha : Is a P) (hb : Is b Q) (hc : Is c R) (hd : Is d S)
    (p1 : -2147483648 ≤ P) (p2 : P ≤ 2147483648) (q1 : -2147483648 ≤ Q) (q2 : Q ≤ 2147483648) (r1 : -1048576 ≤ R) (r2 : R ≤ 1048576) (s1 : -1048576 ≤ S) (s2 : S ≤ 1048576) :
    ∃ re im, (∀ w, Calls Try.prog 5 #[.complex .f64 a b, .complex .f64 c d] w fun e w' => e = .returned (.complex .f64 re im) ∧ w' = w) ∧ Is re ((P * R - Q * S : Int) : Rat) ∧ Is im ((P * S + Q * R : Int) : Rat) := by
  have b1 := prod_bound P R p1 p2 r1 r2
  have b2 := prod_bound Q S q1 q2 s1 s2
  have b3 := prod_bound P S p1 p2 s1 s2
  have b4 := prod_bound Q R q1 q2 r1 r2
  obtain ⟨x1, e1, h1⟩ := mulE (z := ((P * R : Int) : Rat)) ha hc (Rat.intCast_mul _ _) (ex_int _ (by omega) (by omega)) (sm_int _ (by omega) (by omega))
  obtain ⟨x2, e2, h2⟩ := mulE (z := ((Q * S : Int) : Rat)) hb hd (Rat.intCast_mul _ _) (ex_int _ (by omega) (by omega)) (sm_int _ (by omega) (by omega))
  obtain ⟨x3, e3, h3⟩ := subE (z := ((P * R - Q * S : Int) : Rat)) h1 h2 (Rat.intCast_sub _ _) (ex_int _ (by omega) (by omega)) (sm_int _ (by omega) (by omega))
  obtain ⟨x4, e4, h4⟩ := mulE (z := ((P * S : Int) : Rat)) ha hd (Rat.intCast_mul _ _) (ex_int _ (by omega) (by omega)) (sm_int _ (by omega) (by omega))
  obtain ⟨x5, e5, h5⟩ := mulE (z := ((Q * R : Int) : Rat)) hb hc (Rat.intCast_mul _ _) (ex_int _ (by omega) (by omega)) (sm_int _ (by omega) (by omega))
  obtain ⟨x6, e6, h6⟩ := addE (z := ((P * S + Q * R : Int) : Rat)) h4 h5 (Rat.intCast_add _ _) (ex_int _ (by omega) (by omega)) (sm_int _ (by omega) (by omega))
  exact ⟨x3, x6, mul_calls a b c d x1 x2 x4 x5 x3 x6 e1 e2 e3 e4 e5 e6, h3, h6⟩

theorem pow_ne (e : Int) : p2 e ≠ 0 := by have := p2_pos e; grind
theorem frac_mul (A : Rat) (e : Nat) : A * p2 (-(e : Int)) * p2 e = A := by
  rw [Rat.mul_assoc, ← p2_add, show -(e : Int) + e = 0 by omega, p2_zero, Rat.mul_one]
theorem rabs_of {v : Rat} (h : 0 ≤ v) : rabs v = v := by unfold rabs; rw [if_pos h]

theorem zdiv {x : Nat} {v : Rat} (hx : Is x v) (hv : v ≠ 0) : ∃ r, floatBits .quo .f64 0 x = some r ∧ Is r 0 := divE is_zero hx hv (Rat.zero_mul v) ex_zero sm_zero
theorem zmul {x y : Nat} {u : Rat} (hx : Is x u) (hy : Is y 0) : ∃ r, floatBits .mul .f64 x y = some r ∧ Is r 0 := mulE hx hy (Rat.mul_zero u).symm ex_zero sm_zero
theorem zadd {x y : Nat} {u : Rat} (hx : Is x u) (hy : Is y 0) (he : Ex u) (hs : Sm u) : ∃ r, floatBits .add .f64 x y = some r ∧ Is r u := addE hx hy (Rat.add_zero u).symm he hs
theorem zadd' {x y : Nat} {u : Rat} (hx : Is x u) (hy : Is y 0) (he : Ex u) (hs : Sm u) : ∃ r, floatBits .add .f64 y x = some r ∧ Is r u := addE hy hx (Rat.zero_add u).symm he hs
theorem zsub {x y : Nat} {u : Rat} (hx : Is x u) (hy : Is y 0) (he : Ex u) (hs : Sm u) : ∃ r, floatBits .sub .f64 x y = some r ∧ Is r u := subE hx hy (by grind) he hs

/-- Quotients by a power of two, on the real axis. -/
theorem whole_div_re {a b x : Nat} {A B : Int} {k : Nat} (ha : Is a A) (hb : Is b B) (hx : Is x (p2 k)) (hk : k ≤ 60)
    (a1 : -2147483648 ≤ A) (a2 : A ≤ 2147483648) (b1 : -2147483648 ≤ B) (b2 : B ≤ 2147483648) :
    ∃ E f, (∀ w, Calls Try.prog 7 #[.complex .f64 a b, .complex .f64 x 0] w fun e w' => e = .returned (.complex .f64 E f) ∧ w' = w) ∧ Is E (A * p2 (-(k : Int))) ∧ Is f (B * p2 (-(k : Int))) := by
  have hp := p2_pos k
  obtain ⟨t, e1, h1⟩ := zdiv hx (pow_ne _)
  obtain ⟨y, e2, h2⟩ := zmul is_zero h1
  obtain ⟨D, e3, h3⟩ := zadd hx h2 (ex_pow _ (by omega)) (sm_pow _ (by omega))
  obtain ⟨p, e4, h4⟩ := zmul hb h1
  obtain ⟨P, e5, h5⟩ := zadd ha h4 (ex_int _ (by omega) (by omega)) (sm_int _ (by omega) (by omega))
  obtain ⟨E, e6, h6⟩ := divE (z := A * p2 (-(k : Int))) h5 h3 (pow_ne _) (frac_mul _ _) (ex_frac _ _ (by omega) (by omega) (by omega)) (sm_frac _ _ (by omega) (by omega) (by omega))
  obtain ⟨q, e7, h7⟩ := zmul ha h1
  obtain ⟨Q, e8, h8⟩ := zsub hb h7 (ex_int _ (by omega) (by omega)) (sm_int _ (by omega) (by omega))
  obtain ⟨f, e9, h9⟩ := divE (z := B * p2 (-(k : Int))) h8 h3 (pow_ne _) (frac_mul _ _) (ex_frac _ _ (by omega) (by omega) (by omega)) (sm_frac _ _ (by omega) (by omega) (by omega))
  have ax := abs_is hx
  rw [rabs_of (Rat.le_of_lt hp)] at ax
  have hge : (FloatKind.f64.format.order (x % 9223372036854775808) (0 % 9223372036854775808) == some .gt || FloatKind.f64.format.order (x % 9223372036854775808) (0 % 9223372036854775808) == some .eq) = true := by
    rw [gt_is ax is_zero, decide_eq_true hp]; rfl
  exact ⟨E, f, div_ge a b x 0 t y D p P E q Q f hx.1 (by decide) hge e1 e2 e3 e4 e5 e6 e7 e8 e9, h6, h9⟩

/-- .. on the imaginary axis. -/
theorem whole_div_im {a b x : Nat} {A B : Int} {k : Nat} (ha : Is a A) (hb : Is b B) (hx : Is x (p2 k)) (hk : k ≤ 60)
    (a1 : -2147483648 ≤ A) (a2 : A ≤ 2147483648) (b1 : -2147483648 ≤ B) (b2 : B ≤ 2147483648) :
    ∃ E f, (∀ w, Calls Try.prog 7 #[.complex .f64 a b, .complex .f64 0 x] w fun e w' => e = .returned (.complex .f64 E f) ∧ w' = w) ∧ Is E (B * p2 (-(k : Int))) ∧ Is f ((-A : Int) * p2 (-(k : Int))) := by
  have hp := p2_pos k
  obtain ⟨t, e1, h1⟩ := zdiv hx (pow_ne _)
  obtain ⟨y, e2, h2⟩ := zmul is_zero h1
  obtain ⟨D, e3, h3⟩ := zadd hx h2 (ex_pow _ (by omega)) (sm_pow _ (by omega))
  obtain ⟨p, e4, h4⟩ := zmul ha h1
  obtain ⟨P, e5, h5⟩ := zadd' hb h4 (ex_int _ (by omega) (by omega)) (sm_int _ (by omega) (by omega))
  obtain ⟨E, e6, h6⟩ := divE (z := B * p2 (-(k : Int))) h5 h3 (pow_ne _) (frac_mul _ _) (ex_frac _ _ (by omega) (by omega) (by omega)) (sm_frac _ _ (by omega) (by omega) (by omega))
  obtain ⟨q, e7, h7⟩ := zmul hb h1
  obtain ⟨Q, e8, h8⟩ := subE (z := ((-A : Int) : Rat)) h7 ha (by rw [Rat.intCast_neg]; grind) (ex_int _ (by omega) (by omega)) (sm_int _ (by omega) (by omega))
  obtain ⟨f, e9, h9⟩ := divE (z := (-A : Int) * p2 (-(k : Int))) h8 h3 (pow_ne _) (frac_mul _ _) (ex_frac _ _ (by omega) (by omega) (by omega)) (sm_frac _ _ (by omega) (by omega) (by omega))
  have ax := abs_is hx
  rw [rabs_of (Rat.le_of_lt hp)] at ax
  have hge : (FloatKind.f64.format.order (0 % 9223372036854775808) (x % 9223372036854775808) == some .gt || FloatKind.f64.format.order (0 % 9223372036854775808) (x % 9223372036854775808) == some .eq) = false := by
    have n1 : ¬ p2 k < 0 := by grind
    have n2 : ¬ (0 : Rat) = p2 k := by grind
    rw [gt_is is_zero ax, eq_is is_zero ax, decide_eq_false n1, decide_eq_false n2]; rfl
  exact ⟨E, f, div_lt a b 0 x t y D p P E q Q f (by decide) hx.1 hge e1 e2 e3 e4 e5 e6 e7 e8 e9, h6, h9⟩

theorem whole_scale {a b x : Nat} {A B : Int} {k : Nat} (ha : Is a A) (hb : Is b B) (hx : Is x (p2 (-(k : Int)))) (hk : k ≤ 60)
    (a1 : -2147483648 ≤ A) (a2 : A ≤ 2147483648) (b1 : -2147483648 ≤ B) (b2 : B ≤ 2147483648) :
    ∃ p q, (∀ w, Calls Try.prog 8 #[.float .f64 x, .complex .f64 a b] w fun e w' => e = .returned (.complex .f64 p q) ∧ w' = w) ∧ Is p (A * p2 (-(k : Int))) ∧ Is q (B * p2 (-(k : Int))) := by
  obtain ⟨p, e1, h1⟩ := mulE (z := A * p2 (-(k : Int))) hx ha (Rat.mul_comm _ _) (ex_frac _ _ (by omega) (by omega) (by omega)) (sm_frac _ _ (by omega) (by omega) (by omega))
  obtain ⟨q, e2, h2⟩ := mulE (z := B * p2 (-(k : Int))) hx hb (Rat.mul_comm _ _) (ex_frac _ _ (by omega) (by omega) (by omega)) (sm_frac _ _ (by omega) (by omega) (by omega))
  exact ⟨p, q, scale_calls x a b p q e1 e2, h1, h2⟩

theorem one_over {x : Nat} {k : Nat} (hx : Is x (p2 k)) (hk : k ≤ 60) : ∃ r, floatBits .quo .f64 4607182418800017408 x = some r ∧ Is r (p2 (-(k : Int))) :=
  divE is_one hx (pow_ne _) (by have := frac_mul 1 k; rw [Rat.one_mul] at this; exact this) (ex_pow _ (by omega)) (sm_pow _ (by omega))

/-- The magnitude where the lesser part is nought. -/
theorem abs_flat {a b m n : Nat} {v : Rat} (hsz : ∀ w, Calls Try.prog 18 #[.complex .f64 a b] w fun e w' => e = .returned (.tuple #[.float .f64 m, .float .f64 n]) ∧ w' = w)
    (hm : Is m v) (hn : Is n 0) (hv : 0 ≤ v) (he : Ex v) (hs : Sm v) :
    ∃ r, (∀ w, Calls Try.prog 9 #[.complex .f64 a b] w fun e w' => e = .returned (.float .f64 r) ∧ w' = w) ∧ Is r v := by
  have z := eq_is hm is_zero
  by_cases h0 : v = 0
  · subst h0
    rw [decide_eq_true rfl] at z
    exact ⟨0, cabs_zero a b m n hsz (inf_is hm sm_zero) (inf_is hn sm_zero) (nan_is hm) (nan_is hn) z, is_zero⟩
  · rw [decide_eq_false h0] at z
    obtain ⟨t, e1, h1⟩ := divE hn hm h0 (Rat.zero_mul v) ex_zero sm_zero
    obtain ⟨tt, e2, h2⟩ := zmul h1 h1
    obtain ⟨o, e3, h3⟩ := zadd is_one h2 ex_one sm_one
    have h3' : Is o (1 * 1) := by rw [Rat.mul_one]; exact h3
    obtain ⟨q, e4, h4⟩ := sqrtE h3' (by decide) ex_one (by rw [Rat.mul_one]; exact sm_one)
    obtain ⟨r, e5, h5⟩ := mulE hm h4 (Rat.mul_one v).symm he hs
    exact ⟨r, cabs_num a b m n t tt o q r hsz (inf_is hm hs) (inf_is hn sm_zero) (nan_is hm) (nan_is hn) z e1 e2 e3 e4 e5, h5⟩

theorem sizes_flat_re {a : Nat} {v : Rat} (ha : Is a v) : ∃ m n, (∀ w, Calls Try.prog 18 #[.complex .f64 a 0] w fun e w' => e = .returned (.tuple #[.float .f64 m, .float .f64 n]) ∧ w' = w) ∧ Is m (rabs v) ∧ Is n 0 := by
  have aa := abs_is ha
  refine ⟨a % 9223372036854775808, 0 % 9223372036854775808, sizes_ge a 0 ha.1 (by decide) ?_, aa, is_zero⟩
  have := rabs_nonneg v
  rw [lt_is aa is_zero, decide_eq_false (by grind)]

theorem sizes_flat_im {a : Nat} {v : Rat} (ha : Is a v) : ∃ m n, (∀ w, Calls Try.prog 18 #[.complex .f64 0 a] w fun e w' => e = .returned (.tuple #[.float .f64 m, .float .f64 n]) ∧ w' = w) ∧ Is m (rabs v) ∧ Is n 0 := by
  have aa := abs_is ha
  have hz := lt_is is_zero aa
  have h0 := rabs_nonneg v
  by_cases h : 0 < rabs v
  · rw [decide_eq_true h] at hz
    exact ⟨a % 9223372036854775808, 0 % 9223372036854775808, sizes_lt 0 a (by decide) ha.1 hz, aa, is_zero⟩
  · rw [decide_eq_false h] at hz
    have e : rabs v = 0 := by grind
    rw [e] at aa ⊢
    exact ⟨0 % 9223372036854775808, a % 9223372036854775808, sizes_ge 0 a (by decide) ha.1 hz, is_zero, aa⟩

theorem whole_abs_re {a : Nat} {v : Rat} (ha : Is a v) (he : Ex (rabs v)) (hs : Sm (rabs v)) : ∃ r, (∀ w, Calls Try.prog 9 #[.complex .f64 a 0] w fun e w' => e = .returned (.float .f64 r) ∧ w' = w) ∧ Is r (rabs v) := by
  obtain ⟨m, n, hsz, hm, hn⟩ := sizes_flat_re ha
  exact abs_flat hsz hm hn (rabs_nonneg v) he hs
theorem whole_abs_im {a : Nat} {v : Rat} (ha : Is a v) (he : Ex (rabs v)) (hs : Sm (rabs v)) : ∃ r, (∀ w, Calls Try.prog 9 #[.complex .f64 0 a] w fun e w' => e = .returned (.float .f64 r) ∧ w' = w) ∧ Is r (rabs v) := by
  obtain ⟨m, n, hsz, hm, hn⟩ := sizes_flat_im ha
  exact abs_flat hsz hm hn (rabs_nonneg v) he hs

theorem is_big : Is 9110782046170513408 (p2 1000) := by
  have hr := is_rung false 2022 4503599627370496 (by omega) (by omega) (Or.inr (by omega))
  rw [show ((4503599627370496 : Nat) : Rat) * p2 (((2022 : Nat) : Int) - 1074) = p2 1000 by rw [c52, ← p2_add]; rfl] at hr
  exact hr
theorem is_low : Is 553942754166571008 (p2 (-900)) := by
  have hr := is_rung false 122 4503599627370496 (by omega) (by omega) (Or.inr (by omega))
  rw [show ((4503599627370496 : Nat) : Rat) * p2 (((122 : Nat) : Int) - 1074) = p2 (-900) by rw [c52, ← p2_add]; rfl] at hr
  exact hr

/-- The middling numbers. -/
theorem mid_tests {m : Nat} {v : Rat} (hm : Is m v) (h1 : p2 (-900) ≤ v) (h2 : v < p2 1000) :
    (FloatKind.f64.format.order m 0 == some .eq) = false ∧ (FloatKind.f64.format.order m 9110782046170513408 == some .gt || FloatKind.f64.format.order m 9110782046170513408 == some .eq) = false ∧ (FloatKind.f64.format.order m 553942754166571008 == some .lt) = false := by
  have hp := p2_pos (-900)
  have n1 : ¬ v = 0 := by grind
  have n2 : ¬ p2 1000 < v := by grind
  have n3 : ¬ v = p2 1000 := by grind
  have n4 : ¬ v < p2 (-900) := by grind
  refine ⟨?_, ?_, ?_⟩
  · rw [eq_is hm is_zero, decide_eq_false n1]
  · rw [gt_is hm is_big, eq_is hm is_big, decide_eq_false n2, decide_eq_false n3]; rfl
  · rw [lt_is hm is_low, decide_eq_false n4]

theorem int_ge_one {n : Int} (h : 1 ≤ n) : (1 : Rat) ≤ n := by exact_mod_cast h
theorem low_le_one : p2 (-900) ≤ 1 := by rw [← p2_zero]; exact p2_le (by omega)

/-- The root of a square on the real axis, and the steps to it. -/
theorem root_steps {a : Nat} {k : Int} (k1 : 1 ≤ k) (k2 : k ≤ 1048576) (ha : Is a ((k * k : Int) : Rat)) {h : Nat} (hh : Is h ((k * k : Int) : Rat)) :
    ∃ g g2 u tu v, floatBits .add .f64 a h = some g ∧ floatBits .mul .f64 g 4602678819172646912 = some g2 ∧ Ieee.double.sqrt g2 = some u ∧
      floatBits .mul .f64 4611686018427387904 u = some tu ∧ floatBits .quo .f64 0 tu = some v ∧ Is u (k : Rat) ∧ Is v 0 := by
  have b1 := prod_bound k k (by omega) (by omega) (by omega) (by omega)
  have hkr := int_ge_one k1
  obtain ⟨g, e1, h1⟩ := addE (z := ((k * k + k * k : Int) : Rat)) ha hh (Rat.intCast_add _ _) (ex_int _ (by omega) (by omega)) (sm_int _ (by omega) (by omega))
  obtain ⟨g2, e2, h2⟩ := mulE (z := ((k * k : Int) : Rat)) h1 is_half (by
    have := p2_twice (-1)
    rw [show (-1 : Int) + 1 = 0 from rfl, p2_zero] at this
    rw [Rat.intCast_add]
    grind) (ex_int _ (by omega) (by omega)) (sm_int _ (by omega) (by omega))
  rw [Rat.intCast_mul] at h2
  obtain ⟨u, e3, h3⟩ := sqrtE h2 (by grind) (ex_int _ (by omega) (by omega)) (by rw [← Rat.intCast_mul]; exact sm_int _ (by omega) (by omega))
  obtain ⟨tu, e4, h4⟩ := mulE (z := ((2 * k : Int) : Rat)) is_two h3 (Rat.intCast_mul _ _) (ex_int _ (by omega) (by omega)) (sm_int _ (by omega) (by omega))
  have hne : ((2 * k : Int) : Rat) ≠ 0 := by
    rw [Rat.intCast_mul, show ((2 : Int) : Rat) = 2 from rfl]
    grind
  obtain ⟨v, e5, h5⟩ := zdiv h4 hne
  exact ⟨g, g2, u, tu, v, e1, e2, e3, e4, e5, h3, h5⟩

theorem max_cls {a b : Nat} {u v : Rat} (ha : Is a u) (hb : Is b v) : max (cls a) (cls b) < 3 := by
  have := cls_is ha
  have := cls_is hb
  omega

/-- The root of a whole number's square. -/
theorem whole_sqrt_pos {a : Nat} {k : Int} (k1 : 0 ≤ k) (k2 : k ≤ 1048576) (ha : Is a ((k * k : Int) : Rat)) :
    ∃ u v, (∀ w, Calls Try.prog 11 #[.complex .f64 a 0] w fun e w' => e = .returned (.complex .f64 u v) ∧ w' = w) ∧ Is u (k : Rat) ∧ Is v 0 := by
  have b1 := prod_bound k k (by omega) (by omega) (by omega) (by omega)
  have hkk : 0 ≤ k * k := Int.mul_nonneg k1 k1
  have hpos : (0 : Rat) ≤ ((k * k : Int) : Rat) := by exact_mod_cast hkk
  obtain ⟨m, n, hsz, hm, hn⟩ := sizes_flat_re ha
  rw [rabs_of hpos] at hm
  by_cases h0 : k = 0
  · subst h0
    have z := eq_is hm is_zero
    rw [decide_eq_true (p := ((0 * 0 : Int) : Rat) = 0) (by decide)] at z
    exact ⟨0, 0, sqrt_zero a 0 m n ha.1 (by decide) (max_cls ha is_zero) hsz z, is_zero, is_zero⟩
  · have k3 : 1 ≤ k := by omega
    have hge1 : 1 ≤ k * k := by
      have := Int.mul_le_mul k3 k3 (by omega) (by omega)
      omega
    obtain ⟨t1, t2, t3⟩ := mid_tests hm (Rat.le_trans low_le_one (int_ge_one hge1)) (sm_int _ (by omega) (by omega)).2
    obtain ⟨h, hab, hh⟩ := whole_abs_re ha (by rw [rabs_of hpos]; exact ex_int _ (by omega) (by omega)) (by rw [rabs_of hpos]; exact sm_int _ (by omega) (by omega))
    rw [rabs_of hpos] at hh
    have haa := mod_nonneg_is ha hpos
    obtain ⟨g, g2, u, tu, v, e1, e2, e3, e4, e5, hu, hv⟩ := root_steps k3 k2 haa hh
    have ge : (FloatKind.f64.format.order a 0 == some .gt || FloatKind.f64.format.order a 0 == some .eq) = true := by
      have : (0 : Rat) < ((k * k : Int) : Rat) := by have := int_ge_one hge1; grind
      rw [gt_is ha is_zero, decide_eq_true this]; rfl
    exact ⟨u, v, sqrt_mid a 0 m n _ ha.1 (by decide) (max_cls ha is_zero) hsz (root_pos a 0 h g g2 u tu v ha.1 hab e1 e2 e3 e4 e5 ge) t1 t2 t3, hu, hv⟩

theorem csign_is {u : Nat} {v : Rat} (hu : Is u v) (hv : 0 ≤ v) : Is (csign u 0) v := by
  have := mod_nonneg_is hu hv
  unfold csign
  rw [show ng 0 = false from rfl, if_neg (by decide), Nat.zero_add]
  exact this

theorem whole_sqrt_neg {a : Nat} {k : Int} (k1 : 0 ≤ k) (k2 : k ≤ 1048576) (ha : Is a (-((k * k : Int) : Rat))) :
    ∃ u v, (∀ w, Calls Try.prog 11 #[.complex .f64 a 0] w fun e w' => e = .returned (.complex .f64 u v) ∧ w' = w) ∧ Is u 0 ∧ Is v (k : Rat) := by
  have b1 := prod_bound k k (by omega) (by omega) (by omega) (by omega)
  have hkk : 0 ≤ k * k := Int.mul_nonneg k1 k1
  have hpos : (0 : Rat) ≤ ((k * k : Int) : Rat) := by exact_mod_cast hkk
  have hab' : rabs (-((k * k : Int) : Rat)) = ((k * k : Int) : Rat) := by unfold rabs; grind
  obtain ⟨m, n, hsz, hm, hn⟩ := sizes_flat_re ha
  rw [hab'] at hm
  by_cases h0 : k = 0
  · subst h0
    have z := eq_is hm is_zero
    rw [decide_eq_true (p := ((0 * 0 : Int) : Rat) = 0) (by decide)] at z
    exact ⟨0, 0, sqrt_zero a 0 m n ha.1 (by decide) (max_cls ha is_zero) hsz z, is_zero, is_zero⟩
  · have k3 : 1 ≤ k := by omega
    have hge1 : 1 ≤ k * k := by
      have := Int.mul_le_mul k3 k3 (by omega) (by omega)
      omega
    obtain ⟨t1, t2, t3⟩ := mid_tests hm (Rat.le_trans low_le_one (int_ge_one hge1)) (sm_int _ (by omega) (by omega)).2
    obtain ⟨h, hab, hh⟩ := whole_abs_re ha (by rw [hab']; exact ex_int _ (by omega) (by omega)) (by rw [hab']; exact sm_int _ (by omega) (by omega))
    rw [hab'] at hh
    have haa := abs_is ha
    rw [hab'] at haa
    obtain ⟨g, g2, u, tu, v, e1, e2, e3, e4, e5, hu, hv⟩ := root_steps k3 k2 haa hh
    have hlt : (0 : Rat) < ((k * k : Int) : Rat) := by have := int_ge_one hge1; grind
    have n1 : ¬ (0 : Rat) < -((k * k : Int) : Rat) := by grind
    have n2 : ¬ -((k * k : Int) : Rat) = 0 := by grind
    have ge : (FloatKind.f64.format.order a 0 == some .gt || FloatKind.f64.format.order a 0 == some .eq) = false := by
      rw [gt_is ha is_zero, eq_is ha is_zero, decide_eq_false n1, decide_eq_false n2]; rfl
    refine ⟨v % 9223372036854775808, csign u 0, sqrt_mid a 0 m n _ ha.1 (by decide) (max_cls ha is_zero) hsz (root_neg a 0 h g g2 u tu v ha.1 (by decide) hu.1 hv.1 hab e1 e2 e3 e4 e5 ge) t1 t2 t3, mod_nonneg_is hv (by decide), csign_is hu (Rat.le_trans (by decide) (int_ge_one k3))⟩

end Go.Proofs.Ytmgdicpcljippab
