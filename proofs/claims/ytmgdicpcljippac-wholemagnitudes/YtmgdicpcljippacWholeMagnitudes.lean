/- WholeMagnitudes: the magnitude is no less than a part and at most twice the greater one; quotients by 1 and i; the square of the root is near. No condition. -/
import Derived.Test.YtmgdicpcljippacMagH
import Derived.Test.YtmgdicpcljippacPost
namespace Go.Proofs.Ytmgdicpcljippac
open Go.ChangeShapes Go.WideShapes Go.ChangeAt Go.RowKit

theorem both_eq {x y x' y' : Nat} {X Y : Rat} (h1 : Is x X) (h2 : Is y Y) (h3 : Is x' X) (h4 : Is y' Y) : (FloatKind.f64.format.order x x' == some .eq && FloatKind.f64.format.order y y' == some .eq) = true := by
  rw [eq_is h1 h3, eq_is h2 h4, decide_eq_true rfl, decide_eq_true rfl]; rfl
theorem ge_zero {s : Nat} {S : Rat} (h : Is s S) (h0 : 0 ≤ S) : (FloatKind.f64.format.order s 0 == some .gt || FloatKind.f64.format.order s 0 == some .eq) = true := by
  rw [gt_is h is_zero, eq_is h is_zero]
  by_cases h1 : 0 < S
  · rw [decide_eq_true h1]; rfl
  · have : S = 0 := by grind
    rw [decide_eq_true this]; simp

theorem wholeMagnitudes_calls (a b : Int) (x y : Nat) (X Y : Rat) (Ht1 : ∀ w, Calls Try.prog 15 #[.int .u64 a] w fun e w' => e = .returned (.float .f64 x) ∧ w' = w) (Ht2 : ∀ w, Calls Try.prog 15 #[.int .u64 b] w fun e w' => e = .returned (.float .f64 y) ∧ w' = w)
    (hx : Is x X) (hy : Is y Y) (tX : Tame X) (tY : Tame Y) (w : World) :
    Calls Try.prog 4 #[.int .u64 a, .int .u64 b] w fun e w' => e = .returned (.bool true) ∧ w' = w := by
  have sX := tame_sm tX
  have sY := tame_sm tY
  have ax := abs_is hx
  have ay := abs_is hy
  have x0 := rabs_nonneg X
  have y0 := rabs_nonneg Y
  have lX := tame_abs tX
  have lY := tame_abs tY
  obtain ⟨mx, C, Hmx, hC, c1, c2, c3⟩ := max_val ax ay
  have C0 : 0 ≤ C := by grind
  have Cu : C < p2 31 := by rcases c3 with h | h <;> grind
  have t32 := p2_twice 31
  have l1000 : p2 (31 + 1) ≤ p2 1000 := p2_le (by omega)
  obtain ⟨m2, km, hm2⟩ : ∃ m2, floatBits .mul .f64 4611686018427387904 mx = some m2 ∧ Is m2 (2 * C) := by
    refine mulE is_two hC rfl (twice_ex hC C0) ?_
    have p := p2_pos 1000
    exact ⟨by grind, by grind⟩
  obtain ⟨d1, d2, Hd1, hd1, hd2⟩ := div_one_val hx hy sX sY
  obtain ⟨d3, d4, Hd2, hd3, hd4⟩ := div_i_val hx hy sX sY
  have o5 := both_eq hd1 hd2 hx hy
  have o6 := both_eq hd3 hd4 hx hy
  have Hal := alike_walk d1 d2 x y hd1.1 hd2.1 hx.1 hy.1
  by_cases hz : X = 0 ∧ Y = 0
  · obtain ⟨hX, hY⟩ := hz
    have hx0 := hx
    have hy0 := hy
    rw [hX] at hx0
    rw [hY] at hy0
    obtain ⟨h, s1, s2, q1, q2, e1, e2, f, bd, Hab, hh, Hsq, hs1, Hml, k1, k2, Hfa, kb, o8⟩ := mag_zero hx0 hy0
    have r0 : rabs X = 0 := by rw [hX]; rfl
    have r1 : rabs Y = 0 := by rw [hY]; rfl
    have o1 : (FloatKind.f64.format.order h (x % 9223372036854775808) == some .lt) = false := by rw [lt_is hh ax, decide_eq_false (by grind)]
    have o2 : (FloatKind.f64.format.order h (y % 9223372036854775808) == some .lt) = false := by rw [lt_is hh ay, decide_eq_false (by grind)]
    have o3 : (FloatKind.f64.format.order h m2 == some .gt) = false := by rw [gt_is hh hm2, decide_eq_false (by grind)]
    have o7 := ge_zero hs1 Rat.le_refl
    have o4 : (FloatKind.f64.format.order h 0 == some .eq) = true := by rw [eq_is hh is_zero, decide_eq_true rfl]
    have o4' : (FloatKind.f64.format.order x 0 == some .eq && FloatKind.f64.format.order y 0 == some .eq) = true := both_eq hx0 hy0 is_zero is_zero
    cases hsm : (decide (lf d1 = lf x) && decide (lf d2 = lf y))
    · rw [hsm] at Hal
      exact mag_tf a b x y h mx m2 d1 d2 d3 d4 s1 s2 q1 q2 e1 e2 f bd Ht1 Ht2 Hab (mabs_walk x hx.1) (mabs_walk y hy.1) Hmx Hd1 Hd2 Hsq Hml Hfa km k1 k2 kb o1 o2 o3 o5 o6 o7 o8 o4 o4' Hal w
    · rw [hsm] at Hal
      exact mag_tt a b x y h mx m2 d1 d2 d3 d4 s1 s2 q1 q2 e1 e2 f bd Ht1 Ht2 Hab (mabs_walk x hx.1) (mabs_walk y hy.1) Hmx Hd1 Hd2 Hsq Hml Hfa km k1 k2 kb o1 o2 o3 o5 o6 o7 o8 o4 o4' Hal w
  · obtain ⟨h, H, s1, s2, S1, q1, q2, e1, e2, f, bd, Hab, hh, xH, yH, hV, hH0, Hsq, hs1, hS1, Hml, k1, k2, Hfa, kb, o8⟩ := mag_val hx hy tX tY hz
    have o1 : (FloatKind.f64.format.order h (x % 9223372036854775808) == some .lt) = false := by rw [lt_is hh ax, decide_eq_false (by grind)]
    have o2 : (FloatKind.f64.format.order h (y % 9223372036854775808) == some .lt) = false := by rw [lt_is hh ay, decide_eq_false (by grind)]
    have o3 : (FloatKind.f64.format.order h m2 == some .gt) = false := by
      have n : ¬ 2 * C < H := by
        obtain ⟨V, h1, h2⟩ := hV
        rcases h1 with h1 | h1 <;> grind
      rw [gt_is hh hm2, decide_eq_false n]
    have o7 := ge_zero hs1 hS1
    have o4 : (FloatKind.f64.format.order h 0 == some .eq) = false := by rw [eq_is hh is_zero, decide_eq_false hH0]
    have o4' : (FloatKind.f64.format.order x 0 == some .eq && FloatKind.f64.format.order y 0 == some .eq) = false := by
      rw [eq_is hx is_zero, eq_is hy is_zero]
      by_cases g1 : X = 0
      · have g2 : ¬ Y = 0 := fun g2 => hz ⟨g1, g2⟩
        rw [decide_eq_false g2, Bool.and_false]
      · rw [decide_eq_false g1, Bool.false_and]
    cases hsm : (decide (lf d1 = lf x) && decide (lf d2 = lf y))
    · rw [hsm] at Hal
      exact mag_ff a b x y h mx m2 d1 d2 d3 d4 s1 s2 q1 q2 e1 e2 f bd Ht1 Ht2 Hab (mabs_walk x hx.1) (mabs_walk y hy.1) Hmx Hd1 Hd2 Hsq Hml Hfa km k1 k2 kb o1 o2 o3 o5 o6 o7 o8 o4 o4' Hal w
    · rw [hsm] at Hal
      exact mag_ft a b x y h mx m2 d1 d2 d3 d4 s1 s2 q1 q2 e1 e2 f bd Ht1 Ht2 Hab (mabs_walk x hx.1) (mabs_walk y hy.1) Hmx Hd1 Hd2 Hsq Hml Hfa km k1 k2 kb o1 o2 o3 o5 o6 o7 o8 o4 o4' Hal w

theorem wholeMagnitudes_any (a b : Int) (wa : (Lit.int .u64 a).wf = true) (wb : (Lit.int .u64 b).wf = true) (w : World) :
    Calls Try.prog 4 #[.int .u64 a, .int .u64 b] w fun e w' => e = .returned (.bool true) ∧ Below w.heap.size w w' := by
  have ha := bound_u a wa
  have hb := bound_u b wb
  obtain ⟨x, X, Ht1, hx, tX⟩ := tame_is a.toNat (by omega)
  obtain ⟨y, Y, Ht2, hy, tY⟩ := tame_is b.toNat (by omega)
  rw [show ((a.toNat : Nat) : Int) = a by omega] at Ht1
  rw [show ((b.toNat : Nat) : Int) = b by omega] at Ht2
  refine (wholeMagnitudes_calls a b x y X Y Ht1 Ht2 hx hy tX tY w).mono ?_
  rintro e w' ⟨rfl, rfl⟩
  exact ⟨rfl, Below.refl _ _⟩

set_option maxRecDepth 100000 in
theorem wholeMagnitudes_lifted (os : Os) (started : os.Started) (H : Type) (enc : TypeId × Value → H) :
    ReturnsInHanded {} Try.checked os 4 .any (Rows.wholeMagnitudesSpec.pre6 enc Try.prog Try.f4 Rows.wholeMagnitudesRow.domain false) (Rows.wholeMagnitudesSpec.post enc Try.prog Try.f4 false true false false) := by
  refine returnsInHanded_of_change (C := Try.checked) (by kernel_rfl) started (by kernel_rfl) Try.func4
    (ChangeSpec.witness6 (enc := enc) (C := Try.checked) false ⟨#[], #[.int .u64 0, .int .u64 0], []⟩ 8 (by kernel_rfl) (by kernel_rfl) (by kernel_rfl) (by kernel_rfl)) ?_
  intro W base args ds gs before hval0 hW hcnd _
  have hval : ∀ (j : Nat) t v, Try.f4.params[j]? = some t → args[j]? = some v → Value.okWide Try.prog W .any base t v := hval0
  have hW' := hW
  obtain ⟨p, q, hA0, hV, rfl, hfz, hnd⟩ := hW
  have hA : DataW.TrodAll enc Try.prog W 0 (fun _ => true) true Try.f4.params.toList args.toList ds p := hA0
  rw [Try.params4] at hA hval
  obtain ⟨v0, vs0, d0, ds0, p0, q0, hargs, rfl, rfl, h0, r0⟩ := trodAll_cons hA
  obtain ⟨v1, vs1, d1, ds1, p1, q1, rfl, rfl, rfl, h1, r1⟩ := trodAll_cons r0
  obtain ⟨rfl, rfl, rfl⟩ := trodAll_nil r1
  obtain rfl : args = #[v0, v1] := by cases args; simp_all
  obtain ⟨rfl, rfl⟩ := trodVars_none hV
  obtain ⟨a0, rfl, rfl, rfl, w0⟩ := open_int Try.underlying22 (hval 0 22 v0 rfl rfl) h0
  obtain ⟨a1, rfl, rfl, rfl, w1⟩ := open_int Try.underlying22 (hval 1 22 v1 rfl rfl) h1
  clear hA0 hval0
  simp only [List.append_nil] at hW'
  refine (wholeMagnitudes_any a0 a1 w0 w1 W).mono fun e W' ⟨he, hg⟩ => ?_
  subst he
  exact ⟨_, rfl, post_new hW' (fun _ _ _ => trodAll_cons_mk (shut_bool Try.underlying4 _) trodAll_mk0) (fun _ => (trodAll_cons_mk (shut_int Try.underlying22 w0) (trodAll_cons_mk (shut_int Try.underlying22 w1) trodAll_mk0))) (fun _ => rfl) hg (ok_one (by kernel_rfl) rfl (okWide_bool_mk Try.underlying4 _))⟩

theorem wholeMagnitudes_holds : Rows.WholeMagnitudesSaid :=
  OpenClaim.holds_of_wide 4 Try.f4 rfl rfl rfl rfl rfl rfl rfl ⟨rfl, rfl, rfl, rfl, rfl⟩ rfl rfl rfl rfl rfl (by kernel_rfl) Try.func4 (by kernel_rfl)
    (of_decide_eq_true (by kernel_rfl)) (by unfold Func.isWrapper; first | (rw [if_pos (by decide +kernel)]; kernel_rfl) | (rw [if_neg (by decide +kernel)]; exact ⟨rfl, rfl⟩))
    (fun os started H enc _ => wholeMagnitudes_lifted os started H enc)

end Go.Proofs.Ytmgdicpcljippac
