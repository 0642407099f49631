/- CplxWhole: of whole numbers that are not too great products are exact, quotients by powers of two too, magnitudes and roots on the axes. No condition. -/
import Derived.Test.YtmgdicpcljippabCC
import Derived.Test.YtmgdicpcljippabPost
namespace Go.Proofs.Ytmgdicpcljippab
open Go.ChangeShapes Go.WideShapes Go.ChangeAt Go.RowKit

theorem bound_l (n : Int) (h : (Lit.int .i32 n).wf = true) : -2147483648 ≤ n ∧ n ≤ 2147483647 := by simpa [Lit.wf, IntKind.min, IntKind.max, IntKind.signed, IntKind.bits] using h

theorem rabs_int (n : Int) : rabs (n : Rat) = ((n.natAbs : Int) : Rat) := by
  unfold rabs
  by_cases h : 0 ≤ n
  · have h1 : (0 : Rat) ≤ n := by exact_mod_cast h
    rw [if_pos h1]
    congr 1; omega
  · have h1 : (n : Rat) < 0 := by exact_mod_cast (by omega : n < 0)
    rw [if_neg (Rat.not_le.2 h1), ← Rat.intCast_neg]
    congr 1; omega

theorem eqv {x y : Nat} {v : Rat} (hx : Is x v) (hy : Is y v) : (FloatKind.f64.format.order x y == some .eq) = true := by rw [eq_is hx hy, decide_eq_true rfl]
theorem nev {x y : Nat} {v : Rat} (hx : Is x v) (hy : Is y v) : (FloatKind.f64.format.order x y != some .eq) = false := by
  have := eqv hx hy
  simp at this
  simp [this]

theorem whole_any' (a b c d e k : Int) (a1 : -2147483648 ≤ a) (a2 : a ≤ 2147483647) (b1 : -2147483648 ≤ b) (b2 : b ≤ 2147483647) (k1 : 0 ≤ k) (k2 : k ≤ 60)
    (hk : (0 ≤ e ∧ e ≤ 60 ∧ k = e) ∨ (e < 0 ∧ k = 7) ∨ (0 ≤ e ∧ 60 < e ∧ k = 7)) (w : World) :
    Calls Try.prog 3 #[.int .i32 a, .int .i32 b, .int .i32 c, .int .i32 d, .int .i64 e] w fun e w' => e = .returned (.bool true) ∧ Below w.heap.size w w' := by
  obtain ⟨R, hR⟩ : ∃ R, c.tmod 1048576 = R := ⟨_, rfl⟩
  obtain ⟨S, hS⟩ : ∃ S, d.tmod 1048576 = S := ⟨_, rfl⟩
  have r1' : -1048576 < R := by rw [← hR]; exact Int.lt_tmod_of_pos c (by decide)
  have r2' : R < 1048576 := by rw [← hR]; exact Int.tmod_lt_of_pos c (by decide)
  have s1' : -1048576 < S := by rw [← hS]; exact Int.lt_tmod_of_pos d (by decide)
  have s2' : S < 1048576 := by rw [← hS]; exact Int.tmod_lt_of_pos d (by decide)
  have ha := ofInt_is a (by omega) (by omega)
  have hb := ofInt_is b (by omega) (by omega)
  have hc := ofInt_is R (by omega) (by omega)
  have hd := ofInt_is S (by omega) (by omega)
  have p1 := prod_bound a R (by omega) (by omega) (by omega) (by omega)
  have p2' := prod_bound b S (by omega) (by omega) (by omega) (by omega)
  have p3 := prod_bound a S (by omega) (by omega) (by omega) (by omega)
  have p4 := prod_bound b R (by omega) (by omega) (by omega) (by omega)
  obtain ⟨re, im, Hm, hre, him⟩ := whole_mul ha hb hc hd (by omega) (by omega) (by omega) (by omega) (by omega) (by omega) (by omega) (by omega)
  obtain ⟨W, Hl, hW⟩ := ldexp_is k k1 k2
  obtain ⟨iw, kq, hiw⟩ := one_over hW (by omega)
  obtain ⟨E1, f1, Hd1, hE1, hf1⟩ := whole_div_re ha hb hW (by omega) (by omega) (by omega) (by omega) (by omega)
  obtain ⟨s1, g1, Hs1, hs1, hg1⟩ := whole_scale ha hb hiw (by omega) (by omega) (by omega) (by omega) (by omega)
  obtain ⟨E2, f2, Hd2, hE2, hf2⟩ := whole_div_im ha hb hW (by omega) (by omega) (by omega) (by omega) (by omega)
  have hna := neg_is ha
  rw [← Rat.intCast_neg] at hna
  obtain ⟨s2, g2, Hs2, hs2, hg2⟩ := whole_scale hb hna hiw (by omega) (by omega) (by omega) (by omega) (by omega)
  have xa : Ex (rabs (a : Rat)) := by rw [rabs_int]; exact ex_int _ (by omega) (by omega)
  have ya : Sm (rabs (a : Rat)) := by rw [rabs_int]; exact sm_int _ (by omega) (by omega)
  obtain ⟨r1, Ha1, hr1⟩ := whole_abs_re ha xa ya
  obtain ⟨r2, Ha2, hr2⟩ := whole_abs_im ha xa ya
  have Hk := mabs_walk (floatOfInt .f64 R) hc.1
  have hK := abs_is hc
  rw [rabs_int] at hK
  obtain ⟨K, hKe⟩ : ∃ K : Int, K = (R.natAbs : Int) := ⟨_, rfl⟩
  rw [← hKe] at hK
  have q1 : 0 ≤ K := by omega
  have q2 : K ≤ 1048576 := by omega
  have pk := prod_bound K K (by omega) (by omega) (by omega) (by omega)
  obtain ⟨kk, km, hkk⟩ := mulE (z := ((K * K : Int) : Rat)) hK hK (Rat.intCast_mul _ _) (ex_int _ (by omega) (by omega)) (sm_int _ (by omega) (by omega))
  obtain ⟨mk, kn, hmk⟩ := mulE (z := ((-(K * K) : Int) : Rat)) (neg_is hK) hK (by rw [Rat.intCast_neg, Rat.intCast_mul]; grind) (ex_int _ (by omega) (by omega)) (sm_int _ (by omega) (by omega))
  rw [Rat.intCast_neg] at hmk
  obtain ⟨u1, v1, Hq1, hu1, hv1⟩ := whole_sqrt_pos q1 q2 hkk
  obtain ⟨u2, v2, Hq2, hu2, hv2⟩ := whole_sqrt_neg q1 q2 hmk
  have o1 := eqv hre (ofInt_is (a * R - b * S) (by omega) (by omega))
  have o2 := eqv him (ofInt_is (a * S + b * R) (by omega) (by omega))
  have hlt := lt_is ha is_zero
  by_cases hneg : a < 0
  · have h1 : (a : Rat) < 0 := by exact_mod_cast hneg
    rw [decide_eq_true h1] at hlt
    have hn : Is (Op.negFloat .f64 (floatOfInt .f64 a)) (rabs (a : Rat)) := by
      rw [rabs_int, show ((a.natAbs : Nat) : Int) = -a by omega]; exact hna
    rcases hk with ⟨e1, e2, hk⟩ | ⟨e1, hk⟩ | ⟨e1, e2, hk⟩
    · exact whole_in_neg a b c d e R S k W iw re im E1 f1 s1 g1 E2 f2 s2 g2 r1 r2 kk mk u1 v1 u2 v2 Hm Hl Hd1 Hs1 Hd2 Hs2 Ha1 Ha2 Hk Hq1 Hq2 kq km kn hR hS o1 o2 (eqv hE1 hs1) (eqv hf1 hg1) (eqv hE2 hs2) (eqv hf2 hg2) (nev hr1 hn) (nev hr2 hn) (eqv hu1 hK) (eqv hv1 is_zero) (eqv hu2 is_zero) (eqv hv2 hK) a1 a2 b1 b2 (by omega) (by omega) (by omega) (by omega) e1 e2 hk hlt w
    · exact whole_lo_neg a b c d e R S k W iw re im E1 f1 s1 g1 E2 f2 s2 g2 r1 r2 kk mk u1 v1 u2 v2 Hm Hl Hd1 Hs1 Hd2 Hs2 Ha1 Ha2 Hk Hq1 Hq2 kq km kn hR hS o1 o2 (eqv hE1 hs1) (eqv hf1 hg1) (eqv hE2 hs2) (eqv hf2 hg2) (nev hr1 hn) (nev hr2 hn) (eqv hu1 hK) (eqv hv1 is_zero) (eqv hu2 is_zero) (eqv hv2 hK) a1 a2 b1 b2 (by omega) (by omega) (by omega) (by omega) e1 hk hlt w
    · exact whole_hi_neg a b c d e R S k W iw re im E1 f1 s1 g1 E2 f2 s2 g2 r1 r2 kk mk u1 v1 u2 v2 Hm Hl Hd1 Hs1 Hd2 Hs2 Ha1 Ha2 Hk Hq1 Hq2 kq km kn hR hS o1 o2 (eqv hE1 hs1) (eqv hf1 hg1) (eqv hE2 hs2) (eqv hf2 hg2) (nev hr1 hn) (nev hr2 hn) (eqv hu1 hK) (eqv hv1 is_zero) (eqv hu2 is_zero) (eqv hv2 hK) a1 a2 b1 b2 (by omega) (by omega) (by omega) (by omega) e1 e2 hk hlt w
  · have h1 : ¬ (a : Rat) < 0 := by
      have : (0 : Rat) ≤ a := by exact_mod_cast (by omega : 0 ≤ a)
      grind
    rw [decide_eq_false h1] at hlt
    have hn : Is (floatOfInt .f64 a) (rabs (a : Rat)) := by
      rw [rabs_int, show ((a.natAbs : Nat) : Int) = a by omega]; exact ha
    rcases hk with ⟨e1, e2, hk⟩ | ⟨e1, hk⟩ | ⟨e1, e2, hk⟩
    · exact whole_in_pos a b c d e R S k W iw re im E1 f1 s1 g1 E2 f2 s2 g2 r1 r2 kk mk u1 v1 u2 v2 Hm Hl Hd1 Hs1 Hd2 Hs2 Ha1 Ha2 Hk Hq1 Hq2 kq km kn hR hS o1 o2 (eqv hE1 hs1) (eqv hf1 hg1) (eqv hE2 hs2) (eqv hf2 hg2) (nev hr1 hn) (nev hr2 hn) (eqv hu1 hK) (eqv hv1 is_zero) (eqv hu2 is_zero) (eqv hv2 hK) a1 a2 b1 b2 (by omega) (by omega) (by omega) (by omega) e1 e2 hk hlt w
    · exact whole_lo_pos a b c d e R S k W iw re im E1 f1 s1 g1 E2 f2 s2 g2 r1 r2 kk mk u1 v1 u2 v2 Hm Hl Hd1 Hs1 Hd2 Hs2 Ha1 Ha2 Hk Hq1 Hq2 kq km kn hR hS o1 o2 (eqv hE1 hs1) (eqv hf1 hg1) (eqv hE2 hs2) (eqv hf2 hg2) (nev hr1 hn) (nev hr2 hn) (eqv hu1 hK) (eqv hv1 is_zero) (eqv hu2 is_zero) (eqv hv2 hK) a1 a2 b1 b2 (by omega) (by omega) (by omega) (by omega) e1 hk hlt w
    · exact whole_hi_pos a b c d e R S k W iw re im E1 f1 s1 g1 E2 f2 s2 g2 r1 r2 kk mk u1 v1 u2 v2 Hm Hl Hd1 Hs1 Hd2 Hs2 Ha1 Ha2 Hk Hq1 Hq2 kq km kn hR hS o1 o2 (eqv hE1 hs1) (eqv hf1 hg1) (eqv hE2 hs2) (eqv hf2 hg2) (nev hr1 hn) (nev hr2 hn) (eqv hu1 hK) (eqv hv1 is_zero) (eqv hu2 is_zero) (eqv hv2 hK) a1 a2 b1 b2 (by omega) (by omega) (by omega) (by omega) e1 e2 hk hlt w

theorem cplxWhole_any (a b c d e : Int) (wa : (Lit.int .i32 a).wf = true) (wb : (Lit.int .i32 b).wf = true) (_ : (Lit.int .i32 c).wf = true) (_ : (Lit.int .i32 d).wf = true) (_ : (Lit.int .i64 e).wf = true) (w : World) :
    Calls Try.prog 3 #[.int .i32 a, .int .i32 b, .int .i32 c, .int .i32 d, .int .i64 e] w fun e w' => e = .returned (.bool true) ∧ Below w.heap.size w w' := by
  have ha := bound_l a wa
  have hb := bound_l b wb
  by_cases h1 : e < 0
  · exact whole_any' a b c d e 7 ha.1 ha.2 hb.1 hb.2 (by omega) (by omega) (Or.inr (Or.inl ⟨h1, rfl⟩)) w
  · by_cases h2 : e ≤ 60
    · exact whole_any' a b c d e e ha.1 ha.2 hb.1 hb.2 (by omega) h2 (Or.inl ⟨by omega, h2, rfl⟩) w
    · exact whole_any' a b c d e 7 ha.1 ha.2 hb.1 hb.2 (by omega) (by omega) (Or.inr (Or.inr ⟨by omega, by omega, rfl⟩)) w

set_option maxRecDepth 100000 in
theorem cplxWhole_lifted (os : Os) (started : os.Started) (H : Type) (enc : TypeId × Value → H) :
    ReturnsInHanded {} Try.checked os 3 .any (Rows.cplxWholeSpec.pre6 enc Try.prog Try.f3 Rows.cplxWholeRow.domain false) (Rows.cplxWholeSpec.post enc Try.prog Try.f3 false true false false) := by
  refine returnsInHanded_of_change (C := Try.checked) (by kernel_rfl) started (by kernel_rfl) Try.func3
    (ChangeSpec.witness6 (enc := enc) (C := Try.checked) false ⟨#[], #[.int .i32 0, .int .i32 0, .int .i32 0, .int .i32 0, .int .i64 0], []⟩ 8 (by kernel_rfl) (by kernel_rfl) (by kernel_rfl) (by kernel_rfl)) ?_
  intro W base args ds gs before hval0 hW hcnd _
  have hval : ∀ (j : Nat) t v, Try.f3.params[j]? = some t → args[j]? = some v → Value.okWide Try.prog W .any base t v := hval0
  have hW' := hW
  obtain ⟨p, q, hA0, hV, rfl, hfz, hnd⟩ := hW
  have hA : DataW.TrodAll enc Try.prog W 0 (fun _ => true) true Try.f3.params.toList args.toList ds p := hA0
  rw [Try.params3] at hA hval
  obtain ⟨v0, vs0, d0, ds0, p0, q0, hargs, rfl, rfl, h0, r0⟩ := trodAll_cons hA
  obtain ⟨v1, vs1, d1, ds1, p1, q1, rfl, rfl, rfl, h1, r1⟩ := trodAll_cons r0
  obtain ⟨v2, vs2, d2, ds2, p2, q2, rfl, rfl, rfl, h2, r2⟩ := trodAll_cons r1
  obtain ⟨v3, vs3, d3, ds3, p3, q3, rfl, rfl, rfl, h3, r3⟩ := trodAll_cons r2
  obtain ⟨v4, vs4, d4, ds4, p4, q4, rfl, rfl, rfl, h4, r4⟩ := trodAll_cons r3
  obtain ⟨rfl, rfl, rfl⟩ := trodAll_nil r4
  obtain rfl : args = #[v0, v1, v2, v3, v4] := by cases args; simp_all
  obtain ⟨rfl, rfl⟩ := trodVars_none hV
  obtain ⟨a0, rfl, rfl, rfl, w0⟩ := open_int Try.underlying21 (hval 0 21 v0 rfl rfl) h0
  obtain ⟨a1, rfl, rfl, rfl, w1⟩ := open_int Try.underlying21 (hval 1 21 v1 rfl rfl) h1
  obtain ⟨a2, rfl, rfl, rfl, w2⟩ := open_int Try.underlying21 (hval 2 21 v2 rfl rfl) h2
  obtain ⟨a3, rfl, rfl, rfl, w3⟩ := open_int Try.underlying21 (hval 3 21 v3 rfl rfl) h3
  obtain ⟨a4, rfl, rfl, rfl, w4⟩ := open_int Try.underlying3 (hval 4 3 v4 rfl rfl) h4
  clear hA0 hval0
  simp only [List.append_nil] at hW'
  refine (cplxWhole_any a0 a1 a2 a3 a4 w0 w1 w2 w3 w4 W).mono fun e W' ⟨he, hg⟩ => ?_
  subst he
  exact ⟨_, rfl, post_new hW' (fun _ _ _ => trodAll_cons_mk (shut_bool Try.underlying4 _) trodAll_mk0) (fun _ => (trodAll_cons_mk (shut_int Try.underlying21 w0) (trodAll_cons_mk (shut_int Try.underlying21 w1) (trodAll_cons_mk (shut_int Try.underlying21 w2) (trodAll_cons_mk (shut_int Try.underlying21 w3) (trodAll_cons_mk (shut_int Try.underlying3 w4) trodAll_mk0)))))) (fun _ => rfl) hg (ok_one (by kernel_rfl) rfl (okWide_bool_mk Try.underlying4 _))⟩

theorem cplxWhole_holds : Rows.CplxWholeSaid :=
  OpenClaim.holds_of_wide 3 Try.f3 rfl rfl rfl rfl rfl rfl rfl ⟨rfl, rfl, rfl, rfl, rfl⟩ rfl rfl rfl rfl rfl (by kernel_rfl) Try.func3 (by kernel_rfl)
    (of_decide_eq_true (by kernel_rfl)) (by unfold Func.isWrapper; first | (rw [if_pos (by decide +kernel)]; kernel_rfl) | (rw [if_neg (by decide +kernel)]; exact ⟨rfl, rfl⟩))
    (fun os started H enc _ => cplxWhole_lifted os started H enc)

end Go.Proofs.Ytmgdicpcljippab
