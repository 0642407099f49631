/- WholeParts: products are what their parts' steps are; factors may be exchanged; conjugates go through; four quarter turns are none; a list keeps its unlike ones. No condition: every pattern of bits, NaNs too. -/
import Derived.Test.YtmgdicpcljippacWPb
namespace Go.Proofs.Ytmgdicpcljippac
open Go.ChangeShapes Go.WideShapes Go.ChangeAt Go.RowKit

theorem wholeParts_any (a b c d : Int) (wa : (Lit.int .u64 a).wf = true) (wb : (Lit.int .u64 b).wf = true) (wc : (Lit.int .u64 c).wf = true) (wd : (Lit.int .u64 d).wf = true) (w : World) :
    Calls Try.prog 3 #[.int .u64 a, .int .u64 b, .int .u64 c, .int .u64 d] w fun e w' => e = .returned (.bool true) ∧ Below w.heap.size w w' := by
  have ha := bound_u a wa
  have hb := bound_u b wb
  have hc := bound_u c wc
  have hd := bound_u d wd
  have A : a.toNat < 18446744073709551616 := by omega
  have B : b.toNat < 18446744073709551616 := by omega
  have C : c.toNat < 18446744073709551616 := by omega
  have D : d.toNat < 18446744073709551616 := by omega
  cases h1 : eqc (a.toNat, b.toNat) (a.toNat, b.toNat)
  · have h3 := eqc_nan (a.toNat, b.toNat) (c.toNat, d.toNat) A B C D h1
    have h2 : eqc (c.toNat, d.toNat) (a.toNat, b.toNat) = false := by rw [eqc_symm _ _ C D A B]; exact h3
    exact parts_all a b c d _ _ _ _ rfl rfl rfl rfl A B C D h1 h3 (unl_all _ _ h1 h2 h3) w
  · cases h2 : eqc (c.toNat, d.toNat) (a.toNat, b.toNat)
    · have h3 : eqc (a.toNat, b.toNat) (c.toNat, d.toNat) = false := by rw [eqc_symm _ _ A B C D]; exact h2
      exact parts_two a b c d _ _ _ _ rfl rfl rfl rfl A B C D h1 h3 (unl_two _ _ h1 h2) w
    · have h3 : eqc (a.toNat, b.toNat) (c.toNat, d.toNat) = true := by rw [eqc_symm _ _ A B C D]; exact h2
      exact parts_one a b c d _ _ _ _ rfl rfl rfl rfl A B C D h1 h3 (unl_one _ _ h1 h2) w

set_option maxRecDepth 100000 in
theorem wholeParts_lifted (os : Os) (started : os.Started) (H : Type) (enc : TypeId × Value → H) :
    ReturnsInHanded {} Try.checked os 3 .any (Rows.wholePartsSpec.pre6 enc Try.prog Try.f3 Rows.wholePartsRow.domain false) (Rows.wholePartsSpec.post enc Try.prog Try.f3 false true false false) := by
  refine returnsInHanded_of_change (C := Try.checked) (by kernel_rfl) started (by kernel_rfl) Try.func3
    (ChangeSpec.witness6 (enc := enc) (C := Try.checked) false ⟨#[], #[.int .u64 0, .int .u64 0, .int .u64 0, .int .u64 0], []⟩ 8 (by kernel_rfl) (by kernel_rfl) (by kernel_rfl) (by kernel_rfl)) ?_
  intro W base args ds gs before hval0 hW hcnd _
  have hval : ∀ (j : Nat) t v, Try.f3.params[j]? = some t → args[j]? = some v → Value.okWide Try.prog W .any base t v := hval0
  have hW' := hW
  obtain ⟨p, q, hA0, hV, rfl, hfz, hnd⟩ := hW
  have hA : DataW.TrodAll enc Try.prog W 0 (fun _ => true) true Try.f3.params.toList args.toList ds p := hA0
  rw [Try.params3] at hA hval
  obtain ⟨v0, vs0, d0, ds0, p0, q0, hargs, rfl, rfl, h0, r0⟩ := trodAll_cons hA
  obtain ⟨v1, vs1, d1, ds1, p1, q1, rfl, rfl, rfl, h1, r1⟩ := trodAll_cons r0
  obtain ⟨v2, vs2, d2, ds2, p2, q2, rfl, rfl, rfl, h2, r2⟩ := trodAll_cons r1
  obtain ⟨v3, vs3, d3, ds3, p3, q3, rfl, rfl, rfl, h3, r3⟩ := trodAll_cons r2
  obtain ⟨rfl, rfl, rfl⟩ := trodAll_nil r3
  obtain rfl : args = #[v0, v1, v2, v3] := by cases args; simp_all
  obtain ⟨rfl, rfl⟩ := trodVars_none hV
  obtain ⟨a0, rfl, rfl, rfl, w0⟩ := open_int Try.underlying22 (hval 0 22 v0 rfl rfl) h0
  obtain ⟨a1, rfl, rfl, rfl, w1⟩ := open_int Try.underlying22 (hval 1 22 v1 rfl rfl) h1
  obtain ⟨a2, rfl, rfl, rfl, w2⟩ := open_int Try.underlying22 (hval 2 22 v2 rfl rfl) h2
  obtain ⟨a3, rfl, rfl, rfl, w3⟩ := open_int Try.underlying22 (hval 3 22 v3 rfl rfl) h3
  clear hA0 hval0
  simp only [List.append_nil] at hW'
  refine (wholeParts_any a0 a1 a2 a3 w0 w1 w2 w3 W).mono fun e W' ⟨he, hg⟩ => ?_
  subst he
  exact ⟨_, rfl, post_new hW' (fun _ _ _ => trodAll_cons_mk (shut_bool Try.underlying4 _) trodAll_mk0) (fun _ => (trodAll_cons_mk (shut_int Try.underlying22 w0) (trodAll_cons_mk (shut_int Try.underlying22 w1) (trodAll_cons_mk (shut_int Try.underlying22 w2) (trodAll_cons_mk (shut_int Try.underlying22 w3) trodAll_mk0))))) (fun _ => rfl) hg (ok_one (by kernel_rfl) rfl (okWide_bool_mk Try.underlying4 _))⟩

theorem wholeParts_holds : Rows.WholePartsSaid :=
  OpenClaim.holds_of_wide 3 Try.f3 rfl rfl rfl rfl rfl rfl rfl ⟨rfl, rfl, rfl, rfl, rfl⟩ rfl rfl rfl rfl rfl (by kernel_rfl) Try.func3 (by kernel_rfl)
    (of_decide_eq_true (by kernel_rfl)) (by unfold Func.isWrapper; first | (rw [if_pos (by decide +kernel)]; kernel_rfl) | (rw [if_neg (by decide +kernel)]; exact ⟨rfl, rfl⟩))
    (fun os started H enc _ => wholeParts_lifted os started H enc)

end Go.Proofs.Ytmgdicpcljippac
