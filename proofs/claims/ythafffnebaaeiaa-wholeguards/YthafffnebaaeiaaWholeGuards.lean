/- WholeGuards: a guard that does nothing changes nothing; what is cleaned stays clean; with all three flags only normal numbers and noughts are kept and answered; what was changed is counted; for every filter out of bytes, all samples and every guard. No condition. -/
import Derived.Test.YthafffnebaaeiaaGwg
import Derived.Test.YthafffnebaaeiaaView
namespace Go.Proofs.Ythafffnebaaeiaa
open Go.ChangeShapes Go.WideShapes Go.ChangeAt Go.RowKit

theorem Try.cells_u8 : Try.prog.cellsOf 5 = 1 := by kernel_rfl
theorem Try.cells_u64 : Try.prog.cellsOf 24 = 1 := by kernel_rfl
theorem Try.bytes_u8 : Try.prog.bytesOf 5 = 1 := by kernel_rfl
theorem Try.bytes_u64 : Try.prog.bytesOf 24 = 8 := by kernel_rfl

set_option maxRecDepth 100000 in
theorem wholeGuards_lifted (os : Os) (started : os.Started) (H : Type) (enc : TypeId × Value → H) :
    ReturnsInHanded {} Try.checked os 4 .any (Rows.wholeGuardsSpec.pre6 enc Try.prog Try.f4 Rows.wholeGuardsRow.domain false) (Rows.wholeGuardsSpec.post enc Try.prog Try.f4 false true false false) := by
  refine returnsInHanded_of_change_sized (C := Try.checked) (by kernel_rfl) started (by kernel_rfl) Try.func4
    (ChangeSpec.witness6 (enc := enc) (C := Try.checked) false ⟨#[], #[.slice none 0 0, .slice none 0 0, .bool false, .bool false, .bool false], []⟩ 8 (by kernel_rfl) (by kernel_rfl) (by kernel_rfl) (by kernel_rfl)) ?_
  intro W base args ds gs before hval0 hW _ hsz0 _
  have hsz : (DataW.weightsEach Try.prog (Try.f4.params.toList ++ Rows.wholeGuardsSpec.plain.varTypes Try.prog) (ds ++ gs)).all (· ≤ reachBytes) = true := hsz0
  clear hsz0
  have hval : ∀ (j : Nat) t v, Try.f4.params[j]? = some t → args[j]? = some v → Value.okWide Try.prog W .any base t v := hval0
  have hW' := hW
  obtain ⟨p, q, hA0, hV, rfl, _, _⟩ := hW
  have hA : DataW.TrodAll enc Try.prog W 0 (fun _ => true) true Try.f4.params.toList args.toList ds p := hA0
  rw [Try.params4] at hA hval hsz
  obtain ⟨v0, vs0, d0, ds0, p0, q0, hargs, rfl, rfl, h0, r0⟩ := trodAll_cons hA
  obtain ⟨v1, vs1, d1, ds1, p1, q1, rfl, rfl, rfl, h1, r1⟩ := trodAll_cons r0
  obtain ⟨v2, vs2, d2, ds2, p2, q2, rfl, rfl, rfl, h2, r2⟩ := trodAll_cons r1
  obtain ⟨v3, vs3, d3, ds3, p3, q3, rfl, rfl, rfl, h3, r3⟩ := trodAll_cons r2
  obtain ⟨v4, vs4, d4, ds4, p4, q4, rfl, rfl, rfl, h4, r4⟩ := trodAll_cons r3
  obtain ⟨rfl, rfl, rfl⟩ := trodAll_nil r4
  obtain rfl : args = #[v0, v1, v2, v3, v4] := by cases args; simp_all
  obtain ⟨rfl, rfl⟩ := trodVars_none hV
  obtain ⟨a0, l0, c0, rfl⟩ := okWide_slice Try.underlying33 (hval 0 33 v0 rfl rfl)
  obtain ⟨a1, l1, c1, rfl⟩ := okWide_slice Try.underlying34 (hval 1 34 v1 rfl rfl)
  have h0k := h0
  have h1k := h1
  obtain ⟨x2, rfl, rfl, rfl⟩ := open_bool Try.underlying4 (hval 2 4 v2 rfl rfl) h2
  obtain ⟨x3, rfl, rfl, rfl⟩ := open_bool Try.underlying4 (hval 3 4 v3 rfl rfl) h3
  obtain ⟨x4, rfl, rfl, rfl⟩ := open_bool Try.underlying4 (hval 4 4 v4 rfl rfl) h4
  obtain ⟨f0, hf0⟩ := h0
  obtain ⟨f1, hf1⟩ := h1
  clear hA0 hval0
  simp only [List.append_nil] at hW'
  obtain ⟨Z0, zl0, zc0, zw0, zd0⟩ := viewN Try.underlying33 Try.underlying5 Try.cells_u8 hf0
  obtain ⟨Z1, zl1, zc1, zw1, zd1⟩ := viewN Try.underlying34 Try.underlying24 Try.cells_u64 hf1
  have k0 : l0 ≤ 140737488351232 := by
    rcases zd0 with h | ⟨sp, h⟩
    · omega
    · have := sized_slice hsz (j := 0) (t := 33) (e := 5) rfl (by rw [h]; rfl) Try.underlying33
      rw [Try.bytes_u8] at this
      simp only [lits, List.length_map, zl0, reachBytes] at this
      omega
  have k1 : l1 * 8 ≤ 140737488351232 := by
    rcases zd1 with h | ⟨sp, h⟩
    · omega
    · have := sized_slice hsz (j := 1) (t := 34) (e := 24) rfl (by rw [h]; rfl) Try.underlying34
      rw [Try.bytes_u64] at this
      simp only [lits, List.length_map, zl1, reachBytes] at this
      omega
  have hlt : ∀ x ∈ p0 ++ p1, x.block < W.heap.size := fun x hx => by simpa using hW'.lt x (by simpa using hx)
  have b0 : BytesAt W a0 l0 (fun j => (Z0.getD j 0).toNat) := fun j hj => by
    obtain ⟨b, off, e, hb, hc⟩ := zc0 j hj
    have h := nat_of zl0 zw0 wf_u8 j hj
    exact ⟨b, off, e, hb, by show (Z0.getD j 0).toNat < 256; omega, by show _ = some (Value.int .u8 ((Z0.getD j 0).toNat : Int)); rw [h.1]; exact hc⟩
  have b1 : WordsAt W a1 l1 (fun j => (Z1.getD j 0).toNat) := fun j hj => by
    obtain ⟨b, off, e, hb, hc⟩ := zc1 j hj
    have h := nat_of zl1 zw1 wf_u64 j hj
    exact ⟨b, off, e, hb, by show _ = some (Value.int .u64 ((Z1.getD j 0).toNat : Int)); rw [h.1]; exact hc⟩
  have bb : ∀ j, (fun j => (Z1.getD j 0).toNat) j < 18446744073709551616 := fun j => by
    by_cases hj : j < l1
    · have h := nat_of zl1 zw1 wf_u64 j hj
      show (Z1.getD j 0).toNat < _
      omega
    · show (Z1.getD j 0).toNat < _
      rw [List.getD_eq_getElem?_getD, List.getElem?_eq_none (by omega)]
      decide
  refine (guards_any a0 a1 l0 c0 l1 c1 x2 x3 x4 _ _ W b0 b1 bb k0 k1).mono ?_
  rintro e W' ⟨rfl, hnx⟩
  exact ⟨_, rfl, _, _, _, [], _, [], hW', trodAll_mk1 (shut_bool Try.underlying4 true), trodAll_cons_mk (Below.trod Try.laidOut (by kernel_rfl) (of_decide_eq_true (by kernel_rfl)) h0k hnx (fun x hx => hlt x (by simp [hx]))) (trodAll_cons_mk (Below.trod Try.laidOut (by kernel_rfl) (of_decide_eq_true (by kernel_rfl)) h1k hnx (fun x hx => hlt x (by simp [hx]))) (trodAll_cons_mk (shut_bool Try.underlying4 x2) (trodAll_cons_mk (shut_bool Try.underlying4 x3) (trodAll_cons_mk (shut_bool Try.underlying4 x4) trodAll_mk0)))), rfl, hnx.frame _, fun h => by cases h⟩

theorem wholeGuards_holds : Rows.WholeGuardsSaid :=
  OpenClaim.holds_of_wide 4 Try.f4 rfl rfl rfl rfl rfl rfl rfl ⟨rfl, rfl, rfl, rfl, rfl⟩ rfl rfl rfl rfl rfl (by kernel_rfl) Try.func4 (by kernel_rfl)
    (of_decide_eq_true (by kernel_rfl)) (by unfold Func.isWrapper; first | (rw [if_pos (by decide +kernel)]; kernel_rfl) | (rw [if_neg (by decide +kernel)]; exact ⟨rfl, rfl⟩))
    (fun os started H enc _ => wholeGuards_lifted os started H enc)
#print axioms wholeGuards_holds
end Go.Proofs.Ythafffnebaaeiaa
