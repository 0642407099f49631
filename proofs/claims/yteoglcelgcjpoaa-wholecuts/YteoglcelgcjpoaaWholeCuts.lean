/- WholeCuts: samples through a filter at work answer alike however they are cut, through a copy, and from states that were taken and laid back; from rest it begins anew. No condition. -/
import Derived.Test.YteoglcelgcjpoaaMe
import Derived.Test.YteoglcelgcjpoaaView
namespace Go.Proofs.Yteoglcelgcjpoaa
open Go.ChangeShapes Go.WideShapes Go.ChangeAt Go.RowKit

theorem Try.cells_u8 : Try.prog.cellsOf 5 = 1 := by kernel_rfl
theorem Try.cells_u64 : Try.prog.cellsOf 60 = 1 := by kernel_rfl
theorem Try.bytes_u8 : Try.prog.bytesOf 5 = 1 := by kernel_rfl
theorem Try.bytes_u64 : Try.prog.bytesOf 60 = 8 := by kernel_rfl

set_option maxRecDepth 100000 in
theorem wholeCuts_lifted (os : Os) (started : os.Started) (H : Type) (enc : TypeId × Value → H) :
    ReturnsInHanded {} Try.checked os 4 .any (Rows.wholeCutsSpec.pre6 enc Try.prog Try.f4 Rows.wholeCutsRow.domain false) (Rows.wholeCutsSpec.post enc Try.prog Try.f4 false true false false) := by
  refine returnsInHanded_of_change_sized (C := Try.checked) (by kernel_rfl) started (by kernel_rfl) Try.func4
    (ChangeSpec.witness6 (enc := enc) (C := Try.checked) false ⟨#[], #[.slice none 0 0, .slice none 0 0, .slice none 0 0], []⟩ 8 (by kernel_rfl) (by kernel_rfl) (by kernel_rfl) (by kernel_rfl)) ?_
  intro W base args ds gs before hval0 hW _ hsz0 _
  have hsz : (DataW.weightsEach Try.prog (Try.f4.params.toList ++ Rows.wholeCutsSpec.plain.varTypes Try.prog) (ds ++ gs)).all (· ≤ reachBytes) = true := hsz0
  clear hsz0
  have hval : ∀ (j : Nat) t v, Try.f4.params[j]? = some t → args[j]? = some v → Value.okWide Try.prog W .any base t v := hval0
  have hW' := hW
  obtain ⟨p, q, hA0, hV, rfl, _, _⟩ := hW
  have hA : DataW.TrodAll enc Try.prog W 0 (fun _ => true) true Try.f4.params.toList args.toList ds p := hA0
  rw [Try.params4] at hA hval hsz
  obtain ⟨v0, v1, v2, d0, d1, d2, p0, p1, p2, rfl, rfl, rfl, h0, h1, h2⟩ := trodAll_three hA
  obtain ⟨rfl, rfl⟩ := trodVars_none hV
  obtain ⟨a0, l0, c0, rfl⟩ := okWide_slice Try.underlying37 (hval 0 37 v0 rfl rfl)
  obtain ⟨a1, l1, c1, rfl⟩ := okWide_slice Try.underlying38 (hval 1 38 v1 rfl rfl)
  obtain ⟨a2, l2, c2, rfl⟩ := okWide_slice Try.underlying37 (hval 2 37 v2 rfl rfl)
  have h0k := h0
  have h1k := h1
  have h2k := h2
  obtain ⟨f0, hf0⟩ := h0
  obtain ⟨f1, hf1⟩ := h1
  obtain ⟨f2, hf2⟩ := h2
  clear hA0 hval0
  simp only [List.append_nil] at hW'
  obtain ⟨Z0, zl0, zc0, zw0, zd0⟩ := viewN Try.underlying37 Try.underlying5 Try.cells_u8 hf0
  obtain ⟨Z1, zl1, zc1, zw1, zd1⟩ := viewN Try.underlying38 Try.underlying60 Try.cells_u64 hf1
  obtain ⟨Z2, zl2, zc2, zw2, zd2⟩ := viewN Try.underlying37 Try.underlying5 Try.cells_u8 hf2
  have r0 : l0 ≤ 140737488351232 := by
    rcases zd0 with h | ⟨sp, h⟩
    · omega
    · have := sized_slice hsz (j := 0) (t := 37) (e := 5) rfl (by rw [h]; rfl) Try.underlying37
      rw [Try.bytes_u8] at this
      simp only [lits, List.length_map, zl0, reachBytes] at this
      omega
  have r1 : l1 * 8 ≤ 140737488351232 := by
    rcases zd1 with h | ⟨sp, h⟩
    · omega
    · have := sized_slice hsz (j := 1) (t := 38) (e := 60) rfl (by rw [h]; rfl) Try.underlying38
      rw [Try.bytes_u64] at this
      simp only [lits, List.length_map, zl1, reachBytes] at this
      omega
  have r2 : l2 ≤ 140737488351232 := by
    rcases zd2 with h | ⟨sp, h⟩
    · omega
    · have := sized_slice hsz (j := 2) (t := 37) (e := 5) rfl (by rw [h]; rfl) Try.underlying37
      rw [Try.bytes_u8] at this
      simp only [lits, List.length_map, zl2, reachBytes] at this
      omega
  have hlt : ∀ x ∈ p0 ++ (p1 ++ p2), x.block < W.heap.size := fun x hx => by simpa using hW'.lt x (by simpa using hx)
  have b0 : BytesAt W a0 l0 (fun j => (Z0.getD j 0).toNat) := fun j hj => by
    obtain ⟨b, off, e, hb, hc⟩ := zc0 j hj
    have h := nat_of zl0 zw0 wf_u8 j hj
    exact ⟨b, off, e, hb, by show (Z0.getD j 0).toNat < 256; omega, by show _ = some (Value.int .u8 ((Z0.getD j 0).toNat : Int)); rw [h.1]; exact hc⟩
  have b1 : WordsAt W a1 l1 (fun j => (Z1.getD j 0).toNat) := fun j hj => by
    obtain ⟨b, off, e, hb, hc⟩ := zc1 j hj
    have h := nat_of zl1 zw1 wf_u64 j hj
    exact ⟨b, off, e, hb, by show _ = some (Value.int .u64 ((Z1.getD j 0).toNat : Int)); rw [h.1]; exact hc⟩
  have b2 : BytesAt W a2 l2 (fun j => (Z2.getD j 0).toNat) := fun j hj => by
    obtain ⟨b, off, e, hb, hc⟩ := zc2 j hj
    have h := nat_of zl2 zw2 wf_u8 j hj
    exact ⟨b, off, e, hb, by show (Z2.getD j 0).toNat < 256; omega, by show _ = some (Value.int .u8 ((Z2.getD j 0).toNat : Int)); rw [h.1]; exact hc⟩
  have bb : ∀ j, (fun j => (Z1.getD j 0).toNat) j < 18446744073709551616 := fun j => by
    by_cases hj : j < l1
    · have h := nat_of zl1 zw1 wf_u64 j hj
      show (Z1.getD j 0).toNat < _
      omega
    · show (Z1.getD j 0).toNat < _
      rw [List.getD_eq_getElem?_getD, List.getElem?_eq_none (by omega)]
      decide
  refine (cuts_any a0 a1 a2 l0 c0 l1 c1 l2 c2 _ _ _ W b0 b1 b2 bb r0 r1 r2).mono ?_
  rintro e W' ⟨rfl, hnx⟩
  exact ⟨_, rfl, _, _, _, [], _, [], hW', trodAll_mk1 (shut_bool Try.underlying4 true), trodAll_mk3 (Below.trod Try.laidOut (by kernel_rfl) (of_decide_eq_true (by kernel_rfl)) h0k hnx (fun x hx => hlt x (by simp [hx]))) (Below.trod Try.laidOut (by kernel_rfl) (of_decide_eq_true (by kernel_rfl)) h1k hnx (fun x hx => hlt x (by simp [hx]))) (Below.trod Try.laidOut (by kernel_rfl) (of_decide_eq_true (by kernel_rfl)) h2k hnx (fun x hx => hlt x (by simp [hx]))), rfl, hnx.frame _, fun h => by cases h⟩

theorem wholeCuts_holds : Rows.WholeCutsSaid :=
  OpenClaim.holds_of_wide 4 Try.f4 rfl rfl rfl rfl rfl rfl rfl ⟨rfl, rfl, rfl, rfl, rfl⟩ rfl rfl rfl rfl rfl (by kernel_rfl) Try.func4 (by kernel_rfl)
    (of_decide_eq_true (by kernel_rfl)) (by unfold Func.isWrapper; first | (rw [if_pos (by decide +kernel)]; kernel_rfl) | (rw [if_neg (by decide +kernel)]; exact ⟨rfl, rfl⟩))
    (fun os started H enc _ => wholeCuts_lifted os started H enc)
#print axioms wholeCuts_holds
end Go.Proofs.Yteoglcelgcjpoaa
