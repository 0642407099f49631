/- WholeStreams: a stream answers as the guarded filter does, however the samples are cut, saved and loaded and forked in between, asked for one by one or pushed; bytes that were saved are loaded as the same; a fork goes its own way; for every filter out of bytes, all samples, all cuts and every guard. No condition. -/
import Derived.Test.YtnfgdhnoidpncaaGwt
import Derived.Test.YtnfgdhnoidpncaaSki
import Derived.Test.YtnfgdhnoidpncaaView
namespace Go.Proofs.Ytnfgdhnoidpncaa
open Go.ChangeShapes Go.WideShapes Go.ChangeAt Go.RowKit

theorem Try.cells_u8 : Try.prog.cellsOf 5 = 1 := by kernel_rfl
theorem Try.cells_u64 : Try.prog.cellsOf 40 = 1 := by kernel_rfl
theorem Try.bytes_u8 : Try.prog.bytesOf 5 = 1 := by kernel_rfl
theorem Try.bytes_u64 : Try.prog.bytesOf 40 = 8 := by kernel_rfl

set_option maxRecDepth 100000 in
theorem wholeStreams_lifted (os : Os) (started : os.Started) (H : Type) (enc : TypeId × Value → H) :
    ReturnsInHanded {} Try.checked os 3 .any (Rows.wholeStreamsSpec.pre6 enc Try.prog Try.f3 Rows.wholeStreamsRow.domain false) (Rows.wholeStreamsSpec.post enc Try.prog Try.f3 false true false false) := by
  refine returnsInHanded_of_change_sized (C := Try.checked) (by kernel_rfl) started (by kernel_rfl) Try.func3
    (ChangeSpec.witness6 (enc := enc) (C := Try.checked) false ⟨#[], #[.slice none 0 0, .slice none 0 0, .slice none 0 0, .bool false, .bool false, .bool false], []⟩ 8 (by kernel_rfl) (by kernel_rfl) (by kernel_rfl) (by kernel_rfl)) ?_
  intro W base args ds gs before hval0 hW _ hsz0 _
  have hsz : (DataW.weightsEach Try.prog (Try.f3.params.toList ++ Rows.wholeStreamsSpec.plain.varTypes Try.prog) (ds ++ gs)).all (· ≤ reachBytes) = true := hsz0
  clear hsz0
  have hval : ∀ (j : Nat) t v, Try.f3.params[j]? = some t → args[j]? = some v → Value.okWide Try.prog W .any base t v := hval0
  have hW' := hW
  obtain ⟨p, q, hA0, hV, rfl, _, _⟩ := hW
  have hA : DataW.TrodAll enc Try.prog W 0 (fun _ => true) true Try.f3.params.toList args.toList ds p := hA0
  rw [Try.params3] at hA hval hsz
  obtain ⟨v0, vs0, d0, ds0, p0, q0, hargs, rfl, rfl, h0, r0⟩ := trodAll_cons hA
  obtain ⟨v1, vs1, d1, ds1, p1, q1, rfl, rfl, rfl, h1, r1⟩ := trodAll_cons r0
  obtain ⟨v2, vs2, d2, ds2, p2, q2, rfl, rfl, rfl, h2, r2⟩ := trodAll_cons r1
  obtain ⟨v3, vs3, d3, ds3, p3, q3, rfl, rfl, rfl, h3, r3⟩ := trodAll_cons r2
  obtain ⟨v4, vs4, d4, ds4, p4, q4, rfl, rfl, rfl, h4, r4⟩ := trodAll_cons r3
  obtain ⟨v5, vs5, d5, ds5, p5, q5, rfl, rfl, rfl, h5, r5⟩ := trodAll_cons r4
  obtain ⟨rfl, rfl, rfl⟩ := trodAll_nil r5
  obtain rfl : args = #[v0, v1, v2, v3, v4, v5] := by cases args; simp_all
  obtain ⟨rfl, rfl⟩ := trodVars_none hV
  obtain ⟨a0, l0, c0, rfl⟩ := okWide_slice Try.underlying22 (hval 0 22 v0 rfl rfl)
  obtain ⟨a1, l1, c1, rfl⟩ := okWide_slice Try.underlying23 (hval 1 23 v1 rfl rfl)
  obtain ⟨a2, l2, c2, rfl⟩ := okWide_slice Try.underlying22 (hval 2 22 v2 rfl rfl)
  have h0k := h0
  have h1k := h1
  have h2k := h2
  obtain ⟨x3, rfl, rfl, rfl⟩ := open_bool Try.underlying4 (hval 3 4 v3 rfl rfl) h3
  obtain ⟨x4, rfl, rfl, rfl⟩ := open_bool Try.underlying4 (hval 4 4 v4 rfl rfl) h4
  obtain ⟨x5, rfl, rfl, rfl⟩ := open_bool Try.underlying4 (hval 5 4 v5 rfl rfl) h5
  obtain ⟨f0, hf0⟩ := h0
  obtain ⟨f1, hf1⟩ := h1
  obtain ⟨f2, hf2⟩ := h2
  clear hA0 hval0
  simp only [List.append_nil] at hW'
  obtain ⟨Z0, zl0, zc0, zw0, zd0⟩ := viewN Try.underlying22 Try.underlying5 Try.cells_u8 hf0
  obtain ⟨Z1, zl1, zc1, zw1, zd1⟩ := viewN Try.underlying23 Try.underlying40 Try.cells_u64 hf1
  obtain ⟨Z2, zl2, zc2, zw2, zd2⟩ := viewN Try.underlying22 Try.underlying5 Try.cells_u8 hf2
  have k0 : l0 ≤ 140737488351232 := by
    rcases zd0 with h | ⟨sp, h⟩
    · omega
    · have := sized_slice hsz (j := 0) (t := 22) (e := 5) rfl (by rw [h]; rfl) Try.underlying22
      rw [Try.bytes_u8] at this
      simp only [lits, List.length_map, zl0, reachBytes] at this
      omega
  have k1 : l1 * 8 ≤ 140737488351232 := by
    rcases zd1 with h | ⟨sp, h⟩
    · omega
    · have := sized_slice hsz (j := 1) (t := 23) (e := 40) rfl (by rw [h]; rfl) Try.underlying23
      rw [Try.bytes_u64] at this
      simp only [lits, List.length_map, zl1, reachBytes] at this
      omega
  have k2 : l2 ≤ 140737488351232 := by
    rcases zd2 with h | ⟨sp, h⟩
    · omega
    · have := sized_slice hsz (j := 2) (t := 22) (e := 5) rfl (by rw [h]; rfl) Try.underlying22
      rw [Try.bytes_u8] at this
      simp only [lits, List.length_map, zl2, reachBytes] at this
      omega
  have hlt : ∀ x ∈ p0 ++ (p1 ++ p2), x.block < W.heap.size := fun x hx => by simpa using hW'.lt x (by simpa using hx)
  have b0 : BytesAt W a0 l0 (fun j => (Z0.getD j 0).toNat) := fun j hj => by
    obtain ⟨b, off, e, hb, hc⟩ := zc0 j hj
    have h := nat_of zl0 zw0 wf_u8 j hj
    exact ⟨b, off, e, hb, by show (Z0.getD j 0).toNat < 256; omega, by show _ = some (Value.int .u8 ((Z0.getD j 0).toNat : Int)); rw [h.1]; exact hc⟩
  have b1 : WordsAt W a1 l1 (fun j => (Z1.getD j 0).toNat) := fun j hj => by
    obtain ⟨b, off, e, hb, hc⟩ := zc1 j hj
    have h := nat_of zl1 zw1 wf_u64 j hj
    exact ⟨b, off, e, hb, by show _ = some (Value.int .u64 ((Z1.getD j 0).toNat : Int)); rw [h.1]; exact hc⟩
  have b2 : BytesAt W a2 l2 (fun j => (Z2.getD j 0).toNat) := fun j hj => by
    obtain ⟨b, off, e, hb, hc⟩ := zc2 j hj
    have h := nat_of zl2 zw2 wf_u8 j hj
    exact ⟨b, off, e, hb, by show (Z2.getD j 0).toNat < 256; omega, by show _ = some (Value.int .u8 ((Z2.getD j 0).toNat : Int)); rw [h.1]; exact hc⟩
  have bb : ∀ j, (fun j => (Z1.getD j 0).toNat) j < 18446744073709551616 := fun j => by
    by_cases hj : j < l1
    · have h := nat_of zl1 zw1 wf_u64 j hj
      show (Z1.getD j 0).toNat < _
      omega
    · show (Z1.getD j 0).toNat < _
      rw [List.getD_eq_getElem?_getD, List.getElem?_eq_none (by omega)]
      decide
  refine (streams_any streamK a0 a1 a2 l0 c0 l1 c1 l2 c2 x3 x4 x5 _ _ _ W b0 b1 b2 bb k0 k1 k2).mono ?_
  rintro e W' ⟨rfl, hnx⟩
  exact ⟨_, rfl, _, _, _, [], _, [], hW', trodAll_mk1 (shut_bool Try.underlying4 true), trodAll_cons_mk (Below.trod Try.laidOut (by kernel_rfl) (of_decide_eq_true (by kernel_rfl)) h0k hnx (fun x hx => hlt x (by simp [hx]))) (trodAll_cons_mk (Below.trod Try.laidOut (by kernel_rfl) (of_decide_eq_true (by kernel_rfl)) h1k hnx (fun x hx => hlt x (by simp [hx]))) (trodAll_cons_mk (Below.trod Try.laidOut (by kernel_rfl) (of_decide_eq_true (by kernel_rfl)) h2k hnx (fun x hx => hlt x (by simp [hx]))) (trodAll_cons_mk (shut_bool Try.underlying4 x3) (trodAll_cons_mk (shut_bool Try.underlying4 x4) (trodAll_cons_mk (shut_bool Try.underlying4 x5) trodAll_mk0))))), rfl, hnx.frame _, fun h => by cases h⟩

theorem wholeStreams_holds : Rows.WholeStreamsSaid :=
  OpenClaim.holds_of_wide 3 Try.f3 rfl rfl rfl rfl rfl rfl rfl ⟨rfl, rfl, rfl, rfl, rfl⟩ rfl rfl rfl rfl rfl (by kernel_rfl) Try.func3 (by kernel_rfl)
    (of_decide_eq_true (by kernel_rfl)) (by unfold Func.isWrapper; first | (rw [if_pos (by decide +kernel)]; kernel_rfl) | (rw [if_neg (by decide +kernel)]; exact ⟨rfl, rfl⟩))
    (fun os started H enc _ => wholeStreams_lifted os started H enc)
#print axioms wholeStreams_holds
end Go.Proofs.Ytnfgdhnoidpncaa
