/- CascadeLinear: sums of samples answer sums, and late samples answer late, in whole numbers. No condition. -/
import Derived.Test.YteoglcelgcjpoaaLa
import Derived.Test.YteoglcelgcjpoaaView
import Derived.Deep.Slices
import Derived.Laws.IdiomArrays
namespace Go.Proofs.Yteoglcelgcjpoaa
open Go.ChangeShapes Go.WideShapes Go.ChangeAt Go.RowKit Go.Deep

theorem Try.cells_i8 : Try.prog.cellsOf 29 = 1 := by kernel_rfl
theorem Try.cells_a3 : Try.prog.cellsOf 30 = 3 := by kernel_rfl
theorem Try.bytes_i8 : Try.prog.bytesOf 29 = 1 := by kernel_rfl
theorem Try.bytes_a3 : Try.prog.bytesOf 30 = 3 := by kernel_rfl
theorem wf_i8 (n : Int) (h : (Lit.int .i8 n).wf = true) : -128 ≤ n ∧ n ≤ 127 := by
  simpa [Lit.wf, IntKind.min, IntKind.max, IntKind.signed, IntKind.bits] using h
theorem small_of {Z : List Int} (hw : ∀ n ∈ Z, (Lit.int .i8 n).wf = true) (j : Nat) : -128 ≤ Z.getD j 0 ∧ Z.getD j 0 ≤ 127 := by
  rw [List.getD_eq_getElem?_getD]
  by_cases hj : j < Z.length
  · rw [List.getElem?_eq_getElem hj]
    exact wf_i8 _ (hw _ (List.getElem_mem hj))
  · rw [List.getElem?_eq_none (by omega)]
    decide
theorem viewT {H : Type} {enc : TypeId × Value → H} {W : World} {fuel : Nat} {a0 : Option Addr} {len cap : Nat} {d : DataW H} {p : List MemPlace}
    (hf : DataW.trod enc Try.prog W 0 (fun _ => true) true fuel 22 (Value.slice a0 len cap).cells.toList = some (d, p)) :
    ∃ c : Nat → Int × Int × Int, TripsAt W a0 len c ∧ Sm8 c ∧ (len = 0 ∨ ∃ D sp, d = .slice D sp ∧ D.length = len) := by
  rcases open_slice Try.underlying22 hf with ⟨hcs, hx⟩ | ⟨a, len', cap', m, n, D, Pl, hcs, _, hl, hm, hmm, hx, hel⟩
  · simp [Value.cells] at hcs
    obtain ⟨rfl, rfl, rfl⟩ := hcs
    exact ⟨fun _ => (0, 0, 0), fun j hj => by omega, fun i => by dsimp only; omega, Or.inl rfl⟩
  · simp [Value.cells] at hcs
    obtain ⟨rfl, rfl, rfl⟩ := hcs
    simp only [if_true] at hmm
    simp only [Prod.mk.injEq] at hx
    obtain ⟨c, hc⟩ := choose_lt (α := Int × Int × Int) (n := m) (p := fun i c => (W.cell? ((a.add (i * 3)).add 0) = some (.int .i8 c.1) ∧ W.cell? ((a.add (i * 3)).add 1) = some (.int .i8 c.2.1) ∧ W.cell? ((a.add (i * 3)).add 2) = some (.int .i8 c.2.2)) ∧ (-128 ≤ c.1 ∧ c.1 ≤ 127 ∧ -128 ≤ c.2.1 ∧ c.2.1 ≤ 127 ∧ -128 ≤ c.2.2 ∧ c.2.2 ≤ 127)) (fun i hi => by
      obtain ⟨cs', h1, h2⟩ := hel i hi
      rw [Try.cells_a3] at h1
      obtain ⟨_, hlen, hcell⟩ := World.cells?_some h1
      match cs', hlen with
      | [x0, x1, x2], _ =>
        obtain ⟨y0, y1, y2, n', _, t0, t1, t2⟩ := trod_array3 Try.underlying30 Try.cells_i8 h2
        obtain ⟨n0, e0, _, w0⟩ := DataW.trod_int Try.underlying29 t0
        obtain ⟨n1, e1, _, w1⟩ := DataW.trod_int Try.underlying29 t1
        obtain ⟨n2, e2, _, w2⟩ := DataW.trod_int Try.underlying29 t2
        have b0 := wf_i8 _ w0
        have b1 := wf_i8 _ w1
        have b2 := wf_i8 _ w2
        have k0 := hcell 0 (by omega)
        have k1 := hcell 1 (by omega)
        have k2 := hcell 2 (by omega)
        obtain rfl : x0 = .int .i8 n0 := by simpa using e0
        obtain rfl : x1 = .int .i8 n1 := by simpa using e1
        obtain rfl : x2 = .int .i8 n2 := by simpa using e2
        exact ⟨(n0, n1, n2), ⟨k0, k1, k2⟩, b0.1, b0.2, b1.1, b1.2, b2.1, b2.2⟩)
    refine ⟨fun i => if i < m then c i else (0, 0, 0), fun i hi => ?_, fun i => ?_, Or.inr ⟨_, _, hx.1, by simp⟩⟩
    · have him : i < m := by omega
      obtain ⟨⟨k0, k1, k2⟩, _⟩ := hc i him
      obtain ⟨b, off, sp⟩ := a
      obtain rfl : sp = none := by
        have h := (hc 0 (by omega)).1.1
        simpa [Addr.add] using World.cell?_spot h
      rw [Addr.add_mid, Addr.add_mid] at k0 k1 k2
      rw [Nat.add_zero] at k0
      simp only [if_pos him]
      exact ⟨b, off, rfl, World.block_lt_of_cell? W _ k0, k0, k1, k2⟩
    · by_cases him : i < m
      · simp only [if_pos him]
        exact (hc i him).2
      · simp only [if_neg him]
        decide

set_option maxRecDepth 100000 in
theorem cascadeLinear_lifted (os : Os) (started : os.Started) (H : Type) (enc : TypeId × Value → H) :
    ReturnsInHanded {} Try.checked os 3 .any (Rows.cascadeLinearSpec.pre6 enc Try.prog Try.f3 Rows.cascadeLinearRow.domain false) (Rows.cascadeLinearSpec.post enc Try.prog Try.f3 false true false false) := by
  refine returnsInHanded_of_change_sized (C := Try.checked) (by kernel_rfl) started (by kernel_rfl) Try.func3
    (ChangeSpec.witness6 (enc := enc) (C := Try.checked) false ⟨#[], #[.slice none 0 0, .slice none 0 0, .slice none 0 0], []⟩ 8 (by kernel_rfl) (by kernel_rfl) (by kernel_rfl) (by kernel_rfl)) ?_
  intro W base args ds gs before hval0 hW _ hsz0 _
  have hsz : (DataW.weightsEach Try.prog (Try.f3.params.toList ++ Rows.cascadeLinearSpec.plain.varTypes Try.prog) (ds ++ gs)).all (· ≤ reachBytes) = true := hsz0
  clear hsz0
  have hval : ∀ (j : Nat) t v, Try.f3.params[j]? = some t → args[j]? = some v → Value.okWide Try.prog W .any base t v := hval0
  have hW' := hW
  obtain ⟨p, q, hA0, hV, rfl, _, _⟩ := hW
  have hA : DataW.TrodAll enc Try.prog W 0 (fun _ => true) true Try.f3.params.toList args.toList ds p := hA0
  rw [Try.params3] at hA hval hsz
  obtain ⟨v0, v1, v2, d0, d1, d2, p0, p1, p2, rfl, rfl, rfl, h0, h1, h2⟩ := trodAll_three hA
  obtain ⟨rfl, rfl⟩ := trodVars_none hV
  obtain ⟨a0, l0, c0, rfl⟩ := okWide_slice Try.underlying22 (hval 0 22 v0 rfl rfl)
  obtain ⟨a1, l1, c1, rfl⟩ := okWide_slice Try.underlying23 (hval 1 23 v1 rfl rfl)
  obtain ⟨a2, l2, c2, rfl⟩ := okWide_slice Try.underlying23 (hval 2 23 v2 rfl rfl)
  have h0k := h0
  have h1k := h1
  have h2k := h2
  obtain ⟨f0, hf0⟩ := h0
  obtain ⟨f1, hf1⟩ := h1
  obtain ⟨f2, hf2⟩ := h2
  clear hA0 hval0
  simp only [List.append_nil] at hW'
  obtain ⟨c, tc, sc, td⟩ := viewT hf0
  obtain ⟨Z1, zl1, zc1, zw1, zd1⟩ := viewN Try.underlying23 Try.underlying29 Try.cells_i8 hf1
  obtain ⟨Z2, zl2, zc2, zw2, zd2⟩ := viewN Try.underlying23 Try.underlying29 Try.cells_i8 hf2
  have r0 : l0 ≤ 140737488351232 := by
    rcases td with h | ⟨D, sp, h, hD⟩
    · omega
    · have := sized_slice hsz (j := 0) (t := 22) (e := 30) rfl (by rw [h]; rfl) Try.underlying22
      rw [Try.bytes_a3] at this
      simp only [hD, reachBytes] at this
      omega
  have r1 : l1 ≤ 140737488351232 := by
    rcases zd1 with h | ⟨sp, h⟩
    · omega
    · have := sized_slice hsz (j := 1) (t := 23) (e := 29) rfl (by rw [h]; rfl) Try.underlying23
      rw [Try.bytes_i8] at this
      simp only [lits, List.length_map, zl1, reachBytes] at this
      omega
  have r2 : l2 ≤ 140737488351232 := by
    rcases zd2 with h | ⟨sp, h⟩
    · omega
    · have := sized_slice hsz (j := 2) (t := 23) (e := 29) rfl (by rw [h]; rfl) Try.underlying23
      rw [Try.bytes_i8] at this
      simp only [lits, List.length_map, zl2, reachBytes] at this
      omega
  have hlt : ∀ x ∈ p0 ++ (p1 ++ p2), x.block < W.heap.size := fun x hx => by simpa using hW'.lt x (by simpa using hx)
  refine (linear_any a0 a1 a2 l0 c0 l1 c1 l2 c2 c (fun j => Z1.getD j 0) (fun j => Z2.getD j 0) W tc zc1 zc2 sc (small_of zw1) (small_of zw2) r0 r1 r2).mono ?_
  rintro e W' ⟨rfl, hnx⟩
  exact ⟨_, rfl, _, _, _, [], _, [], hW', trodAll_mk1 (shut_bool Try.underlying4 true), trodAll_mk3 (Below.trod Try.laidOut (by kernel_rfl) (of_decide_eq_true (by kernel_rfl)) h0k hnx (fun x hx => hlt x (by simp [hx]))) (Below.trod Try.laidOut (by kernel_rfl) (of_decide_eq_true (by kernel_rfl)) h1k hnx (fun x hx => hlt x (by simp [hx]))) (Below.trod Try.laidOut (by kernel_rfl) (of_decide_eq_true (by kernel_rfl)) h2k hnx (fun x hx => hlt x (by simp [hx]))), rfl, hnx.frame _, fun h => by cases h⟩

theorem cascadeLinear_holds : Rows.CascadeLinearSaid :=
  OpenClaim.holds_of_wide 3 Try.f3 rfl rfl rfl rfl rfl rfl rfl ⟨rfl, rfl, rfl, rfl, rfl⟩ rfl rfl rfl rfl rfl (by kernel_rfl) Try.func3 (by kernel_rfl)
    (of_decide_eq_true (by kernel_rfl)) (by unfold Func.isWrapper; first | (rw [if_pos (by decide +kernel)]; kernel_rfl) | (rw [if_neg (by decide +kernel)]; exact ⟨rfl, rfl⟩))
    (fun os started H enc _ => cascadeLinear_lifted os started H enc)
#print axioms cascadeLinear_holds
end Go.Proofs.Yteoglcelgcjpoaa
