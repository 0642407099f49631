/- QuantRuns: its walk. -/
import Derived.Test.YtlajalfdcfkmpaaRy
import Derived.Test.YtlajalfdcfkmpaaQw
import Derived.Test.YtlajalfdcfkmpaaQp
namespace Go.Proofs.Ytlajalfdcfkmpaa
open Go.RowKit Go.Maps

/-- What QuantRuns holds on to: its arguments' blocks, the state and the row that Run answered. -/
structure RX (w0 : World) (A gL m : Nat) (f : Fx) (s t : St) (Y : Nat → Int) (w : World) : Prop where
  pw : PW w0 (aF f) (aS s) w
  a : Blk w A (aS t) 40
  l : w.ownsRow w0.heap.size 2 1 (.slice (some ⟨gL, 0, none⟩) m m) m (rowL Y m m)
theorem RX.later {w0 a b : World} {A gL m : Nat} {f : Fx} {s t : St} {Y : Nat → Int} (h : RX w0 A gL m f s t Y a) (hb : Below a.heap.size a b) : RX w0 A gL m f s t Y b :=
  ⟨h.pw.later hb, h.a.below hb h.a.lt, h.l.kept (below_grownBy hb) (Classical.em _)⟩
theorem own_later {a b : World} {base m : Nat} {v : Value} {l : List Value} (h : a.ownsRow base 2 1 v m l) (hb : Below a.heap.size a b) : b.ownsRow base 2 1 v m l := h.kept (below_grownBy hb) (Classical.em _)

set_option maxRecDepth 100000 in
set_option maxHeartbeats 8000000 in
theorem runs_any (f : Fx) (s : St) (X : Nat → Int) (adx : Option Addr) (m capx : Nat) (cut : Int) (hm : m ≤ 17592186044416) (w : World) (hin : InAt w adx m X) (hxa : XArg (.slice adx m capx) m) :
    Calls Try.prog 5 #[vF f, vS s, .slice adx m capx, .int .i64 cut] w fun e w' => e = .returned (.bool true) ∧ Below w.heap.size w w' := by
  obtain ⟨i0, hi0, hz0, hz1, hz2⟩ := info_parts infoz_i64
  have HR := hide (run_any f s X adx m capx hm)
  have HD := hide (docRun_any f s X adx m capx hm)
  have Hin := hide hin
  have HXA := hide hxa
  clear hin hxa
  unfold vF vS at *
  go_enter Try.func5, Try.ntmps5
  go_wp2_with fail
  refine (awake_any _).mono ?_
  rintro e w1 ⟨rfl, hb1⟩
  have P1 := hide ((PW.start w (aF f) (aS s)).later hb1)
  clear hb1
  obtain ⟨c0, c1, c2, c3, c4, c5, d0, d1, d2, d3⟩ := (unhide P1).cells
  go_wp2_with fail
  refine (unhide HR _ ((unhide Hin).below (unhide P1).low)).mono ?_
  rintro e w2 ⟨gL, rfl, hgL, hown, hb2⟩
  clear c0 c1 c2 c3 c4 c5 d0 d1 d2 d3 hgL
  obtain ⟨t, ht⟩ : ∃ t, sN f s X m = t := ⟨_, rfl⟩
  obtain ⟨n, hn⟩ : ∃ n, cN f s X m = n := ⟨_, rfl⟩
  obtain ⟨Y, hY⟩ : ∃ Y, aN f s X = Y := ⟨_, rfl⟩
  rw [ht, hn]
  rw [hY] at hown
  unfold vS
  go_upto_region 4 with fail
  obtain ⟨A, hA⟩ : ∃ A, A = w2.heap.size := ⟨_, rfl⟩
  obtain ⟨W, hW⟩ : ∃ W, W = w2.alloc (Obj.cells #[.int .i64 t.x1, .int .i64 t.x2, .int .i64 t.y1, .int .i64 t.y2] 40) := ⟨_, rfl⟩
  rw [← hW, ← hA]
  have hB2 := Joins.below_alloc1 w2 (Obj.cells #[.int .i64 t.x1, .int .i64 t.x2, .int .i64 t.y1, .int .i64 t.y2] 40)
  rw [← hW] at hB2
  have hBA : Blk W A #[.int .i64 t.x1, .int .i64 t.x2, .int .i64 t.y1, .int .i64 t.y2] 40 := by rw [hW, hA]; exact Blk.alloc
  have R2 := hide (RX.mk (A := A) (t := t) ((unhide P1).later (hb2.trans (hB2.mono hb2.size))) hBA (own_later (Joins.ownsRow_le hown (unhide P1).low.size) hB2))
  clear hA hW hb2 P1 hown hB2 hBA
  obtain ⟨c0, c1, c2, c3, c4, c5, d0, d1, d2, d3⟩ := (unhide R2).pw.cells
  go_wp2_with fail
  refine (unhide HD _ ((unhide Hin).below (unhide R2).pw.low)).mono ?_
  rintro e w3 ⟨ad2, cp2, rfl, hown3, hb3⟩
  clear c0 c1 c2 c3 c4 c5 d0 d1 d2 d3
  rw [ht, hn]
  rw [hY] at hown3
  unfold vS
  go_upto_region 5 with fail
  obtain ⟨B, hB⟩ : ∃ B, B = w3.heap.size := ⟨_, rfl⟩
  obtain ⟨W3, hW3⟩ : ∃ W, W = w3.alloc (Obj.cells #[.int .i64 t.x1, .int .i64 t.x2, .int .i64 t.y1, .int .i64 t.y2] 40) := ⟨_, rfl⟩
  rw [← hW3, ← hB]
  have hB3 := Joins.below_alloc1 w3 (Obj.cells #[.int .i64 t.x1, .int .i64 t.x2, .int .i64 t.y1, .int .i64 t.y2] 40)
  rw [← hW3] at hB3
  have hBB : Blk W3 B #[.int .i64 t.x1, .int .i64 t.x2, .int .i64 t.y1, .int .i64 t.y2] 40 := by rw [hW3, hB]; exact Blk.alloc
  have R3 := hide ((unhide R2).later (hb3.trans (hB3.mono hb3.size)))
  have O3 := hide (own_later hown3 hB3)
  have B3 := hide hBB
  clear hB hW3 hb3 R2 hown3 hB3 hBB
  go_wp2_with fail
  refine (alike_any _ _ m _ _ Y _ hm (InAt_own (unhide R3).l) (InAt_own (unhide O3))).mono ?_
  rintro e w4 ⟨rfl, hb4⟩
  have R4 := hide ((unhide R3).later hb4)
  have hBB := (unhide B3).below hb4 (unhide B3).lt
  clear hb4 R3 O3 B3
  have k0 : w4.cell? ⟨A, 0, none⟩ = some (.int .i64 t.x1) := (unhide R4).a.cell 0 rfl
  have k1 : w4.cell? ⟨A, 1, none⟩ = some (.int .i64 t.x2) := (unhide R4).a.cell 1 rfl
  have k2 : w4.cell? ⟨A, 2, none⟩ = some (.int .i64 t.y1) := (unhide R4).a.cell 2 rfl
  have k3 : w4.cell? ⟨A, 3, none⟩ = some (.int .i64 t.y2) := (unhide R4).a.cell 3 rfl
  have l0 := hBB.cell 0 rfl
  have l1 := hBB.cell 1 rfl
  have l2 := hBB.cell 2 rfl
  have l3 := hBB.cell 3 rfl
  clear hBB HR HD
  by_cases hc0 : cut < 0
  · go_wp2
    go_ret
    exact ⟨rfl, (unhide R4).pw.low⟩
  by_cases hc1 : (m : Int) < cut
  · go_wp2
    go_ret
    exact ⟨rfl, (unhide R4).pw.low⟩
  obtain ⟨q, rfl⟩ := Int.eq_ofNat_of_zero_le (by omega : 0 ≤ cut)
  have hq : q ≤ m := by omega
  have HR1 := hide (run_first f s X q (by omega))
  obtain ⟨t1, ht1⟩ : ∃ t1, sN f s X q = t1 := ⟨_, rfl⟩
  obtain ⟨nA, hn1⟩ : ∃ nA, cN f s X q = nA := ⟨_, rfl⟩
  obtain ⟨nB, hn2⟩ : ∃ nB, cN f (sN f s X q) (fun j => X (q + j)) (m - q) = nB := ⟨_, rfl⟩
  have HR2 := hide (run_second f s X q m nB hm hq hn2.symm)
  have HN : Hid (nA + nB = n) := by
    show nA + nB = n
    rw [← hn1, ← hn2, cN_cut, ← hn, show q + (m - q) = m by omega]
  rw [ht1, hn1, hY] at HR1
  rw [ht1, ht, hY] at HR2
  have bn1 : nA ≤ 17592186044416 := by rw [← hn1]; exact Nat.le_trans (cN_le f s X q) (by omega)
  have bn2 : nB ≤ 17592186044416 := by rw [← hn2]; exact Nat.le_trans (cN_le f _ _ _) (by omega)
  clear ht hn hY ht1 hn1 hn2
  go_wp2_with fail
  clear k0 k1 k2 k3 l0 l1 l2 l3
  rename_i K hK
  have HK := hide hK
  clear hK
  refine region_slotsA (cutV 63 64 65 66 67 70 71 17 w4 f s t1 (.slice adx m capx) q q X (nA : Nat)) (rnC 16 68 62 69 15 w4 t1 q Y (nA : Nat)) (by kernel_rfl) (by kernel_rfl) (by kernel_rfl) 103 (by kernel_rfl) rfl rnC.start ?_ ?_
  · as_aux_lemma =>
    intro listed a w1 i o hI ho hsz hl hd
    have hi : i < 14 := by simpa using (Array.getElem?_eq_some_iff.1 ho).1
    have hsz' : listed.size = 14 := by simpa using hsz
    have ef : a.eval (.tmp 4) = .pointer (some ⟨w.heap.size, 0, none⟩) := (hI.base 4 (by kernel_rfl)).trans rfl
    have es : a.eval (.tmp 5) = .pointer (some ⟨w.heap.size + 1, 0, none⟩) := (hI.base 5 (by kernel_rfl)).trans rfl
    have el : a.eval (.tmp 2) = .slice adx m capx := (hI.base 2 (by kernel_rfl)).trans rfl
    have eq : a.eval (.tmp 3) = .int .i64 (q : Nat) := (hI.base 3 (by kernel_rfl)).trans rfl
    have hc : rnC 16 68 62 69 15 w4 t1 q Y (nA : Nat) listed a w1 := hI.world
    rcases (by omega : i = 0 ∨ i = 1 ∨ i = 2 ∨ i = 3 ∨ i = 4 ∨ i = 5 ∨ i = 6 ∨ i = 7 ∨ i = 8 ∨ i = 9 ∨ i = 10 ∨ i = 11 ∨ i = 12 ∨ i = 13) with rfl | rfl | rfl | rfl | rfl | rfl | rfl | rfl | rfl | rfl | rfl | rfl | rfl | rfl
    all_goals obtain rfl := Option.some.inj ho
    · exact okR_load rfl ef (loadFx _ _ _ _ _ _ _ _ ((unhide R4).later hc.1.1).pw.sec) ⟨slotR rfl rfl, hc.same 0 (e := 63) rfl (by omega) (by omega)⟩
    · exact okR_load rfl es (loadSt _ _ _ _ _ _ ((unhide R4).pw.st.below hc.1.1 (unhide R4).pw.st.lt)) ⟨slotR rfl rfl, hc.same 1 (e := 64) rfl (by omega) (by omega)⟩
    · exact okR_move rfl el ⟨slotR rfl rfl, hc.same 2 (e := 65) rfl (by omega) (by omega)⟩
    · exact okR_move rfl eq ⟨slotR rfl rfl, hc.same 3 (e := 66) rfl (by omega) (by omega)⟩
    · have k1 := hI.slot 2 _ 65 rfl rfl (hd ⟨2, .data⟩ (by simp) rfl)
      have k2 := hI.slot 3 _ 66 rfl rfl (hd ⟨3, .data⟩ (by simp) rfl)
      exact step_head rfl k1 (unhide HXA) k2 (by omega) (fun ad c e => by cases e; exact (unhide Hin).below (unhide R4).pw.low) (fun ad c h => ⟨slotR rfl ⟨ad, c, rfl, h⟩, hc.same 4 (e := 67) rfl (by omega) (by omega)⟩)
    · have k1 := hI.slot 0 _ 63 rfl rfl (hd ⟨0, .data⟩ (by simp) rfl)
      have k2 := hI.slot 1 _ 64 rfl rfl (hd ⟨1, .data⟩ (by simp) rfl)
      obtain ⟨ad, c, k3, hin⟩ := hI.slot 4 _ 67 rfl rfl (hd ⟨4, .data⟩ (by simp) rfl)
      have u6 : listed.getD 6 false = false := by
        cases h6 : listed.getD 6 false with
        | false => rfl
        | true =>
          exfalso
          have := hI.closed 6 _ rfl h6 ⟨5, .data⟩ (by simp) rfl
          rw [unl hl hsz' (by omega)] at this
          cases this
      have u7 : listed.getD 7 false = false := by
        cases h6 : listed.getD 7 false with
        | false => rfl
        | true =>
          exfalso
          have h8 := hI.closed 7 _ rfl h6 ⟨6, .data⟩ (by simp) rfl
          rw [u6] at h8
          cases h8
      have u11 : listed.getD 11 false = false := by
        cases h6 : listed.getD 11 false with
        | false => rfl
        | true =>
          exfalso
          have := hI.closed 11 _ rfl h6 ⟨5, .chain⟩ (by simp) rfl
          rw [unl hl hsz' (by omega)] at this
          cases this
      refine okR_call3 enter_run rfl k1 k2 k3 ((unhide HR1 ad c w1 (hin.below hc.1.1)).mono ?_)
      rintro e w' ⟨g', rfl, hg', hown', hb'⟩
      exact ⟨_, rfl, slotR rfl trivial, hc.call hI.size (show 68 < 103 by omega) rfl (by omega) ⟨u6, u7, u11⟩ hb' hg' hown'⟩
    · have l5 := hd ⟨5, .data⟩ (by simp) rfl
      exact okR_move rfl rfl ⟨slotR rfl trivial, hc.mv hI.size (show 62 < 103 by omega) rfl (by omega) l5⟩
    · have l6 := hd ⟨6, .data⟩ (by simp) rfl
      have l5 : listed.getD 5 false = true := hI.closed 6 _ rfl l6 ⟨5, .data⟩ (by simp) rfl
      obtain ⟨g', f1, f2, f3, f4, f5, f6, f7⟩ := hc.2 l5
      exact okR_extract rfl (f2 l6) rfl ⟨slotR rfl trivial, hc.ex hI.size (show 69 < 103 by omega) rfl (by omega) l5 f1⟩
    · have l6 := hd ⟨6, .data⟩ (by simp) rfl
      have l5 : listed.getD 5 false = true := hI.closed 6 _ rfl l6 ⟨5, .data⟩ (by simp) rfl
      obtain ⟨g', f1, f2, f3, f4, f5, f6, f7⟩ := hc.2 l5
      exact okR_extract rfl (f2 l6) rfl ⟨slotR rfl rfl, hc.same 8 (e := 70) rfl (by omega) (by omega)⟩
    · have l6 := hd ⟨6, .data⟩ (by simp) rfl
      have l5 : listed.getD 5 false = true := hI.closed 6 _ rfl l6 ⟨5, .data⟩ (by simp) rfl
      obtain ⟨g', f1, f2, f3, f4, f5, f6, f7⟩ := hc.2 l5
      exact okR_extract rfl (f2 l6) rfl ⟨slotR rfl rfl, hc.same 9 (e := 71) rfl (by omega) (by omega)⟩
    · have u12 : listed.getD 12 false = false := by
        cases h6 : listed.getD 12 false with
        | false => rfl
        | true =>
          exfalso
          have := hI.closed 12 _ rfl h6 ⟨10, .phase⟩ (by simp) rfl
          rw [unl hl hsz' (by omega)] at this
          cases this
      exact okR_allocSt rfl ⟨slotR rfl trivial, hc.alloc hI.size (show 16 < 103 by omega) rfl (by omega) u12⟩
    · have l7 := hd ⟨7, .data⟩ (by simp) rfl
      have l6 : listed.getD 6 false = true := hI.closed 7 _ rfl l7 ⟨6, .data⟩ (by simp) rfl
      have l5 : listed.getD 5 false = true := hI.closed 6 _ rfl l6 ⟨5, .data⟩ (by simp) rfl
      exact okR_assign rfl rfl ⟨slotR rfl trivial, hc.asg hI.size (show 15 < 103 by omega) rfl (by omega) l5 l7⟩
    · have k1 := hI.slot 8 _ 70 rfl rfl (hd ⟨8, .data⟩ (by simp) rfl)
      have l10 := hd ⟨10, .data⟩ (by simp) rfl
      obtain ⟨N, n1, n2, n3⟩ := hc.1.2 l10
      refine okR_store rfl n1 k1 (run_storeAt_mid w1 N 0 40 (aS (t1)) n3.there infoSt (by simp [aS, Value.oneCell'])) ⟨slotN rfl, hc.store rfl l10 n1 (by omega)⟩
    · have k1 := hI.slot 9 _ 71 rfl rfl (hd ⟨9, .data⟩ (by simp) rfl)
      exact okR_assign rfl k1 ⟨slotR rfl rfl, hc.same 13 (e := 17) rfl (by omega) (by omega)⟩
  · intro listed a' w5 hI hall
    have hc : rnC 16 68 62 69 15 w4 t1 q Y (nA : Nat) listed a' w5 := hI.world
    obtain ⟨⟨hbw5, hN⟩, hR⟩ := hc
    obtain ⟨NM, n1, n2, n3w5⟩ := hN (hall 10 (by decide))
    rw [hall 12 (by decide), if_pos rfl] at n3w5
    obtain ⟨gP, _, _, _, p4, p5, p6w5, p7⟩ := hR (hall 5 (by decide))
    have p4' := p4 (hall 11 (by decide))
    have p13 : a'.eval (.tmp 17) = .int .i64 (nA : Nat) := hI.slot 13 _ 17 rfl rfl (hall 13 (by decide))
    have E := hI.frame [15, 16, 17, 62, 63, 64, 65, 66, 67, 68, 69, 70, 71] (by kernel_rfl)
    simp only [putAll] at E
    generalize a'.eval (.tmp 62) = y62 at E
    generalize a'.eval (.tmp 63) = y63 at E
    generalize a'.eval (.tmp 64) = y64 at E
    generalize a'.eval (.tmp 65) = y65 at E
    generalize a'.eval (.tmp 66) = y66 at E
    generalize a'.eval (.tmp 67) = y67 at E
    generalize a'.eval (.tmp 68) = y68 at E
    generalize a'.eval (.tmp 69) = y69 at E
    generalize a'.eval (.tmp 70) = y70 at E
    generalize a'.eval (.tmp 71) = y71 at E
    rw [n1, p4', p13] at E
    clear hI hall n1 p4 p4' p13 p7 hN hR n2 p5
    simp only [Act.put, List.setIfInBounds_toArray, List.set_cons_zero, List.set_cons_succ] at E
    subst E
    refine unhide HK _ _ ?_
    clear HK
    have R5 := hide ((unhide R4).later hbw5)
    have BM := hide n3w5
    have OP := hide p6w5
    clear hbw5 n3w5 p6w5 R4
    go_wp2_with fail
    rename_i K hK
    have HK := hide hK
    clear hK
    refine region_slotsA (cutV 73 74 75 76 77 80 81 20 w5 f t1 t (.slice adx m capx) q (m - q) (fun j => X (q + j)) (nB : Nat)) (rnC 19 78 72 79 18 w5 t (m - q) (fun j => Y (q + j)) (nB : Nat)) (by kernel_rfl) (by kernel_rfl) (by kernel_rfl) 103 (by kernel_rfl) rfl rnC.start ?_ ?_
    · as_aux_lemma =>
      intro listed a w1 i o hI ho hsz hl hd
      have hi : i < 14 := by simpa using (Array.getElem?_eq_some_iff.1 ho).1
      have hsz' : listed.size = 14 := by simpa using hsz
      have ef : a.eval (.tmp 4) = .pointer (some ⟨w.heap.size, 0, none⟩) := (hI.base 4 (by kernel_rfl)).trans rfl
      have es : a.eval (.tmp 16) = .pointer (some ⟨NM, 0, none⟩) := (hI.base 16 (by kernel_rfl)).trans rfl
      have el : a.eval (.tmp 2) = .slice adx m capx := (hI.base 2 (by kernel_rfl)).trans rfl
      have eq : a.eval (.tmp 3) = .int .i64 (q : Nat) := (hI.base 3 (by kernel_rfl)).trans rfl
      have hc : rnC 19 78 72 79 18 w5 t (m - q) (fun j => Y (q + j)) (nB : Nat) listed a w1 := hI.world
      rcases (by omega : i = 0 ∨ i = 1 ∨ i = 2 ∨ i = 3 ∨ i = 4 ∨ i = 5 ∨ i = 6 ∨ i = 7 ∨ i = 8 ∨ i = 9 ∨ i = 10 ∨ i = 11 ∨ i = 12 ∨ i = 13) with rfl | rfl | rfl | rfl | rfl | rfl | rfl | rfl | rfl | rfl | rfl | rfl | rfl | rfl
      all_goals obtain rfl := Option.some.inj ho
      · exact okR_load rfl ef (loadFx _ _ _ _ _ _ _ _ ((unhide R5).later hc.1.1).pw.sec) ⟨slotR rfl rfl, hc.same 0 (e := 73) rfl (by omega) (by omega)⟩
      · exact okR_load rfl es (loadSt _ _ _ _ _ _ ((unhide BM).below hc.1.1 (unhide BM).lt)) ⟨slotR rfl rfl, hc.same 1 (e := 74) rfl (by omega) (by omega)⟩
      · exact okR_move rfl el ⟨slotR rfl rfl, hc.same 2 (e := 75) rfl (by omega) (by omega)⟩
      · exact okR_move rfl eq ⟨slotR rfl rfl, hc.same 3 (e := 76) rfl (by omega) (by omega)⟩
      · have k1 := hI.slot 2 _ 75 rfl rfl (hd ⟨2, .data⟩ (by simp) rfl)
        have k2 := hI.slot 3 _ 76 rfl rfl (hd ⟨3, .data⟩ (by simp) rfl)
        exact step_cut rfl k1 (unhide HXA) k2 (by omega) (fun ad c e => by cases e; exact (unhide Hin).below (unhide R5).pw.low) (fun ad c h => ⟨slotR rfl ⟨ad, c, rfl, h⟩, hc.same 4 (e := 77) rfl (by omega) (by omega)⟩)
      · have k1 := hI.slot 0 _ 73 rfl rfl (hd ⟨0, .data⟩ (by simp) rfl)
        have k2 := hI.slot 1 _ 74 rfl rfl (hd ⟨1, .data⟩ (by simp) rfl)
        obtain ⟨ad, c, k3, hin⟩ := hI.slot 4 _ 77 rfl rfl (hd ⟨4, .data⟩ (by simp) rfl)
        have u6 : listed.getD 6 false = false := by
          cases h6 : listed.getD 6 false with
          | false => rfl
          | true =>
            exfalso
            have := hI.closed 6 _ rfl h6 ⟨5, .data⟩ (by simp) rfl
            rw [unl hl hsz' (by omega)] at this
            cases this
        have u7 : listed.getD 7 false = false := by
          cases h6 : listed.getD 7 false with
          | false => rfl
          | true =>
            exfalso
            have h8 := hI.closed 7 _ rfl h6 ⟨6, .data⟩ (by simp) rfl
            rw [u6] at h8
            cases h8
        have u11 : listed.getD 11 false = false := by
          cases h6 : listed.getD 11 false with
          | false => rfl
          | true =>
            exfalso
            have := hI.closed 11 _ rfl h6 ⟨5, .chain⟩ (by simp) rfl
            rw [unl hl hsz' (by omega)] at this
            cases this
        refine okR_call3 enter_run rfl k1 k2 k3 ((unhide HR2 ad c w1 (hin.below hc.1.1)).mono ?_)
        rintro e w' ⟨g', rfl, hg', hown', hb'⟩
        exact ⟨_, rfl, slotR rfl trivial, hc.call hI.size (show 78 < 103 by omega) rfl (by omega) ⟨u6, u7, u11⟩ hb' hg' hown'⟩
      · have l5 := hd ⟨5, .data⟩ (by simp) rfl
        exact okR_move rfl rfl ⟨slotR rfl trivial, hc.mv hI.size (show 72 < 103 by omega) rfl (by omega) l5⟩
      · have l6 := hd ⟨6, .data⟩ (by simp) rfl
        have l5 : listed.getD 5 false = true := hI.closed 6 _ rfl l6 ⟨5, .data⟩ (by simp) rfl
        obtain ⟨g', f1, f2, f3, f4, f5, f6, f7⟩ := hc.2 l5
        exact okR_extract rfl (f2 l6) rfl ⟨slotR rfl trivial, hc.ex hI.size (show 79 < 103 by omega) rfl (by omega) l5 f1⟩
      · have l6 := hd ⟨6, .data⟩ (by simp) rfl
        have l5 : listed.getD 5 false = true := hI.closed 6 _ rfl l6 ⟨5, .data⟩ (by simp) rfl
        obtain ⟨g', f1, f2, f3, f4, f5, f6, f7⟩ := hc.2 l5
        exact okR_extract rfl (f2 l6) rfl ⟨slotR rfl rfl, hc.same 8 (e := 80) rfl (by omega) (by omega)⟩
      · have l6 := hd ⟨6, .data⟩ (by simp) rfl
        have l5 : listed.getD 5 false = true := hI.closed 6 _ rfl l6 ⟨5, .data⟩ (by simp) rfl
        obtain ⟨g', f1, f2, f3, f4, f5, f6, f7⟩ := hc.2 l5
        exact okR_extract rfl (f2 l6) rfl ⟨slotR rfl rfl, hc.same 9 (e := 81) rfl (by omega) (by omega)⟩
      · have u12 : listed.getD 12 false = false := by
          cases h6 : listed.getD 12 false with
          | false => rfl
          | true =>
            exfalso
            have := hI.closed 12 _ rfl h6 ⟨10, .phase⟩ (by simp) rfl
            rw [unl hl hsz' (by omega)] at this
            cases this
        exact okR_allocSt rfl ⟨slotR rfl trivial, hc.alloc hI.size (show 19 < 103 by omega) rfl (by omega) u12⟩
      · have l7 := hd ⟨7, .data⟩ (by simp) rfl
        have l6 : listed.getD 6 false = true := hI.closed 7 _ rfl l7 ⟨6, .data⟩ (by simp) rfl
        have l5 : listed.getD 5 false = true := hI.closed 6 _ rfl l6 ⟨5, .data⟩ (by simp) rfl
        exact okR_assign rfl rfl ⟨slotR rfl trivial, hc.asg hI.size (show 18 < 103 by omega) rfl (by omega) l5 l7⟩
      · have k1 := hI.slot 8 _ 80 rfl rfl (hd ⟨8, .data⟩ (by simp) rfl)
        have l10 := hd ⟨10, .data⟩ (by simp) rfl
        obtain ⟨N, n1, n2, n3⟩ := hc.1.2 l10
        refine okR_store rfl n1 k1 (run_storeAt_mid w1 N 0 40 (aS (t)) n3.there infoSt (by simp [aS, Value.oneCell'])) ⟨slotN rfl, hc.store rfl l10 n1 (by omega)⟩
      · have k1 := hI.slot 9 _ 81 rfl rfl (hd ⟨9, .data⟩ (by simp) rfl)
        exact okR_assign rfl k1 ⟨slotR rfl rfl, hc.same 13 (e := 20) rfl (by omega) (by omega)⟩
    · intro listed a' w6 hI hall
      have hc : rnC 19 78 72 79 18 w5 t (m - q) (fun j => Y (q + j)) (nB : Nat) listed a' w6 := hI.world
      obtain ⟨⟨hbw6, hN⟩, hR⟩ := hc
      obtain ⟨NE, n1, n2, n3w6⟩ := hN (hall 10 (by decide))
      rw [hall 12 (by decide), if_pos rfl] at n3w6
      obtain ⟨gQ, _, _, _, p4, p5, p6w6, p7⟩ := hR (hall 5 (by decide))
      have p4' := p4 (hall 11 (by decide))
      have p13 : a'.eval (.tmp 20) = .int .i64 (nB : Nat) := hI.slot 13 _ 20 rfl rfl (hall 13 (by decide))
      have E := hI.frame [18, 19, 20, 72, 73, 74, 75, 76, 77, 78, 79, 80, 81] (by kernel_rfl)
      simp only [putAll] at E
      generalize a'.eval (.tmp 72) = y72 at E
      generalize a'.eval (.tmp 73) = y73 at E
      generalize a'.eval (.tmp 74) = y74 at E
      generalize a'.eval (.tmp 75) = y75 at E
      generalize a'.eval (.tmp 76) = y76 at E
      generalize a'.eval (.tmp 77) = y77 at E
      generalize a'.eval (.tmp 78) = y78 at E
      generalize a'.eval (.tmp 79) = y79 at E
      generalize a'.eval (.tmp 80) = y80 at E
      generalize a'.eval (.tmp 81) = y81 at E
      rw [n1, p4', p13] at E
      clear hI hall n1 p4 p4' p13 p7 hN hR n2 p5
      simp only [Act.put, List.setIfInBounds_toArray, List.set_cons_zero, List.set_cons_succ] at E
      subst E
      refine unhide HK _ _ ?_
      clear HK
      have R6 := hide ((unhide R5).later hbw6)
      have BE := hide n3w6
      have OP6 := hide (own_later (unhide OP) hbw6)
      have OQ := hide p6w6
      clear hbw6 n3w6 p6w6 R5 BM OP
      go_upto_region 13 with (first
        | (at_builtin; refine wpList_append_row _ rfl (.tmp 82) (.tmp 83) 44 rfl w6.heap.size 2 i0 (.int .i64 0) 1 8 Try.underlying44 hi0 hz0 hz1 hz2 rfl Nat.one_pos (.slice none 0 0) 0 [] rfl (World.ownsRow_nil _ _ _ _) _ _ q _ rfl (unhide OP6) (rowL_ones _ _ _) (by unfold maxLen; omega) (by omega) (Nat.le_refl _) ?_; intro v7 w7 hown7 hg7)
        | fail)
      have HB7 := hide ((Below.refl _ _).grown hg7 (Nat.le_refl _) (fun kk e => by cases e) : Below w6.heap.size w6 w7)
      have OQ7 := hide (own_later (unhide OQ) (unhide HB7))
      have Hl7 := hide (fun g e => (hown7.lt g e).1)
      have O7 := hide hown7
      have hs7 := (unhide HB7).size
      clear OQ OP6 hown7 hg7
      go_upto_region 14 with (first
        | (at_builtin; refine wpList_append_row _ rfl (.tmp 85) (.tmp 86) 44 rfl w6.heap.size 2 i0 (.int .i64 0) 1 8 Try.underlying44 hi0 hz0 hz1 hz2 rfl Nat.one_pos v7 (0 + q) _ rfl (unhide O7) _ _ (m - q) _ rfl (unhide OQ7) (rowL_ones _ _ _) (by unfold maxLen; omega) (by omega) (by omega) ?_; intro v8 w8 hown8 hg8)
        | fail)
      have hb8 := (unhide HB7).trans ((Below.refl _ _).grown hg8 hs7 (fun kk e => unhide Hl7 kk e))
      rw [List.nil_append, rowL_join, Nat.zero_add, show q + (m - q) = m by omega] at hown8
      obtain ⟨adb, cb, rfl⟩ := own_slice hown8
      have R8 := hide ((unhide R6).later hb8)
      have BE8 := hide ((unhide BE).below hb8 (unhide BE).lt)
      have O8 := hide hown8
      clear hb8 hg8 HB7 R6 BE OQ7 Hl7 O7 hown8 hs7
      go_wp2_with fail
      refine (alike_any _ _ m _ _ Y _ hm (InAt_own (unhide O8)) (InAt_own (unhide R8).l)).mono ?_
      rintro e w9 ⟨rfl, hb9⟩
      have R9 := hide ((unhide R8).later hb9)
      have BE9 := (unhide BE8).below hb9 (unhide BE8).lt
      have k0 : w9.cell? ⟨A, 0, none⟩ = some (.int .i64 t.x1) := (unhide R9).a.cell 0 rfl
      have k1 : w9.cell? ⟨A, 1, none⟩ = some (.int .i64 t.x2) := (unhide R9).a.cell 1 rfl
      have k2 : w9.cell? ⟨A, 2, none⟩ = some (.int .i64 t.y1) := (unhide R9).a.cell 2 rfl
      have k3 : w9.cell? ⟨A, 3, none⟩ = some (.int .i64 t.y2) := (unhide R9).a.cell 3 rfl
      have l0 : w9.cell? ⟨NE, 0, none⟩ = some (.int .i64 t.x1) := BE9.cell 0 rfl
      have l1 : w9.cell? ⟨NE, 1, none⟩ = some (.int .i64 t.x2) := BE9.cell 1 rfl
      have l2 : w9.cell? ⟨NE, 2, none⟩ = some (.int .i64 t.y1) := BE9.cell 2 rfl
      have l3 : w9.cell? ⟨NE, 3, none⟩ = some (.int .i64 t.y2) := BE9.cell 3 rfl
      have hsum : (nA : Int) + (nB : Int) = (n : Int) := by have := unhide HN; omega
      clear hb9 R8 BE8 BE9 O8 HN
      go_wp2
      go_ret
      exact ⟨rfl, (unhide R9).pw.low⟩
end Go.Proofs.Ytlajalfdcfkmpaa
