/- WholeFixed: its walk. -/
import Derived.Test.YtkadojmfcnleoaaQy
import Derived.Test.YtkadojmfcnleoaaRgj
import Derived.Test.YtkadojmfcnleoaaQz
import Derived.Deep.DeepCutAuto
import Derived.Deep.CutBlock
namespace Go.Proofs.Ytkadojmfcnleoaa
open Go.RowKit Go.Maps

set_option maxRecDepth 100000 in
set_option maxHeartbeats 16000000 in
theorem fixed_walk (x bits b c d cut : Int) (ad : Option Addr) (len cap : Nat) (X : Nat → Int) (hx : -2147483648 ≤ x ∧ x ≤ 2147483647) (hbits : 0 ≤ bits ∧ bits ≤ 255) (hb : 0 ≤ b ∧ b ≤ 255) (hc : 0 ≤ c ∧ c ≤ 255) (hd : 0 ≤ d ∧ d ≤ 255) (hcut : 0 ≤ cut ∧ cut ≤ 255)
    (w : World) (hin : In16 w ad len X) :
    Calls Try.prog 3 #[.int .i32 x, .int .u8 bits, .int .u8 b, .int .u8 c, .int .u8 d, .slice ad len cap, .int .u8 cut] w fun e w' => e = .returned (.bool true) ∧ Below w.heap.size w w' := by
  obtain ⟨i0, hi0, hz0, hz1, hz2⟩ := info_parts infoz_i64
  obtain ⟨k, hk⟩ : ∃ k, k = 1 + bits % 31 := ⟨_, rfl⟩
  have hfk : fitsB k = true := by simp [fitsB]; omega
  have hk1 : 1 + bits % 31 = k := hk.symm
  have Hb := hide (back_any x k (by unfold i64; omega) hfk)
  have hfb := fix_back x k hx hfk
  have Hf := hide (fix_fin _ hfb.1 hfb.2.1 k hfk)
  rw [hfb.2.2, kp_same x (by unfold i32; omega), show offB x = false by unfold offB; rw [kp_same x (by unfold i32; omega)]; simp] at Hf
  generalize putBits (decide (x < 0)) (joinRung x.natAbs (-k)) = B at Hb Hf
  clear hfb
  have H5 := hide (fix_fin 4612811918334230528 (by decide) (by decide) 1 (by decide))
  rw [show kp (fixN 4612811918334230528 1) = 5 by decide +kernel, show offB (fixN 4612811918334230528 1) = false by decide +kernel] at H5
  have H2 := hide (fix_fin 4604930618986332160 (by decide) (by decide) 1 (by decide))
  rw [show kp (fixN 4604930618986332160 1) = 2 by decide +kernel, show offB (fixN 4604930618986332160 1) = false by decide +kernel] at H2
  have HM := hide (fix_fin 9218868437227405311 (by decide) (by decide) k hfk)
  rw [(max_fix k hfk).1, (max_fix k hfk).2] at HM
  have Hx := hide (fixed_any b c d hb hc hd)
  obtain ⟨f, hf⟩ : ∃ f : Fx, f = ⟨8, b - 128, c - 128, d, c * 2, b⟩ := ⟨_, rfl⟩
  rw [← hf] at Hx
  have HF := hide hf
  have HFB : Hid (FxB f) := by show FxB f; rw [hf]; exact FxB.of hb hc hd
  have Hin := hide hin
  have Hr := hide (run_any f)
  have Hcy := hide (cycles_any f)
  unfold vF vS at *
  have Hk := hide hk
  clear hf hin hk hb hc hd hfk
  go_enter Try.func3, Try.ntmps3
  go_wp2_with fail
  refine (unhide Hb _).mono ?_
  rintro e w' ⟨rfl, rfl⟩
  go_wp2_with fail
  refine (unhide Hf _).mono ?_
  rintro e w' ⟨rfl, rfl⟩
  go_wp2_with fail
  refine (unhide H5 _).mono ?_
  rintro e w' ⟨rfl, rfl⟩
  go_wp2_with fail
  refine (unhide H2 _).mono ?_
  rintro e w' ⟨rfl, rfl⟩
  go_wp2_with fail
  refine (unhide HM _).mono ?_
  rintro e w' ⟨rfl, rfl⟩
  go_wp2_with fail
  refine (unhide Hx _).mono ?_
  rintro e w1 ⟨rfl, hb1⟩
  clear Hb Hf H5 H2 HM Hx
  obtain ⟨w, hww⟩ : ∃ v, v = w' := ⟨_, rfl⟩
  subst hww
  go_upto_block 0 with fail
  obtain ⟨FB, hFB⟩ : ∃ FB, FB = w1.heap.size := ⟨_, rfl⟩
  obtain ⟨W1, hW1⟩ : ∃ W1, W1 = w1.alloc (Obj.cells #[.int .i64 f.bits, .int .i64 f.b0, .int .i64 f.b1, .int .i64 f.b2, .int .i64 f.a1, .int .i64 f.a2] 30) := ⟨_, rfl⟩
  rw [← hW1, ← hFB]
  have hBF : Blk W1 FB (aF f) 30 := by rw [hW1, hFB]; exact Blk.alloc
  have hBW : Below w.heap.size w W1 := by rw [hW1]; exact hb1.alloc hb1.size _
  have hFw : w.heap.size ≤ FB := by rw [hFB]; exact hb1.size
  have HB1 := hide (And.intro hBF hBW)
  have hFW : FB + 1 ≤ W1.heap.size := hBF.lt
  clear hW1 hFB hBF hBW hb1
  go_cut [31] (fun v wx => ∃ q : Nat, q ≤ len ∧ q ≤ 200 ∧ Hid (wx.ownsRow (FB + 1) 2 1 v q (rowL X q q)) ∧ Hid (Blk wx FB (aF f) 30) ∧ Hid (Below w.heap.size w wx) ∧ FB + 1 ≤ wx.heap.size)
  case first => as_aux_lemma =>
    go_wp2_with fail
    go_loopw [31, 32] (fun v i wr => ∃ q : Nat, i = .int .i64 q ∧ q ≤ len ∧ q ≤ 200 ∧ Hid (wr.ownsRow (FB + 1) 2 1 v q (rowL X q q)) ∧ Hid (Blk wr FB (aF f) 30) ∧ Hid (Below w.heap.size w wr) ∧ FB + 1 ≤ wr.heap.size) (fun _ i _ => len - (intOf i).toNat)
    case atStart => exact ⟨0, rfl, Nat.zero_le _, Nat.zero_le _, World.ownsRow_nil _ _ _ _, (unhide HB1).1, (unhide HB1).2, hFW⟩
    case round =>
      obtain ⟨q, rfl, hq1, hq2, hown, hBF, hBW, hFr⟩ := hrel
      clear HB1 hFW
      by_cases hql : (q : Int) < (len : Int)
      · by_cases hq200 : (q : Int) < 200
        · obtain ⟨bi, offi, rfl, hbi, hci, hX1, hX2⟩ := (unhide Hin) q (by omega)
          have hcr : wr.cell? ⟨bi, offi + q, none⟩ = some (.int .i16 (X q)) := ((unhide hBW).cell (by exact hbi)).trans hci
          have o2 : Hid ((wr.alloc (Obj.cells #[.int .i64 (X q)] 2)).ownsRow (FB + 1) 2 1 u31 q (rowL X q q)) := hide ((unhide hown).alloc _)
          have hnews : Hid (∀ j u, [Value.int .i64 (X q)][j]? = some u → (wr.alloc (Obj.cells #[.int .i64 (X q)] 2)).cell? ((⟨wr.heap.size, 0, none⟩ : Addr).add j) = some u) := hide (cell_one_new wr _ _)
          have hbase : Hid (FB + 1 ≤ (wr.alloc (Obj.cells #[.int .i64 (X q)] 2)).heap.size) := hide (by simp; omega)
          have hH : Hid ((wr.alloc (Obj.cells #[.int .i64 (X q)] 2)).heap.size = wr.heap.size + 1) := hide (by simp)
          have Hap := hide (fun (kk : Nat) (e : u31.ownBlock = some kk) => ((unhide hown).lt kk e))
          clear hci hown
          go_wp2_with (first
            | (at_builtin; refine wpList_append_lies _ rfl (.tmp 139) (.tmp 145) 32 rfl (FB + 1) 2 i0 (.int .i64 0) 1 8 Try.underlying32 hi0 hz0 hz1 hz2 rfl Nat.one_pos u31 q (rowL X q q) rfl o2.out ⟨wr.heap.size, 0, none⟩ 1 1 [.int .i64 (X q)] rfl rfl hnews.out (rowL_one X q) Nat.one_pos (by unfold maxLen; omega) (by omega) hbase.out (wr.heap.size + 1) hH.out ?_; intro gg cap9 w9 hown9 hg9 hat9 hlt9)
            | fail)
          go_roundw
          case rel =>
            have hs9 := hg9.size
            simp at hs9
            refine ⟨q + 1, by go_num, by omega, by omega, ?_, ?_, ?_, by omega⟩
            · rw [← rowL_app]; exact hown9
            · refine (hg9.block _ (by have := (unhide hBF).lt; simp; omega) ?_).trans ((unhide hBF).below (Joins.below_alloc1 _ _) (unhide hBF).lt)
              intro e
              have := (unhide Hap FB e.symm).1
              omega
            · exact ((unhide hBW).alloc (unhide hBW).size _).grown hg9 (by have := (unhide hBW).size; simp; omega) (fun kk e => by have := (unhide Hap kk e).1; omega)
          case measure => simp [intOf]; omega
        · go_wp2_with fail
          go_meet
          exact ⟨q, hq1, hq2, hown, hBF, hBW, hFr⟩
      · go_wp2_with fail
        go_meet
        exact ⟨q, hq1, hq2, hown, hBF, hBW, hFr⟩
  case rest =>
    · obtain ⟨q, hq1, hq2, hown, hBF, hBW, hFr⟩ := hcut
      clear HB1 hFW
      have HX := hide (XAt_own (unhide hown))
      obtain ⟨adx, capx, rfl⟩ : ∃ a c, u31 = .slice a q c := by
        rcases (unhide HX).1 with ⟨rfl, rfl⟩ | ⟨g, c, rfl, _⟩
        · exact ⟨_, _, rfl⟩
        · exact ⟨_, _, rfl⟩
      have HXA : Hid (XAt (.slice adx q capx) q) := (unhide HX).1
      have HXI : Hid (InAt wc adx q X) := (unhide HX).2 _ _ rfl
      obtain ⟨c0, c1, c2, c3, c4, c5⟩ : wc.cell? ⟨FB, 0, none⟩ = some (.int .i64 f.bits) ∧ wc.cell? ⟨FB, 1, none⟩ = some (.int .i64 f.b0) ∧ wc.cell? ⟨FB, 2, none⟩ = some (.int .i64 f.b1) ∧ wc.cell? ⟨FB, 3, none⟩ = some (.int .i64 f.b2) ∧ wc.cell? ⟨FB, 4, none⟩ = some (.int .i64 f.a1) ∧ wc.cell? ⟨FB, 5, none⟩ = some (.int .i64 f.a2) :=
        ⟨(unhide hBF).cell 0 rfl, (unhide hBF).cell 1 rfl, (unhide hBF).cell 2 rfl, (unhide hBF).cell 3 rfl, (unhide hBF).cell 4 rfl, (unhide hBF).cell 5 rfl⟩
      have HXb : Hid (∀ j, j < q → -32768 ≤ X j ∧ X j ≤ 32767) := fun j hj => by
        obtain ⟨_, _, _, _, _, g1, g2⟩ := (unhide Hin) j (by omega)
        exact ⟨g1, g2⟩
      clear hown HX Hin
      go_wp2_with fail
      refine (unhide Hr zSt X adx q capx (by omega) _ (unhide HXI)).mono ?_
      rintro e w2 ⟨gY, rfl, hgY, hownY, hb2⟩
      clear c0 c1 c2 c3 c4 c5
      obtain ⟨NST, hNST⟩ : ∃ N, N = w2.heap.size := ⟨_, rfl⟩
      obtain ⟨W3, hW3⟩ : ∃ W, W = w2.alloc (Obj.cells (aS (sN f zSt X q)) 35) := ⟨_, rfl⟩
      have hG3 : GX w FB NST gY adx q X f W3 := by
        rw [hW3, hNST]
        have hbA : Below wc.heap.size wc (w2.alloc (Obj.cells (aS (sN f zSt X q)) 35)) := hb2.alloc hb2.size _
        exact ⟨(unhide hBW).trans (hbA.mono (unhide hBW).size), (unhide hBF).below hbA (unhide hBF).lt, Blk.alloc, Joins.ownsRow_le (hownY.alloc _) hFr, (unhide HXI).below hbA⟩
      have hgF : FB < gY := Nat.lt_of_lt_of_le hFr hgY
      have HG3 := hide hG3
      have hN3 : Hid (W3 = w2.alloc (Obj.cells (aS (sN f zSt X q)) 35) ∧ NST = w2.heap.size) := ⟨hW3, hNST⟩
      clear hG3 hW3 hNST hgY hownY hb2 HXI hBF hBW
      unfold vS
      obtain ⟨mm, hmm⟩ : ∃ mm : Nat, cut % ((q : Int) + 1) = mm := ⟨(cut % ((q : Int) + 1)).toNat, by rw [Int.toNat_of_nonneg (Int.emod_nonneg _ (by omega))]⟩
      have hmq : mm ≤ q := by have := Int.emod_lt_of_pos cut (show (0 : Int) < (q : Int) + 1 by omega); omega
      go_wp2_with fail
      have hE1 := (unhide hN3).1
      have hE2 := (unhide hN3).2
      unfold aS at hE1
      rw [← hE1, ← hE2, hmm]
      clear hE1 hE2 hN3 hmm hcut
      have HRun3 := hide (run_first f zSt X mm (by omega))
      rename_i K hK
      have HK := hide hK
      clear hK
      refine region_slotsA (cutV 162 163 164 165 166 169 170 39 W3 f zSt (sN f zSt X mm) (.slice adx q capx) mm mm X (cN f zSt X mm : Nat)) (rnC 38 167 161 168 37 W3 (sN f zSt X mm) mm (aN f zSt X) (cN f zSt X mm : Nat)) (by kernel_rfl) (by kernel_rfl) (by kernel_rfl) 327 (by kernel_rfl) rfl rnC.start ?_ ?_
      · as_aux_lemma =>
        intro listed a w1 i o hI ho hsz hl hd
        have hi : i < 14 := by simpa using (Array.getElem?_eq_some_iff.1 ho).1
        have hsz' : listed.size = 14 := by simpa using hsz
        have e30 : a.eval (.tmp 30) = .pointer (some ⟨FB, 0, none⟩) := (hI.base 30 (by kernel_rfl)).trans rfl
        have e31 : a.eval (.tmp 31) = .slice adx q capx := (hI.base 31 (by kernel_rfl)).trans rfl
        have e36 : a.eval (.tmp 36) = .int .i64 (mm : Nat) := (hI.base 36 (by kernel_rfl)).trans rfl
        have hc : rnC 38 167 161 168 37 W3 (sN f zSt X mm) mm (aN f zSt X) (cN f zSt X mm : Nat) listed a w1 := hI.world
        rcases (by omega : i = 0 ∨ i = 1 ∨ i = 2 ∨ i = 3 ∨ i = 4 ∨ i = 5 ∨ i = 6 ∨ i = 7 ∨ i = 8 ∨ i = 9 ∨ i = 10 ∨ i = 11 ∨ i = 12 ∨ i = 13) with rfl | rfl | rfl | rfl | rfl | rfl | rfl | rfl | rfl | rfl | rfl | rfl | rfl | rfl
        all_goals obtain rfl := Option.some.inj ho
        · exact okR_load rfl e30 (loadFx _ _ _ _ _ _ _ _ ((unhide HG3).later hc.1.1).bf) ⟨slotR rfl rfl, hc.same 0 (e := 162) rfl (by omega) (by omega)⟩
        · exact okR_zero rfl ⟨slotR rfl rfl, hc.same 1 (e := 163) rfl (by omega) (by omega)⟩
        · exact okR_move rfl e31 ⟨slotR rfl rfl, hc.same 2 (e := 164) rfl (by omega) (by omega)⟩
        · exact okR_move rfl e36 ⟨slotR rfl rfl, hc.same 3 (e := 165) rfl (by omega) (by omega)⟩
        · have k1 := hI.slot 2 _ 164 rfl rfl (hd ⟨2, .data⟩ (by simp) rfl)
          have k2 := hI.slot 3 _ 165 rfl rfl (hd ⟨3, .data⟩ (by simp) rfl)
          exact step_head rfl k1 (unhide HXA) k2 (by omega) (fun ad c e => by cases e; exact (unhide HG3).xs) (fun ad c h => ⟨slotR rfl ⟨ad, c, rfl, h⟩, hc.same 4 (e := 166) rfl (by omega) (by omega)⟩)
        · have k1 := hI.slot 0 _ 162 rfl rfl (hd ⟨0, .data⟩ (by simp) rfl)
          have k2 := hI.slot 1 _ 163 rfl rfl (hd ⟨1, .data⟩ (by simp) rfl)
          obtain ⟨ad, c, k3, hin⟩ := hI.slot 4 _ 166 rfl rfl (hd ⟨4, .data⟩ (by simp) rfl)
          have u6 : listed.getD 6 false = false := by
            cases h6 : listed.getD 6 false with
            | false => rfl
            | true =>
              exfalso
              have := hI.closed 6 _ rfl h6 ⟨5, .data⟩ (by simp) rfl
              rw [unl hl hsz' (by omega)] at this
              cases this
          have u7 : listed.getD 7 false = false := by
            cases h6 : listed.getD 7 false with
            | false => rfl
            | true =>
              exfalso
              have h8 := hI.closed 7 _ rfl h6 ⟨6, .data⟩ (by simp) rfl
              rw [u6] at h8
              cases h8
          have u11 : listed.getD 11 false = false := by
            cases h6 : listed.getD 11 false with
            | false => rfl
            | true =>
              exfalso
              have := hI.closed 11 _ rfl h6 ⟨5, .chain⟩ (by simp) rfl
              rw [unl hl hsz' (by omega)] at this
              cases this
          refine okR_call3 enter_run rfl k1 k2 k3 ((unhide HRun3 ad c w1 (hin.below hc.1.1)).mono ?_)
          rintro e w' ⟨g', rfl, hg', hown', hb'⟩
          exact ⟨_, rfl, slotR rfl trivial, hc.call hI.size (show 167 < 327 by omega) rfl (by omega) ⟨u6, u7, u11⟩ hb' hg' hown'⟩
        · have l5 := hd ⟨5, .data⟩ (by simp) rfl
          exact okR_move rfl rfl ⟨slotR rfl trivial, hc.mv hI.size (show 161 < 327 by omega) rfl (by omega) l5⟩
        · have l6 := hd ⟨6, .data⟩ (by simp) rfl
          have l5 : listed.getD 5 false = true := hI.closed 6 _ rfl l6 ⟨5, .data⟩ (by simp) rfl
          obtain ⟨g', f1, f2, f3, f4, f5, f6, f7⟩ := hc.2 l5
          exact okR_extract rfl (f2 l6) rfl ⟨slotR rfl trivial, hc.ex hI.size (show 168 < 327 by omega) rfl (by omega) l5 f1⟩
        · have l6 := hd ⟨6, .data⟩ (by simp) rfl
          have l5 : listed.getD 5 false = true := hI.closed 6 _ rfl l6 ⟨5, .data⟩ (by simp) rfl
          obtain ⟨g', f1, f2, f3, f4, f5, f6, f7⟩ := hc.2 l5
          exact okR_extract rfl (f2 l6) rfl ⟨slotR rfl rfl, hc.same 8 (e := 169) rfl (by omega) (by omega)⟩
        · have l6 := hd ⟨6, .data⟩ (by simp) rfl
          have l5 : listed.getD 5 false = true := hI.closed 6 _ rfl l6 ⟨5, .data⟩ (by simp) rfl
          obtain ⟨g', f1, f2, f3, f4, f5, f6, f7⟩ := hc.2 l5
          exact okR_extract rfl (f2 l6) rfl ⟨slotR rfl rfl, hc.same 9 (e := 170) rfl (by omega) (by omega)⟩
        · have u12 : listed.getD 12 false = false := by
            cases h6 : listed.getD 12 false with
            | false => rfl
            | true =>
              exfalso
              have := hI.closed 12 _ rfl h6 ⟨10, .phase⟩ (by simp) rfl
              rw [unl hl hsz' (by omega)] at this
              cases this
          exact okR_allocSt rfl ⟨slotR rfl trivial, hc.alloc hI.size (show 38 < 327 by omega) rfl (by omega) u12⟩
        · have l7 := hd ⟨7, .data⟩ (by simp) rfl
          have l6 : listed.getD 6 false = true := hI.closed 7 _ rfl l7 ⟨6, .data⟩ (by simp) rfl
          have l5 : listed.getD 5 false = true := hI.closed 6 _ rfl l6 ⟨5, .data⟩ (by simp) rfl
          exact okR_assign rfl rfl ⟨slotR rfl trivial, hc.asg hI.size (show 37 < 327 by omega) rfl (by omega) l5 l7⟩
        · have k1 := hI.slot 8 _ 169 rfl rfl (hd ⟨8, .data⟩ (by simp) rfl)
          have l10 := hd ⟨10, .data⟩ (by simp) rfl
          obtain ⟨N, n1, n2, n3⟩ := hc.1.2 l10
          refine okR_store rfl n1 k1 (run_storeAt_mid w1 N 0 35 (aS ((sN f zSt X mm))) n3.there infoSt (by simp [aS, Value.oneCell'])) ⟨slotN rfl, hc.store rfl l10 n1 (by omega)⟩
        · have k1 := hI.slot 9 _ 170 rfl rfl (hd ⟨9, .data⟩ (by simp) rfl)
          exact okR_assign rfl k1 ⟨slotR rfl rfl, hc.same 13 (e := 39) rfl (by omega) (by omega)⟩
      · intro listed a' w4 hI hall
        have hc : rnC 38 167 161 168 37 W3 (sN f zSt X mm) mm (aN f zSt X) (cN f zSt X mm : Nat) listed a' w4 := hI.world
        obtain ⟨⟨hbw4, hN⟩, hR⟩ := hc
        obtain ⟨NM, n1, n2, n3w4⟩ := hN (hall 10 (by decide))
        rw [hall 12 (by decide), if_pos rfl] at n3w4
        obtain ⟨gP, _, _, _, p4, p5, p6w4, p7⟩ := hR (hall 5 (by decide))
        have p4' := p4 (hall 11 (by decide))
        have p13 : a'.eval (.tmp 39) = .int .i64 (cN f zSt X mm : Nat) := hI.slot 13 _ 39 rfl rfl (hall 13 (by decide))
        have E := hI.frame [37, 38, 39, 161, 162, 163, 164, 165, 166, 167, 168, 169, 170] (by kernel_rfl)
        simp only [putAll] at E
        generalize a'.eval (.tmp 161) = y161 at E
        generalize a'.eval (.tmp 162) = y162 at E
        generalize a'.eval (.tmp 163) = y163 at E
        generalize a'.eval (.tmp 164) = y164 at E
        generalize a'.eval (.tmp 165) = y165 at E
        generalize a'.eval (.tmp 166) = y166 at E
        generalize a'.eval (.tmp 167) = y167 at E
        generalize a'.eval (.tmp 168) = y168 at E
        generalize a'.eval (.tmp 169) = y169 at E
        generalize a'.eval (.tmp 170) = y170 at E
        rw [n1, p4', p13] at E
        clear hI hall n1 p4 p4' p13 p7 hN hR n2 p5
        simp only [Act.put, List.setIfInBounds_toArray, List.set_cons_zero, List.set_cons_succ] at E
        subst E
        refine unhide HK _ _ ?_
        clear HK
        have HG4 := hide ((unhide HG3).later hbw4)
        have HM := hide n3w4
        have HPr := hide p6w4
        have hgP : FB < gP := by have := ((unhide HPr).lt gP rfl).1; have := (unhide HG3).bf.lt; omega
        obtain ⟨c2, hc2⟩ : ∃ c2, c2 = cN f (sN f zSt X mm) (fun j => X (mm + j)) (q - mm) := ⟨_, rfl⟩
        have Hcc : Hid (cN f zSt X mm + c2 = cN f zSt X q) := by
          show cN f zSt X mm + c2 = cN f zSt X q
          rw [hc2, cN_cut, show mm + (q - mm) = q by omega]
        have HRun4 := hide (run_second f zSt X mm q c2 (by omega) hmq hc2)
        clear hbw4 n3w4 p6w4 HG3 hc2 HRun3
        go_wp2_with fail
        rename_i K hK
        have HK := hide hK
        clear hK
        refine region_slotsA (cutV 172 173 174 175 176 179 180 42 w4 f (sN f zSt X mm) (sN f zSt X q) (.slice adx q capx) mm (q - mm) (fun j => X (mm + j)) (c2 : Nat)) (rnC 41 177 171 178 40 w4 (sN f zSt X q) (q - mm) (fun j => aN f zSt X (mm + j)) (c2 : Nat)) (by kernel_rfl) (by kernel_rfl) (by kernel_rfl) 327 (by kernel_rfl) rfl rnC.start ?_ ?_
        · as_aux_lemma =>
          intro listed a w1 i o hI ho hsz hl hd
          have hi : i < 14 := by simpa using (Array.getElem?_eq_some_iff.1 ho).1
          have hsz' : listed.size = 14 := by simpa using hsz
          have e30 : a.eval (.tmp 30) = .pointer (some ⟨FB, 0, none⟩) := (hI.base 30 (by kernel_rfl)).trans rfl
          have e31 : a.eval (.tmp 31) = .slice adx q capx := (hI.base 31 (by kernel_rfl)).trans rfl
          have e36 : a.eval (.tmp 36) = .int .i64 (mm : Nat) := (hI.base 36 (by kernel_rfl)).trans rfl
          have e38 : a.eval (.tmp 38) = .pointer (some ⟨NM, 0, none⟩) := (hI.base 38 (by kernel_rfl)).trans rfl
          have hc : rnC 41 177 171 178 40 w4 (sN f zSt X q) (q - mm) (fun j => aN f zSt X (mm + j)) (c2 : Nat) listed a w1 := hI.world
          rcases (by omega : i = 0 ∨ i = 1 ∨ i = 2 ∨ i = 3 ∨ i = 4 ∨ i = 5 ∨ i = 6 ∨ i = 7 ∨ i = 8 ∨ i = 9 ∨ i = 10 ∨ i = 11 ∨ i = 12 ∨ i = 13) with rfl | rfl | rfl | rfl | rfl | rfl | rfl | rfl | rfl | rfl | rfl | rfl | rfl | rfl
          all_goals obtain rfl := Option.some.inj ho
          · exact okR_load rfl e30 (loadFx _ _ _ _ _ _ _ _ ((unhide HG4).later hc.1.1).bf) ⟨slotR rfl rfl, hc.same 0 (e := 172) rfl (by omega) (by omega)⟩
          · exact okR_load rfl e38 (loadSt _ _ _ _ _ _ ((unhide HM).below hc.1.1 (unhide HM).lt)) ⟨slotR rfl rfl, hc.same 1 (e := 173) rfl (by omega) (by omega)⟩
          · exact okR_move rfl e31 ⟨slotR rfl rfl, hc.same 2 (e := 174) rfl (by omega) (by omega)⟩
          · exact okR_move rfl e36 ⟨slotR rfl rfl, hc.same 3 (e := 175) rfl (by omega) (by omega)⟩
          · have k1 := hI.slot 2 _ 174 rfl rfl (hd ⟨2, .data⟩ (by simp) rfl)
            have k2 := hI.slot 3 _ 175 rfl rfl (hd ⟨3, .data⟩ (by simp) rfl)
            exact step_cut rfl k1 (unhide HXA) k2 (by omega) (fun ad c e => by cases e; exact (unhide HG4).xs) (fun ad c h => ⟨slotR rfl ⟨ad, c, rfl, h⟩, hc.same 4 (e := 176) rfl (by omega) (by omega)⟩)
          · have k1 := hI.slot 0 _ 172 rfl rfl (hd ⟨0, .data⟩ (by simp) rfl)
            have k2 := hI.slot 1 _ 173 rfl rfl (hd ⟨1, .data⟩ (by simp) rfl)
            obtain ⟨ad, c, k3, hin⟩ := hI.slot 4 _ 176 rfl rfl (hd ⟨4, .data⟩ (by simp) rfl)
            have u6 : listed.getD 6 false = false := by
              cases h6 : listed.getD 6 false with
              | false => rfl
              | true =>
                exfalso
                have := hI.closed 6 _ rfl h6 ⟨5, .data⟩ (by simp) rfl
                rw [unl hl hsz' (by omega)] at this
                cases this
            have u7 : listed.getD 7 false = false := by
              cases h6 : listed.getD 7 false with
              | false => rfl
              | true =>
                exfalso
                have h8 := hI.closed 7 _ rfl h6 ⟨6, .data⟩ (by simp) rfl
                rw [u6] at h8
                cases h8
            have u11 : listed.getD 11 false = false := by
              cases h6 : listed.getD 11 false with
              | false => rfl
              | true =>
                exfalso
                have := hI.closed 11 _ rfl h6 ⟨5, .chain⟩ (by simp) rfl
                rw [unl hl hsz' (by omega)] at this
                cases this
            refine okR_call3 enter_run rfl k1 k2 k3 ((unhide HRun4 ad c w1 (hin.below hc.1.1)).mono ?_)
            rintro e w' ⟨g', rfl, hg', hown', hb'⟩
            exact ⟨_, rfl, slotR rfl trivial, hc.call hI.size (show 177 < 327 by omega) rfl (by omega) ⟨u6, u7, u11⟩ hb' hg' hown'⟩
          · have l5 := hd ⟨5, .data⟩ (by simp) rfl
            exact okR_move rfl rfl ⟨slotR rfl trivial, hc.mv hI.size (show 171 < 327 by omega) rfl (by omega) l5⟩
          · have l6 := hd ⟨6, .data⟩ (by simp) rfl
            have l5 : listed.getD 5 false = true := hI.closed 6 _ rfl l6 ⟨5, .data⟩ (by simp) rfl
            obtain ⟨g', f1, f2, f3, f4, f5, f6, f7⟩ := hc.2 l5
            exact okR_extract rfl (f2 l6) rfl ⟨slotR rfl trivial, hc.ex hI.size (show 178 < 327 by omega) rfl (by omega) l5 f1⟩
          · have l6 := hd ⟨6, .data⟩ (by simp) rfl
            have l5 : listed.getD 5 false = true := hI.closed 6 _ rfl l6 ⟨5, .data⟩ (by simp) rfl
            obtain ⟨g', f1, f2, f3, f4, f5, f6, f7⟩ := hc.2 l5
            exact okR_extract rfl (f2 l6) rfl ⟨slotR rfl rfl, hc.same 8 (e := 179) rfl (by omega) (by omega)⟩
          · have l6 := hd ⟨6, .data⟩ (by simp) rfl
            have l5 : listed.getD 5 false = true := hI.closed 6 _ rfl l6 ⟨5, .data⟩ (by simp) rfl
            obtain ⟨g', f1, f2, f3, f4, f5, f6, f7⟩ := hc.2 l5
            exact okR_extract rfl (f2 l6) rfl ⟨slotR rfl rfl, hc.same 9 (e := 180) rfl (by omega) (by omega)⟩
          · have u12 : listed.getD 12 false = false := by
              cases h6 : listed.getD 12 false with
              | false => rfl
              | true =>
                exfalso
                have := hI.closed 12 _ rfl h6 ⟨10, .phase⟩ (by simp) rfl
                rw [unl hl hsz' (by omega)] at this
                cases this
            exact okR_allocSt rfl ⟨slotR rfl trivial, hc.alloc hI.size (show 41 < 327 by omega) rfl (by omega) u12⟩
          · have l7 := hd ⟨7, .data⟩ (by simp) rfl
            have l6 : listed.getD 6 false = true := hI.closed 7 _ rfl l7 ⟨6, .data⟩ (by simp) rfl
            have l5 : listed.getD 5 false = true := hI.closed 6 _ rfl l6 ⟨5, .data⟩ (by simp) rfl
            exact okR_assign rfl rfl ⟨slotR rfl trivial, hc.asg hI.size (show 40 < 327 by omega) rfl (by omega) l5 l7⟩
          · have k1 := hI.slot 8 _ 179 rfl rfl (hd ⟨8, .data⟩ (by simp) rfl)
            have l10 := hd ⟨10, .data⟩ (by simp) rfl
            obtain ⟨N, n1, n2, n3⟩ := hc.1.2 l10
            refine okR_store rfl n1 k1 (run_storeAt_mid w1 N 0 35 (aS ((sN f zSt X q))) n3.there infoSt (by simp [aS, Value.oneCell'])) ⟨slotN rfl, hc.store rfl l10 n1 (by omega)⟩
          · have k1 := hI.slot 9 _ 180 rfl rfl (hd ⟨9, .data⟩ (by simp) rfl)
            exact okR_assign rfl k1 ⟨slotR rfl rfl, hc.same 13 (e := 42) rfl (by omega) (by omega)⟩
        · intro listed a' w6 hI hall
          have hc : rnC 41 177 171 178 40 w4 (sN f zSt X q) (q - mm) (fun j => aN f zSt X (mm + j)) (c2 : Nat) listed a' w6 := hI.world
          obtain ⟨⟨hbw6, hN⟩, hR⟩ := hc
          obtain ⟨NE, n1, n2, n3w6⟩ := hN (hall 10 (by decide))
          rw [hall 12 (by decide), if_pos rfl] at n3w6
          obtain ⟨gQ, _, _, _, p4, p5, p6w6, p7⟩ := hR (hall 5 (by decide))
          have p4' := p4 (hall 11 (by decide))
          have p13 : a'.eval (.tmp 42) = .int .i64 (c2 : Nat) := hI.slot 13 _ 42 rfl rfl (hall 13 (by decide))
          have E := hI.frame [40, 41, 42, 171, 172, 173, 174, 175, 176, 177, 178, 179, 180] (by kernel_rfl)
          simp only [putAll] at E
          generalize a'.eval (.tmp 171) = y171 at E
          generalize a'.eval (.tmp 172) = y172 at E
          generalize a'.eval (.tmp 173) = y173 at E
          generalize a'.eval (.tmp 174) = y174 at E
          generalize a'.eval (.tmp 175) = y175 at E
          generalize a'.eval (.tmp 176) = y176 at E
          generalize a'.eval (.tmp 177) = y177 at E
          generalize a'.eval (.tmp 178) = y178 at E
          generalize a'.eval (.tmp 179) = y179 at E
          generalize a'.eval (.tmp 180) = y180 at E
          rw [n1, p4', p13] at E
          clear hI hall n1 p4 p4' p13 p7 hN hR n2 p5
          simp only [Act.put, List.setIfInBounds_toArray, List.set_cons_zero, List.set_cons_succ] at E
          subst E
          refine unhide HK _ _ ?_
          clear HK
          have HG6 := hide ((unhide HG4).later hbw6)
          have HP6 := hide ((unhide HPr).kept (below_grownBy hbw6) (.inr (by simp [Value.ownBlock])))
          have HQ6 := hide p6w6
          have v0 : w6.cell? ⟨NE, 0, none⟩ = some (.int .i64 (sN f zSt X q).x1) := n3w6.cell 0 rfl
          have v1 : w6.cell? ⟨NE, 1, none⟩ = some (.int .i64 (sN f zSt X q).x2) := n3w6.cell 1 rfl
          have v2 : w6.cell? ⟨NE, 2, none⟩ = some (.int .i64 (sN f zSt X q).y1) := n3w6.cell 2 rfl
          have v3 : w6.cell? ⟨NE, 3, none⟩ = some (.int .i64 (sN f zSt X q).y2) := n3w6.cell 3 rfl
          have t0 : w6.cell? ⟨NST, 0, none⟩ = some (.int .i64 (sN f zSt X q).x1) := (unhide HG6).st.cell 0 rfl
          have t1 : w6.cell? ⟨NST, 1, none⟩ = some (.int .i64 (sN f zSt X q).x2) := (unhide HG6).st.cell 1 rfl
          have t2 : w6.cell? ⟨NST, 2, none⟩ = some (.int .i64 (sN f zSt X q).y1) := (unhide HG6).st.cell 2 rfl
          have t3 : w6.cell? ⟨NST, 3, none⟩ = some (.int .i64 (sN f zSt X q).y2) := (unhide HG6).st.cell 3 rfl
          have hcq := cN_le f zSt X q
          have hcs := unhide Hcc
          obtain ⟨n1, hn1⟩ : ∃ n1, cN f zSt X mm = n1 := ⟨_, rfl⟩
          obtain ⟨n3, hn3⟩ : ∃ n3, cN f zSt X q = n3 := ⟨_, rfl⟩
          rw [hn1, hn3] at hcs
          rw [hn3] at hcq
          rw [hn1, hn3]
          have hsum : (n1 : Int) + (c2 : Int) = (n3 : Int) := by omega
          have hqm : ((q - mm : Nat) : Int) = (q : Int) - (mm : Int) := by omega
          clear hbw6 n3w6 p6w6 HG4 HPr HM HRun4 Hcc hn1 hn3 hcs
          go_wp2_with fail
          obtain ⟨NW, hNW⟩ : ∃ N, N = w6.heap.size := ⟨_, rfl⟩
          obtain ⟨W7, hW7⟩ : ∃ W, W = w6.alloc (Obj.cells #[.int .i64 0, .int .i64 0, .int .i64 0, .int .i64 0] 35) := ⟨_, rfl⟩
          rw [← hW7, ← hNW]
          have HW7 : Hid (Blk W7 NW (aS zSt) 35) := by rw [hW7, hNW]; exact Blk.alloc
          have HG7 : Hid (GX w FB NST gY adx q X f W7) := by rw [hW7]; exact (unhide HG6).later (Joins.below_alloc1 _ _)
          have HP7 : Hid (W7.ownsRow W3.heap.size 2 1 (.slice (some ⟨gP, 0, none⟩) mm mm) mm (rowL (aN f zSt X) mm mm)) := by rw [hW7]; exact (unhide HP6).alloc _
          have HQ7 : Hid (W7.ownsRow w4.heap.size 2 1 (.slice (some ⟨gQ, 0, none⟩) (q - mm) (q - mm)) (q - mm) (rowL (fun j => aN f zSt X (mm + j)) (q - mm) (q - mm))) := by rw [hW7]; exact (unhide HQ6).alloc _
          have hNWg : gY < NW ∧ gP < NW ∧ gQ < NW ∧ NST < NW ∧ FB < NW ∧ w.heap.size ≤ NW := by
            rw [hNW]
            exact ⟨((unhide HG6).y.lt gY rfl).2, ((unhide HP6).lt gP rfl).2, ((unhide HQ6).lt gQ rfl).2, (unhide HG6).st.lt, (unhide HG6).bf.lt, (unhide HG6).low.size⟩
          have HXW : Hid (∀ j, j < q → ∃ b off, adx = some ⟨b, off, none⟩ ∧ b < NW ∧ W7.cell? ⟨b, off + j, none⟩ = some (.int .i64 (X j))) := fun j hj => by
            obtain ⟨b, off, e, h1, _⟩ := (unhide HG6).xs j hj
            obtain ⟨b', off', e', _, h2⟩ := (unhide HG7).xs j hj
            rw [e] at e'
            simp only [Option.some.injEq, Addr.mk.injEq, and_true] at e'
            obtain ⟨rfl, rfl⟩ := e'
            exact ⟨b, off, e, by rw [hNW]; exact h1, h2⟩
          clear hW7 hNW HG6 HP6 HQ6 v0 v1 v2 v3 t0 t1 t2 t3
          clear Hr hx hbits hk1 Hk HXA i0 hi0 hz0 hz1 hz2
          go_loopw [44] (fun t wr => ∃ i : Nat, t = .int .i64 i ∧ i ≤ q ∧ Hid (Blk wr NW (aS (sN f zSt X i)) 35) ∧ Hid (W7.grownBy wr (some NW))) (fun t _ => q - (intOf t).toNat)
          case atStart => exact ⟨0, rfl, Nat.zero_le _, HW7, ⟨rfl, rfl, rfl, Nat.le_refl _, fun _ _ _ => rfl⟩⟩
          case round => as_aux_lemma =>
            obtain ⟨i, rfl, hi, hB, hgr⟩ := hrel
            clear HW7
            by_cases hiq : (i : Int) < (q : Int)
            · have hy : wr.cell? ⟨gY, i, none⟩ = some (.int .i64 (aN f zSt X i)) := (unhide hgr).cell (by rw [(unhide HG7).y.cellAt i (by omega), rowL_at _ _ _ _ (by omega), if_pos (by omega)]) (by intro e; have := Option.some.inj e; simp only at this; omega)
              obtain ⟨bx, offx, rfl, hbx, hcx⟩ := unhide HXW i (by omega)
              have hx : wr.cell? ⟨bx, offx + i, none⟩ = some (.int .i64 (X i)) := (unhide hgr).cell hcx (by intro e; have := Option.some.inj e; simp only at this; omega)
              have f1 : wr.cell? ⟨FB, 1, none⟩ = some (.int .i64 f.b0) := (unhide hgr).cell ((unhide HG7).bf.cell 1 rfl) (by intro e; have := Option.some.inj e; simp only at this; omega)
              have f2 : wr.cell? ⟨FB, 2, none⟩ = some (.int .i64 f.b1) := (unhide hgr).cell ((unhide HG7).bf.cell 2 rfl) (by intro e; have := Option.some.inj e; simp only at this; omega)
              have f3 : wr.cell? ⟨FB, 3, none⟩ = some (.int .i64 f.b2) := (unhide hgr).cell ((unhide HG7).bf.cell 3 rfl) (by intro e; have := Option.some.inj e; simp only at this; omega)
              have f4 : wr.cell? ⟨FB, 4, none⟩ = some (.int .i64 f.a1) := (unhide hgr).cell ((unhide HG7).bf.cell 4 rfl) (by intro e; have := Option.some.inj e; simp only at this; omega)
              have f5 : wr.cell? ⟨FB, 5, none⟩ = some (.int .i64 f.a2) := (unhide hgr).cell ((unhide HG7).bf.cell 5 rfl) (by intro e; have := Option.some.inj e; simp only at this; omega)
              have g0 : wr.cell? ⟨NW, 0, none⟩ = some (.int .i64 (sN f zSt X i).x1) := (unhide hB).cell 0 rfl
              have g1 : wr.cell? ⟨NW, 1, none⟩ = some (.int .i64 (sN f zSt X i).x2) := (unhide hB).cell 1 rfl
              have g2 : wr.cell? ⟨NW, 2, none⟩ = some (.int .i64 (sN f zSt X i).y1) := (unhide hB).cell 2 rfl
              have g3 : wr.cell? ⟨NW, 3, none⟩ = some (.int .i64 (sN f zSt X i).y2) := (unhide hB).cell 3 rfl
              clear hcx
              obtain ⟨S, hS⟩ : ∃ S, tot f (sN f zSt X i) (X i) = S := ⟨_, rfl⟩
              have hXi : i32 (X i) := by have := unhide HXb i (by omega); unfold i32; omega
              have H5 := hide (five (unhide HFB) (sN_low f X i) hXi)
              rw [hS] at H5
              have hA : kp (rnd S 8) = aN f zSt X i := by unfold aN; rw [ans8 (unhide HFB), hS]
              have HSt : Hid (sN f zSt X (i + 1) = ⟨X i, (sN f zSt X i).x1, aN f zSt X i, (sN f zSt X i).y1⟩) := nxt8 (unhide HFB) (sN_low f X i) hXi
              have HA := hide hA
              clear hA hS hXi
              go_upto_region 25 with fail
              go_cut [251] (fun v wx => v = .bool false ∧ ∃ n, wx = wr.drewN n)
              case first => as_aux_lemma =>
                by_cases him : (i : Int) < (mm : Int)
                · have hp : wr.cell? ⟨gP, i, none⟩ = some (.int .i64 (aN f zSt X i)) := (unhide hgr).cell (by rw [(unhide HP7).cellAt i (by omega), rowL_at _ _ _ _ (by omega), if_pos (by omega)]) (by intro e; have := Option.some.inj e; simp only at this; omega)
                  have him6 : decide (mm ≤ i) = false := decide_eq_false (by omega)
                  go_quiet (fail)
                  go_wp2_with fail
                  go_meet
                  exact ⟨rfl, _, rfl⟩
                · have hq : wr.cell? ⟨gQ, i - mm, none⟩ = some (.int .i64 (aN f zSt X i)) := (unhide hgr).cell (by rw [(unhide HQ7).cellAt (i - mm) (by omega), rowL_at _ _ _ _ (by omega), if_pos (by omega), show mm + (i - mm) = i by omega]) (by intro e; have := Option.some.inj e; simp only at this; omega)
                  have him6 : decide (mm ≤ i) = true := decide_eq_true (by omega)
                  have him7 : (i : Int) - (mm : Int) = ((i - mm : Nat) : Int) := by omega
                  have him8 : ((i - mm : Nat) : Int) < ((q - mm : Nat) : Int) := by omega
                  go_quiet (fail)
                  go_wp2_with fail
                  go_meet
                  exact ⟨rfl, _, rfl⟩
              case rest =>
                obtain ⟨rfl, e1, rfl⟩ := hcut
                go_upto_region 27 with fail
                go_cut [45] (fun v wx => v = .int .i64 S ∧ ∃ n, wx = (wr.drewN e1).drewN n)
                case first => as_aux_lemma =>
                  go_quiet (fail)
                  go_wp2_with fail
                  go_meet
                  exact ⟨congrArg _ (unhide H5).spelt, _, rfl⟩
                case rest =>
                  obtain ⟨rfl, e2, rfl⟩ := hcut
                  have hSb := (unhide H5).bound
                  obtain ⟨Y, hY⟩ : ∃ Y, S / 256 = Y := ⟨_, rfl⟩
                  obtain ⟨R, hRR⟩ : ∃ R, S % 256 = R := ⟨_, rfl⟩
                  have hR : Go.bits .and .i64 S 255 = R := (i64_and255 S).trans hRR
                  have hP : Go.bits .and .i64 Y 1 = Y % 2 := i64_and1 _
                  have hYb : -30000000000 ≤ Y ∧ Y ≤ 30000000000 := by omega
                  have HUp : Hid (up8 S = decide (128 < R ∨ (R = 128 ∧ Y % 2 = 1))) := by show up8 S = _; unfold up8; rw [hRR, hY]
                  have HRd : Hid ((up8 S = true → Y + 1 = rnd S 8) ∧ (up8 S = false → Y = rnd S 8)) := by
                    show _ ∧ _
                    rw [← hY]
                    refine ⟨fun h => (rnd8_up (of_decide_eq_true h)).symm, fun h => (rnd8_stay ?_).symm⟩
                    have := of_decide_eq_false h
                    omega
                  clear hRR hSb
                  go_upto_region 30 with fail
                  go_cut [297] (fun v wx => v = .bool (up8 S) ∧ wx = wr.drewN (e1 + e2))
                  case first => as_aux_lemma =>
                    cases c1 : decide (128 < R) with
                    | true =>
                      have hu : up8 S = true := by rw [unhide HUp]; exact decide_eq_true (.inl (of_decide_eq_true c1))
                      go_wp2_with fail
                      go_meet
                      exact ⟨congrArg _ hu.symm, rfl⟩
                    | false =>
                      have d1 := of_decide_eq_false c1
                      have D1 := hide d1
                      clear d1
                      cases c2 : (R == 128) with
                      | false =>
                        have d2 : R ≠ 128 := by simpa using c2
                        have hu : up8 S = false := by rw [unhide HUp]; have := unhide D1; exact decide_eq_false (by omega)
                        clear d2
                        go_wp2_with fail
                        go_meet
                        exact ⟨congrArg _ hu.symm, rfl⟩
                      | true =>
                        have d2 : R = 128 := by simpa using c2
                        cases c3 : (Y % 2 == 1) with
                        | false =>
                          have d3 : Y % 2 ≠ 1 := by simpa using c3
                          have hu : up8 S = false := by rw [unhide HUp]; have := unhide D1; exact decide_eq_false (by omega)
                          clear d2 d3
                          go_wp2_with fail
                          go_meet
                          exact ⟨congrArg _ hu.symm, rfl⟩
                        | true =>
                          have d3 : Y % 2 = 1 := by simpa using c3
                          have hu : up8 S = true := by rw [unhide HUp]; exact decide_eq_true (.inr ⟨d2, d3⟩)
                          clear d2 d3
                          go_wp2_with fail
                          go_meet
                          exact ⟨congrArg _ hu.symm, rfl⟩
                  case rest =>
                    obtain ⟨rfl, rfl⟩ := hcut
                    clear hR hP HUp
                    go_upto_if 297 with fail
                    go_cut [46] (fun v wx => v = .int .i64 (rnd S 8) ∧ wx = wr.drewN (e1 + e2))
                    case first => as_aux_lemma =>
                      cases hu : up8 S with
                      | true =>
                        have hw : wrap64 (Y + 1) = Y + 1 := by unfold wrap64; omega
                        go_wp2_with fail
                        go_meet
                        exact ⟨congrArg _ ((unhide HRd).1 hu), rfl⟩
                      | false =>
                        go_wp2_with fail
                        go_meet
                        exact ⟨congrArg _ ((unhide HRd).2 hu), rfl⟩
                    case rest =>
                      obtain ⟨rfl, rfl⟩ := hcut
                      obtain ⟨T, hT⟩ : ∃ T, rnd S 8 = T := ⟨_, rfl⟩
                      rw [hT] at HA
                      rw [hT]
                      clear HRd hT hY hYb H5
                      go_upto_region 32 with fail
                      go_cut [46] (fun v wx => v = .int .i64 (aN f zSt X i) ∧ wx = wr.drewN (e1 + e2))
                      case first => as_aux_lemma =>
                        by_cases k1 : T < -2147483648
                        · have hk : -2147483648 = aN f zSt X i := by rw [← unhide HA]; unfold kp; omega
                          have HK := hide hk
                          clear hk
                          go_wp2_with fail
                          go_meet
                          exact ⟨congrArg _ (unhide HK), rfl⟩
                        · by_cases k2 : 2147483647 < T
                          · have hk : 2147483647 = aN f zSt X i := by rw [← unhide HA]; unfold kp; omega
                            have HK := hide hk
                            clear hk
                            go_wp2_with fail
                            go_meet
                            exact ⟨congrArg _ (unhide HK), rfl⟩
                          · have hk : T = aN f zSt X i := by rw [← unhide HA]; unfold kp; omega
                            have HK := hide hk
                            clear hk
                            go_wp2_with fail
                            go_meet
                            exact ⟨congrArg _ (unhide HK), rfl⟩
                      case rest =>
                        obtain ⟨rfl, rfl⟩ := hcut
                        clear HA
                        go_upto_region 35 with fail
                        refine region_slots (v35 bx offx q capx i NW (X i) (aN f zSt X i) (sN f zSt X i) (sN f zSt X (i + 1))) (c35 (wr.drewN (e1 + e2)) NW (sN f zSt X (i + 1))) (by kernel_rfl) (by kernel_rfl) (by kernel_rfl) 327 (by kernel_rfl) rfl c35.start ?_ ?_
                        · as_aux_lemma =>
                          intro listed a w1 j o hI ho hsz hl hd
                          have hj : j < 11 := by simpa using (Array.getElem?_eq_some_iff.1 ho).1
                          have hsz' : listed.size = 11 := by simpa using hsz
                          have e31 : a.eval (.tmp 31) = .slice (some ⟨bx, offx, none⟩) q capx := (hI.base 31 (by kernel_rfl)).trans rfl
                          have e43 : a.eval (.tmp 43) = .pointer (some ⟨NW, 0, none⟩) := (hI.base 43 (by kernel_rfl)).trans rfl
                          have e44 : a.eval (.tmp 44) = .int .i64 (i : Nat) := (hI.base 44 (by kernel_rfl)).trans rfl
                          have e46 : a.eval (.tmp 46) = .int .i64 (aN f zSt X i) := (hI.base 46 (by kernel_rfl)).trans rfl
                          have hc : c35 (wr.drewN (e1 + e2)) NW (sN f zSt X (i + 1)) listed w1 := hI.world
                          rcases (by omega : j = 0 ∨ j = 1 ∨ j = 2 ∨ j = 3 ∨ j = 4 ∨ j = 5 ∨ j = 6 ∨ j = 7 ∨ j = 8 ∨ j = 9 ∨ j = 10) with rfl | rfl | rfl | rfl | rfl | rfl | rfl | rfl | rfl | rfl | rfl
                          all_goals obtain rfl := Option.some.inj ho
                          · exact okR_move rfl e31 ⟨slotR rfl rfl, hc.same 0 (by decide)⟩
                          · exact okR_move rfl e44 ⟨slotR rfl rfl, hc.same 1 (by decide)⟩
                          · have k1 := hI.slot 0 _ 309 rfl rfl (hd ⟨0, .data⟩ (by simp) rfl)
                            have k2 := hI.slot 1 _ 310 rfl rfl (hd ⟨1, .data⟩ (by simp) rfl)
                            exact okR_idx rfl k1 k2 (by omega) ⟨slotR rfl rfl, hc.same 2 (by decide)⟩
                          · have l10 : listed.getD 10 false = false := by
                              cases h6 : listed.getD 10 false with
                              | false => rfl
                              | true =>
                                exfalso
                                have h9 := hI.closed 10 _ rfl h6 ⟨9, .data⟩ (by simp) rfl
                                have h3 := hI.closed 9 _ rfl h9 ⟨3, .data⟩ (by simp) rfl
                                rw [unl hl hsz' (by omega)] at h3
                                cases h3
                            obtain rfl := hc.pre l10
                            have k1 := hI.slot 2 _ 311 rfl rfl (hd ⟨2, .data⟩ (by simp) rfl)
                            exact okR_load rfl k1 (loadI _ _ _ hx) ⟨slotR rfl rfl, hc.same 3 (by decide)⟩
                          · exact okR_field rfl e43 (fieldSt NW 0 (by decide) _) ⟨slotR rfl rfl, hc.same 4 (by decide)⟩
                          · have l10 : listed.getD 10 false = false := by
                              cases h6 : listed.getD 10 false with
                              | false => rfl
                              | true =>
                                exfalso
                                have h9 := hI.closed 10 _ rfl h6 ⟨9, .data⟩ (by simp) rfl
                                have h3 := hI.closed 9 _ rfl h9 ⟨5, .data⟩ (by simp) rfl
                                rw [unl hl hsz' (by omega)] at h3
                                cases h3
                            obtain rfl := hc.pre l10
                            have k1 := hI.slot 4 _ 313 rfl rfl (hd ⟨4, .data⟩ (by simp) rfl)
                            exact okR_load rfl k1 (loadI _ _ _ g0) ⟨slotR rfl rfl, hc.same 5 (by decide)⟩
                          · exact okR_move rfl e46 ⟨slotR rfl rfl, hc.same 6 (by decide)⟩
                          · exact okR_field rfl e43 (fieldSt NW 2 (by decide) _) ⟨slotR rfl rfl, hc.same 7 (by decide)⟩
                          · have l10 : listed.getD 10 false = false := by
                              cases h6 : listed.getD 10 false with
                              | false => rfl
                              | true =>
                                exfalso
                                have h9 := hI.closed 10 _ rfl h6 ⟨9, .data⟩ (by simp) rfl
                                have h3 := hI.closed 9 _ rfl h9 ⟨8, .data⟩ (by simp) rfl
                                rw [unl hl hsz' (by omega)] at h3
                                cases h3
                            obtain rfl := hc.pre l10
                            have k1 := hI.slot 7 _ 316 rfl rfl (hd ⟨7, .data⟩ (by simp) rfl)
                            exact okR_load rfl k1 (loadI _ _ _ g2) ⟨slotR rfl rfl, hc.same 8 (by decide)⟩
                          · have k1 := hI.slot 3 _ 312 rfl rfl (hd ⟨3, .data⟩ (by simp) rfl)
                            have k2 := hI.slot 5 _ 314 rfl rfl (hd ⟨5, .data⟩ (by simp) rfl)
                            have k3 := hI.slot 6 _ 315 rfl rfl (hd ⟨6, .data⟩ (by simp) rfl)
                            have k4 := hI.slot 8 _ 317 rfl rfl (hd ⟨8, .data⟩ (by simp) rfl)
                            exact okR_st4 (s := sN f zSt X (i + 1)) rfl (by rw [unhide HSt]; exact k1) (by rw [unhide HSt]; exact k2) (by rw [unhide HSt]; exact k3) (by rw [unhide HSt]; exact k4) ⟨slotR rfl rfl, hc.same 9 (by decide)⟩
                          · have l10 := unl hl hsz' (by omega)
                            obtain rfl := hc.pre l10
                            have k9 := hI.slot 9 _ 318 rfl rfl (hd ⟨9, .data⟩ (by simp) rfl)
                            exact okR_store rfl e43 k9 (run_storeAt_mid _ NW 0 35 (aS (sN f zSt X (i + 1))) (unhide hB).there infoSt (by simp [aS, Value.oneCell'])) ⟨slotN rfl, hc.store l10 (by omega)⟩
                        · as_aux_lemma =>
                          intro listed a' w9 hI hall
                          have hw9 : w9 = (wr.drewN (e1 + e2)).drew.setCells NW 0 (aS (sN f zSt X (i + 1))).toList := by
                            have h := hI.world
                            unfold c35 at h
                            rw [hall 10 (by decide)] at h
                            exact h
                          have HB9 : Hid (Blk w9 NW (aS (sN f zSt X (i + 1))) 35) := by
                            rw [hw9]
                            exact Blk.all (w := (wr.drewN (e1 + e2)).drew) (cs := aS (sN f zSt X i)) (unhide hB) rfl
                          have HG9 : Hid (W7.grownBy w9 (some NW)) := by
                            rw [hw9]
                            have hg := unhide hgr
                            exact ⟨(Below.setCells (Below.refl 0 _) (Nat.zero_le NW) 0 _).os.trans hg.os, (Below.setCells (Below.refl 0 _) (Nat.zero_le NW) 0 _).tape.trans hg.tape, (Below.setCells (Below.refl 0 _) (Nat.zero_le NW) 0 _).output.trans hg.output, by rw [size_setCells]; exact hg.size, fun k hk hne => (heap_setCells_other NW (fun e => hne (by rw [e])) _ _ _).trans (hg.block k hk hne)⟩
                          have E := hI.frame [309, 310, 311, 312, 313, 314, 315, 316, 317, 318] (by kernel_rfl)
                          simp only [putAll] at E
                          generalize a'.eval (.tmp 309) = y309 at E
                          generalize a'.eval (.tmp 310) = y310 at E
                          generalize a'.eval (.tmp 311) = y311 at E
                          generalize a'.eval (.tmp 312) = y312 at E
                          generalize a'.eval (.tmp 313) = y313 at E
                          generalize a'.eval (.tmp 314) = y314 at E
                          generalize a'.eval (.tmp 315) = y315 at E
                          generalize a'.eval (.tmp 316) = y316 at E
                          generalize a'.eval (.tmp 317) = y317 at E
                          generalize a'.eval (.tmp 318) = y318 at E
                          clear hI hall hw9
                          simp only [Act.put, List.setIfInBounds_toArray, List.set_cons_zero, List.set_cons_succ] at E
                          subst E
                          clear hy hx f1 f2 f3 f4 f5 g0 g1 g2 g3
                          go_wp2_with fail
                          go_roundw
                          case rel =>
                            exact ⟨i + 1, by go_num, by omega, HB9, HG9⟩
                          case measure => simp [intOf]; omega
            · as_aux_lemma =>
              have hiq' : i = q := by omega
              subst hiq'
              have g0 : wr.cell? ⟨NW, 0, none⟩ = some (.int .i64 (sN f zSt X i).x1) := (unhide hB).cell 0 rfl
              have g1 : wr.cell? ⟨NW, 1, none⟩ = some (.int .i64 (sN f zSt X i).x2) := (unhide hB).cell 1 rfl
              have g2 : wr.cell? ⟨NW, 2, none⟩ = some (.int .i64 (sN f zSt X i).y1) := (unhide hB).cell 2 rfl
              have g3 : wr.cell? ⟨NW, 3, none⟩ = some (.int .i64 (sN f zSt X i).y2) := (unhide hB).cell 3 rfl
              have t0 : wr.cell? ⟨NST, 0, none⟩ = some (.int .i64 (sN f zSt X i).x1) := (unhide hgr).cell ((unhide HG7).st.cell 0 rfl) (by intro e; have := Option.some.inj e; simp only at this; omega)
              have t1 : wr.cell? ⟨NST, 1, none⟩ = some (.int .i64 (sN f zSt X i).x2) := (unhide hgr).cell ((unhide HG7).st.cell 1 rfl) (by intro e; have := Option.some.inj e; simp only at this; omega)
              have t2 : wr.cell? ⟨NST, 2, none⟩ = some (.int .i64 (sN f zSt X i).y1) := (unhide hgr).cell ((unhide HG7).st.cell 2 rfl) (by intro e; have := Option.some.inj e; simp only at this; omega)
              have t3 : wr.cell? ⟨NST, 3, none⟩ = some (.int .i64 (sN f zSt X i).y2) := (unhide hgr).cell ((unhide HG7).st.cell 3 rfl) (by intro e; have := Option.some.inj e; simp only at this; omega)
              have f0 : wr.cell? ⟨FB, 0, none⟩ = some (.int .i64 f.bits) := (unhide hgr).cell ((unhide HG7).bf.cell 0 rfl) (by intro e; have := Option.some.inj e; simp only at this; omega)
              have f1 : wr.cell? ⟨FB, 1, none⟩ = some (.int .i64 f.b0) := (unhide hgr).cell ((unhide HG7).bf.cell 1 rfl) (by intro e; have := Option.some.inj e; simp only at this; omega)
              have f2 : wr.cell? ⟨FB, 2, none⟩ = some (.int .i64 f.b1) := (unhide hgr).cell ((unhide HG7).bf.cell 2 rfl) (by intro e; have := Option.some.inj e; simp only at this; omega)
              have f3 : wr.cell? ⟨FB, 3, none⟩ = some (.int .i64 f.b2) := (unhide hgr).cell ((unhide HG7).bf.cell 3 rfl) (by intro e; have := Option.some.inj e; simp only at this; omega)
              have f4 : wr.cell? ⟨FB, 4, none⟩ = some (.int .i64 f.a1) := (unhide hgr).cell ((unhide HG7).bf.cell 4 rfl) (by intro e; have := Option.some.inj e; simp only at this; omega)
              have f5 : wr.cell? ⟨FB, 5, none⟩ = some (.int .i64 f.a2) := (unhide hgr).cell ((unhide HG7).bf.cell 5 rfl) (by intro e; have := Option.some.inj e; simp only at this; omega)
              have hfit : fitsB f.bits = true := by rw [(unhide HFB).bits]; decide
              go_wp2_with fail
              refine (unhide Hcy (sN f zSt X i) hfit (sN_low f X i) _).mono ?_
              rintro e w9 ⟨rfl, hb9⟩
              go_wp2_with fail
              refine bodyPost_ret (v := .bool true) (by simp [results, Try.results3, go_sem]) rfl ?_
              have hlow : Below w.heap.size w wr := (unhide HG7).low.grown (unhide hgr) (unhide HG7).low.size (fun kk e => by have := Option.some.inj e; omega)
              exact ⟨rfl, hlow.trans (hb9.mono hlow.size)⟩
end Go.Proofs.Ytkadojmfcnleoaa
