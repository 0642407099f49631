/- A guarded filter is its sections' steps with each answer and state cleaned: the statement's stepwise. -/
import Derived.Test.YthafffnebaaeiaaGtop
namespace Go.Proofs.Ythafffnebaaeiaa
open Go.RowKit

theorem ListIs.below {w w' : World} {m : Nat} {v : Value} {X : Nat → C2} (h : ListIs w v m X) (hb : Below w.heap.size w w') : ListIs w' v m X := by
  obtain ⟨ad, c, rfl, hs⟩ := h
  refine ⟨ad, c, rfl, fun j hj => ?_⟩
  obtain ⟨b, off, u, rfl, hlt, hr, hh⟩ := hs j hj
  exact ⟨b, off, u, rfl, Nat.lt_of_lt_of_le hlt hb.size, (hb.cell (by exact hlt)).trans hr, hh⟩
theorem belowC {w w' : World} (hb : Below w.heap.size w w') {a : Addr} {v : Value} (h : w.cell? a = some v) : w'.cell? a = some v := (hb.cell (World.block_lt_of_cell? _ _ h)).trans h
theorem made_st (m j : Nat) (hj : j < m) : (madeCells (Value.agg #[c0, c0]).cells m)[j]? = some c0 := by
  have h2 : j % 2 < 2 := Nat.mod_lt _ (by omega)
  simp only [madeCells, Array.getElem?_map, Array.getElem?_range, hj, if_true, Option.map_some, Value.cells]
  congr 1
  have e : (#[c0, c0] : Array Value).size = 2 := rfl
  rw [e]
  generalize j % 2 = r at h2
  rcases (by omega : r = 0 ∨ r = 1) with rfl | rfl <;> rfl

/-- What the slots of the region that calls Step come to hold. -/
def g14V (F S b n cs k : Nat) (se sv x : Value) (zy z1 z2 : C2) : Nat → Value → Prop
  | 59, v => v = .pointer (some ⟨F, 1, none⟩)
  | 60, v => v = .slice (some ⟨b, 0, none⟩) n cs
  | 61, v => v = .int .i64 k
  | 62, v => v = .pointer (some ⟨b, k * 5, none⟩)
  | 63, v => v = se
  | 64, v => v = .slice (some ⟨S, 0, none⟩) n n
  | 65, v => v = .int .i64 k
  | 66, v => v = .pointer (some ⟨S, k * 2, none⟩)
  | 67, v => v = sv
  | 68, v => v = x
  | 69, v => ∃ y p q, v = .tuple #[y, .agg #[p, q]] ∧ CIs y zy ∧ CIs p z1 ∧ CIs q z2
  | 58, v => ∃ y p q, v = .tuple #[y, .agg #[p, q]] ∧ CIs y zy ∧ CIs p z1 ∧ CIs q z2
  | 70, v => CIs v zy
  | 71, v => ∃ p q, v = .agg #[p, q] ∧ CIs p z1 ∧ CIs q z2
  | 16, v => ∃ N, v = .pointer (some ⟨N, 0, none⟩)
  | 15, v => CIs v zy
  | _, _ => True

set_option maxRecDepth 100000 in
set_option maxHeartbeats 8000000 in
theorem stepwise_any (r r' n m : Nat) (v xv : Value) (g : Gu) (G : C2) (sec : Nat → Sec) (X : Nat → C2) (w : World) (hg : FinV (.complex .f64 r r')) (hG : CIs (.complex .f64 r r') G) (hv : SecsIs w v n sec) (hn : n ≤ 16) (hX : ListIs w xv m X) (hm : m ≤ 8796093022208) :
    Calls Try.prog 24 #[.agg #[.complex .f64 r r', v], Gv g, xv] w fun e w' => e = .returned (.bool true) ∧ Below w.heap.size w w' := by
  obtain ⟨ad, c, rfl, _⟩ := id hv
  obtain ⟨adx, cx, rfl, _⟩ := id hX
  obtain ⟨i0, hi, hz0, hz1, hz2⟩ := info_parts infoz_st
  have H0 := hide (And.intro hg (And.intro hG (And.intro hv hX)))
  have HC := hide (fun u z (hu : CIs u z) => cleanC g hu)
  have Hnew := hide (fun w' (h : SecsIs w' (.slice ad n c) n sec) => gnew_any r r' n (.slice ad n c) g G sec w' hg hG h hn)
  have Hrun := hide (fun N M B L k xv w' h1 h2 h3 h4 h5 => grun_any N M B L n k m xv g G X sec rest0 w' h1 h2 h3 h4 hm hn h5)
  clear hg hG hv hX
  obtain ⟨fl, cp, mu⟩ := g
  unfold Gv at HC Hnew ⊢
  dsimp only at HC Hnew ⊢
  go_enter Try.func24, Try.ntmps24
  go_wp2_with fail
  obtain ⟨W, hW⟩ : ∃ W, W = (w.alloc (Obj.cells #[.complex .f64 r r', .slice ad n c] 37)).alloc (Obj.cells #[.bool fl, .bool cp, .bool mu] 23) := ⟨_, rfl⟩
  rw [← hW]
  have hbW : Below w.heap.size w W := by rw [hW]; exact ((Below.refl _ _).alloc (Nat.le_refl _) _).alloc (by simp) _
  have hsW : W.heap.size = w.heap.size + 2 := by rw [hW]; simp
  have m0 : W.cell? ⟨w.heap.size, 0, none⟩ = some (.complex .f64 r r') := by rw [hW]; go_simp
  have m1 : W.cell? ⟨w.heap.size, 1, none⟩ = some (.slice ad n c) := by rw [hW]; go_simp
  have m2 : W.cell? ⟨w.heap.size + 1, 0, none⟩ = some (.bool fl) := by rw [hW]; go_simp
  have m3 : W.cell? ⟨w.heap.size + 1, 1, none⟩ = some (.bool cp) := by rw [hW]; go_simp
  have m4 : W.cell? ⟨w.heap.size + 1, 2, none⟩ = some (.bool mu) := by rw [hW]; go_simp
  clear hW
  have hv1 := (unhide H0).2.2.1.below hbW
  have hX1 := (unhide H0).2.2.2.below hbW
  refine (unhide Hnew W hv1).mono ?_
  rintro e w1 ⟨B, L, rfl, hG1, hb1⟩
  have hGl := hG1.lt
  have n0 : w1.cell? ⟨w.heap.size, 0, none⟩ = some (.complex .f64 r r') := (hb1.cell (by show w.heap.size < _; omega)).trans m0
  have n1 : w1.cell? ⟨w.heap.size, 1, none⟩ = some (.slice ad n c) := (hb1.cell (by show w.heap.size < _; omega)).trans m1
  have n2 : w1.cell? ⟨w.heap.size + 1, 0, none⟩ = some (.bool fl) := (hb1.cell (by show w.heap.size + 1 < _; omega)).trans m2
  have n3 : w1.cell? ⟨w.heap.size + 1, 1, none⟩ = some (.bool cp) := (hb1.cell (by show w.heap.size + 1 < _; omega)).trans m3
  have n4 : w1.cell? ⟨w.heap.size + 1, 2, none⟩ = some (.bool mu) := (hb1.cell (by show w.heap.size + 1 < _; omega)).trans m4
  have hX2 := hX1.below hb1
  have hv2 := hv1.below hb1
  have H1 := hide (And.intro hG1 (And.intro hX2 (And.intro hv2 (hbW.trans (hb1.mono (by omega))))))
  have hOB : Hid (Off (.slice adx m cx) m B ∧ Off (.slice adx m cx) m L ∧ Off (.slice ad n c) n B ∧ Off (.slice ad n c) n L) := ⟨hX1.off (by omega), hX1.off (by omega), hv1.off (by omega), hv1.off (by omega)⟩
  clear hG1 hX1 hX2 hv1 hv2 hb1 hbW m0 m1 m2 m3 m4 Hnew
  go_wp2_with fail
  refine (unhide Hrun _ _ B L 0 (.slice adx m cx) w1 (unhide H1).1 (unhide H1).2.1 (unhide hOB).1 (unhide hOB).2.1 (by omega)).mono ?_
  rintro e w2 ⟨A, rfl, hA1, hA2, hans, hG2, hap⟩
  obtain ⟨hG1, hX1, hv1, hb1⟩ := unhide H1
  have p0 := hap.cell n0 (by show w.heap.size ≠ B; omega) (by show w.heap.size ≠ L; omega)
  have p1 := hap.cell n1 (by show w.heap.size ≠ B; omega) (by show w.heap.size ≠ L; omega)
  have p2 := hap.cell n2 (by show w.heap.size + 1 ≠ B; omega) (by show w.heap.size + 1 ≠ L; omega)
  have p3 := hap.cell n3 (by show w.heap.size + 1 ≠ B; omega) (by show w.heap.size + 1 ≠ L; omega)
  have p4 := hap.cell n4 (by show w.heap.size + 1 ≠ B; omega) (by show w.heap.size + 1 ≠ L; omega)
  have hw2s := hap.size
  have hbw2 : Below w.heap.size w w2 := hap.below hb1 (by omega) (by omega) (by omega)
  have H2 := hide (And.intro hans (And.intro hG2 (And.intro (hX1.apart hap (unhide hOB).1 (unhide hOB).2.1) (And.intro (hv1.apart hap (unhide hOB).2.2.1 (unhide hOB).2.2.2) hbw2))))
  clear hans hG2 hap hG1 hX1 hv1 hb1 hbw2 H1 Hrun n0 n1 n2 n3 n4
  go_wp2_with (first
    | (refine wpList_make_full _ rfl _ _ 53 rfl w2.heap.size 57 i0 (.agg #[c0, c0]) 2 Try.underlying53 hi hz0 hz1 .i64 .i64 _ _ n rfl rfl rfl rfl (by rw [hz2]; omega) (by unfold maxLen; omega) (Nat.le_refl _) ?_; intro w3 hown hgr))
  obtain ⟨hth, hSw⟩ := own_there hown
  have hw3s := hgr.size
  have hst3 : StRow w3 w2.heap.size n rest0 := fun i hi => by
    have hc : ∀ j, j < n * 2 → w3.cell? ⟨w2.heap.size, j, none⟩ = some c0 := fun j hj => by
      have h1 := hown.cells (g := w2.heap.size) rfl j c0 (by rw [Array.getElem?_toList]; exact made_st _ _ hj)
      rwa [Addr.add_mid, Nat.zero_add] at h1
    refine ⟨c0, c0, fun j x hx => ?_, c0_is, c0_is⟩
    have hj : j < 2 := (List.getElem?_eq_some_iff.1 hx).1
    rw [hc _ (by omega), ← hx]
    rcases (by omega : j = 0 ∨ j = 1) with rfl | rfl <;> rfl
  have H3 := hide (And.intro hst3 (And.intro hth hgr))
  have Hq := hide (And.intro p0 (And.intro p1 (And.intro p2 (And.intro p3 p4))))
  have hAw : A < w2.heap.size := hA2
  clear hst3 hth hgr hown hi hz0 hz1 hz2 p0 p1 p2 p3 p4
  go_loopw [11, 12] (fun t i wr => ∃ k T : Nat, k ≤ m ∧ i = .int .i64 k ∧ t = .int .i64 T ∧ Hid (T = wCntN ⟨fl, cp, mu⟩ G n sec rest0 X k) ∧ StRow wr w2.heap.size n (wStN ⟨fl, cp, mu⟩ G n sec rest0 X k) ∧ wr.there w2.heap.size 0 (n * 2) ∧ w2.heap.size < wr.heap.size ∧ w2.grownBy wr (some w2.heap.size))
    (fun _ i _ => m - (intOf i).toNat)
  case atStart =>
    obtain ⟨hst3, hth, hgr⟩ := unhide H3
    exact ⟨0, 0, Nat.zero_le _, rfl, rfl, rfl, hst3, hth, hSw, ⟨hgr.os, hgr.tape, hgr.output, hgr.size, fun k hk _ => hgr.block k hk (by simp)⟩⟩
  case round =>
    obtain ⟨k, T0, hk, rfl, rfl, hT0, q1, q2, q3, q4⟩ := hrel
    obtain ⟨hans, hG2, hX2, hv2, hbw2⟩ := unhide H2
    obtain ⟨p0, p1, p2, p3, p4⟩ := unhide Hq
    by_cases hkm : k < m
    · have hkm' : (k : Int) < (m : Int) := by omega
      obtain ⟨adx', cx', ex, hxs⟩ := id hX2
      obtain ⟨bx, offx, ux, hadx, hbx, hcx, hux⟩ := hxs k hkm
      obtain ⟨rfl, rfl⟩ : adx = adx' ∧ cx = cx' := by simpa using ex
      subst hadx
      obtain ⟨x, x', rfl, _⟩ := id hux
      have hGi : CIs (.complex .f64 r r') G := (unhide H0).2.1
      have e0 : wr.cell? ⟨w.heap.size, 0, none⟩ = some (.complex .f64 r r') := q4.cell p0 (by intro e; have := Option.some.inj e; simp only at this; omega)
      have e1 : wr.cell? ⟨bx, offx + k, none⟩ = some (.complex .f64 x x') := q4.cell hcx (by intro e; have := Option.some.inj e; simp only at this; omega)
      have Hm := hide (mulC hGi hux)
      have HQ := hide (And.intro q1 (And.intro q2 q4))
      clear q1 q2 q4 hxs ex hcx hux hGi hans hG2 hX2 hv2 hbw2 p0 p1 p2 p3 p4
      go_wp2_with fail
      go_region_held3 (fun w' => w'.cell? ⟨w.heap.size, 0, none⟩ = some (.complex .f64 r r') ∧ w'.cell? ⟨bx, offx + k, none⟩ = some (.complex .f64 x x')) (go_keep)
        ((go_at_call 40; refine (unhide Hm _).mono ?_; rintro e w4 ⟨y0, rfl, hy0, hs0⟩; have g0 : w4.cell? ⟨w.heap.size, 0, none⟩ = some (.complex .f64 r r') := (by rw [hs0.cell]; exact e0); have g1 : w4.cell? ⟨bx, offx + k, none⟩ = some (.complex .f64 x x') := (by rw [hs0.cell]; exact e1)))
      obtain ⟨y1, y2, rfl, _⟩ := id hy0
      have hs4 : Still wr w4 := (still_drew wr).trans hs0
      have Hs4 := hide hs4
      have Hy0 := hide hy0
      have h4s : wr.heap.size ≤ w4.heap.size := (hs4 0).size
      clear hs0 hs4 hy0 g0 g1 e0 e1
      go_wp2_with fail
      have hckN := wCntN_le ⟨fl, cp, mu⟩ G n sec rest0 X k
      have hbk : 6 * n * k ≤ 6 * 16 * 8796093022208 := Nat.mul_le_mul (by omega) (by omega)
      go_loopw [11, 13, 14] (fun t y j wr => ∃ l T : Nat, l ≤ n ∧ j = .int .i64 l ∧ CIs y (wY ⟨fl, cp, mu⟩ sec (wStN ⟨fl, cp, mu⟩ G n sec rest0 X k) (cmul G (X k)) l) ∧ t = .int .i64 T ∧ Hid (T = wCntN ⟨fl, cp, mu⟩ G n sec rest0 X k + wCnt ⟨fl, cp, mu⟩ sec (wStN ⟨fl, cp, mu⟩ G n sec rest0 X k) (cmul G (X k)) l) ∧
          StRow wr w2.heap.size n (wUp ⟨fl, cp, mu⟩ sec (wStN ⟨fl, cp, mu⟩ G n sec rest0 X k) (cmul G (X k)) l) ∧ wr.there w2.heap.size 0 (n * 2) ∧ w2.heap.size < wr.heap.size ∧ w2.grownBy wr (some w2.heap.size)) (fun _ _ j _ => n - (intOf j).toNat)
      case atStart =>
        obtain ⟨q1, q2, q4⟩ := unhide HQ
        have hg := (unhide Hs4).grown none
        exact ⟨0, T0, Nat.zero_le _, rfl, unhide Hy0, rfl, hT0, by rw [wUp_zero]; exact q1.grown hg (by simp), (unhide Hs4).there q2, by omega, grown_trans q4 ((unhide Hs4).grown _)⟩
      case round =>
        obtain ⟨l, T, hl, rfl, hy, rfl, hT, t1, t2, t3, t4⟩ := hrel
        obtain ⟨hans, hG2, hX2, hv2, hbw2⟩ := unhide H2
        obtain ⟨p0, p1, p2, p3, p4⟩ := unhide Hq
        have l7 : wr.cell? ⟨w.heap.size, 1, none⟩ = some (.slice ad n c) := t4.cell p1 (by intro e; have := Option.some.inj e; simp only at this; omega)
        by_cases hln : l < n
        · have hln' : (l : Int) < (n : Int) := by omega
          obtain ⟨ad2, cs2, e2, hsec⟩ := id hv2
          obtain ⟨b, v0, v1, v2, v3, v4, hads, hb, hra, _, _, _, _, _, i0, i1, i2, i3, i4⟩ := hsec l hln
          obtain ⟨rfl, rfl⟩ : ad = ad2 ∧ c = cs2 := by simpa using e2
          subst hads
          obtain ⟨p, q, hrs, ip, iq⟩ := t1 l hln
          have hstk : wUp ⟨fl, cp, mu⟩ sec (wStN ⟨fl, cp, mu⟩ G n sec rest0 X k) (cmul G (X k)) l l = wStN ⟨fl, cp, mu⟩ G n sec rest0 X k l := by unfold wUp; rw [if_neg (by omega)]
          rw [hstk] at ip iq
          obtain ⟨b0, b0', rfl, _⟩ := id i0
          obtain ⟨b1, b1', rfl, _⟩ := id i1
          obtain ⟨b2, b2', rfl, _⟩ := id i2
          obtain ⟨a1, a1', rfl, _⟩ := id i3
          obtain ⟨a2, a2', rfl, _⟩ := id i4
          obtain ⟨s, s', rfl, _⟩ := id ip
          obtain ⟨t, t', rfl, _⟩ := id iq
          obtain ⟨z, z', rfl, _⟩ := id hy
          have hraq : wr.rangeAt b (l * 5) [.complex .f64 b0 b0', .complex .f64 b1 b1', .complex .f64 b2 b2', .complex .f64 a1 a1', .complex .f64 a2 a2'] := fun j x hx => t4.cell (hra j x hx) (by intro e; have := Option.some.inj e; simp only at this; omega)
          have Hr := hide (rstep_any b0 b0' b1 b1' b2 b2' a1 a1' a2 a2' s s' t t' z z' (sec l) (wStN ⟨fl, cp, mu⟩ G n sec rest0 X k l).1 (wStN ⟨fl, cp, mu⟩ G n sec rest0 X k l).2 (wY ⟨fl, cp, mu⟩ sec (wStN ⟨fl, cp, mu⟩ G n sec rest0 X k) (cmul G (X k)) l) i0 i1 i2 i3 i4 ip iq hy)
          have HH := hide (And.intro t1 (And.intro t2 t4))
          have Hl7 := hide l7
          have Hra := hide hraq
          have Hrs := hide hrs
          have hbq : b < w2.heap.size := hb
          clear i0 i1 i2 i3 i4 ip iq hy hra hraq hrs t1 t2 t4 hsec e2 hans hG2 hX2 hv2 hbw2 p0 p1 p2 p3 p4
          go_wp2_with fail
          rename_i K hK
          have HK := hide hK
          clear hK l7
          refine region_slotsA (g14V w.heap.size w2.heap.size b n c l (.agg #[.complex .f64 b0 b0', .complex .f64 b1 b1', .complex .f64 b2 b2', .complex .f64 a1 a1', .complex .f64 a2 a2']) (.agg #[.complex .f64 s s', .complex .f64 t t']) (.complex .f64 z z') (wRaw ⟨fl, cp, mu⟩ sec (wStN ⟨fl, cp, mu⟩ G n sec rest0 X k) (cmul G (X k)) l) (wS1 ⟨fl, cp, mu⟩ sec (wStN ⟨fl, cp, mu⟩ G n sec rest0 X k) (cmul G (X k)) l) (wS2 ⟨fl, cp, mu⟩ sec (wStN ⟨fl, cp, mu⟩ G n sec rest0 X k) (cmul G (X k)) l)) (g5C 16 14 16 wr (wS1 ⟨fl, cp, mu⟩ sec (wStN ⟨fl, cp, mu⟩ G n sec rest0 X k) (cmul G (X k)) l) (wS2 ⟨fl, cp, mu⟩ sec (wStN ⟨fl, cp, mu⟩ G n sec rest0 X k) (cmul G (X k)) l)) (by kernel_rfl) (by kernel_rfl) (by kernel_rfl) 124 (by kernel_rfl) rfl ?_ ?_ ?_
          · exact ⟨grown_drew _ _, fun h => by simp at h⟩
          · intro listed a' w5 i o hI ho hsz hl hd
            have hi : i < 17 := by simpa using (Array.getElem?_eq_some_iff.1 ho).1
            have hc : g5C 16 14 16 wr (wS1 ⟨fl, cp, mu⟩ sec (wStN ⟨fl, cp, mu⟩ G n sec rest0 X k) (cmul G (X k)) l) (wS2 ⟨fl, cp, mu⟩ sec (wStN ⟨fl, cp, mu⟩ G n sec rest0 X k) (cmul G (X k)) l) listed a' w5 := hI.world
            have hsz' : listed.size = 17 := hsz
            have hrg : ∀ b o cs, wr.rangeAt b o cs → w5.rangeAt b o cs := fun b o cs h j v hv => hc.1.cell (h j v hv) (by simp)
            rcases (by omega : i = 0 ∨ i = 1 ∨ i = 2 ∨ i = 3 ∨ i = 4 ∨ i = 5 ∨ i = 6 ∨ i = 7 ∨ i = 8 ∨ i = 9 ∨ i = 10 ∨ i = 11 ∨ i = 12 ∨ i = 13 ∨ i = 14 ∨ i = 15 ∨ i = 16) with rfl | rfl | rfl | rfl | rfl | rfl | rfl | rfl | rfl | rfl | rfl | rfl | rfl | rfl | rfl | rfl | rfl
            all_goals obtain rfl := Option.some.inj ho
            · exact (ok_field rfl rfl (hI.base 3 (by kernel_rfl)) (field_filt1 _ _) rfl (hc.same 0 59 rfl (by omega) (by omega) (by omega))).toR
            · exact (ok_load rfl rfl (hI.slot 0 _ 59 rfl rfl (hd ⟨0, .data⟩ (by simp) rfl)) (load_secs _ _ _ _ _ (hc.1.cell (unhide Hl7) (by simp))) rfl (hc.same 1 60 rfl (by omega) (by omega) (by omega))).toR
            · exact (ok_move rfl rfl (hI.base 14 (by kernel_rfl)) rfl (hc.same 2 61 rfl (by omega) (by omega) (by omega))).toR
            · exact (ok_index rfl rfl (hI.slot 1 _ 60 rfl rfl (hd ⟨1, .data⟩ (by simp) rfl)) (hI.slot 2 _ 61 rfl rfl (hd ⟨2, .data⟩ (by simp) rfl)) (index_secs _ _ _ _ _ hln (by omega)) rfl (hc.same 3 62 rfl (by omega) (by omega) (by omega))).toR
            · exact (ok_load rfl rfl (hI.slot 3 _ 62 rfl rfl (hd ⟨3, .data⟩ (by simp) rfl)) (run_loadAt_mid w5 b (l * 5) 66 _ _ (hrg _ _ _ (unhide Hra)) Try.underlying66 rfl info_sec) rfl (hc.same 4 63 rfl (by omega) (by omega) (by omega))).toR
            · exact (ok_move rfl rfl (hI.base 10 (by kernel_rfl)) rfl (hc.same 5 64 rfl (by omega) (by omega) (by omega))).toR
            · exact (ok_move rfl rfl (hI.base 14 (by kernel_rfl)) rfl (hc.same 6 65 rfl (by omega) (by omega) (by omega))).toR
            · exact (ok_index rfl rfl (hI.slot 5 _ 64 rfl rfl (hd ⟨5, .data⟩ (by simp) rfl)) (hI.slot 6 _ 65 rfl rfl (hd ⟨6, .data⟩ (by simp) rfl)) (index_sts _ _ _ _ _ hln (by omega)) rfl (hc.same 7 66 rfl (by omega) (by omega) (by omega))).toR
            · exact (ok_load rfl rfl (hI.slot 7 _ 66 rfl rfl (hd ⟨7, .data⟩ (by simp) rfl)) (run_loadAt_mid w5 w2.heap.size (l * 2) 57 _ _ (hrg _ _ _ (unhide Hrs)) Try.underlying57 rfl info_st) rfl (hc.same 8 67 rfl (by omega) (by omega) (by omega))).toR
            · exact (ok_move rfl rfl (hI.base 13 (by kernel_rfl)) rfl (hc.same 9 68 rfl (by omega) (by omega) (by omega))).toR
            · refine okR_rstep rfl (hI.slot 4 _ 63 rfl rfl (hd ⟨4, .data⟩ (by simp) rfl)) (hI.slot 8 _ 67 rfl rfl (hd ⟨8, .data⟩ (by simp) rfl)) (hI.slot 9 _ 68 rfl rfl (hd ⟨9, .data⟩ (by simp) rfl)) ((unhide Hr w5).mono ?_)
              rintro e w6 ⟨y, u, v, rfl, hy, hu, hv, hbl⟩
              exact ⟨_, rfl, slot_of rfl ⟨y, u, v, rfl, hy, hu, hv⟩, hc.call 10 69 rfl (by omega) (by omega) (by omega) hbl⟩
            · obtain ⟨y, u, v, k1, k2, k3, k4⟩ := hI.slot 10 _ 69 rfl rfl (hd ⟨10, .data⟩ (by simp) rfl)
              exact (ok_move rfl rfl k1 ⟨y, u, v, rfl, k2, k3, k4⟩ (hc.same 11 58 rfl (by omega) (by omega) (by omega))).toR
            · obtain ⟨y, u, v, k1, k2, k3, k4⟩ := hI.slot 11 _ 58 rfl rfl (hd ⟨11, .data⟩ (by simp) rfl)
              exact (ok_extract0 rfl rfl k1 k2 (hc.same 12 70 rfl (by omega) (by omega) (by omega))).toR
            · obtain ⟨y, u, v, k1, k2, k3, k4⟩ := hI.slot 11 _ 58 rfl rfl (hd ⟨11, .data⟩ (by simp) rfl)
              exact (ok_extract1 rfl rfl k1 ⟨u, v, rfl, k3, k4⟩ (hc.same 13 71 rfl (by omega) (by omega) (by omega))).toR
            · have u16 : listed.getD 16 false = false := hI.not_yet hsz' (by omega) hl 16 rfl ⟨14, .data⟩ (by simp) rfl rfl
              refine .inl ⟨_, _, ?_, slot_of rfl ⟨w5.heap.size, rfl⟩, hc.alloc hI.size (show 16 < 124 by omega) rfl (by omega) u16⟩
              simp [execOp, run_alloc_st]
            · have k1 := hI.slot 12 _ 70 rfl rfl (hd ⟨12, .data⟩ (by simp) rfl)
              exact (ok_assign (d := 15) rfl rfl rfl k1 (hc.same 15 15 rfl (by omega) (by omega) (by omega))).toR
            · obtain ⟨p, q, k1, k2, k3⟩ := hI.slot 13 _ 71 rfl rfl (hd ⟨13, .data⟩ (by simp) rfl)
              have l14 := (hd ⟨14, .data⟩ (by simp) rfl)
              obtain ⟨N, e, n1, n2, ht, _⟩ := hc.2 l14
              refine okR_sto rfl e k1 (run_storeAt_mid w5 N 0 57 #[p, q] ht info_st (by simp [k2.one, k3.one])) ⟨fun d' h => (by cases h), hc.store rfl l14 e k2 k3⟩
          · intro listed a' w5 hI hall
            have hw5 : g5C 16 14 16 wr (wS1 ⟨fl, cp, mu⟩ sec (wStN ⟨fl, cp, mu⟩ G n sec rest0 X k) (cmul G (X k)) l) (wS2 ⟨fl, cp, mu⟩ sec (wStN ⟨fl, cp, mu⟩ G n sec rest0 X k) (cmul G (X k)) l) listed a' w5 := hI.world
            obtain ⟨hg5, hN5⟩ := hw5
            obtain ⟨N, eN, nn1, nn2, htN, hsN⟩ := hN5 (hall 14 (by decide))
            obtain ⟨p, q, hrN, hp, hq⟩ := hsN (hall 16 (by decide))
            have k15 := hI.slot 15 _ 15 rfl rfl (hall 15 (by decide))
            have E := act_lit a' 124 hI.size
            rw [hI.defers] at E
            replace E : a' = ⟨#[a'.eval (.tmp 0), a'.eval (.tmp 1), a'.eval (.tmp 2), a'.eval (.tmp 3), a'.eval (.tmp 4), a'.eval (.tmp 5), a'.eval (.tmp 6), a'.eval (.tmp 7), a'.eval (.tmp 8), a'.eval (.tmp 9), a'.eval (.tmp 10), a'.eval (.tmp 11), a'.eval (.tmp 12), a'.eval (.tmp 13), a'.eval (.tmp 14), a'.eval (.tmp 15), a'.eval (.tmp 16), a'.eval (.tmp 17), a'.eval (.tmp 18), a'.eval (.tmp 19), a'.eval (.tmp 20), a'.eval (.tmp 21), a'.eval (.tmp 22), a'.eval (.tmp 23), a'.eval (.tmp 24), a'.eval (.tmp 25), a'.eval (.tmp 26), a'.eval (.tmp 27), a'.eval (.tmp 28), a'.eval (.tmp 29), a'.eval (.tmp 30), a'.eval (.tmp 31), a'.eval (.tmp 32), a'.eval (.tmp 33), a'.eval (.tmp 34), a'.eval (.tmp 35), a'.eval (.tmp 36), a'.eval (.tmp 37), a'.eval (.tmp 38), a'.eval (.tmp 39), a'.eval (.tmp 40), a'.eval (.tmp 41), a'.eval (.tmp 42), a'.eval (.tmp 43), a'.eval (.tmp 44), a'.eval (.tmp 45), a'.eval (.tmp 46), a'.eval (.tmp 47), a'.eval (.tmp 48), a'.eval (.tmp 49), a'.eval (.tmp 50), a'.eval (.tmp 51), a'.eval (.tmp 52), a'.eval (.tmp 53), a'.eval (.tmp 54), a'.eval (.tmp 55), a'.eval (.tmp 56), a'.eval (.tmp 57), a'.eval (.tmp 58), a'.eval (.tmp 59), a'.eval (.tmp 60), a'.eval (.tmp 61), a'.eval (.tmp 62), a'.eval (.tmp 63), a'.eval (.tmp 64), a'.eval (.tmp 65), a'.eval (.tmp 66), a'.eval (.tmp 67), a'.eval (.tmp 68), a'.eval (.tmp 69), a'.eval (.tmp 70), a'.eval (.tmp 71), a'.eval (.tmp 72), a'.eval (.tmp 73), a'.eval (.tmp 74), a'.eval (.tmp 75), a'.eval (.tmp 76), a'.eval (.tmp 77), a'.eval (.tmp 78), a'.eval (.tmp 79), a'.eval (.tmp 80), a'.eval (.tmp 81), a'.eval (.tmp 82), a'.eval (.tmp 83), a'.eval (.tmp 84), a'.eval (.tmp 85), a'.eval (.tmp 86), a'.eval (.tmp 87), a'.eval (.tmp 88), a'.eval (.tmp 89), a'.eval (.tmp 90), a'.eval (.tmp 91), a'.eval (.tmp 92), a'.eval (.tmp 93), a'.eval (.tmp 94), a'.eval (.tmp 95), a'.eval (.tmp 96), a'.eval (.tmp 97), a'.eval (.tmp 98), a'.eval (.tmp 99), a'.eval (.tmp 100), a'.eval (.tmp 101), a'.eval (.tmp 102), a'.eval (.tmp 103), a'.eval (.tmp 104), a'.eval (.tmp 105), a'.eval (.tmp 106), a'.eval (.tmp 107), a'.eval (.tmp 108), a'.eval (.tmp 109), a'.eval (.tmp 110), a'.eval (.tmp 111), a'.eval (.tmp 112), a'.eval (.tmp 113), a'.eval (.tmp 114), a'.eval (.tmp 115), a'.eval (.tmp 116), a'.eval (.tmp 117), a'.eval (.tmp 118), a'.eval (.tmp 119), a'.eval (.tmp 120), a'.eval (.tmp 121), a'.eval (.tmp 122), a'.eval (.tmp 123)], _⟩ := E
            rw [hI.base 0 (by kernel_rfl), hI.base 1 (by kernel_rfl), hI.base 2 (by kernel_rfl), hI.base 3 (by kernel_rfl), hI.base 4 (by kernel_rfl), hI.base 5 (by kernel_rfl), hI.base 6 (by kernel_rfl), hI.base 7 (by kernel_rfl), hI.base 8 (by kernel_rfl), hI.base 9 (by kernel_rfl), hI.base 10 (by kernel_rfl), hI.base 11 (by kernel_rfl), hI.base 12 (by kernel_rfl), hI.base 13 (by kernel_rfl), hI.base 14 (by kernel_rfl), hI.base 17 (by kernel_rfl), hI.base 18 (by kernel_rfl), hI.base 19 (by kernel_rfl), hI.base 20 (by kernel_rfl), hI.base 21 (by kernel_rfl), hI.base 22 (by kernel_rfl), hI.base 23 (by kernel_rfl), hI.base 24 (by kernel_rfl), hI.base 25 (by kernel_rfl), hI.base 26 (by kernel_rfl), hI.base 27 (by kernel_rfl), hI.base 28 (by kernel_rfl), hI.base 29 (by kernel_rfl), hI.base 30 (by kernel_rfl), hI.base 31 (by kernel_rfl), hI.base 32 (by kernel_rfl), hI.base 33 (by kernel_rfl), hI.base 34 (by kernel_rfl), hI.base 35 (by kernel_rfl), hI.base 36 (by kernel_rfl), hI.base 37 (by kernel_rfl), hI.base 38 (by kernel_rfl), hI.base 39 (by kernel_rfl), hI.base 40 (by kernel_rfl), hI.base 41 (by kernel_rfl), hI.base 42 (by kernel_rfl), hI.base 43 (by kernel_rfl), hI.base 44 (by kernel_rfl), hI.base 45 (by kernel_rfl), hI.base 46 (by kernel_rfl), hI.base 47 (by kernel_rfl), hI.base 48 (by kernel_rfl), hI.base 49 (by kernel_rfl), hI.base 50 (by kernel_rfl), hI.base 51 (by kernel_rfl), hI.base 52 (by kernel_rfl), hI.base 53 (by kernel_rfl), hI.base 54 (by kernel_rfl), hI.base 55 (by kernel_rfl), hI.base 56 (by kernel_rfl), hI.base 57 (by kernel_rfl), hI.base 72 (by kernel_rfl), hI.base 73 (by kernel_rfl), hI.base 74 (by kernel_rfl), hI.base 75 (by kernel_rfl), hI.base 76 (by kernel_rfl), hI.base 77 (by kernel_rfl), hI.base 78 (by kernel_rfl), hI.base 79 (by kernel_rfl), hI.base 80 (by kernel_rfl), hI.base 81 (by kernel_rfl), hI.base 82 (by kernel_rfl), hI.base 83 (by kernel_rfl), hI.base 84 (by kernel_rfl), hI.base 85 (by kernel_rfl), hI.base 86 (by kernel_rfl), hI.base 87 (by kernel_rfl), hI.base 88 (by kernel_rfl), hI.base 89 (by kernel_rfl), hI.base 90 (by kernel_rfl), hI.base 91 (by kernel_rfl), hI.base 92 (by kernel_rfl), hI.base 93 (by kernel_rfl), hI.base 94 (by kernel_rfl), hI.base 95 (by kernel_rfl), hI.base 96 (by kernel_rfl), hI.base 97 (by kernel_rfl), hI.base 98 (by kernel_rfl), hI.base 99 (by kernel_rfl), hI.base 100 (by kernel_rfl), hI.base 101 (by kernel_rfl), hI.base 102 (by kernel_rfl), hI.base 103 (by kernel_rfl), hI.base 104 (by kernel_rfl), hI.base 105 (by kernel_rfl), hI.base 106 (by kernel_rfl), hI.base 107 (by kernel_rfl), hI.base 108 (by kernel_rfl), hI.base 109 (by kernel_rfl), hI.base 110 (by kernel_rfl), hI.base 111 (by kernel_rfl), hI.base 112 (by kernel_rfl), hI.base 113 (by kernel_rfl), hI.base 114 (by kernel_rfl), hI.base 115 (by kernel_rfl), hI.base 116 (by kernel_rfl), hI.base 117 (by kernel_rfl), hI.base 118 (by kernel_rfl), hI.base 119 (by kernel_rfl), hI.base 120 (by kernel_rfl), hI.base 121 (by kernel_rfl), hI.base 122 (by kernel_rfl), hI.base 123 (by kernel_rfl)] at E
            clear hI
            generalize a'.eval (.tmp 15) = y15 at E k15
            generalize a'.eval (.tmp 16) = y16 at E eN
            subst eN
            generalize a'.eval (.tmp 58) = y58 at E
            generalize a'.eval (.tmp 59) = y59 at E
            generalize a'.eval (.tmp 60) = y60 at E
            generalize a'.eval (.tmp 61) = y61 at E
            generalize a'.eval (.tmp 62) = y62 at E
            generalize a'.eval (.tmp 63) = y63 at E
            generalize a'.eval (.tmp 64) = y64 at E
            generalize a'.eval (.tmp 65) = y65 at E
            generalize a'.eval (.tmp 66) = y66 at E
            generalize a'.eval (.tmp 67) = y67 at E
            generalize a'.eval (.tmp 68) = y68 at E
            generalize a'.eval (.tmp 69) = y69 at E
            generalize a'.eval (.tmp 70) = y70 at E
            generalize a'.eval (.tmp 71) = y71 at E
            simp [Act.eval] at E
            subst E
            refine unhide HK _ _ ?_
            clear HK hall
            obtain ⟨p, p', rfl, _⟩ := id hp
            obtain ⟨q, q', rfl, _⟩ := id hq
            obtain ⟨y15, y15', rfl, _⟩ := id k15
            obtain ⟨p0, p1, p2, p3, p4⟩ := unhide Hq
            obtain ⟨t1, t2, t4⟩ := unhide HH
            have c50 : w5.cell? ⟨N, 0, none⟩ = some (.complex .f64 p p') := hrN 0 _ rfl
            have c51 : w5.cell? ⟨N, 1, none⟩ = some (.complex .f64 q q') := hrN 1 _ rfl
            have hw5s := hg5.size
            have hF : ∀ j v, w2.cell? ⟨w.heap.size + 1, j, none⟩ = some v → w5.cell? ⟨w.heap.size + 1, j, none⟩ = some v := fun j v h => hg5.cell (t4.cell h (by intro e; have := Option.some.inj e; simp only at this; omega)) (by simp)
            have d50 := hF _ _ p2
            have d51 := hF _ _ p3
            have d52 := hF _ _ p4
            have t1' := t1.grown hg5 (by simp)
            have t2' := there_grown t2 hg5 t3 (by simp)
            have t4' : w2.grownBy w5 (some w2.heap.size) := grown_trans t4 ⟨hg5.os, hg5.tape, hg5.output, hg5.size, fun k hk _ => hg5.block k hk (by simp)⟩
            obtain ⟨m1, hm1⟩ : ∃ m1, m1 = (cl2 ⟨fl, cp, mu⟩ (wRaw ⟨fl, cp, mu⟩ sec (wStN ⟨fl, cp, mu⟩ G n sec rest0 X k) (cmul G (X k)) l)).2 := ⟨_, rfl⟩
            obtain ⟨m2, hm2⟩ : ∃ m2, m2 = (cl2 ⟨fl, cp, mu⟩ (wS1 ⟨fl, cp, mu⟩ sec (wStN ⟨fl, cp, mu⟩ G n sec rest0 X k) (cmul G (X k)) l)).2 := ⟨_, rfl⟩
            obtain ⟨m3, hm3⟩ : ∃ m3, m3 = (cl2 ⟨fl, cp, mu⟩ (wS2 ⟨fl, cp, mu⟩ sec (wStN ⟨fl, cp, mu⟩ G n sec rest0 X k) (cmul G (X k)) l)).2 := ⟨_, rfl⟩
            have hc1 := unhide HC _ _ k15
            have hc2 := unhide HC _ _ hp
            have hc3 := unhide HC _ _ hq
            rw [← hm1] at hc1
            rw [← hm2] at hc2
            rw [← hm3] at hc3
            have b1 : m1 ≤ 2 := by rw [hm1]; exact (cl2_count _ _).1
            have b2 : m2 ≤ 2 := by rw [hm2]; exact (cl2_count _ _).1
            have b3 : m3 ≤ 2 := by rw [hm3]; exact (cl2_count _ _).1
            have hcl := wCnt_le ⟨fl, cp, mu⟩ sec (wStN ⟨fl, cp, mu⟩ G n sec rest0 X k) (cmul G (X k)) l
            have bT : T ≤ 900000000000000 := by have := unhide hT; omega
            have HT := hide (And.intro (unhide hT) (And.intro hm1 (And.intro hm2 hm3)))
            have Hc1 := hide hc1
            have Hc2 := hide hc2
            have Hc3 := hide hc3
            have Ht := hide (And.intro t1' (And.intro t2' t4'))
            have hSw5 : w2.heap.size < w5.heap.size := by omega
            clear hT hm1 hm2 hm3 hc1 hc2 hc3 t1 t2 t4 t1' t2' t4' hF p0 p1 p2 p3 p4 hp hq k15 hrN hsN htN hcl hg5
            go_wp2_with fail
            refine (unhide Hc1 w5).mono ?_
            rintro e w6 ⟨f1, f1', rfl, hf1, hb6⟩
            have c60 := belowC hb6 c50
            have c61 := belowC hb6 c51
            have d60 : w6.cell? ⟨w.heap.size + 1, 0, none⟩ = some (.bool fl) := belowC hb6 d50
            have d61 : w6.cell? ⟨w.heap.size + 1, 1, none⟩ = some (.bool cp) := belowC hb6 d51
            have d62 : w6.cell? ⟨w.heap.size + 1, 2, none⟩ = some (.bool mu) := belowC hb6 d52
            have h6s := hb6.size
            have Hb6 := hide hb6
            have Hf1 := hide hf1
            clear hb6 hf1 c50 c51 d50 d51 d52
            go_wp2_with fail
            refine (unhide Hc2 w6).mono ?_
            rintro e w7 ⟨f2, f2', rfl, hf2, hb7⟩
            have c70 := belowC hb7 c60
            have c71 := belowC hb7 c61
            have d70 : w7.cell? ⟨w.heap.size + 1, 0, none⟩ = some (.bool fl) := belowC hb7 d60
            have d71 : w7.cell? ⟨w.heap.size + 1, 1, none⟩ = some (.bool cp) := belowC hb7 d61
            have d72 : w7.cell? ⟨w.heap.size + 1, 2, none⟩ = some (.bool mu) := belowC hb7 d62
            have h7s := hb7.size
            have Hb7 := hide hb7
            have Hf2 := hide hf2
            clear hb7 hf2 c60 c61 d60 d61 d62
            go_wp2_with fail
            refine (unhide Hc3 w7).mono ?_
            rintro e w8 ⟨f3, f3', rfl, hf3, hb8⟩
            have h8s := hb8.size
            have hb58 : Below w5.heap.size w5 w8 := ((unhide Hb6).trans ((unhide Hb7).mono h6s)).trans (hb8.mono (by omega))
            obtain ⟨t1', t2', t4'⟩ := unhide Ht
            have hg58 := below_grown hb58 none
            have t1 := t1'.grown hg58 (by simp)
            have t2 := there_grown t2' hg58 hSw5 (by simp)
            have t4 : w2.grownBy w8 (some w2.heap.size) := grown_trans t4' (below_grown hb58 _)
            have ta := t2 (l * 2) (by omega)
            have tb := t2 (l * 2 + 1) (by omega)
            rw [Nat.zero_add] at ta tb
            obtain ⟨ua, hua⟩ := Option.isSome_iff_exists.1 ta.1
            obtain ⟨ub, hub⟩ := Option.isSome_iff_exists.1 tb.1
            have fa := ta.2
            have fb := tb.2
            have H8 := hide (And.intro t1 (And.intro t2 (And.intro t4 hf3)))
            clear hb8 hb58 t1 t2 t4 t1' t2' t4' ta tb hf3 c70 c71 d70 d71 d72 hg58
            have hsc := run_store_c
            go_wp2
            go_roundw
            case rel =>
              obtain ⟨t1, t2, t4, hf3⟩ := unhide H8
              obtain ⟨hT, hm1, hm2, hm3⟩ := unhide HT
              refine ⟨l + 1, T + (m1 + m2 + m3), by omega, by go_num, unhide Hf1, by go_num, ?_, ?_, ?_, ?_, ?_⟩
              · show T + (m1 + m2 + m3) = _
                rw [wCnt, ← hm1, ← hm2, ← hm3]
                omega
              · rw [wUp_succ]
                exact t1.set t2 hln (unhide Hf2) hf3
              · show (w8.setCells w2.heap.size (l * 2) [.complex .f64 f2 f2', .complex .f64 f3 f3']).there _ _ _
                exact there_set t2
              · have := (grown_setCells (o := l * 2) (cs := [.complex .f64 f2 f2', .complex .f64 f3 f3']) (grown_refl w8 (some w2.heap.size))).size
                exact Nat.lt_of_lt_of_le (by omega) this
              · exact grown_setCells (o := l * 2) (cs := [.complex .f64 f2 f2', .complex .f64 f3 f3']) t4
            case measure => simp [intOf]; omega
        · have : l = n := by omega
          subst this
          obtain ⟨ua, hua, hza⟩ := hans k hkm
          obtain ⟨a1, a2, rfl, _⟩ := id hza
          obtain ⟨z, z', rfl, _⟩ := id hy
          have e9 : wr.cell? ⟨A, k, none⟩ = some (.complex .f64 a1 a2) := t4.cell hua (by intro e; have := Option.some.inj e; simp only at this; omega)
          have Hal := hide (alikeC hy hza)
          have HH := hide (And.intro t1 (And.intro t2 t4))
          clear hy hza hua t1 t2 t4 hans hG2 hX2 hv2 hbw2 p0 p1 p2 p3 p4
          go_wp2_with fail
          refine (unhide Hal wr).mono ?_
          rintro e w9 ⟨rfl, rfl⟩
          go_wp2
          go_roundw
          case rel =>
            obtain ⟨t1, t2, t4⟩ := unhide HH
            exact ⟨k + 1, T, by omega, by go_num, rfl, hT, t1, t2, t3, t4⟩
          case measure => simp [intOf]; omega
    · have : k = m := by omega
      subst this
      have hS2 : w1.heap.size ≤ w2.heap.size := hw2s
      have hGr := hG2.apart (Apart.snd w2.heap.size q4) (by omega) (by omega)
      rw [Nat.zero_add, ← unhide hT0] at hGr
      have Hch := hide (changedG hGr)
      have Hst := hide (statesG hGr hn)
      have hckN := wCntN_le ⟨fl, cp, mu⟩ G n sec rest0 X k
      have hbk : 6 * n * k ≤ 6 * 16 * 8796093022208 := Nat.mul_le_mul (by omega) (by omega)
      have bT : T0 ≤ 900000000000000 := by have := unhide hT0; omega
      have hbr : Below w.heap.size w wr := hbw2.grown q4 hbw2.size (by intro j e; have := Option.some.inj e; have := hbw2.size; omega)
      have HQ := hide (And.intro q1 hbr)
      clear q1 q2 q4 hGr hbr hans hG2 hX2 hv2 hbw2 p0 p1 p2 p3 p4 hckN hbk
      go_wp2_with fail
      refine (unhide Hch).mono ?_
      rintro e w9 ⟨rfl, rfl⟩
      go_wp2_with fail
      refine (unhide Hst).mono ?_
      rintro e w10 ⟨A10, rfl, hA3, hA4, hst10, hb10⟩
      obtain ⟨q1, hbr⟩ := unhide HQ
      have Hss := hide (states_any A10 w2.heap.size n n n _ w10 hn hst10 (q1.grown (below_grown hb10 none) (by simp)))
      have Hbe := hide (hbr.trans (hb10.mono hbr.size))
      clear hst10 hb10 q1 hbr HQ
      go_wp2_with fail
      refine (unhide Hss).mono ?_
      rintro e w11 ⟨rfl, hs11⟩
      have Hend := hide ((unhide Hbe).trans (hs11 _))
      clear hs11
      go_wp2
      go_ret
      exact ⟨rfl, unhide Hend⟩
end Go.Proofs.Ythafffnebaaeiaa
