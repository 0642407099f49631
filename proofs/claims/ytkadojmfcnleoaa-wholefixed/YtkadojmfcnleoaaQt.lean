/- What quavertop's cycles answers: true. -/
import Derived.Test.YtkadojmfcnleoaaQl
namespace Go.Proofs.Ytkadojmfcnleoaa
open Go.RowKit Go.Maps

def mkV (d0 d1 d2 d4 d5 _d6 d7 _d8 _d10 _d12 : Nat) (f : Fx) (sA sB : St) (n : Nat) (d : Nat) (v : Value) : Prop :=
  if d = d0 then v = vF f else if d = d1 then v = vS sA else if d = d2 then v = .int .i64 n else if d = d4 ∨ d = d5 then (∃ g, v = .tuple #[.slice (some ⟨g, 0, none⟩) n n, vS sB, .int .i64 (cN f sA (fun _ => 0) n)]) else if d = d7 then v = vS sB else True

set_option maxRecDepth 100000 in
set_option maxHeartbeats 8000000 in
theorem cycles_any (f : Fx) (st : St) (hf : fitsB f.bits = true) (hst : st.low) (w : World) :
    Calls Try.prog 8 #[vF f, vS st] w fun e w' => e = .returned (.bool true) ∧ Below w.heap.size w w' := by
  obtain ⟨i0, hi0, hz0, hz1, hz2⟩ := info_parts infoz_i64
  have Hc := hide (cycle_any f st 1000)
  have Hr := hide (fun n => run_any f st (fun _ => 0) (m := n) (c := n))
  have Hk := hide (kpS_same hst)
  have Hfit := hide hf
  clear hf hst
  unfold vF vS at *
  go_enter Try.func8, Try.ntmps8
  go_wp2_with fail
  refine (unhide Hc _).mono ?_
  rintro e w1 ⟨⟨a, b, er, rfl, hcyc⟩, hb1⟩
  have P1 := (PW.start w (aF f) (aS st)).later hb1
  have HP1 := hide P1
  clear P1 hb1 Hc
  rcases hcyc with ⟨h, rfl, rfl, rfl⟩ | ⟨_, _, _, ⟨rfl, rfl, rfl, _⟩ | ⟨rfl, A, C, rfl, rfl, hC, hle, hAC, hun⟩⟩
  · exfalso
    rcases h with h | h | h
    · omega
    · omega
    · rw [unhide Hfit] at h; cases h
  · go_wp2
    go_ret
    exact ⟨rfl, (unhide HP1).low⟩
  · rw [unhide Hk] at hAC hun
    have Hu := hide (And.intro hAC hun)
    clear hAC hun
    have hAC2 : A + C ≤ 1000 := by omega
    clear hle
    go_wp2_with (first
      | (refine wpList_make_full _ rfl _ _ 32 rfl w1.heap.size 2 i0 (.int .i64 0) 1 Try.underlying32 hi0 hz0 hz1 .i64 .i64 _ _ A rfl rfl rfl rfl (by rw [hz2]; omega) (by unfold maxLen; omega) (Nat.le_refl _) ?_; intro w2 hown hgr; have hb2 : Below w1.heap.size w1 w2 := ⟨hgr.os, hgr.tape, hgr.output, hgr.size, fun k hk => hgr.block k hk (by simp)⟩; obtain ⟨c0, c1, c2, c3, c4, c5, d0, d1, d2, d3⟩ := ((unhide HP1).later hb2).cells)
      | fail)
    rw [show (madeCells (Value.int IntKind.i64 0).cells (A * 1)).toList = List.replicate A (.int .i64 0) by rw [Nat.mul_one]; exact toList_madeCells_one _ _] at hown
    have Hin := hide (InAt_own hown)
    have HP2 := hide ((unhide HP1).later hb2)
    clear hown hgr hb2 HP1
    refine (unhide Hr A (some ⟨w1.heap.size, 0, none⟩) (by omega) _ (unhide Hin)).mono ?_
    rintro e w3 ⟨g3, rfl, _, _, hb3⟩
    have HP3 := hide ((unhide HP2).later hb3)
    obtain ⟨sA, hsA⟩ : ∃ sA, sN f st (fun _ => 0) A = sA := ⟨_, rfl⟩
    rw [hsA]
    have HsA : Hid (sA = so f st A) := by rw [← hsA]; exact sN_zero f st A
    clear hsA hb3 HP2 Hin c0 c1 c2 c3 c4 c5 d0 d1 d2 d3
    unfold vS
    go_wp2_with fail
    obtain ⟨N1, hN1⟩ : ∃ N, N = w3.heap.size := ⟨_, rfl⟩
    obtain ⟨w4, hw4⟩ : ∃ W, W = w3.alloc (Obj.cells #[.int .i64 sA.x1, .int .i64 sA.x2, .int .i64 sA.y1, .int .i64 sA.y2] 35) := ⟨_, rfl⟩
    rw [← hw4, ← hN1]
    have HA : Hid (Blk w4 N1 (aS sA) 35) := by rw [hw4, hN1]; exact Blk.alloc
    have HP : Hid (PW w (aF f) (aS st) w4) := by rw [hw4]; exact (unhide HP3).later (Joins.below_alloc1 _ _)
    have hN1w : w.heap.size + 1 < N1 := by rw [hN1]; exact (unhide HP3).st.lt
    clear hw4 hN1 HP3
    obtain ⟨sB, hsB⟩ : ∃ sB, sB = sA := ⟨_, rfl⟩
    have HsB : Hid (sN f sA (fun _ => 0) C = sB) := by
      have h1 := unhide HsA
      have h2 := (unhide Hu).1
      show sN f sA (fun _ => 0) C = sB
      rw [sN_zero, hsB, h1]
      exact (orb_shift (fun s => nxt f s 0) st A C).symm.trans h2
    have HsBA := hide hsB
    clear hsB
    rename_i K hK
    have HK := hide hK
    clear hK
    refine region_slotsA (mkV 61 62 63 65 60 66 67 68 12 14 f sA sB C) (mkC 13 64 w4 sB C) (by kernel_rfl) (by kernel_rfl) (by kernel_rfl) 89 (by kernel_rfl) rfl mkC.start ?_ ?_
    · intro listed a w1 i o hI ho hsz hl hd
      have hi : i < 13 := by simpa using (Array.getElem?_eq_some_iff.1 ho).1
      have hsz' : listed.size = 13 := by simpa using hsz
      have e2 : a.eval (.tmp 2) = .pointer (some ⟨w.heap.size, 0, none⟩) := (hI.base 2 (by kernel_rfl)).trans rfl
      have e10 : a.eval (.tmp 10) = .pointer (some ⟨N1, 0, none⟩) := (hI.base 10 (by kernel_rfl)).trans rfl
      have en : a.eval (.tmp 6) = .int .i64 C := (hI.base 6 (by kernel_rfl)).trans rfl
      have hc : mkC 13 64 w4 sB C listed a w1 := hI.world
      rcases (by omega : i = 0 ∨ i = 1 ∨ i = 2 ∨ i = 3 ∨ i = 4 ∨ i = 5 ∨ i = 6 ∨ i = 7 ∨ i = 8 ∨ i = 9 ∨ i = 10 ∨ i = 11 ∨ i = 12) with rfl | rfl | rfl | rfl | rfl | rfl | rfl | rfl | rfl | rfl | rfl | rfl | rfl
      all_goals obtain rfl := Option.some.inj ho
      · exact okR_load rfl e2 (loadFx _ _ _ _ _ _ _ _ ((unhide HP).later hc.1.1).sec) ⟨slotR rfl rfl, hc.same 0 (e := 61) rfl (by omega) (by omega) (by omega) (by omega) (by omega) (Below.refl _ _)⟩
      · exact okR_load rfl e10 (loadSt _ _ _ _ _ _ ((unhide HA).below hc.1.1 (unhide HA).lt)) ⟨slotR rfl rfl, hc.same 1 (e := 62) rfl (by omega) (by omega) (by omega) (by omega) (by omega) (Below.refl _ _)⟩
      · exact okR_move rfl en ⟨slotR rfl rfl, hc.same 2 (e := 63) rfl (by omega) (by omega) (by omega) (by omega) (by omega) (Below.refl _ _)⟩
      · have k1 := hI.slot 2 _ 63 rfl rfl (hd ⟨2, .data⟩ (by simp) rfl)
        exact okR_make rfl k1 k1 (by omega) (fun w' hb' hin' => ⟨slotR rfl trivial, hc.make hI.size (show 64 < 89 by omega) rfl (by omega) hb' hin'⟩)
      · have k1 := hI.slot 0 _ 61 rfl rfl (hd ⟨0, .data⟩ (by simp) rfl)
        have k2 := hI.slot 1 _ 62 rfl rfl (hd ⟨1, .data⟩ (by simp) rfl)
        have u11 : listed.getD 11 false = false := by
          cases h6 : listed.getD 11 false with
          | false => rfl
          | true =>
            exfalso
            have := hI.closed 11 _ rfl h6 ⟨4, .phase⟩ (by simp) rfl
            rw [unl hl hsz' (by omega)] at this
            cases this
        obtain ⟨g, k3, hin⟩ := hc.2 (hd ⟨3, .data⟩ (by simp) rfl) u11
        refine okR_call3 enter_run rfl k1 k2 k3 ((run_any f sA (fun _ => 0) (some ⟨g, 0, none⟩) C C (by omega) w1 hin).mono ?_)
        rintro e w' ⟨g', rfl, _, _, hb'⟩
        exact ⟨_, rfl, slotR rfl ⟨g', by rw [unhide HsB]⟩, hc.same 4 (e := 65) rfl (by omega) (by omega) (by omega) (by omega) (by omega) hb'⟩
      · obtain ⟨g', k1⟩ := hI.slot 4 _ 65 rfl rfl (hd ⟨4, .data⟩ (by simp) rfl)
        exact okR_move rfl k1 ⟨slotR rfl ⟨g', rfl⟩, hc.same 5 (e := 60) rfl (by omega) (by omega) (by omega) (by omega) (by omega) (Below.refl _ _)⟩
      · obtain ⟨g', k1⟩ := hI.slot 5 _ 60 rfl rfl (hd ⟨5, .data⟩ (by simp) rfl)
        exact okR_extract rfl k1 rfl ⟨slotR rfl trivial, hc.same 6 (e := 66) rfl (by omega) (by omega) (by omega) (by omega) (by omega) (Below.refl _ _)⟩
      · obtain ⟨g', k1⟩ := hI.slot 5 _ 60 rfl rfl (hd ⟨5, .data⟩ (by simp) rfl)
        exact okR_extract rfl k1 rfl ⟨slotR rfl rfl, hc.same 7 (e := 67) rfl (by omega) (by omega) (by omega) (by omega) (by omega) (Below.refl _ _)⟩
      · obtain ⟨g', k1⟩ := hI.slot 5 _ 60 rfl rfl (hd ⟨5, .data⟩ (by simp) rfl)
        exact okR_extract rfl k1 rfl ⟨slotR rfl trivial, hc.same 8 (e := 68) rfl (by omega) (by omega) (by omega) (by omega) (by omega) (Below.refl _ _)⟩
      · have u11 : listed.getD 11 false = false := by
          cases h6 : listed.getD 11 false with
          | false => rfl
          | true =>
            exfalso
            have := hI.closed 11 _ rfl h6 ⟨9, .phase⟩ (by simp) rfl
            rw [unl hl hsz' (by omega)] at this
            cases this
        exact okR_allocSt rfl ⟨slotR rfl trivial, hc.alloc hI.size (show 13 < 89 by omega) rfl (by omega) u11⟩
      · exact okR_assign rfl rfl ⟨slotR rfl trivial, hc.same 10 (e := 12) rfl (by omega) (by omega) (by omega) (by omega) (by omega) (Below.refl _ _)⟩
      · have k1 := hI.slot 7 _ 67 rfl rfl (hd ⟨7, .data⟩ (by simp) rfl)
        have l9 := hd ⟨9, .data⟩ (by simp) rfl
        obtain ⟨N, n1, n2, n3⟩ := hc.1.2 l9
        refine okR_store rfl n1 k1 (run_storeAt_mid w1 N 0 35 (aS sB) n3.there infoSt (by simp [aS, Value.oneCell'])) ⟨slotN rfl, hc.store rfl l9 n1 (by omega)⟩
      · exact okR_assign rfl rfl ⟨slotR rfl trivial, hc.same 12 (e := 14) rfl (by omega) (by omega) (by omega) (by omega) (by omega) (Below.refl _ _)⟩
    · intro listed a' w5 hI hall
      have hc : mkC 13 64 w4 sB C listed a' w5 := hI.world
      obtain ⟨⟨hb5, hN⟩, _⟩ := hc
      obtain ⟨N2, n1, n2, n3⟩ := hN (hall 9 (by decide))
      rw [hall 11 (by decide), if_pos rfl] at n3
      have E := act_lit a' 89 hI.size
      rw [hI.defers] at E
      replace E : a' = ⟨#[a'.eval (.tmp 0), a'.eval (.tmp 1), a'.eval (.tmp 2), a'.eval (.tmp 3), a'.eval (.tmp 4), a'.eval (.tmp 5), a'.eval (.tmp 6), a'.eval (.tmp 7), a'.eval (.tmp 8), a'.eval (.tmp 9), a'.eval (.tmp 10), a'.eval (.tmp 11), a'.eval (.tmp 12), a'.eval (.tmp 13), a'.eval (.tmp 14), a'.eval (.tmp 15), a'.eval (.tmp 16), a'.eval (.tmp 17), a'.eval (.tmp 18), a'.eval (.tmp 19), a'.eval (.tmp 20), a'.eval (.tmp 21), a'.eval (.tmp 22), a'.eval (.tmp 23), a'.eval (.tmp 24), a'.eval (.tmp 25), a'.eval (.tmp 26), a'.eval (.tmp 27), a'.eval (.tmp 28), a'.eval (.tmp 29), a'.eval (.tmp 30), a'.eval (.tmp 31), a'.eval (.tmp 32), a'.eval (.tmp 33), a'.eval (.tmp 34), a'.eval (.tmp 35), a'.eval (.tmp 36), a'.eval (.tmp 37), a'.eval (.tmp 38), a'.eval (.tmp 39), a'.eval (.tmp 40), a'.eval (.tmp 41), a'.eval (.tmp 42), a'.eval (.tmp 43), a'.eval (.tmp 44), a'.eval (.tmp 45), a'.eval (.tmp 46), a'.eval (.tmp 47), a'.eval (.tmp 48), a'.eval (.tmp 49), a'.eval (.tmp 50), a'.eval (.tmp 51), a'.eval (.tmp 52), a'.eval (.tmp 53), a'.eval (.tmp 54), a'.eval (.tmp 55), a'.eval (.tmp 56), a'.eval (.tmp 57), a'.eval (.tmp 58), a'.eval (.tmp 59), a'.eval (.tmp 60), a'.eval (.tmp 61), a'.eval (.tmp 62), a'.eval (.tmp 63), a'.eval (.tmp 64), a'.eval (.tmp 65), a'.eval (.tmp 66), a'.eval (.tmp 67), a'.eval (.tmp 68), a'.eval (.tmp 69), a'.eval (.tmp 70), a'.eval (.tmp 71), a'.eval (.tmp 72), a'.eval (.tmp 73), a'.eval (.tmp 74), a'.eval (.tmp 75), a'.eval (.tmp 76), a'.eval (.tmp 77), a'.eval (.tmp 78), a'.eval (.tmp 79), a'.eval (.tmp 80), a'.eval (.tmp 81), a'.eval (.tmp 82), a'.eval (.tmp 83), a'.eval (.tmp 84), a'.eval (.tmp 85), a'.eval (.tmp 86), a'.eval (.tmp 87), a'.eval (.tmp 88)], _⟩ := E
      rw [hI.base 0 (by kernel_rfl), hI.base 1 (by kernel_rfl), hI.base 2 (by kernel_rfl), hI.base 3 (by kernel_rfl), hI.base 4 (by kernel_rfl), hI.base 5 (by kernel_rfl), hI.base 6 (by kernel_rfl), hI.base 7 (by kernel_rfl), hI.base 8 (by kernel_rfl), hI.base 9 (by kernel_rfl), hI.base 10 (by kernel_rfl), hI.base 11 (by kernel_rfl), hI.base 15 (by kernel_rfl), hI.base 16 (by kernel_rfl), hI.base 17 (by kernel_rfl), hI.base 18 (by kernel_rfl), hI.base 19 (by kernel_rfl), hI.base 20 (by kernel_rfl), hI.base 21 (by kernel_rfl), hI.base 22 (by kernel_rfl), hI.base 23 (by kernel_rfl), hI.base 24 (by kernel_rfl), hI.base 25 (by kernel_rfl), hI.base 26 (by kernel_rfl), hI.base 27 (by kernel_rfl), hI.base 28 (by kernel_rfl), hI.base 29 (by kernel_rfl), hI.base 30 (by kernel_rfl), hI.base 31 (by kernel_rfl), hI.base 32 (by kernel_rfl), hI.base 33 (by kernel_rfl), hI.base 34 (by kernel_rfl), hI.base 35 (by kernel_rfl), hI.base 36 (by kernel_rfl), hI.base 37 (by kernel_rfl), hI.base 38 (by kernel_rfl), hI.base 39 (by kernel_rfl), hI.base 40 (by kernel_rfl), hI.base 41 (by kernel_rfl), hI.base 42 (by kernel_rfl), hI.base 43 (by kernel_rfl), hI.base 44 (by kernel_rfl), hI.base 45 (by kernel_rfl), hI.base 46 (by kernel_rfl), hI.base 47 (by kernel_rfl), hI.base 48 (by kernel_rfl), hI.base 49 (by kernel_rfl), hI.base 50 (by kernel_rfl), hI.base 51 (by kernel_rfl), hI.base 52 (by kernel_rfl), hI.base 53 (by kernel_rfl), hI.base 54 (by kernel_rfl), hI.base 55 (by kernel_rfl), hI.base 56 (by kernel_rfl), hI.base 57 (by kernel_rfl), hI.base 58 (by kernel_rfl), hI.base 59 (by kernel_rfl), hI.base 69 (by kernel_rfl), hI.base 70 (by kernel_rfl), hI.base 71 (by kernel_rfl), hI.base 72 (by kernel_rfl), hI.base 73 (by kernel_rfl), hI.base 74 (by kernel_rfl), hI.base 75 (by kernel_rfl), hI.base 76 (by kernel_rfl), hI.base 77 (by kernel_rfl), hI.base 78 (by kernel_rfl), hI.base 79 (by kernel_rfl), hI.base 80 (by kernel_rfl), hI.base 81 (by kernel_rfl), hI.base 82 (by kernel_rfl), hI.base 83 (by kernel_rfl), hI.base 84 (by kernel_rfl), hI.base 85 (by kernel_rfl), hI.base 86 (by kernel_rfl), hI.base 87 (by kernel_rfl), hI.base 88 (by kernel_rfl)] at E
      generalize a'.eval (.tmp 12) = y12 at E
      generalize a'.eval (.tmp 14) = y14 at E
      generalize a'.eval (.tmp 60) = y60 at E
      generalize a'.eval (.tmp 61) = y61 at E
      generalize a'.eval (.tmp 62) = y62 at E
      generalize a'.eval (.tmp 63) = y63 at E
      generalize a'.eval (.tmp 64) = y64 at E
      generalize a'.eval (.tmp 65) = y65 at E
      generalize a'.eval (.tmp 66) = y66 at E
      generalize a'.eval (.tmp 67) = y67 at E
      generalize a'.eval (.tmp 68) = y68 at E
      rw [n1] at E
      clear hI hall n1
      subst E
      refine unhide HK _ _ ?_
      clear HK
      have HP5 := hide ((unhide HP).later hb5)
      have HA5 := hide ((unhide HA).below hb5 (unhide HA).lt)
      obtain rfl := unhide HsBA
      have m0 : w5.cell? ⟨N2, 0, none⟩ = some (.int .i64 sB.x1) := n3.cell 0 rfl
      have m1 : w5.cell? ⟨N2, 1, none⟩ = some (.int .i64 sB.x2) := n3.cell 1 rfl
      have m2 : w5.cell? ⟨N2, 2, none⟩ = some (.int .i64 sB.y1) := n3.cell 2 rfl
      have m3 : w5.cell? ⟨N2, 3, none⟩ = some (.int .i64 sB.y2) := n3.cell 3 rfl
      have q0 : w5.cell? ⟨N1, 0, none⟩ = some (.int .i64 sB.x1) := (unhide HA5).cell 0 rfl
      have q1 : w5.cell? ⟨N1, 1, none⟩ = some (.int .i64 sB.x2) := (unhide HA5).cell 1 rfl
      have q2 : w5.cell? ⟨N1, 2, none⟩ = some (.int .i64 sB.y1) := (unhide HA5).cell 2 rfl
      have q3 : w5.cell? ⟨N1, 3, none⟩ = some (.int .i64 sB.y2) := (unhide HA5).cell 3 rfl
      clear hb5 n3 HP HA HsBA
      go_wp2_with fail
      clear m0 m1 m2 m3 q0 q1 q2 q3
      go_loopw [15] (fun i wr => ∃ k : Nat, i = .int .i64 k ∧ 1 ≤ k ∧ k ≤ max C 1 ∧ Hid (PW w (aF f) (aS st) wr) ∧ Hid (Blk wr N1 (aS sB) 35)) (fun i _ => C - (intOf i).toNat)
      case atStart => exact ⟨1, rfl, Nat.le_refl _, by omega, HP5, HA5⟩
      case round =>
        obtain ⟨k, rfl, hk1, hk2, HP, HA⟩ := hrel
        clear HP5 HA5 HsB
        by_cases hkC : (k : Int) < (C : Int)
        · obtain ⟨sA, hsA⟩ : ∃ sA, sA = sB := ⟨_, rfl⟩
          obtain ⟨s9, hs9⟩ : ∃ s9, sN f sB (fun _ => 0) k = s9 := ⟨_, rfl⟩
          have hne : s9 ≠ sB := by
            rw [← hs9, sN_zero, unhide HsA]
            intro e
            refine (unhide Hu).2 A (A + k) (by omega) (by omega) ?_
            exact e.symm.trans (orb_shift (fun s => nxt f s 0) st A k).symm
          have HsB : Hid (sN f sB (fun _ => 0) k = s9) := hs9
          have Hne := hide hne
          clear hsA hs9 hne sA
          go_wp2_with fail
          rename_i K hK
          have HK := hide hK
          clear hK
          refine region_slotsA (mkV 78 79 80 82 77 83 84 85 16 18 f sB s9 k) (mkC 17 81 wr s9 k) (by kernel_rfl) (by kernel_rfl) (by kernel_rfl) 89 (by kernel_rfl) rfl mkC.start ?_ ?_
          · intro listed a w1 i o hI ho hsz hl hd
            have hi : i < 13 := by simpa using (Array.getElem?_eq_some_iff.1 ho).1
            have hsz' : listed.size = 13 := by simpa using hsz
            have e2 : a.eval (.tmp 2) = .pointer (some ⟨w.heap.size, 0, none⟩) := (hI.base 2 (by kernel_rfl)).trans rfl
            have e10 : a.eval (.tmp 10) = .pointer (some ⟨N1, 0, none⟩) := (hI.base 10 (by kernel_rfl)).trans rfl
            have en : a.eval (.tmp 15) = .int .i64 k := (hI.base 15 (by kernel_rfl)).trans rfl
            have hc : mkC 17 81 wr s9 k listed a w1 := hI.world
            rcases (by omega : i = 0 ∨ i = 1 ∨ i = 2 ∨ i = 3 ∨ i = 4 ∨ i = 5 ∨ i = 6 ∨ i = 7 ∨ i = 8 ∨ i = 9 ∨ i = 10 ∨ i = 11 ∨ i = 12) with rfl | rfl | rfl | rfl | rfl | rfl | rfl | rfl | rfl | rfl | rfl | rfl | rfl
            all_goals obtain rfl := Option.some.inj ho
            · exact okR_load rfl e2 (loadFx _ _ _ _ _ _ _ _ ((unhide HP).later hc.1.1).sec) ⟨slotR rfl rfl, hc.same 0 (e := 78) rfl (by omega) (by omega) (by omega) (by omega) (by omega) (Below.refl _ _)⟩
            · exact okR_load rfl e10 (loadSt _ _ _ _ _ _ ((unhide HA).below hc.1.1 (unhide HA).lt)) ⟨slotR rfl rfl, hc.same 1 (e := 79) rfl (by omega) (by omega) (by omega) (by omega) (by omega) (Below.refl _ _)⟩
            · exact okR_move rfl en ⟨slotR rfl rfl, hc.same 2 (e := 80) rfl (by omega) (by omega) (by omega) (by omega) (by omega) (Below.refl _ _)⟩
            · have k1 := hI.slot 2 _ 80 rfl rfl (hd ⟨2, .data⟩ (by simp) rfl)
              exact okR_make rfl k1 k1 (by omega) (fun w' hb' hin' => ⟨slotR rfl trivial, hc.make hI.size (show 81 < 89 by omega) rfl (by omega) hb' hin'⟩)
            · have k1 := hI.slot 0 _ 78 rfl rfl (hd ⟨0, .data⟩ (by simp) rfl)
              have k2 := hI.slot 1 _ 79 rfl rfl (hd ⟨1, .data⟩ (by simp) rfl)
              have u11 : listed.getD 11 false = false := by
                cases h6 : listed.getD 11 false with
                | false => rfl
                | true =>
                  exfalso
                  have := hI.closed 11 _ rfl h6 ⟨4, .phase⟩ (by simp) rfl
                  rw [unl hl hsz' (by omega)] at this
                  cases this
              obtain ⟨g, k3, hin⟩ := hc.2 (hd ⟨3, .data⟩ (by simp) rfl) u11
              refine okR_call3 enter_run rfl k1 k2 k3 ((run_any f sB (fun _ => 0) (some ⟨g, 0, none⟩) k k (by omega) w1 hin).mono ?_)
              rintro e w' ⟨g', rfl, _, _, hb'⟩
              exact ⟨_, rfl, slotR rfl ⟨g', by rw [unhide HsB]⟩, hc.same 4 (e := 82) rfl (by omega) (by omega) (by omega) (by omega) (by omega) hb'⟩
            · obtain ⟨g', k1⟩ := hI.slot 4 _ 82 rfl rfl (hd ⟨4, .data⟩ (by simp) rfl)
              exact okR_move rfl k1 ⟨slotR rfl ⟨g', rfl⟩, hc.same 5 (e := 77) rfl (by omega) (by omega) (by omega) (by omega) (by omega) (Below.refl _ _)⟩
            · obtain ⟨g', k1⟩ := hI.slot 5 _ 77 rfl rfl (hd ⟨5, .data⟩ (by simp) rfl)
              exact okR_extract rfl k1 rfl ⟨slotR rfl trivial, hc.same 6 (e := 83) rfl (by omega) (by omega) (by omega) (by omega) (by omega) (Below.refl _ _)⟩
            · obtain ⟨g', k1⟩ := hI.slot 5 _ 77 rfl rfl (hd ⟨5, .data⟩ (by simp) rfl)
              exact okR_extract rfl k1 rfl ⟨slotR rfl rfl, hc.same 7 (e := 84) rfl (by omega) (by omega) (by omega) (by omega) (by omega) (Below.refl _ _)⟩
            · obtain ⟨g', k1⟩ := hI.slot 5 _ 77 rfl rfl (hd ⟨5, .data⟩ (by simp) rfl)
              exact okR_extract rfl k1 rfl ⟨slotR rfl trivial, hc.same 8 (e := 85) rfl (by omega) (by omega) (by omega) (by omega) (by omega) (Below.refl _ _)⟩
            · have u11 : listed.getD 11 false = false := by
                cases h6 : listed.getD 11 false with
                | false => rfl
                | true =>
                  exfalso
                  have := hI.closed 11 _ rfl h6 ⟨9, .phase⟩ (by simp) rfl
                  rw [unl hl hsz' (by omega)] at this
                  cases this
              exact okR_allocSt rfl ⟨slotR rfl trivial, hc.alloc hI.size (show 17 < 89 by omega) rfl (by omega) u11⟩
            · exact okR_assign rfl rfl ⟨slotR rfl trivial, hc.same 10 (e := 16) rfl (by omega) (by omega) (by omega) (by omega) (by omega) (Below.refl _ _)⟩
            · have k1 := hI.slot 7 _ 84 rfl rfl (hd ⟨7, .data⟩ (by simp) rfl)
              have l9 := hd ⟨9, .data⟩ (by simp) rfl
              obtain ⟨N, n1, n2, n3⟩ := hc.1.2 l9
              refine okR_store rfl n1 k1 (run_storeAt_mid w1 N 0 35 (aS s9) n3.there infoSt (by simp [aS, Value.oneCell'])) ⟨slotN rfl, hc.store rfl l9 n1 (by omega)⟩
            · exact okR_assign rfl rfl ⟨slotR rfl trivial, hc.same 12 (e := 18) rfl (by omega) (by omega) (by omega) (by omega) (by omega) (Below.refl _ _)⟩
          · intro listed a' w5 hI hall
            have hc : mkC 17 81 wr s9 k listed a' w5 := hI.world
            obtain ⟨⟨hb5, hN⟩, _⟩ := hc
            obtain ⟨N2, n1, n2, n3⟩ := hN (hall 9 (by decide))
            rw [hall 11 (by decide), if_pos rfl] at n3
            have E := act_lit a' 89 hI.size
            rw [hI.defers] at E
            replace E : a' = ⟨#[a'.eval (.tmp 0), a'.eval (.tmp 1), a'.eval (.tmp 2), a'.eval (.tmp 3), a'.eval (.tmp 4), a'.eval (.tmp 5), a'.eval (.tmp 6), a'.eval (.tmp 7), a'.eval (.tmp 8), a'.eval (.tmp 9), a'.eval (.tmp 10), a'.eval (.tmp 11), a'.eval (.tmp 12), a'.eval (.tmp 13), a'.eval (.tmp 14), a'.eval (.tmp 15), a'.eval (.tmp 16), a'.eval (.tmp 17), a'.eval (.tmp 18), a'.eval (.tmp 19), a'.eval (.tmp 20), a'.eval (.tmp 21), a'.eval (.tmp 22), a'.eval (.tmp 23), a'.eval (.tmp 24), a'.eval (.tmp 25), a'.eval (.tmp 26), a'.eval (.tmp 27), a'.eval (.tmp 28), a'.eval (.tmp 29), a'.eval (.tmp 30), a'.eval (.tmp 31), a'.eval (.tmp 32), a'.eval (.tmp 33), a'.eval (.tmp 34), a'.eval (.tmp 35), a'.eval (.tmp 36), a'.eval (.tmp 37), a'.eval (.tmp 38), a'.eval (.tmp 39), a'.eval (.tmp 40), a'.eval (.tmp 41), a'.eval (.tmp 42), a'.eval (.tmp 43), a'.eval (.tmp 44), a'.eval (.tmp 45), a'.eval (.tmp 46), a'.eval (.tmp 47), a'.eval (.tmp 48), a'.eval (.tmp 49), a'.eval (.tmp 50), a'.eval (.tmp 51), a'.eval (.tmp 52), a'.eval (.tmp 53), a'.eval (.tmp 54), a'.eval (.tmp 55), a'.eval (.tmp 56), a'.eval (.tmp 57), a'.eval (.tmp 58), a'.eval (.tmp 59), a'.eval (.tmp 60), a'.eval (.tmp 61), a'.eval (.tmp 62), a'.eval (.tmp 63), a'.eval (.tmp 64), a'.eval (.tmp 65), a'.eval (.tmp 66), a'.eval (.tmp 67), a'.eval (.tmp 68), a'.eval (.tmp 69), a'.eval (.tmp 70), a'.eval (.tmp 71), a'.eval (.tmp 72), a'.eval (.tmp 73), a'.eval (.tmp 74), a'.eval (.tmp 75), a'.eval (.tmp 76), a'.eval (.tmp 77), a'.eval (.tmp 78), a'.eval (.tmp 79), a'.eval (.tmp 80), a'.eval (.tmp 81), a'.eval (.tmp 82), a'.eval (.tmp 83), a'.eval (.tmp 84), a'.eval (.tmp 85), a'.eval (.tmp 86), a'.eval (.tmp 87), a'.eval (.tmp 88)], _⟩ := E
            rw [hI.base 0 (by kernel_rfl), hI.base 1 (by kernel_rfl), hI.base 2 (by kernel_rfl), hI.base 3 (by kernel_rfl), hI.base 4 (by kernel_rfl), hI.base 5 (by kernel_rfl), hI.base 6 (by kernel_rfl), hI.base 7 (by kernel_rfl), hI.base 8 (by kernel_rfl), hI.base 9 (by kernel_rfl), hI.base 10 (by kernel_rfl), hI.base 11 (by kernel_rfl), hI.base 12 (by kernel_rfl), hI.base 13 (by kernel_rfl), hI.base 14 (by kernel_rfl), hI.base 15 (by kernel_rfl), hI.base 19 (by kernel_rfl), hI.base 20 (by kernel_rfl), hI.base 21 (by kernel_rfl), hI.base 22 (by kernel_rfl), hI.base 23 (by kernel_rfl), hI.base 24 (by kernel_rfl), hI.base 25 (by kernel_rfl), hI.base 26 (by kernel_rfl), hI.base 27 (by kernel_rfl), hI.base 28 (by kernel_rfl), hI.base 29 (by kernel_rfl), hI.base 30 (by kernel_rfl), hI.base 31 (by kernel_rfl), hI.base 32 (by kernel_rfl), hI.base 33 (by kernel_rfl), hI.base 34 (by kernel_rfl), hI.base 35 (by kernel_rfl), hI.base 36 (by kernel_rfl), hI.base 37 (by kernel_rfl), hI.base 38 (by kernel_rfl), hI.base 39 (by kernel_rfl), hI.base 40 (by kernel_rfl), hI.base 41 (by kernel_rfl), hI.base 42 (by kernel_rfl), hI.base 43 (by kernel_rfl), hI.base 44 (by kernel_rfl), hI.base 45 (by kernel_rfl), hI.base 46 (by kernel_rfl), hI.base 47 (by kernel_rfl), hI.base 48 (by kernel_rfl), hI.base 49 (by kernel_rfl), hI.base 50 (by kernel_rfl), hI.base 51 (by kernel_rfl), hI.base 52 (by kernel_rfl), hI.base 53 (by kernel_rfl), hI.base 54 (by kernel_rfl), hI.base 55 (by kernel_rfl), hI.base 56 (by kernel_rfl), hI.base 57 (by kernel_rfl), hI.base 58 (by kernel_rfl), hI.base 59 (by kernel_rfl), hI.base 60 (by kernel_rfl), hI.base 61 (by kernel_rfl), hI.base 62 (by kernel_rfl), hI.base 63 (by kernel_rfl), hI.base 64 (by kernel_rfl), hI.base 65 (by kernel_rfl), hI.base 66 (by kernel_rfl), hI.base 67 (by kernel_rfl), hI.base 68 (by kernel_rfl), hI.base 69 (by kernel_rfl), hI.base 70 (by kernel_rfl), hI.base 71 (by kernel_rfl), hI.base 72 (by kernel_rfl), hI.base 73 (by kernel_rfl), hI.base 74 (by kernel_rfl), hI.base 75 (by kernel_rfl), hI.base 76 (by kernel_rfl), hI.base 86 (by kernel_rfl), hI.base 87 (by kernel_rfl), hI.base 88 (by kernel_rfl)] at E
            generalize a'.eval (.tmp 16) = y16 at E
            generalize a'.eval (.tmp 18) = y18 at E
            generalize a'.eval (.tmp 77) = y77 at E
            generalize a'.eval (.tmp 78) = y78 at E
            generalize a'.eval (.tmp 79) = y79 at E
            generalize a'.eval (.tmp 80) = y80 at E
            generalize a'.eval (.tmp 81) = y81 at E
            generalize a'.eval (.tmp 82) = y82 at E
            generalize a'.eval (.tmp 83) = y83 at E
            generalize a'.eval (.tmp 84) = y84 at E
            generalize a'.eval (.tmp 85) = y85 at E
            rw [n1] at E
            clear hI hall n1
            subst E
            refine unhide HK _ _ ?_
            clear HK
            have HP6 := hide ((unhide HP).later hb5)
            have HA6 := hide ((unhide HA).below hb5 (unhide HA).lt)
            have m0 : w5.cell? ⟨N2, 0, none⟩ = some (.int .i64 s9.x1) := n3.cell 0 rfl
            have m1 : w5.cell? ⟨N2, 1, none⟩ = some (.int .i64 s9.x2) := n3.cell 1 rfl
            have m2 : w5.cell? ⟨N2, 2, none⟩ = some (.int .i64 s9.y1) := n3.cell 2 rfl
            have m3 : w5.cell? ⟨N2, 3, none⟩ = some (.int .i64 s9.y2) := n3.cell 3 rfl
            have q0 : w5.cell? ⟨N1, 0, none⟩ = some (.int .i64 sB.x1) := (unhide HA6).cell 0 rfl
            have q1 : w5.cell? ⟨N1, 1, none⟩ = some (.int .i64 sB.x2) := (unhide HA6).cell 1 rfl
            have q2 : w5.cell? ⟨N1, 2, none⟩ = some (.int .i64 sB.y1) := (unhide HA6).cell 2 rfl
            have q3 : w5.cell? ⟨N1, 3, none⟩ = some (.int .i64 sB.y2) := (unhide HA6).cell 3 rfl
            clear hb5 n3 HP HA
            have ew : IntKind.i64.wrap ((k : Int) + 1) = (k : Int) + 1 := by rw [IntKind.wrap_i64]; omega
            rcases St.ne_cases (unhide Hne) with g2 | ⟨g2, g3⟩ | ⟨g2, g3, g4⟩ | ⟨g2, g3, g4, g5⟩
            all_goals
              go_wp2
              go_roundw
              case rel => exact ⟨k + 1, by go_num, by omega, by omega, HP6, HA6⟩
              case measure => simp [intOf]; omega
        · go_wp2
          go_ret
          exact ⟨rfl, (unhide HP).low⟩
end Go.Proofs.Ytkadojmfcnleoaa
