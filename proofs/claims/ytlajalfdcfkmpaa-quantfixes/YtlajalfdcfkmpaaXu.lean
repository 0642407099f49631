/- quaverref25's Round. -/
import Derived.Test.YtlajalfdcfkmpaaXv
namespace Go.Proofs.Ytlajalfdcfkmpaa
open Go.RowKit Go.Maps

theorem sgn_neg (R c : Int) : sgnI (R + -c) < 0 ↔ R < c := by
  unfold sgnI
  split
  · omega
  · split <;> omega
theorem sgn_pos (R c : Int) : 0 < sgnI (R + -c) ↔ c < R := by
  unfold sgnI
  split
  · omega
  · split <;> omega
def cmV (d0 d2 d3 d4 : Nat) (vf : Value) (S : Int) (tb : Bool) (d : Nat) (v : Value) : Prop :=
  if d = d0 then v = vf else if d = d2 then v = .int .i64 S else if d = d3 ∨ d = d4 then v = .bool tb else True
def sb4V (x : Value) : Nat → Value → Prop
  | 34, v => v = x
  | _, _ => True
theorem abs_odd (F : Int) : F.natAbs % 2 = 1 ↔ F % 2 = 1 := by omega
theorem QF.store2 {w0 w : World} {NB : Nat} {Rel : Int → Nat → Prop} {b f : Bool} {a1 a2 b1 b2 : Option Addr} {n1 c1 n2 c2 m1 d1 m2 d2 : Nat} (h : QR Rel w (.agg #[.bool b, .slice a1 n1 c1, .slice a2 n2 c2])) (hB : Blk w NB #[.bool f, .slice b1 m1 d1, .slice b2 m2 d2] 68) (hb : Below w0.heap.size w0 w) (hN : w0.heap.size ≤ NB) :
    QF w0 NB Rel (w.setCells NB 0 #[.bool b, .slice a1 n1 c1, .slice a2 n2 c2].toList) := by
  refine ⟨_, _, _, hB.cut rfl, ?_, Below.setCells hb hN 0 _⟩
  obtain ⟨z, t, ⟨vN, vD, e, h1, h2, h3⟩, hr⟩ := h
  cases e
  exact ⟨z, t, ⟨_, _, rfl, h1.storeQ hB _ _ _, h2.storeQ hB _ _ _, h3⟩, hr⟩
theorem sgn_zero (d : Int) : decide (sgnI d = 0) = decide (d = 0) := by
  unfold sgnI
  by_cases h : d = 0
  · rw [if_pos h]; simp [h]
  · rw [if_neg h]
    split <;> simp [h]
def rouV (FK n5 c5 d0 : Nat) (a5 : Option Addr) (tie tn : Bool) (vf va vh : Value) : Nat → Value → Prop
  | 14, v => v = vf
  | 15, v => v = va
  | 17, v => v = vh
  | 18, v => ∃ S : Int, v = .int .i64 S ∧ decide (S = 0) = tie
  | 19, v => v = .bool tie
  | 20, v => v = .bool tie
  | 21, v => tie = true → v = .pointer (some ⟨FK, 1, none⟩)
  | 22, v => tie = true → v = .slice a5 n5 c5
  | 23, v => tie = true → v = .int .i64 (n5 : Nat)
  | 24, v => tie = true → v = .bool (decide (0 < n5))
  | 25, v => v = .bool tn
  | 26, v => v = .bool tn
  | 27, v => tn = true → v = .pointer (some ⟨FK, 1, none⟩)
  | 28, v => tn = true → v = .slice a5 n5 c5
  | 29, v => tn = true → ∃ b off, a5 = some ⟨b, off, none⟩ ∧ v = .pointer (some ⟨b, off, none⟩)
  | 30, v => tn = true → v = .int .u64 (d0 : Nat)
  | 31, v => tn = true → v = .int .u64 ((d0 % 2 : Nat) : Int)
  | 32, v => tn = true → v = .bool (decide (d0 % 2 = 1))
  | 33, v => v = .bool (tn && decide (d0 % 2 = 1))
  | _, _ => True
theorem QA.low {w : World} {v : Value} {z : Int} {t : Nat} (h : QA w v z t) : t = 0 ∨ z % 2 = 1 := by
  obtain ⟨_, _, _, _, _, h⟩ := h
  exact h
theorem lt_b400 {z : Int} (h : z.natAbs < 4294967296) : z.natAbs < 4294967296 ^ 400 := lt_k 400 (by decide) h
set_option maxRecDepth 100000 in
set_option maxHeartbeats 4000000 in
theorem round_any {v : Value} {z : Int} {t : Nat} {w : World} (h : QA w v z t) (hz : z.natAbs < 4294967296 ^ 80) (ht : t ≤ 1100) :
    Calls Try.prog 31 #[v] w fun e w' => e = .returned (.tuple #[.int .i64 (kp (rnd z t)), .bool (offB (rnd z t))]) ∧ Below w.heap.size w w' := by
  obtain ⟨p1, m1, q1, p2, m2, q2, hv⟩ := h.form
  subst hv
  obtain ⟨R, hR⟩ : ∃ R, rnd z t = R := ⟨_, rfl⟩
  rw [hR]
  have HR := hide hR
  have HN1 := hide (num_any 1 (by unfold i64; omega))
  have HN2 := hide (num_any 2 (by unfold i64; omega))
  obtain ⟨A, hA⟩ : ∃ A, w.heap.size = A := ⟨_, rfl⟩
  obtain ⟨s, hs⟩ : ∃ s, decide (z < 0) = s := ⟨_, rfl⟩
  rw [hs] at h ⊢
  obtain ⟨W, hW⟩ : ∃ W, W = w.alloc (Obj.cells #[.bool s, .slice p1 m1 q1, .slice p2 m2 q2] 68) := ⟨_, rfl⟩
  have hBW : Below w.heap.size w W := by rw [hW]; exact Joins.below_alloc1 _ _
  have hBA : Blk W A #[.bool s, .slice p1 m1 q1, .slice p2 m2 q2] 68 := by rw [hW, ← hA]; exact Blk.alloc
  have HQ := hide (h.below hBW)
  have HW0 := hide (And.intro hBW hBA)
  have HA := hide hA
  clear h hR hs hBW hBA
  go_enter Try.func31, Try.ntmps31
  go_upto_region 1 with fail
  rw [← hW]
  clear hW hA
  go_wp2_with fail
  refine (unhide HN1 _).mono ?_
  rintro e w2 ⟨v2, rfl, hq2, hB2⟩
  have H2 := hide (And.intro hq2 hB2)
  clear hq2 hB2
  go_wp2_with fail
  refine (unhide HN2 _).mono ?_
  rintro e w3 ⟨v3, rfl, hq3, hB3⟩
  have HQu := hide (quoQ_any (k := 1) ((unhide H2).1.below hB3) hq3 rfl rfl (lt990 (by decide)) (by omega))
  have HB3 := hide ((unhide H2).2.trans (hB3.mono (unhide H2).2.size))
  clear hq3 hB3 H2 HN1 HN2
  go_wp2_with fail
  refine (unhide HQu).mono ?_
  rintro e w4 ⟨vh, zh, th, rfl, hqh, hth, hzh, hB4⟩
  obtain ⟨hz1, ht1⟩ := low_half hqh.low (by omega) (by rw [Nat.zero_add] at hzh; exact hzh)
  subst hz1 ht1
  obtain ⟨a3, n3, c3, a4, n4, c4, hvh⟩ := hqh.form
  subst hvh
  rw [show decide ((1 : Int) < 0) = false by decide] at hqh ⊢
  have H4 := hide (And.intro hqh ((unhide HB3).trans (hB4.mono (unhide HB3).size)))
  clear hqh hB4 hth hzh HQu HB3
  obtain ⟨HK, hHK⟩ : ∃ b, w4.heap.size = b := ⟨_, rfl⟩
  obtain ⟨W5, hW5⟩ : ∃ W5, W5 = w4.alloc (Obj.cells #[.bool false, .slice a3 n3 c3, .slice a4 n4 c4] 68) := ⟨_, rfl⟩
  have b45 : Below w4.heap.size w4 W5 := by rw [hW5]; exact Joins.below_alloc1 _ _
  have hBH : Blk W5 HK #[.bool false, .slice a3 n3 c3, .slice a4 n4 c4] 68 := by rw [hW5, ← hHK]; exact Blk.alloc
  have b05 : Below W.heap.size W W5 := (unhide H4).2.trans (b45.mono (unhide H4).2.size)
  have qH := (unhide H4).1.below b45
  have qA := (unhide HQ).below b05
  have hBA := (unhide HW0).2.below b05 (unhide HW0).2.lt
  go_upto_region 2 with fail
  rw [← hW5]
  have HAd := hide (addQ_any qA qH (lt_le (i := 80) (k := 400) hz (by decide)) (lt_b400 (by decide)) (by omega))
  have x0 := hBA.cell 0 rfl
  have x1 := hBA.cell 1 rfl
  have x2 := hBA.cell 2 rfl
  have y0 := hBH.cell 0 rfl
  have y1 := hBH.cell 1 rfl
  have y2 := hBH.cell 2 rfl
  have H5 := hide (And.intro hBH (And.intro hBA (And.intro qH (And.intro qA b05))))
  clear hW5 hHK b45 hBH b05 qH qA hBA H4 HQ
  go_wp2_with fail
  refine (unhide HAd).mono ?_
  rintro e w6 ⟨vs, zs, ts, rfl, hqs, hts, hzs, hB6⟩
  obtain ⟨g2, g3⟩ := sum_half hts hzs
  have g4 := b_sum hz ht g3
  have HFl := hide (floor_any hqs g4 (by omega))
  rw [g2] at HFl
  have HB6 := hide hB6
  clear hqs hts hzs hB6 g2 g3 g4 HAd x0 x1 x2 y0 y1 y2
  go_wp2_with fail
  refine (unhide HFl).mono ?_
  rintro e w7 ⟨vf, rfl, hqf, hB7⟩
  obtain ⟨F, hF⟩ : ∃ F, flo z t = F := ⟨_, rfl⟩
  rw [hF] at hqf
  obtain ⟨a5, n5, c5, a6, n6, c6, hvf⟩ := hqf.form
  subst hvf
  obtain ⟨sF, hsF⟩ : ∃ sF, decide (F < 0) = sF := ⟨_, rfl⟩
  rw [hsF] at hqf ⊢
  have HsF := hide hsF
  have HF := hide hF
  have hFb : F.natAbs < 4294967296 ^ 81 := by rw [← hF]; exact b_flo t hz
  have b56 : Below W5.heap.size W5 w7 := (unhide HB6).trans (hB7.mono (unhide HB6).size)
  obtain ⟨FK, hFK⟩ : ∃ b, w7.heap.size = b := ⟨_, rfl⟩
  obtain ⟨W8, hW8⟩ : ∃ W8, W8 = w7.alloc (Obj.cells #[.bool sF, .slice a5 n5 c5, .slice a6 n6 c6] 68) := ⟨_, rfl⟩
  have b78 : Below w7.heap.size w7 W8 := by rw [hW8]; exact Joins.below_alloc1 _ _
  have b58 : Below W5.heap.size W5 W8 := b56.trans (b78.mono b56.size)
  have jF : Blk W8 FK #[.bool sF, .slice a5 n5 c5, .slice a6 n6 c6] 68 := by rw [hW8, ← hFK]; exact Blk.alloc
  have qF := hqf.below b78
  have jH := (unhide H5).1.below b58 (unhide H5).1.lt
  have jA := (unhide H5).2.1.below b58 (unhide H5).2.1.lt
  have qH := (unhide H5).2.2.1.below b58
  have qA := (unhide H5).2.2.2.1.below b58
  have b08 : Below w.heap.size w W8 := ((unhide HW0).1.trans ((unhide H5).2.2.2.2.mono (unhide HW0).1.size)).trans (b58.mono ((unhide HW0).1.trans ((unhide H5).2.2.2.2.mono (unhide HW0).1.size)).size)
  have hFKw : w.heap.size ≤ FK := by
    rw [← hFK]
    exact (((unhide HW0).1.trans ((unhide H5).2.2.2.2.mono (unhide HW0).1.size)).trans (b56.mono ((unhide HW0).1.trans ((unhide H5).2.2.2.2.mono (unhide HW0).1.size)).size)).size
  go_upto_region 3 with fail
  rw [← hW8]
  clear hW8 hFK b56 b78 b58 hqf hB7 HFl HB6 H5 HW0 hsF hF
  rename_i K hK
  have HKK := hide hK
  clear hK
  obtain ⟨tie, hTie⟩ : ∃ tie, decide (2 * (F * 2 ^ t - z) = 2 ^ t) = tie := ⟨_, rfl⟩
  obtain ⟨tn, hTn⟩ : ∃ tn, (tie && decide (0 < n5)) = tn := ⟨_, rfl⟩
  have bF : F.natAbs < 4294967296 ^ 400 := lt_le (i := 81) (k := 400) hFb (by decide)
  have bz : z.natAbs < 4294967296 ^ 400 := lt_le (i := 80) (k := 400) hz (by decide)
  obtain ⟨vN, vD, eF, nF, nD, lF⟩ := qF
  obtain ⟨eF1, eF2, eF3⟩ : sF = decide (F < 0) ∧ Value.slice a5 n5 c5 = vN ∧ Value.slice a6 n6 c6 = vD := by
    injection eF with e; simpa using e
  subst eF2 eF3
  have hTnPos : tn = true → 0 < n5 := fun h => by
    rw [← hTn] at h
    simp only [Bool.and_eq_true, decide_eq_true_eq] at h
    exact h.2
  obtain ⟨d0, hd0⟩ : ∃ d0 : Nat, 0 < n5 → ∃ b off, a5 = some ⟨b, off, none⟩ ∧ b < W8.heap.size ∧ W8.cell? ⟨b, off, none⟩ = some (.int .u64 (d0 : Nat)) ∧ d0 % 2 = F.natAbs % 2 ∧ (F.natAbs < 4294967296 → d0 = F.natAbs ∧ n5 = 1) := by
    by_cases h : 0 < n5
    · obtain ⟨b, off, d, h1, h2, h3, h4⟩ := nF.first h
      exact ⟨d, fun _ => ⟨b, off, h1, World.block_lt_of_cell? _ _ h2, h2, h3, h4⟩⟩
    · exact ⟨0, fun h' => absurd h' h⟩
  have hDig : tn = true → ∃ b off, a5 = some ⟨b, off, none⟩ ∧ ∀ w1, Below W8.heap.size W8 w1 → w1.cell? ⟨b, off, none⟩ = some (.int .u64 (d0 : Nat)) := fun h => by
    obtain ⟨b, off, h1, h2, h3, _⟩ := hd0 (hTnPos h)
    exact ⟨b, off, h1, fun w1 hb => (hb.cell (by exact h2)).trans h3⟩
  have qF : QA W8 (.agg #[.bool sF, .slice a5 n5 c5, .slice a6 n6 c6]) F 0 := ⟨_, _, eF, nF, nD, lF⟩
  clear eF eF1 nD lF
  have hDb : ∀ (d : Int) (t' : Nat), t' ≤ t → d * 2 ^ (t - t') = F * 2 ^ t + -z * 2 ^ 0 → d.natAbs < 4294967296 ^ 400 := fun d t' h1 h2 => by
    have h3 : d.natAbs ≤ (F * 2 ^ t + -z * 2 ^ 0).natAbs := by
      rw [← h2, Int.natAbs_mul]
      exact Nat.le_mul_of_pos_right _ (Int.natAbs_pos.2 (Int.ne_of_gt (Int.pow_pos (by decide))))
    rw [Int.pow_zero, Int.mul_one] at h3
    exact b_diff h3 hFb hz ht
  refine region_slotsG (rouV FK n5 c5 d0 a5 tie tn (.agg #[.bool sF, .slice a5 n5 c5, .slice a6 n6 c6]) (.agg #[.bool s, .slice p1 m1 q1, .slice p2 m2 q2]) (.agg #[.bool false, .slice a3 n3 c3, .slice a4 n4 c4])) (kC W8 100 [⟨2, 16, fun w v => ∃ d t', QA w v d t' ∧ t' ≤ t ∧ d * 2 ^ (t - t') = F * 2 ^ t + -z * 2 ^ 0⟩] (fun _ => False)) (by kernel_rfl) (by kernel_rfl) (by kernel_rfl) 74 (by kernel_rfl) rfl kC.start ?_ ?_
  · intro listed a w1 i o hI ho hsz hl hd
    have hi : i < 20 := by simpa using (Array.getElem?_eq_some_iff.1 ho).1
    have hsz' : listed.size = 20 := by simpa using hsz
    have e1 : a.eval (.tmp 1) = .pointer (some ⟨A, 0, none⟩) := (hI.base 1 (by kernel_rfl)).trans rfl
    have e4 : a.eval (.tmp 4) = .pointer (some ⟨HK, 0, none⟩) := (hI.base 4 (by kernel_rfl)).trans rfl
    have e5 : a.eval (.tmp 5) = .pointer (some ⟨FK, 0, none⟩) := (hI.base 5 (by kernel_rfl)).trans rfl
    have hc : kC W8 100 [⟨2, 16, fun w v => ∃ d t', QA w v d t' ∧ t' ≤ t ∧ d * 2 ^ (t - t') = F * 2 ^ t + -z * 2 ^ 0⟩] (fun _ => False) listed a w1 := hI.world
    have lk : listed.getD 100 false = false := by rw [Array.getD_eq_getD_getElem?, Array.getElem?_eq_none (by omega)]; rfl
    obtain ⟨hB0, hps⟩ := hc.1 lk
    have kA := jA.below hB0 jA.lt
    have kH := jH.below hB0 jH.lt
    have kF := jF.below hB0 jF.lt
    rcases (by omega : i = 0 ∨ i = 1 ∨ i = 2 ∨ i = 3 ∨ i = 4 ∨ i = 5 ∨ i = 6 ∨ i = 7 ∨ i = 8 ∨ i = 9 ∨ i = 10 ∨ i = 11 ∨ i = 12 ∨ i = 13 ∨ i = 14 ∨ i = 15 ∨ i = 16 ∨ i = 17 ∨ i = 18 ∨ i = 19) with rfl | rfl | rfl | rfl | rfl | rfl | rfl | rfl | rfl | rfl | rfl | rfl | rfl | rfl | rfl | rfl | rfl | rfl | rfl | rfl
    all_goals obtain rfl := Option.some.inj ho
    · exact .inl ⟨wanted_none rfl, okR_load rfl e5 (loadQ _ _ _ _ _ _ _ _ _ kF) ⟨slotR rfl rfl, hc.same 0 rfl (by decide) (by simp)⟩⟩
    · exact .inl ⟨wanted_none rfl, okR_load rfl e1 (loadQ _ _ _ _ _ _ _ _ _ kA) ⟨slotR rfl rfl, hc.same 1 rfl (by decide) (by simp)⟩⟩
    · have k1 := hI.slot 0 _ 14 rfl rfl (hd ⟨0, .data⟩ (by simp) rfl)
      have k2 := hI.slot 1 _ 15 rfl rfl (hd ⟨1, .data⟩ (by simp) rfl)
      refine .inl ⟨wanted_none rfl, okR_call2 enter_SubQ rfl k1 k2 ((subQ_any (qF.below hB0) (qA.below hB0) bF bz (by omega)).mono ?_)⟩
      rintro e w' ⟨v, d, t', rfl, hq, h3, h4, hB⟩
      rw [Nat.zero_add] at h3 h4
      refine ⟨v, rfl, slotR rfl trivial, hc.made lk 2 hI.size (show 16 < 74 by omega) rfl (by decide) hB ?_ ?_⟩
      · intro c hc' he
        simp only [List.mem_cons, List.mem_nil_iff, or_false] at hc'
        subst hc'
        exact ⟨rfl, d, t', hq, h3, h4⟩
      · intro c hc' hne
        simp only [List.mem_cons, List.mem_nil_iff, or_false] at hc'
        subst hc'
        exact absurd rfl hne
    · exact .inl ⟨wanted_none rfl, okR_load rfl e4 (loadQ _ _ _ _ _ _ _ _ _ kH) ⟨slotR rfl rfl, hc.same 3 rfl (by decide) (by simp)⟩⟩
    · have k2 := hI.slot 3 _ 17 rfl rfl (hd ⟨3, .data⟩ (by simp) rfl)
      obtain ⟨d, t', hq, h3, h4⟩ := hps ⟨2, 16, fun w v => ∃ d t', QA w v d t' ∧ t' ≤ t ∧ d * 2 ^ (t - t') = F * 2 ^ t + -z * 2 ^ 0⟩ (by simp) (hd ⟨2, .data⟩ (by simp) rfl)
      refine .inl ⟨wanted_none rfl, okR_call2 enter_CmpQ rfl rfl k2 ((cmpQ_any hq (qH.below hB0) (hDb d t' h3 h4) (lt_b400 (by decide)) (by omega)).mono ?_)⟩
      rintro e w' ⟨rfl, hB⟩
      refine ⟨_, rfl, slotR rfl ⟨_, rfl, ?_⟩, hc.made lk 4 hI.size (show 18 < 74 by omega) rfl (by decide) hB (by simp) ?_⟩
      · rw [← hTie, sgn_zero]
        exact decide_eq_decide.2 (diff_half h3 h4)
      · intro c hc' hne
        simp only [List.mem_cons, List.mem_nil_iff, or_false] at hc'
        subst hc'
        exact ⟨by simp, fun x ⟨d, t', g1, g2⟩ => ⟨d, t', g1.below hB, g2⟩⟩
    · obtain ⟨S, k1, k2⟩ := hI.slot 4 _ 18 rfl rfl (hd ⟨4, .data⟩ (by simp) rfl)
      exact .inl ⟨wanted_none rfl, okR_eq0 rfl k1 ⟨slotR rfl (by rw [k2]; rfl), hc.same 5 rfl (by decide) (by simp)⟩⟩
    · have k1 := hI.slot 5 _ 19 rfl rfl (hd ⟨5, .data⟩ (by simp) rfl)
      exact .inl ⟨wanted_none rfl, okR_move rfl k1 ⟨slotR rfl rfl, hc.same 6 rfl (by decide) (by simp)⟩⟩
    · by_cases htie : tie = true
      · exact .inl ⟨wanted_yes rfl rfl rfl ((hI.slot 6 _ 20 rfl rfl (hd ⟨6, .guard⟩ (by simp) rfl)).trans (by rw [htie])), okR_field rfl e5 (fieldQ _ 1 (by decide) _) ⟨slotR rfl (fun _ => rfl), hc.same 7 rfl (by decide) (by simp)⟩⟩
      · have htief : tie = false := by simpa using htie
        exact .inr ⟨wanted_not rfl rfl rfl ((hI.slot 6 _ 20 rfl rfl (hd ⟨6, .guard⟩ (by simp) rfl)).trans (by rw [htief])), slotR rfl (fun h => absurd h htie), hc.same 7 rfl (by decide) (by simp)⟩
    · by_cases htie : tie = true
      · have k1 := (hI.slot 7 _ 21 rfl rfl (hd ⟨7, .data⟩ (by simp) rfl)) htie
        exact .inl ⟨wanted_yes rfl rfl rfl ((hI.slot 6 _ 20 rfl rfl (hd ⟨6, .guard⟩ (by simp) rfl)).trans (by rw [htie])), okR_load rfl k1 (loadL _ _ _ _ _ (kF.cell 1 rfl)) ⟨slotR rfl (fun _ => rfl), hc.same 8 rfl (by decide) (by simp)⟩⟩
      · have htief : tie = false := by simpa using htie
        exact .inr ⟨wanted_not rfl rfl rfl ((hI.slot 6 _ 20 rfl rfl (hd ⟨6, .guard⟩ (by simp) rfl)).trans (by rw [htief])), slotR rfl (fun h => absurd h htie), hc.same 8 rfl (by decide) (by simp)⟩
    · by_cases htie : tie = true
      · have k1 := (hI.slot 8 _ 22 rfl rfl (hd ⟨8, .data⟩ (by simp) rfl)) htie
        exact .inl ⟨wanted_yes rfl rfl rfl ((hI.slot 6 _ 20 rfl rfl (hd ⟨6, .guard⟩ (by simp) rfl)).trans (by rw [htie])), okR_len rfl rfl k1 ⟨slotR rfl (fun _ => rfl), hc.same 9 rfl (by decide) (by simp)⟩⟩
      · have htief : tie = false := by simpa using htie
        exact .inr ⟨wanted_not rfl rfl rfl ((hI.slot 6 _ 20 rfl rfl (hd ⟨6, .guard⟩ (by simp) rfl)).trans (by rw [htief])), slotR rfl (fun h => absurd h htie), hc.same 9 rfl (by decide) (by simp)⟩
    · by_cases htie : tie = true
      · have k1 := (hI.slot 9 _ 23 rfl rfl (hd ⟨9, .data⟩ (by simp) rfl)) htie
        exact .inl ⟨wanted_yes rfl rfl rfl ((hI.slot 6 _ 20 rfl rfl (hd ⟨6, .guard⟩ (by simp) rfl)).trans (by rw [htie])), okR_gt0 rfl k1 ⟨slotR rfl (fun _ => rfl), hc.same 10 rfl (by decide) (by simp)⟩⟩
      · have htief : tie = false := by simpa using htie
        exact .inr ⟨wanted_not rfl rfl rfl ((hI.slot 6 _ 20 rfl rfl (hd ⟨6, .guard⟩ (by simp) rfl)).trans (by rw [htief])), slotR rfl (fun h => absurd h htie), hc.same 10 rfl (by decide) (by simp)⟩
    · have k1 := hI.slot 6 _ 20 rfl rfl (hd ⟨6, .data⟩ (by simp) rfl)
      by_cases htie : tie = true
      · have k2 := (hI.slot 10 _ 24 rfl rfl (hd ⟨10, .data⟩ (by simp) rfl)) htie
        exact .inl ⟨wanted_none rfl, okR_pickT rfl (k1.trans (by rw [htie])) k2 ⟨slotR rfl (by rw [← hTn, htie]; rfl), hc.same 11 rfl (by decide) (by simp)⟩⟩
      · have htief : tie = false := by simpa using htie
        exact .inl ⟨wanted_none rfl, okR_pickF rfl (k1.trans (by rw [htief])) rfl ⟨slotR rfl (by rw [← hTn, htief]; rfl), hc.same 11 rfl (by decide) (by simp)⟩⟩
    · have k1 := hI.slot 11 _ 25 rfl rfl (hd ⟨11, .data⟩ (by simp) rfl)
      exact .inl ⟨wanted_none rfl, okR_move rfl k1 ⟨slotR rfl rfl, hc.same 12 rfl (by decide) (by simp)⟩⟩
    · by_cases htn : tn = true
      · exact .inl ⟨wanted_yes rfl rfl rfl ((hI.slot 12 _ 26 rfl rfl (hd ⟨12, .guard⟩ (by simp) rfl)).trans (by rw [htn])), okR_field rfl e5 (fieldQ _ 1 (by decide) _) ⟨slotR rfl (fun _ => rfl), hc.same 13 rfl (by decide) (by simp)⟩⟩
      · have htnf : tn = false := by simpa using htn
        exact .inr ⟨wanted_not rfl rfl rfl ((hI.slot 12 _ 26 rfl rfl (hd ⟨12, .guard⟩ (by simp) rfl)).trans (by rw [htnf])), slotR rfl (fun h => absurd h htn), hc.same 13 rfl (by decide) (by simp)⟩
    · by_cases htn : tn = true
      · have k1 := (hI.slot 13 _ 27 rfl rfl (hd ⟨13, .data⟩ (by simp) rfl)) htn
        exact .inl ⟨wanted_yes rfl rfl rfl ((hI.slot 12 _ 26 rfl rfl (hd ⟨12, .guard⟩ (by simp) rfl)).trans (by rw [htn])), okR_load rfl k1 (loadL _ _ _ _ _ (kF.cell 1 rfl)) ⟨slotR rfl (fun _ => rfl), hc.same 14 rfl (by decide) (by simp)⟩⟩
      · have htnf : tn = false := by simpa using htn
        exact .inr ⟨wanted_not rfl rfl rfl ((hI.slot 12 _ 26 rfl rfl (hd ⟨12, .guard⟩ (by simp) rfl)).trans (by rw [htnf])), slotR rfl (fun h => absurd h htn), hc.same 14 rfl (by decide) (by simp)⟩
    · by_cases htn : tn = true
      · have k1 := (hI.slot 14 _ 28 rfl rfl (hd ⟨14, .data⟩ (by simp) rfl)) htn
        obtain ⟨b, off, ea, hc0⟩ := hDig htn
        rw [ea] at k1
        exact .inl ⟨wanted_yes rfl rfl rfl ((hI.slot 12 _ 26 rfl rfl (hd ⟨12, .guard⟩ (by simp) rfl)).trans (by rw [htn])), okR_idx0 rfl k1 (hTnPos htn) ⟨slotR rfl (fun _ => ⟨b, off, ea, rfl⟩), hc.same 15 rfl (by decide) (by simp)⟩⟩
      · have htnf : tn = false := by simpa using htn
        exact .inr ⟨wanted_not rfl rfl rfl ((hI.slot 12 _ 26 rfl rfl (hd ⟨12, .guard⟩ (by simp) rfl)).trans (by rw [htnf])), slotR rfl (fun h => absurd h htn), hc.same 15 rfl (by decide) (by simp)⟩
    · by_cases htn : tn = true
      · obtain ⟨b, off, ea, k1⟩ := (hI.slot 15 _ 29 rfl rfl (hd ⟨15, .data⟩ (by simp) rfl)) htn
        obtain ⟨b2, off2, ea2, hc0⟩ := hDig htn
        rw [ea] at ea2
        simp only [Option.some.injEq, Addr.mk.injEq, and_true] at ea2
        obtain ⟨rfl, rfl⟩ := ea2
        exact .inl ⟨wanted_yes rfl rfl rfl ((hI.slot 12 _ 26 rfl rfl (hd ⟨12, .guard⟩ (by simp) rfl)).trans (by rw [htn])), okR_load rfl k1 (loadU _ _ _ (hc0 w1 hB0)) ⟨slotR rfl (fun _ => rfl), hc.same 16 rfl (by decide) (by simp)⟩⟩
      · have htnf : tn = false := by simpa using htn
        exact .inr ⟨wanted_not rfl rfl rfl ((hI.slot 12 _ 26 rfl rfl (hd ⟨12, .guard⟩ (by simp) rfl)).trans (by rw [htnf])), slotR rfl (fun h => absurd h htn), hc.same 16 rfl (by decide) (by simp)⟩
    · by_cases htn : tn = true
      · have k1 := (hI.slot 16 _ 30 rfl rfl (hd ⟨16, .data⟩ (by simp) rfl)) htn
        exact .inl ⟨wanted_yes rfl rfl rfl ((hI.slot 12 _ 26 rfl rfl (hd ⟨12, .guard⟩ (by simp) rfl)).trans (by rw [htn])), okR_rem2 rfl k1 ⟨slotR rfl (fun _ => rfl), hc.same 17 rfl (by decide) (by simp)⟩⟩
      · have htnf : tn = false := by simpa using htn
        exact .inr ⟨wanted_not rfl rfl rfl ((hI.slot 12 _ 26 rfl rfl (hd ⟨12, .guard⟩ (by simp) rfl)).trans (by rw [htnf])), slotR rfl (fun h => absurd h htn), hc.same 17 rfl (by decide) (by simp)⟩
    · by_cases htn : tn = true
      · have k1 := (hI.slot 17 _ 31 rfl rfl (hd ⟨17, .data⟩ (by simp) rfl)) htn
        exact .inl ⟨wanted_yes rfl rfl rfl ((hI.slot 12 _ 26 rfl rfl (hd ⟨12, .guard⟩ (by simp) rfl)).trans (by rw [htn])), okR_eq1 rfl k1 ⟨slotR rfl (fun _ => rfl), hc.same 18 rfl (by decide) (by simp)⟩⟩
      · have htnf : tn = false := by simpa using htn
        exact .inr ⟨wanted_not rfl rfl rfl ((hI.slot 12 _ 26 rfl rfl (hd ⟨12, .guard⟩ (by simp) rfl)).trans (by rw [htnf])), slotR rfl (fun h => absurd h htn), hc.same 18 rfl (by decide) (by simp)⟩
    · have k1 := hI.slot 12 _ 26 rfl rfl (hd ⟨12, .data⟩ (by simp) rfl)
      by_cases htn : tn = true
      · have k2 := (hI.slot 18 _ 32 rfl rfl (hd ⟨18, .data⟩ (by simp) rfl)) htn
        exact .inl ⟨wanted_none rfl, okR_pickT rfl (k1.trans (by rw [htn])) k2 ⟨slotR rfl (by rw [htn]; rfl), hc.same 19 rfl (by decide) (by simp)⟩⟩
      · have htnf : tn = false := by simpa using htn
        exact .inl ⟨wanted_none rfl, okR_pickF rfl (k1.trans (by rw [htnf])) rfl ⟨slotR rfl (by rw [htnf]; rfl), hc.same 19 rfl (by decide) (by simp)⟩⟩
  · intro listed a' w9 hI hall
    have lk : listed.getD 100 false = false := by
      cases h : listed.getD 100 false with
      | false => rfl
      | true => exact (hI.world.2 h).elim
    obtain ⟨hB9, _⟩ := hI.world.1 lk
    have k33 := hI.slot 19 _ 33 rfl rfl (hall 19 (by decide))
    obtain ⟨up, hup⟩ : ∃ up, (tn && decide (d0 % 2 = 1)) = up := ⟨_, rfl⟩
    have k33' : a'.eval (.tmp 33) = .bool up := by rw [← hup]; exact k33
    have HUp : Hid (R = if up = true then F - 1 else F) := by
      show R = _
      rw [← unhide HR, rnd_flo, unhide HF]
      have hiff : (2 * (F * 2 ^ t - z) = 2 ^ t ∧ F % 2 = 1) ↔ up = true := by
        rw [← hup, ← hTn, ← hTie]
        simp only [Bool.and_eq_true, decide_eq_true_eq]
        have hn := nF.form
        obtain ⟨_, _, _, e0, hn⟩ := hn
        cases e0
        constructor
        · rintro ⟨g1, g2⟩
          have g3 : 0 < n5 := Nat.pos_of_ne_zero (fun e => by
            have := hn.1 e
            rw [Int.natAbs_eq_zero] at this
            rw [this] at g2
            exact absurd g2 (by decide))
          obtain ⟨_, _, _, _, _, g4, _⟩ := hd0 g3
          exact ⟨⟨g1, g3⟩, g4.trans ((abs_odd F).2 g2)⟩
        · rintro ⟨⟨g1, g3⟩, g4⟩
          obtain ⟨_, _, _, _, _, g5, _⟩ := hd0 g3
          exact ⟨g1, (abs_odd F).1 (g5.symm.trans g4)⟩
      by_cases h : up = true
      · rw [if_pos (hiff.2 h), if_pos h]
      · rw [if_neg (fun g => h (hiff.1 g)), if_neg h]
    have E := hI.frame [14, 15, 16, 17, 18, 19, 20, 21, 22, 23, 24, 25, 26, 27, 28, 29, 30, 31, 32, 33] (by kernel_rfl)
    simp only [putAll] at E
    generalize a'.eval (.tmp 14) = y14 at E
    generalize a'.eval (.tmp 15) = y15 at E
    generalize a'.eval (.tmp 16) = y16 at E
    generalize a'.eval (.tmp 17) = y17 at E
    generalize a'.eval (.tmp 18) = y18 at E
    generalize a'.eval (.tmp 19) = y19 at E
    generalize a'.eval (.tmp 20) = y20 at E
    generalize a'.eval (.tmp 21) = y21 at E
    generalize a'.eval (.tmp 22) = y22 at E
    generalize a'.eval (.tmp 23) = y23 at E
    generalize a'.eval (.tmp 24) = y24 at E
    generalize a'.eval (.tmp 25) = y25 at E
    generalize a'.eval (.tmp 26) = y26 at E
    generalize a'.eval (.tmp 27) = y27 at E
    generalize a'.eval (.tmp 28) = y28 at E
    generalize a'.eval (.tmp 29) = y29 at E
    generalize a'.eval (.tmp 30) = y30 at E
    generalize a'.eval (.tmp 31) = y31 at E
    generalize a'.eval (.tmp 32) = y32 at E
    rw [k33'] at E
    simp only [Act.put, List.setIfInBounds_toArray, List.set_cons_zero, List.set_cons_succ] at E
    clear hI hall k33 k33' lk hup
    subst E
    refine unhide HKK _ _ ?_
    clear HKK hTie hTn hDig hd0 hTnPos hDb HF HR
    have hB9w : Below w.heap.size w w9 := b08.trans (hB9.mono b08.size)
    have jF9 := jF.below hB9 jF.lt
    have qF9 := qF.below hB9
    have H9 := hide (And.intro jF9 (And.intro qF9 hB9w))
    clear hB9 jA jH jF qA qH qF nF b08
    go_upto_if 33 with fail
    go_cut [33] (fun _ wx => Hid (∃ b a1 n1 c1 a2 n2 c2, Blk wx FK #[.bool b, .slice a1 n1 c1, .slice a2 n2 c2] 68 ∧ QA wx (.agg #[.bool b, .slice a1 n1 c1, .slice a2 n2 c2]) R 0 ∧ Below w.heap.size w wx))
    case first => as_aux_lemma =>
      cases up with
      | false =>
        have hRF : R = F := by have := unhide HUp; simpa using this
        have HRF := hide hRF
        clear hRF HUp
        go_wp2_with fail
        go_meet
        exact ⟨_, _, _, _, _, _, _, (unhide H9).1, by rw [unhide HRF]; exact (unhide H9).2.1, (unhide H9).2.2⟩
      | true =>
        have hRF : R = F - 1 := by have := unhide HUp; simpa using this
        have HRF := hide hRF
        clear hRF HUp
        obtain ⟨jF9, qF9, hB9w⟩ := unhide H9
        obtain ⟨Rel, hRelD⟩ : ∃ Rel : Int → Nat → Prop, Rel = fun z' t' => z' = R ∧ t' = 0 := ⟨_, rfl⟩
        go_upto_region 4 with fail
        refine region_slotsA (sb4V (.agg #[.bool sF, .slice a5 n5 c5, .slice a6 n6 c6])) (kC w9 3 [⟨1, 35, fun w v => QA w v 1 0⟩, ⟨2, 36, QR Rel⟩] (QF w FK Rel)) (by kernel_rfl) (by kernel_rfl) (by kernel_rfl) 74 (by kernel_rfl) rfl kC.start ?_ ?_
        · intro listed a w1 i o hI ho hsz hl hd
          have hi : i < 4 := by simpa using (Array.getElem?_eq_some_iff.1 ho).1
          have hsz' : listed.size = 4 := by simpa using hsz
          have e5 : a.eval (.tmp 5) = .pointer (some ⟨FK, 0, none⟩) := (hI.base 5 (by kernel_rfl)).trans rfl
          have hc : kC w9 3 [⟨1, 35, fun w v => QA w v 1 0⟩, ⟨2, 36, QR Rel⟩] (QF w FK Rel) listed a w1 := hI.world
          have lk : listed.getD 3 false = false := hI.notYet hsz' 3 rfl (by kernel_rfl) hi hl
          obtain ⟨hB0, hps⟩ := hc.1 lk
          have kF := jF9.below hB0 jF9.lt
          rcases (by omega : i = 0 ∨ i = 1 ∨ i = 2 ∨ i = 3) with rfl | rfl | rfl | rfl
          all_goals obtain rfl := Option.some.inj ho
          · exact okR_load rfl e5 (loadQ _ _ _ _ _ _ _ _ _ kF) ⟨slotR rfl rfl, hc.same 0 rfl (by decide) (by simp)⟩
          · refine okR_call1 enter_Num rfl rfl ((num_any 1 (by unfold i64; omega) _).mono ?_)
            rintro e w' ⟨v, rfl, hv, hB⟩
            refine ⟨v, rfl, slotR rfl trivial, hc.made lk 1 hI.size (show 35 < 74 by omega) rfl (by decide) hB ?_ ?_⟩
            · intro c hc' he
              simp only [List.mem_cons, List.mem_nil_iff, or_false] at hc'
              rcases hc' with rfl | rfl
              · exact ⟨rfl, hv⟩
              · simp at he
            · intro c hc' hne
              simp only [List.mem_cons, List.mem_nil_iff, or_false] at hc'
              rcases hc' with rfl | rfl
              · exact absurd rfl hne
              · exact ⟨by simp, QR.keep _ _ hB⟩
          · have k1 := hI.slot 0 _ 34 rfl rfl (hd ⟨0, .data⟩ (by simp) rfl)
            have j1 := hps ⟨1, 35, fun w v => QA w v 1 0⟩ (by simp) (hd ⟨1, .data⟩ (by simp) rfl)
            refine okR_call2 enter_SubQ rfl k1 rfl ((subQ_any (qF9.below hB0) j1 bF (lt_b400 (by decide)) (by omega)).mono ?_)
            rintro e w' ⟨v, z', t', rfl, hq, h3, h4, hB⟩
            have hv : QR Rel w' v := by
              obtain rfl : t' = 0 := by omega
              refine ⟨z', 0, hq, ?_⟩
              rw [hRelD]
              refine ⟨?_, rfl⟩
              rw [unhide HRF]
              simp only [Nat.add_zero, Nat.sub_zero, Int.pow_zero, Int.mul_one] at h4
              omega
            refine ⟨v, rfl, slotR rfl trivial, hc.made lk 2 hI.size (show 36 < 74 by omega) rfl (by decide) hB ?_ ?_⟩
            · intro c hc' he
              simp only [List.mem_cons, List.mem_nil_iff, or_false] at hc'
              rcases hc' with rfl | rfl
              · simp at he
              · exact ⟨rfl, hv⟩
            · intro c hc' hne
              simp only [List.mem_cons, List.mem_nil_iff, or_false] at hc'
              rcases hc' with rfl | rfl
              · exact ⟨by simp, QA.keep _ _ hB⟩
              · exact absurd rfl hne
          · have j1 := hps ⟨2, 36, QR Rel⟩ (by simp) (hd ⟨2, .data⟩ (by simp) rfl)
            obtain ⟨bb, a1, n1', c1', a2, n2', c2', hv⟩ := QR.form j1
            rw [hv] at j1
            exact okR_store rfl e5 hv (run_storeAt_mid w1 FK 0 68 #[.bool bb, .slice a1 n1' c1', .slice a2 n2' c2'] kF.there infoQ (by simp [Value.oneCell'])) ⟨slotN rfl, kC.last (by omega) (QF.store2 j1 kF (hB9w.trans (hB0.mono hB9w.size)) hFKw)⟩
        · intro listed a' w10 hI hall
          obtain ⟨c0, c1', c2', hb, ⟨z', t', hq, hrel⟩, hlow⟩ := hI.world.2 (hall 3 (by decide))
          have E := hI.frame [34, 35, 36] (by kernel_rfl)
          simp only [putAll] at E
          generalize a'.eval (.tmp 34) = y34 at E
          generalize a'.eval (.tmp 35) = y35 at E
          generalize a'.eval (.tmp 36) = y36 at E
          simp only [Act.put, List.setIfInBounds_toArray, List.set_cons_zero, List.set_cons_succ] at E
          clear hI hall
          subst E
          rw [hRelD] at hrel
          rw [hrel.1, hrel.2] at hq
          obtain ⟨x1, x2, x3, x4, x5, x6, hvv⟩ := hq.form
          have hcc : #[c0, c1', c2'] = #[.bool (decide (R < 0)), .slice x1 x2 x3, .slice x4 x5 x6] := by injection hvv
          rw [hcc] at hb hq
          have HH := hide (And.intro hb (And.intro hq hlow))
          clear hb hq hrel hlow hcc hvv
          go_wp2_with fail
          go_meet
          exact ⟨_, _, _, _, _, _, _, (unhide HH).1, (unhide HH).2.1, (unhide HH).2.2⟩
    case rest =>
      obtain ⟨b, a1, n1, c1, a2, n2, c2, jR, qR, hBw⟩ := unhide hcut
      have bR : R.natAbs < 4294967296 ^ 400 := by
        have h := unhide HUp
        rw [h]
        exact b_two hFb
      clear HUp H9 hFb bF bz hz
      obtain ⟨S5, hS5⟩ : ∃ S, sgnI (R * 2 ^ 0 + -(-2147483648) * 2 ^ 0) = S := ⟨_, rfl⟩
      obtain ⟨tb5, htb5⟩ : ∃ tb, decide (S5 < 0) = tb := ⟨_, rfl⟩
      go_upto_region 5 with fail
      rename_i K hK
      have HKK := hide hK
      clear hK
      refine region_slotsA (cmV 38 40 41 37 (.agg #[.bool b, .slice a1 n1 c1, .slice a2 n2 c2]) S5 tb5) (kC wc 100 [⟨1, 39, fun w v => QA w v (-2147483648) 0⟩] (fun _ => False)) (by kernel_rfl) (by kernel_rfl) (by kernel_rfl) 74 (by kernel_rfl) rfl kC.start ?_ ?_
      · as_aux_lemma =>
        intro listed a w1 i o hI ho hsz hl hd
        have hi : i < 5 := by simpa using (Array.getElem?_eq_some_iff.1 ho).1
        have hsz' : listed.size = 5 := by simpa using hsz
        have e5 : a.eval (.tmp 5) = .pointer (some ⟨FK, 0, none⟩) := (hI.base 5 (by kernel_rfl)).trans rfl
        have hc : kC wc 100 [⟨1, 39, fun w v => QA w v (-2147483648) 0⟩] (fun _ => False) listed a w1 := hI.world
        have lk : listed.getD 100 false = false := by rw [Array.getD_eq_getD_getElem?, Array.getElem?_eq_none (by omega)]; rfl
        obtain ⟨hB0, hps⟩ := hc.1 lk
        have kR := jR.below hB0 jR.lt
        rcases (by omega : i = 0 ∨ i = 1 ∨ i = 2 ∨ i = 3 ∨ i = 4) with rfl | rfl | rfl | rfl | rfl
        all_goals obtain rfl := Option.some.inj ho
        · exact okR_load rfl e5 (loadQ _ _ _ _ _ _ _ _ _ kR) ⟨slotR rfl rfl, hc.same 0 rfl (by decide) (by simp)⟩
        · refine okR_call1 enter_Num rfl rfl ((num_any (-2147483648) (by unfold i64; omega) _).mono ?_)
          rintro e w' ⟨v, rfl, hv, hB⟩
          refine ⟨v, rfl, slotR rfl trivial, hc.made lk 1 hI.size (show 39 < 74 by omega) rfl (by decide) hB ?_ ?_⟩
          · intro c hc' he
            simp only [List.mem_cons, List.mem_nil_iff, or_false] at hc'
            subst hc'
            exact ⟨rfl, hv⟩
          · intro c hc' hne
            simp only [List.mem_cons, List.mem_nil_iff, or_false] at hc'
            subst hc'
            exact absurd rfl hne
        · have k1 := hI.slot 0 _ 38 rfl rfl (hd ⟨0, .data⟩ (by simp) rfl)
          have j1 := hps ⟨1, 39, fun w v => QA w v (-2147483648) 0⟩ (by simp) (hd ⟨1, .data⟩ (by simp) rfl)
          refine okR_call2 enter_CmpQ rfl k1 rfl ((cmpQ_any (qR.below hB0) j1 bR (lt_b400 (by decide)) (by omega)).mono ?_)
          rintro e w' ⟨rfl, hB⟩
          refine ⟨_, rfl, slotR rfl (by rw [hS5]; rfl), hc.made lk 2 hI.size (show 40 < 74 by omega) rfl (by decide) hB (by simp) ?_⟩
          intro c hc' hne
          simp only [List.mem_cons, List.mem_nil_iff, or_false] at hc'
          subst hc'
          exact ⟨by simp, QA.keep _ _ hB⟩
        · have k1 := hI.slot 2 _ 40 rfl rfl (hd ⟨2, .data⟩ (by simp) rfl)
          exact okR_lt0 rfl k1 ⟨slotR rfl (by rw [htb5]; rfl), hc.same 3 rfl (by decide) (by simp)⟩
        · have k1 := hI.slot 3 _ 41 rfl rfl (hd ⟨3, .data⟩ (by simp) rfl)
          exact okR_assign rfl k1 ⟨slotR rfl rfl, hc.same 4 rfl (by decide) (by simp)⟩
      · intro listed a' w10 hI hall
        have lk : listed.getD 100 false = false := by
          cases h : listed.getD 100 false with
          | false => rfl
          | true => exact (hI.world.2 h).elim
        obtain ⟨hBw10, _⟩ := hI.world.1 lk
        have k37 : a'.eval (.tmp 37) = .bool tb5 := hI.slot 4 _ 37 rfl rfl (hall 4 (by decide))
        have E := hI.frame [37, 38, 39, 40, 41] (by kernel_rfl)
        simp only [putAll] at E
        generalize a'.eval (.tmp 38) = y38 at E
        generalize a'.eval (.tmp 39) = y39 at E
        generalize a'.eval (.tmp 40) = y40 at E
        generalize a'.eval (.tmp 41) = y41 at E
        rw [k37] at E
        simp only [Act.put, List.setIfInBounds_toArray, List.set_cons_zero, List.set_cons_succ] at E
        clear hI hall k37 lk
        subst E
        refine unhide HKK _ _ ?_
        clear HKK
        have jR2 := jR.below hBw10 jR.lt
        have qR2 := qR.below hBw10
        have hBw2 : Below w.heap.size w w10 := hBw.trans (hBw10.mono hBw.size)
        have hlow5 : tb5 = true ↔ R < -2147483648 := by
          rw [← htb5, ← hS5]
          simp only [decide_eq_true_eq, Int.pow_zero, Int.mul_one]
          exact sgn_neg R (-2147483648)
        clear hBw10 htb5 hS5 jR qR hBw hcut
        cases tb5 with
        | true =>
          have h1 := hlow5.1 rfl
          have HKp : Hid (kp R = -2147483648 ∧ offB R = true) := by
            have e : kp R = -2147483648 := by unfold kp; omega
            exact ⟨e, by unfold offB; rw [e]; exact decide_eq_true (by omega)⟩
          have HL := hide hBw2
          clear hlow5 h1 jR2 qR2 hBw2
          go_wp2_with fail
          refine bodyPost_ret (v := .tuple #[.int .i64 (-2147483648), .bool true]) (by simp [results, Try.results31, go_sem]) rfl ?_
          exact ⟨by rw [(unhide HKp).1, (unhide HKp).2], unhide HL⟩
        | false =>
          have h1 : ¬ R < -2147483648 := fun h => by cases hlow5.2 h
          have HL1 := hide h1
          clear hlow5 h1
          obtain ⟨S7, hS7⟩ : ∃ S, sgnI (R * 2 ^ 0 + -(2147483647) * 2 ^ 0) = S := ⟨_, rfl⟩
          obtain ⟨tb7, htb7⟩ : ∃ tb, decide (0 < S7) = tb := ⟨_, rfl⟩
          go_upto_region 7 with fail
          rename_i K hK
          have HKK := hide hK
          clear hK
          refine region_slotsA (cmV 43 45 46 42 (.agg #[.bool b, .slice a1 n1 c1, .slice a2 n2 c2]) S7 tb7) (kC w10 100 [⟨1, 44, fun w v => QA w v (2147483647) 0⟩] (fun _ => False)) (by kernel_rfl) (by kernel_rfl) (by kernel_rfl) 74 (by kernel_rfl) rfl kC.start ?_ ?_
          · as_aux_lemma =>
            intro listed a w1 i o hI ho hsz hl hd
            have hi : i < 5 := by simpa using (Array.getElem?_eq_some_iff.1 ho).1
            have hsz' : listed.size = 5 := by simpa using hsz
            have e5 : a.eval (.tmp 5) = .pointer (some ⟨FK, 0, none⟩) := (hI.base 5 (by kernel_rfl)).trans rfl
            have hc : kC w10 100 [⟨1, 44, fun w v => QA w v (2147483647) 0⟩] (fun _ => False) listed a w1 := hI.world
            have lk : listed.getD 100 false = false := by rw [Array.getD_eq_getD_getElem?, Array.getElem?_eq_none (by omega)]; rfl
            obtain ⟨hB0, hps⟩ := hc.1 lk
            have kR := jR2.below hB0 jR2.lt
            rcases (by omega : i = 0 ∨ i = 1 ∨ i = 2 ∨ i = 3 ∨ i = 4) with rfl | rfl | rfl | rfl | rfl
            all_goals obtain rfl := Option.some.inj ho
            · exact okR_load rfl e5 (loadQ _ _ _ _ _ _ _ _ _ kR) ⟨slotR rfl rfl, hc.same 0 rfl (by decide) (by simp)⟩
            · refine okR_call1 enter_Num rfl rfl ((num_any (2147483647) (by unfold i64; omega) _).mono ?_)
              rintro e w' ⟨v, rfl, hv, hB⟩
              refine ⟨v, rfl, slotR rfl trivial, hc.made lk 1 hI.size (show 44 < 74 by omega) rfl (by decide) hB ?_ ?_⟩
              · intro c hc' he
                simp only [List.mem_cons, List.mem_nil_iff, or_false] at hc'
                subst hc'
                exact ⟨rfl, hv⟩
              · intro c hc' hne
                simp only [List.mem_cons, List.mem_nil_iff, or_false] at hc'
                subst hc'
                exact absurd rfl hne
            · have k1 := hI.slot 0 _ 43 rfl rfl (hd ⟨0, .data⟩ (by simp) rfl)
              have j1 := hps ⟨1, 44, fun w v => QA w v (2147483647) 0⟩ (by simp) (hd ⟨1, .data⟩ (by simp) rfl)
              refine okR_call2 enter_CmpQ rfl k1 rfl ((cmpQ_any (qR2.below hB0) j1 bR (lt_b400 (by decide)) (by omega)).mono ?_)
              rintro e w' ⟨rfl, hB⟩
              refine ⟨_, rfl, slotR rfl (by rw [hS7]; rfl), hc.made lk 2 hI.size (show 45 < 74 by omega) rfl (by decide) hB (by simp) ?_⟩
              intro c hc' hne
              simp only [List.mem_cons, List.mem_nil_iff, or_false] at hc'
              subst hc'
              exact ⟨by simp, QA.keep _ _ hB⟩
            · have k1 := hI.slot 2 _ 45 rfl rfl (hd ⟨2, .data⟩ (by simp) rfl)
              exact okR_gtI rfl k1 ⟨slotR rfl (by rw [htb7]; rfl), hc.same 3 rfl (by decide) (by simp)⟩
            · have k1 := hI.slot 3 _ 46 rfl rfl (hd ⟨3, .data⟩ (by simp) rfl)
              exact okR_assign rfl k1 ⟨slotR rfl rfl, hc.same 4 rfl (by decide) (by simp)⟩
          · intro listed a' w11 hI hall
            have lk : listed.getD 100 false = false := by
              cases h : listed.getD 100 false with
              | false => rfl
              | true => exact (hI.world.2 h).elim
            obtain ⟨hBw11, _⟩ := hI.world.1 lk
            have k37 : a'.eval (.tmp 42) = .bool tb7 := hI.slot 4 _ 42 rfl rfl (hall 4 (by decide))
            have E := hI.frame [42, 43, 44, 45, 46] (by kernel_rfl)
            simp only [putAll] at E
            generalize a'.eval (.tmp 43) = y43 at E
            generalize a'.eval (.tmp 44) = y44 at E
            generalize a'.eval (.tmp 45) = y45 at E
            generalize a'.eval (.tmp 46) = y46 at E
            rw [k37] at E
            simp only [Act.put, List.setIfInBounds_toArray, List.set_cons_zero, List.set_cons_succ] at E
            clear hI hall k37 lk
            subst E
            refine unhide HKK _ _ ?_
            clear HKK
            have jR3 := jR2.below hBw11 jR2.lt
            have qR3 := qR2.below hBw11
            have hBw3 : Below w.heap.size w w11 := hBw2.trans (hBw11.mono hBw2.size)
            have hlow7 : tb7 = true ↔ 2147483647 < R := by
              rw [← htb7, ← hS7]
              simp only [decide_eq_true_eq, Int.pow_zero, Int.mul_one]
              exact sgn_pos R 2147483647
            clear hBw11 htb7 hS7 jR2 qR2 hBw2
            cases tb7 with
            | true =>
              have h1 := hlow7.1 rfl
              have HKp : Hid (kp R = 2147483647 ∧ offB R = true) := by
                have e : kp R = 2147483647 := by unfold kp; omega
                exact ⟨e, by unfold offB; rw [e]; exact decide_eq_true (by omega)⟩
              have HL := hide hBw3
              clear hlow7 h1 jR3 qR3 hBw3
              go_wp2_with fail
              refine bodyPost_ret (v := .tuple #[.int .i64 2147483647, .bool true]) (by simp [results, Try.results31, go_sem]) rfl ?_
              exact ⟨by rw [(unhide HKp).1, (unhide HKp).2], unhide HL⟩
            | false =>
              have h2 : ¬ 2147483647 < R := fun h => by cases hlow7.2 h
              have h1 := unhide HL1
              have HKp : Hid (kp R = R ∧ offB R = false) := by
                have e : kp R = R := kp_same R (by unfold i32; omega)
                exact ⟨e, by unfold offB; rw [e]; simp⟩
              have HL := hide hBw3
              obtain ⟨vN, vD, eR, nR, _, _⟩ := qR3
              obtain ⟨eR1, eR2, eR3⟩ : b = decide (R < 0) ∧ Value.slice a1 n1 c1 = vN ∧ Value.slice a2 n2 c2 = vD := by
                injection eR with e; simpa using e
              subst eR2
              obtain ⟨_, _, _, e0, hn⟩ := nR.form
              cases e0
              have x0 := jR3.cell 0 rfl
              have x1 := jR3.cell 1 rfl
              by_cases hn0 : n1 = 0
              · subst hn0
                have hR0 : R = 0 := by have := hn.1 rfl; omega
                have HR0 := hide hR0
                clear hR0 hlow7 jR3 hBw3 nR eR eR1 eR3 hn h1 h2
                go_wp2_with fail
                refine bodyPost_ret (v := .tuple #[.int .i64 0, .bool false]) (by simp [results, Try.results31, go_sem]) rfl ?_
                exact ⟨by rw [(unhide HKp).1, (unhide HKp).2, unhide HR0], unhide HL⟩
              · obtain ⟨bd, off, d, ea, hcd, _, hd1⟩ := nR.first (by omega)
                obtain ⟨hdR, hn1⟩ := hd1 (by omega)
                subst hn1 ea
                have hdb : d < 4294967296 := by omega
                have HdR := hide hdR
                have w1 : IntKind.i64.wrap (d : Int) = (d : Int) := by rw [IntKind.wrap_i64]; omega
                have w2 : IntKind.i64.wrap (-(d : Int)) = -(d : Int) := by rw [IntKind.wrap_i64]; omega
                have hsg : Hid ((b = true → R = -(d : Int)) ∧ (b = false → R = (d : Int))) := by
                  show _ ∧ _
                  rw [eR1]
                  constructor
                  · intro h; have := of_decide_eq_true h; omega
                  · intro h; have := of_decide_eq_false h; omega
                clear hlow7 jR3 hBw3 nR eR eR1 eR3 hn h1 h2 hdR
                cases b with
                | true =>
                  have HRd := hide ((unhide hsg).1 rfl)
                  clear hsg
                  go_wp2_with fail
                  refine bodyPost_ret (v := .tuple #[.int .i64 (-(d : Int)), .bool false]) (by simp [results, Try.results31, go_sem]) rfl ?_
                  exact ⟨by rw [(unhide HKp).1, (unhide HKp).2, unhide HRd], unhide HL⟩
                | false =>
                  have HRd := hide ((unhide hsg).2 rfl)
                  clear hsg
                  go_wp2_with fail
                  refine bodyPost_ret (v := .tuple #[.int .i64 (d : Int), .bool false]) (by simp [results, Try.results31, go_sem]) rfl ?_
                  exact ⟨by rw [(unhide HKp).1, (unhide HKp).2, unhide HRd], unhide HL⟩
end Go.Proofs.Ytlajalfdcfkmpaa
