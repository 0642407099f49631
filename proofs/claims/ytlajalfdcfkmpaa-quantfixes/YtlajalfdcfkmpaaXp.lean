/- AddQ. -/
import Derived.Test.YtlajalfdcfkmpaaXo
namespace Go.Proofs.Ytlajalfdcfkmpaa
open Go.RowKit Go.Maps

theorem sg_pow (s : Bool) (n t : Nat) : sg s n * 2 ^ t = sg s (n * 2 ^ t) := by
  cases s <;> simp [sg, Int.neg_mul]
theorem sum_parts (z1 z2 : Int) (t1 t2 : Nat) : z1 * 2 ^ t2 + z2 * 2 ^ t1 = sg (decide (z1 < 0)) (z1.natAbs * 2 ^ t2) + sg (decide (z2 < 0)) (z2.natAbs * 2 ^ t1) := by
  rw [← sg_pow, ← sg_pow, sg_abs, sg_abs]
theorem sg_same (s : Bool) (X Y : Nat) : sg s (X + Y) = sg s X + sg s Y ∧ X + Y = (sg s X + sg s Y).natAbs := by
  cases s <;> simp [sg] <;> omega
theorem sg_more {s u : Bool} (h : s ≠ u) {X Y : Nat} (hXY : Y ≤ X) : sg s (X - Y) = sg s X + sg u Y ∧ X - Y = (sg s X + sg u Y).natAbs := by
  cases s <;> cases u <;> simp [sg] at h ⊢ <;> omega
theorem sg_less {s u : Bool} (h : s ≠ u) {X Y : Nat} (hXY : X ≤ Y) : sg u (Y - X) = sg s X + sg u Y ∧ Y - X = (sg s X + sg u Y).natAbs := by
  cases s <;> cases u <;> simp [sg] at h ⊢ <;> omega
theorem add_lt {a b i k : Nat} (h1 : a < 4294967296 ^ i) (h2 : b < 4294967296 ^ i) (hk : i + 1 ≤ k) : a + b < 4294967296 ^ k := by
  have h := ble hk
  rw [bsucc] at h
  omega
def addV (A B : Nat) (p1 p2 p3 p4 : Option Addr) (m1 q1 m2 q2 m3 q3 m4 q4 : Nat) : Nat → Value → Prop
  | 8, v => v = .pointer (some ⟨A, 1, none⟩)
  | 9, v => v = .slice p1 m1 q1
  | 10, v => v = .pointer (some ⟨B, 2, none⟩)
  | 11, v => v = .slice p4 m4 q4
  | 13, v => v = .pointer (some ⟨B, 1, none⟩)
  | 14, v => v = .slice p3 m3 q3
  | 15, v => v = .pointer (some ⟨A, 2, none⟩)
  | 16, v => v = .slice p2 m2 q2
  | _, _ => True
def adrV (d0 d1 d2 d3 d5 : Nat) (A : Nat) (s : Bool) (u v x : Value) (d : Nat) (y : Value) : Prop :=
  if d = d0 then y = .pointer (some ⟨A, 0, none⟩) else if d = d1 then y = .bool s else if d = d2 then y = u else if d = d3 then y = v else if d = d5 then y = x else True
theorem res_add {w : World} {tmps : Array Value} {b : Nat} {c0 c1 c2 : Value} (h6 : tmps.getD 4 undef = .pointer (some ⟨b, 0, none⟩)) (hr : Blk w b #[c0, c1, c2] 68) :
    (results Try.f44 tmps).run Try.prog w = .ok (.agg #[c0, c1, c2]) w := by
  have hl := run_loadVar_mid (P := Try.prog) w b 0 68 [c0, c1, c2] _ hr.range Try.underlying68 rfl infoQ
  rw [Array.getD_eq_getD_getElem?] at h6
  simp [results, h6, asAddr, hl]
set_option maxRecDepth 100000 in
set_option maxHeartbeats 4000000 in
theorem addQ_any {v1 v2 : Value} {z1 z2 : Int} {t1 t2 : Nat} {w : World} (h1 : QA w v1 z1 t1) (h2 : QA w v2 z2 t2) (b1 : z1.natAbs < 4294967296 ^ 400) (b2 : z2.natAbs < 4294967296 ^ 400) (ht : t1 + t2 ≤ 12000) :
    Calls Try.prog 44 #[v1, v2] w fun e w' => ∃ v z t, e = .returned v ∧ QA w' v z t ∧ t ≤ t1 + t2 ∧ z * 2 ^ (t1 + t2 - t) = z1 * 2 ^ t2 + z2 * 2 ^ t1 ∧ Below w.heap.size w w' := by
  obtain ⟨vN1, vD1, rfl, hN1, hD1, _⟩ := h1
  obtain ⟨vN2, vD2, rfl, hN2, hD2, _⟩ := h2
  obtain ⟨p1, m1, q1, rfl, _⟩ := hN1.form
  obtain ⟨p2, m2, q2, rfl, _⟩ := hD1.form
  obtain ⟨p3, m3, q3, rfl, _⟩ := hN2.form
  obtain ⟨p4, m4, q4, rfl, _⟩ := hD2.form
  obtain ⟨X, hX⟩ : ∃ X, z1.natAbs * 2 ^ t2 = X := ⟨_, rfl⟩
  obtain ⟨Y, hY⟩ : ∃ Y, z2.natAbs * 2 ^ t1 = Y := ⟨_, rfl⟩
  have hSum := sum_parts z1 z2 t1 t2
  rw [hX, hY] at hSum
  obtain ⟨Rel, hRelD⟩ : ∃ Rel : Int → Nat → Prop, Rel = fun z t => t ≤ t1 + t2 ∧ z * 2 ^ (t1 + t2 - t) = z1 * 2 ^ t2 + z2 * 2 ^ t1 := ⟨_, rfl⟩
  have c1 : 2 ^ t1 < 4294967296 ^ 990 := pow_lt (k := 990) (by omega)
  have c2 : 2 ^ t2 < 4294967296 ^ 990 := pow_lt (k := 990) (by omega)
  have bX : X < 4294967296 ^ 776 := by rw [← hX]; exact mul_lt (i := 400) (j := 376) (k := 776) b1 (pow_lt (k := 376) (by omega)) (by decide)
  have bY : Y < 4294967296 ^ 776 := by rw [← hY]; exact mul_lt (i := 400) (j := 376) (k := 776) b2 (pow_lt (k := 376) (by omega)) (by decide)
  replace b1 : z1.natAbs < 4294967296 ^ 990 := lt_le (i := 400) (k := 990) b1 (by decide)
  replace b2 : z2.natAbs < 4294967296 ^ 990 := lt_le (i := 400) (k := 990) b2 (by decide)
  have bXY : X + Y < 4294967296 ^ 990 := add_lt (i := 776) (k := 990) bX bY (by decide)
  replace bX : X < 4294967296 ^ 990 := lt_le (i := 776) (k := 990) bX (by decide)
  replace bY : Y < 4294967296 ^ 990 := lt_le (i := 776) (k := 990) bY (by decide)
  have hLay : ∀ (s : Bool) (n : Nat), sg s n = z1 * 2 ^ t2 + z2 * 2 ^ t1 → n = (z1 * 2 ^ t2 + z2 * 2 ^ t1).natAbs → n < 4294967296 ^ 990 → ∀ (x d : Value) (w1 : World), NA w1 x n → NA w1 d (2 ^ (t1 + t2)) → Calls Try.prog 52 #[.bool s, x, d] w1 fun e w' => ∃ v, e = .returned v ∧ QR Rel w' v ∧ Below w1.heap.size w1 w' := by
    intro s n e1 _ hb x d w1 hx hd
    refine (lay_any s hx hd hb ht).mono ?_
    rintro e w' ⟨v, z, t, rfl, hq, h3, h4, hB⟩
    exact ⟨v, rfl, ⟨z, t, hq, by rw [hRelD]; exact ⟨h3, h4.trans e1⟩⟩, hB⟩
  obtain ⟨A, hA⟩ : ∃ A, w.heap.size = A := ⟨_, rfl⟩
  obtain ⟨s1, hs1⟩ : ∃ s, decide (z1 < 0) = s := ⟨_, rfl⟩
  obtain ⟨s2, hs2⟩ : ∃ s, decide (z2 < 0) = s := ⟨_, rfl⟩
  rw [hs1, hs2] at hSum ⊢
  obtain ⟨hBA, hBB, hBZ, hlw⟩ := three_blocks w #[.bool s1, .slice p1 m1 q1, .slice p2 m2 q2] #[.bool s2, .slice p3 m3 q3, .slice p4 m4 q4] zQ 68
  obtain ⟨W, hW⟩ : ∃ W, W = ((w.alloc (Obj.cells #[.bool s1, .slice p1 m1 q1, .slice p2 m2 q2] 68)).alloc (Obj.cells #[.bool s2, .slice p3 m3 q3, .slice p4 m4 q4] 68)).alloc (Obj.cells zQ 68) := ⟨_, rfl⟩
  rw [← hW] at hBA hBB hBZ hlw
  rw [hA] at hBA hBB hBZ
  replace hN1 := hN1.below hlw
  replace hN2 := hN2.below hlw
  replace hD1 := hD1.below hlw
  replace hD2 := hD2.below hlw
  have HSum := hide hSum
  have HLay := hide hLay
  have HRelD := hide hRelD
  have HA := hide hA
  clear hSum hLay hRelD hs1 hs2
  go_enter Try.func44, Try.ntmps44
  go_upto_region 1 with fail
  unfold zQ at hW
  rw [← hW]
  clear hW hA
  rename_i K hK
  have HK := hide hK
  clear hK
  refine region_slotsA (addV A (A + 1) p1 p2 p3 p4 m1 q1 m2 q2 m3 q3 m4 q4) (kC W 100 [⟨4, 12, fun w v => NA w v X⟩, ⟨9, 17, fun w v => NA w v Y⟩, ⟨10, 5, fun w v => NA w v X⟩, ⟨11, 6, fun w v => NA w v Y⟩] (fun _ => False)) (by kernel_rfl) (by kernel_rfl) (by kernel_rfl) 55 (by kernel_rfl) rfl kC.start ?_ ?_
  · intro listed a w1 i o hI ho hsz hl hd
    have hi : i < 12 := by simpa using (Array.getElem?_eq_some_iff.1 ho).1
    have hsz' : listed.size = 12 := by simpa using hsz
    have e2 : a.eval (.tmp 2) = .pointer (some ⟨A, 0, none⟩) := (hI.base 2 (by kernel_rfl)).trans rfl
    have e3 : a.eval (.tmp 3) = .pointer (some ⟨A + 1, 0, none⟩) := (hI.base 3 (by kernel_rfl)).trans rfl
    have hc : kC W 100 [⟨4, 12, fun w v => NA w v X⟩, ⟨9, 17, fun w v => NA w v Y⟩, ⟨10, 5, fun w v => NA w v X⟩, ⟨11, 6, fun w v => NA w v Y⟩] (fun _ => False) listed a w1 := hI.world
    have lk : listed.getD 100 false = false := by rw [Array.getD_eq_getD_getElem?, Array.getElem?_eq_none (by omega)]; rfl
    obtain ⟨hB0, hps⟩ := hc.1 lk
    have kA := hBA.below hB0 hBA.lt
    have kB := hBB.below hB0 hBB.lt
    rcases (by omega : i = 0 ∨ i = 1 ∨ i = 2 ∨ i = 3 ∨ i = 4 ∨ i = 5 ∨ i = 6 ∨ i = 7 ∨ i = 8 ∨ i = 9 ∨ i = 10 ∨ i = 11) with rfl | rfl | rfl | rfl | rfl | rfl | rfl | rfl | rfl | rfl | rfl | rfl
    all_goals obtain rfl := Option.some.inj ho
    · exact okR_field rfl e2 (fieldQ _ 1 (by decide) _) ⟨slotR rfl rfl, hc.same 0 rfl (by decide) (by simp)⟩
    · have k1 := hI.slot 0 _ 8 rfl rfl (hd ⟨0, .data⟩ (by simp) rfl)
      exact okR_load rfl k1 (loadL _ _ _ _ _ (kA.cell 1 rfl)) ⟨slotR rfl rfl, hc.same 1 rfl (by decide) (by simp)⟩
    · exact okR_field rfl e3 (fieldQ _ 2 (by decide) _) ⟨slotR rfl rfl, hc.same 2 rfl (by decide) (by simp)⟩
    · have k1 := hI.slot 2 _ 10 rfl rfl (hd ⟨2, .data⟩ (by simp) rfl)
      exact okR_load rfl k1 (loadL _ _ _ _ _ (kB.cell 2 rfl)) ⟨slotR rfl rfl, hc.same 3 rfl (by decide) (by simp)⟩
    · have k1 := hI.slot 1 _ 9 rfl rfl (hd ⟨1, .data⟩ (by simp) rfl)
      have k2 := hI.slot 3 _ 11 rfl rfl (hd ⟨3, .data⟩ (by simp) rfl)
      refine okR_call2 enter_MulN rfl k1 k2 ((mulN_b (hN1.below hB0) (hD2.below hB0) b1 c2).mono ?_)
      rintro e w' ⟨v, rfl, hv, hB⟩
      rw [hX] at hv
      refine ⟨v, rfl, slotR rfl trivial, hc.made lk 4 hI.size (show 12 < 55 by omega) rfl (by decide) hB ?_ ?_⟩
      · intro c hc' he
        simp only [List.mem_cons, List.mem_nil_iff, or_false] at hc'
        rcases hc' with rfl | rfl | rfl | rfl
        · exact ⟨rfl, hv⟩
        · simp at he
        · simp at he
        · simp at he
      · intro c hc' hne
        simp only [List.mem_cons, List.mem_nil_iff, or_false] at hc'
        rcases hc' with rfl | rfl | rfl | rfl
        · exact absurd rfl hne
        · exact ⟨by simp, NA.keep _ _ hB⟩
        · exact ⟨by simp, NA.keep _ _ hB⟩
        · exact ⟨by simp, NA.keep _ _ hB⟩
    · exact okR_field rfl e3 (fieldQ _ 1 (by decide) _) ⟨slotR rfl rfl, hc.same 5 rfl (by decide) (by simp)⟩
    · have k1 := hI.slot 5 _ 13 rfl rfl (hd ⟨5, .data⟩ (by simp) rfl)
      exact okR_load rfl k1 (loadL _ _ _ _ _ (kB.cell 1 rfl)) ⟨slotR rfl rfl, hc.same 6 rfl (by decide) (by simp)⟩
    · exact okR_field rfl e2 (fieldQ _ 2 (by decide) _) ⟨slotR rfl rfl, hc.same 7 rfl (by decide) (by simp)⟩
    · have k1 := hI.slot 7 _ 15 rfl rfl (hd ⟨7, .data⟩ (by simp) rfl)
      exact okR_load rfl k1 (loadL _ _ _ _ _ (kA.cell 2 rfl)) ⟨slotR rfl rfl, hc.same 8 rfl (by decide) (by simp)⟩
    · have k1 := hI.slot 6 _ 14 rfl rfl (hd ⟨6, .data⟩ (by simp) rfl)
      have k2 := hI.slot 8 _ 16 rfl rfl (hd ⟨8, .data⟩ (by simp) rfl)
      refine okR_call2 enter_MulN rfl k1 k2 ((mulN_b (hN2.below hB0) (hD1.below hB0) b2 c1).mono ?_)
      rintro e w' ⟨v, rfl, hv, hB⟩
      rw [hY] at hv
      refine ⟨v, rfl, slotR rfl trivial, hc.made lk 9 hI.size (show 17 < 55 by omega) rfl (by decide) hB ?_ ?_⟩
      · intro c hc' he
        simp only [List.mem_cons, List.mem_nil_iff, or_false] at hc'
        rcases hc' with rfl | rfl | rfl | rfl
        · simp at he
        · exact ⟨rfl, hv⟩
        · simp at he
        · simp at he
      · intro c hc' hne
        simp only [List.mem_cons, List.mem_nil_iff, or_false] at hc'
        rcases hc' with rfl | rfl | rfl | rfl
        · exact ⟨by simp, NA.keep _ _ hB⟩
        · exact absurd rfl hne
        · exact ⟨by simp, NA.keep _ _ hB⟩
        · exact ⟨by simp, NA.keep _ _ hB⟩
    · have hv := hps ⟨4, 12, fun w v => NA w v X⟩ (by simp) (hd ⟨4, .data⟩ (by simp) rfl)
      have hB := Below.refl w1.heap.size w1
      refine okR_assign rfl rfl ⟨slotR rfl trivial, hc.made lk 10 hI.size (show 5 < 55 by omega) rfl (by decide) hB ?_ ?_⟩
      · intro c hc' he
        simp only [List.mem_cons, List.mem_nil_iff, or_false] at hc'
        rcases hc' with rfl | rfl | rfl | rfl
        · simp at he
        · simp at he
        · exact ⟨rfl, hv⟩
        · simp at he
      · intro c hc' hne
        simp only [List.mem_cons, List.mem_nil_iff, or_false] at hc'
        rcases hc' with rfl | rfl | rfl | rfl
        · exact ⟨by simp, NA.keep _ _ hB⟩
        · exact ⟨by simp, NA.keep _ _ hB⟩
        · exact absurd rfl hne
        · exact ⟨by simp, NA.keep _ _ hB⟩
    · have hv := hps ⟨9, 17, fun w v => NA w v Y⟩ (by simp) (hd ⟨9, .data⟩ (by simp) rfl)
      have hB := Below.refl w1.heap.size w1
      refine okR_assign rfl rfl ⟨slotR rfl trivial, hc.made lk 11 hI.size (show 6 < 55 by omega) rfl (by decide) hB ?_ ?_⟩
      · intro c hc' he
        simp only [List.mem_cons, List.mem_nil_iff, or_false] at hc'
        rcases hc' with rfl | rfl | rfl | rfl
        · simp at he
        · simp at he
        · simp at he
        · exact ⟨rfl, hv⟩
      · intro c hc' hne
        simp only [List.mem_cons, List.mem_nil_iff, or_false] at hc'
        rcases hc' with rfl | rfl | rfl | rfl
        · exact ⟨by simp, NA.keep _ _ hB⟩
        · exact ⟨by simp, NA.keep _ _ hB⟩
        · exact ⟨by simp, NA.keep _ _ hB⟩
        · exact absurd rfl hne
  · intro listed a' w4 hI hall
    obtain ⟨hB4, hp4⟩ := hI.world.1 (by
      cases h : listed.getD 100 false with
      | false => rfl
      | true => exact (hI.world.2 h).elim)
    have hx := hp4 ⟨10, 5, fun w v => NA w v X⟩ (by simp) (hall 10 (by decide))
    have hy := hp4 ⟨11, 6, fun w v => NA w v Y⟩ (by simp) (hall 11 (by decide))
    simp only at hx hy
    have E := hI.frame [5, 6, 8, 9, 10, 11, 12, 13, 14, 15, 16, 17] (by kernel_rfl)
    simp only [putAll] at E
    generalize a'.eval (.tmp 5) = y5 at E hx
    generalize a'.eval (.tmp 6) = y6 at E hy
    generalize a'.eval (.tmp 8) = y8 at E
    generalize a'.eval (.tmp 9) = y9 at E
    generalize a'.eval (.tmp 10) = y10 at E
    generalize a'.eval (.tmp 11) = y11 at E
    generalize a'.eval (.tmp 12) = y12 at E
    generalize a'.eval (.tmp 13) = y13 at E
    generalize a'.eval (.tmp 14) = y14 at E
    generalize a'.eval (.tmp 15) = y15 at E
    generalize a'.eval (.tmp 16) = y16 at E
    generalize a'.eval (.tmp 17) = y17 at E
    simp only [Act.put, List.setIfInBounds_toArray, List.set_cons_zero, List.set_cons_succ] at E
    clear hI hall hp4
    subst E
    refine unhide HK _ _ ?_
    clear HK
    have HXY := hide (And.intro hx (And.intro hy hB4))
    have kA := hBA.below hB4 hBA.lt
    have kB := hBB.below hB4 hBB.lt
    have x2 := kA.cell 2 rfl
    have z2' := kB.cell 2 rfl
    have HM := hide (mulN_b (hD1.below hB4) (hD2.below hB4) c1 c2)
    clear hx hy hB4 kA kB
    go_wp2_with fail
    refine (unhide HM).mono ?_
    rintro e w5 ⟨v7, rfl, hN7, hB5⟩
    rw [← Nat.pow_add] at hN7
    obtain ⟨hx, hy, hB4⟩ := unhide HXY
    have hB45 := hB4.trans (hB5.mono hB4.size)
    have H5 := hide (And.intro (hx.below hB5) (And.intro (hy.below hB5) (And.intro hN7 hB45)))
    have x0 := (hBA.below hB45 hBA.lt).cell 0 rfl
    have z0 := (hBB.below hB45 hBB.lt).cell 0 rfl
    clear hx hy hB4 hB45 hB5 hN7 HM HXY x2 z2'
    cases hss : (s1 == s2) with
    | true =>
      have hse : s1 = s2 := by simpa using hss
      have HG : Hid (sg s1 (X + Y) = z1 * 2 ^ t2 + z2 * 2 ^ t1 ∧ X + Y = (z1 * 2 ^ t2 + z2 * 2 ^ t1).natAbs) := by
        show _ ∧ _
        rw [unhide HSum, ← hse]
        exact sg_same s1 X Y
      clear hse
      go_upto_region 4 with fail
      obtain ⟨f5, f6, f7, fB⟩ := unhide H5
      have hlc : Below w.heap.size w w5 := hlw.trans (fB.mono hlw.size)
      have jS := (hBA.below fB hBA.lt)
      have jZ := hBZ.below fB hBZ.lt
      refine region_slotsA (adrV 29 30 31 32 34 (A) s1 y5 y6 v7) (kC w5 7 [⟨4, 33, fun w v => NA w v (X + Y)⟩, ⟨6, 35, QR Rel⟩] (QF w (A + 1 + 1) Rel)) (by kernel_rfl) (by kernel_rfl) (by kernel_rfl) 55 (by kernel_rfl) rfl kC.start ?_ ?_
      · intro listed a w1 i o hI ho hsz hl hd
        have hi : i < 8 := by simpa using (Array.getElem?_eq_some_iff.1 ho).1
        have hsz' : listed.size = 8 := by simpa using hsz
        have eb : a.eval (.tmp 2) = .pointer (some ⟨A, 0, none⟩) := (hI.base 2 (by kernel_rfl)).trans rfl
        have e4 : a.eval (.tmp 4) = .pointer (some ⟨A + 1 + 1, 0, none⟩) := (hI.base 4 (by kernel_rfl)).trans rfl
        have e5 : a.eval (.tmp 5) = y5 := (hI.base 5 (by kernel_rfl)).trans rfl
        have e6 : a.eval (.tmp 6) = y6 := (hI.base 6 (by kernel_rfl)).trans rfl
        have e7 : a.eval (.tmp 7) = v7 := (hI.base 7 (by kernel_rfl)).trans rfl
        have hc : kC w5 7 [⟨4, 33, fun w v => NA w v (X + Y)⟩, ⟨6, 35, QR Rel⟩] (QF w (A + 1 + 1) Rel) listed a w1 := hI.world
        have lk : listed.getD 7 false = false := hI.notYet hsz' 7 rfl (by kernel_rfl) hi hl
        obtain ⟨hB0, hps⟩ := hc.1 lk
        have kS := jS.below hB0 jS.lt
        have kZ := jZ.below hB0 jZ.lt
        rcases (by omega : i = 0 ∨ i = 1 ∨ i = 2 ∨ i = 3 ∨ i = 4 ∨ i = 5 ∨ i = 6 ∨ i = 7) with rfl | rfl | rfl | rfl | rfl | rfl | rfl | rfl
        all_goals obtain rfl := Option.some.inj ho
        · exact okR_field rfl eb (fieldQ _ 0 (by decide) _) ⟨slotR rfl rfl, hc.same 0 rfl (by decide) (by simp)⟩
        · have k1 := hI.slot 0 _ 29 rfl rfl (hd ⟨0, .data⟩ (by simp) rfl)
          exact okR_load rfl k1 (loadB _ _ _ (kS.cell 0 rfl)) ⟨slotR rfl rfl, hc.same 1 rfl (by decide) (by simp)⟩
        · exact okR_move rfl e5 ⟨slotR rfl rfl, hc.same 2 rfl (by decide) (by simp)⟩
        · exact okR_move rfl e6 ⟨slotR rfl rfl, hc.same 3 rfl (by decide) (by simp)⟩
        · have k1 := hI.slot 2 _ 31 rfl rfl (hd ⟨2, .data⟩ (by simp) rfl)
          have k2 := hI.slot 3 _ 32 rfl rfl (hd ⟨3, .data⟩ (by simp) rfl)
          refine okR_call2 enter_AddN rfl k1 k2 ((addN_b (f5.below hB0) (f6.below hB0) bX bY).mono ?_)
          rintro e w' ⟨v, rfl, hv, hB⟩
          refine ⟨v, rfl, slotR rfl trivial, hc.made lk 4 hI.size (show 33 < 55 by omega) rfl (by decide) hB ?_ ?_⟩
          · intro c hc' he
            simp only [List.mem_cons, List.mem_nil_iff, or_false] at hc'
            rcases hc' with rfl | rfl
            · exact ⟨rfl, hv⟩
            · simp at he
          · intro c hc' hne
            simp only [List.mem_cons, List.mem_nil_iff, or_false] at hc'
            rcases hc' with rfl | rfl
            · exact absurd rfl hne
            · exact ⟨by simp, QR.keep _ _ hB⟩
        · exact okR_move rfl e7 ⟨slotR rfl rfl, hc.same 5 rfl (by decide) (by simp)⟩
        · have k1 := hI.slot 1 _ 30 rfl rfl (hd ⟨1, .data⟩ (by simp) rfl)
          have k2 := hI.slot 5 _ 34 rfl rfl (hd ⟨5, .data⟩ (by simp) rfl)
          have j1 := hps ⟨4, 33, fun w v => NA w v (X + Y)⟩ (by simp) (hd ⟨4, .data⟩ (by simp) rfl)
          refine okR_call3' enter_Lay rfl k1 rfl k2 ((unhide HLay s1 (X + Y) (unhide HG).1 (unhide HG).2 bXY _ _ _ j1 (f7.below hB0)).mono ?_)
          rintro e w' ⟨v, rfl, hq, hB⟩
          refine ⟨v, rfl, slotR rfl trivial, hc.made lk 6 hI.size (show 35 < 55 by omega) rfl (by decide) hB ?_ ?_⟩
          · intro c hc' he
            simp only [List.mem_cons, List.mem_nil_iff, or_false] at hc'
            rcases hc' with rfl | rfl
            · simp at he
            · exact ⟨rfl, hq⟩
          · intro c hc' hne
            simp only [List.mem_cons, List.mem_nil_iff, or_false] at hc'
            rcases hc' with rfl | rfl
            · exact ⟨by simp, NA.keep _ _ hB⟩
            · exact absurd rfl hne
        · have j1 := hps ⟨6, 35, QR Rel⟩ (by simp) (hd ⟨6, .data⟩ (by simp) rfl)
          obtain ⟨bb, a1, n1', c1', a2, n2', c2', hv⟩ := QR.form j1
          rw [hv] at j1
          exact okR_store rfl e4 hv (run_storeAt_mid w1 (A + 1 + 1) 0 68 #[.bool bb, .slice a1 n1' c1', .slice a2 n2' c2'] kZ.there infoQ (by simp [Value.oneCell'])) ⟨slotN rfl, kC.last (by omega) (QF.store j1 kZ (hlc.trans (hB0.mono hlc.size)) (by rw [unhide HA]; omega))⟩
      · intro listed a' w9 hI hall
        obtain ⟨c0, c1', c2', hb, ⟨z, t, hq, hrel⟩, hlow⟩ := hI.world.2 (hall 7 (by decide))
        have E := hI.frame [29, 30, 31, 32, 33, 34, 35] (by kernel_rfl)
        simp only [putAll] at E
        generalize a'.eval (.tmp 29) = y29 at E
        generalize a'.eval (.tmp 30) = y30 at E
        generalize a'.eval (.tmp 31) = y31 at E
        generalize a'.eval (.tmp 32) = y32 at E
        generalize a'.eval (.tmp 33) = y33 at E
        generalize a'.eval (.tmp 34) = y34 at E
        generalize a'.eval (.tmp 35) = y35 at E
        simp only [Act.put, List.setIfInBounds_toArray, List.set_cons_zero, List.set_cons_succ] at E
        clear hI hall
        subst E
        have HH := hide (And.intro hb (And.intro hq (And.intro hrel hlow)))
        clear hb hq hrel hlow
        go_wp2_with fail
        refine bodyPost_ret (res_add rfl (unhide HH).1) rfl ?_
        obtain ⟨_, hq, hrel, hlow⟩ := unhide HH
        rw [unhide HRelD] at hrel
        exact ⟨_, z, t, rfl, hq, hrel.1, hrel.2, hlow⟩
    | false =>
      have hse : s1 ≠ s2 := by simpa using hss
      have HC := hide (cmp_b (unhide H5).1 (unhide H5).2.1 bX bY)
      have HSE := hide hse
      clear hse
      go_wp2_with fail
      refine (unhide HC).mono ?_
      rintro e w6 ⟨rfl, hs⟩
      have H6 := hide (And.intro ((unhide H5).1.below (hs _)) (And.intro ((unhide H5).2.1.below (hs _)) (And.intro ((unhide H5).2.2.1.below (hs _)) ((unhide H5).2.2.2.trans (hs _)))))
      have x0' : w6.cell? ⟨A, 0, none⟩ = some (.bool s1) := (hs.cell _).trans x0
      have z0' : w6.cell? ⟨A + 1, 0, none⟩ = some (.bool s2) := (hs.cell _).trans z0
      clear hs HC H5 x0 z0
      by_cases hXY : Y ≤ X
      · have HG : Hid (sg s1 (X - Y) = z1 * 2 ^ t2 + z2 * 2 ^ t1 ∧ X - Y = (z1 * 2 ^ t2 + z2 * 2 ^ t1).natAbs) := by
          show _ ∧ _
          rw [unhide HSum]
          exact sg_more (unhide HSE) hXY
        obtain ⟨Cc, hC, hC0⟩ : ∃ C, cmpI X Y = C ∧ 0 ≤ C := by
          refine ⟨_, rfl, ?_⟩
          unfold cmpI
          rw [if_neg (by omega)]
          split <;> omega
        rw [hC]
        have bS : X - Y < 4294967296 ^ 990 := Nat.lt_of_le_of_lt (Nat.sub_le _ _) bX
        clear hC
        go_upto_region 6 with fail
        obtain ⟨f5, f6, f7, fB⟩ := unhide H6
        have hlc : Below w.heap.size w w6 := hlw.trans (fB.mono hlw.size)
        have jS := (hBA.below fB hBA.lt)
        have jZ := hBZ.below fB hBZ.lt
        refine region_slotsA (adrV 41 42 43 44 46 (A) s1 y5 y6 v7) (kC w6 7 [⟨4, 45, fun w v => NA w v (X - Y)⟩, ⟨6, 47, QR Rel⟩] (QF w (A + 1 + 1) Rel)) (by kernel_rfl) (by kernel_rfl) (by kernel_rfl) 55 (by kernel_rfl) rfl kC.start ?_ ?_
        · intro listed a w1 i o hI ho hsz hl hd
          have hi : i < 8 := by simpa using (Array.getElem?_eq_some_iff.1 ho).1
          have hsz' : listed.size = 8 := by simpa using hsz
          have eb : a.eval (.tmp 2) = .pointer (some ⟨A, 0, none⟩) := (hI.base 2 (by kernel_rfl)).trans rfl
          have e4 : a.eval (.tmp 4) = .pointer (some ⟨A + 1 + 1, 0, none⟩) := (hI.base 4 (by kernel_rfl)).trans rfl
          have e5 : a.eval (.tmp 5) = y5 := (hI.base 5 (by kernel_rfl)).trans rfl
          have e6 : a.eval (.tmp 6) = y6 := (hI.base 6 (by kernel_rfl)).trans rfl
          have e7 : a.eval (.tmp 7) = v7 := (hI.base 7 (by kernel_rfl)).trans rfl
          have hc : kC w6 7 [⟨4, 45, fun w v => NA w v (X - Y)⟩, ⟨6, 47, QR Rel⟩] (QF w (A + 1 + 1) Rel) listed a w1 := hI.world
          have lk : listed.getD 7 false = false := hI.notYet hsz' 7 rfl (by kernel_rfl) hi hl
          obtain ⟨hB0, hps⟩ := hc.1 lk
          have kS := jS.below hB0 jS.lt
          have kZ := jZ.below hB0 jZ.lt
          rcases (by omega : i = 0 ∨ i = 1 ∨ i = 2 ∨ i = 3 ∨ i = 4 ∨ i = 5 ∨ i = 6 ∨ i = 7) with rfl | rfl | rfl | rfl | rfl | rfl | rfl | rfl
          all_goals obtain rfl := Option.some.inj ho
          · exact okR_field rfl eb (fieldQ _ 0 (by decide) _) ⟨slotR rfl rfl, hc.same 0 rfl (by decide) (by simp)⟩
          · have k1 := hI.slot 0 _ 41 rfl rfl (hd ⟨0, .data⟩ (by simp) rfl)
            exact okR_load rfl k1 (loadB _ _ _ (kS.cell 0 rfl)) ⟨slotR rfl rfl, hc.same 1 rfl (by decide) (by simp)⟩
          · exact okR_move rfl e5 ⟨slotR rfl rfl, hc.same 2 rfl (by decide) (by simp)⟩
          · exact okR_move rfl e6 ⟨slotR rfl rfl, hc.same 3 rfl (by decide) (by simp)⟩
          · have k1 := hI.slot 2 _ 43 rfl rfl (hd ⟨2, .data⟩ (by simp) rfl)
            have k2 := hI.slot 3 _ 44 rfl rfl (hd ⟨3, .data⟩ (by simp) rfl)
            refine okR_call2 enter_SubN rfl k1 k2 ((subN_b (f5.below hB0) (f6.below hB0) bX hXY).mono ?_)
            rintro e w' ⟨v, rfl, hv, hB⟩
            refine ⟨v, rfl, slotR rfl trivial, hc.made lk 4 hI.size (show 45 < 55 by omega) rfl (by decide) hB ?_ ?_⟩
            · intro c hc' he
              simp only [List.mem_cons, List.mem_nil_iff, or_false] at hc'
              rcases hc' with rfl | rfl
              · exact ⟨rfl, hv⟩
              · simp at he
            · intro c hc' hne
              simp only [List.mem_cons, List.mem_nil_iff, or_false] at hc'
              rcases hc' with rfl | rfl
              · exact absurd rfl hne
              · exact ⟨by simp, QR.keep _ _ hB⟩
          · exact okR_move rfl e7 ⟨slotR rfl rfl, hc.same 5 rfl (by decide) (by simp)⟩
          · have k1 := hI.slot 1 _ 42 rfl rfl (hd ⟨1, .data⟩ (by simp) rfl)
            have k2 := hI.slot 5 _ 46 rfl rfl (hd ⟨5, .data⟩ (by simp) rfl)
            have j1 := hps ⟨4, 45, fun w v => NA w v (X - Y)⟩ (by simp) (hd ⟨4, .data⟩ (by simp) rfl)
            refine okR_call3' enter_Lay rfl k1 rfl k2 ((unhide HLay s1 (X - Y) (unhide HG).1 (unhide HG).2 bS _ _ _ j1 (f7.below hB0)).mono ?_)
            rintro e w' ⟨v, rfl, hq, hB⟩
            refine ⟨v, rfl, slotR rfl trivial, hc.made lk 6 hI.size (show 47 < 55 by omega) rfl (by decide) hB ?_ ?_⟩
            · intro c hc' he
              simp only [List.mem_cons, List.mem_nil_iff, or_false] at hc'
              rcases hc' with rfl | rfl
              · simp at he
              · exact ⟨rfl, hq⟩
            · intro c hc' hne
              simp only [List.mem_cons, List.mem_nil_iff, or_false] at hc'
              rcases hc' with rfl | rfl
              · exact ⟨by simp, NA.keep _ _ hB⟩
              · exact absurd rfl hne
          · have j1 := hps ⟨6, 47, QR Rel⟩ (by simp) (hd ⟨6, .data⟩ (by simp) rfl)
            obtain ⟨bb, a1, n1', c1', a2, n2', c2', hv⟩ := QR.form j1
            rw [hv] at j1
            exact okR_store rfl e4 hv (run_storeAt_mid w1 (A + 1 + 1) 0 68 #[.bool bb, .slice a1 n1' c1', .slice a2 n2' c2'] kZ.there infoQ (by simp [Value.oneCell'])) ⟨slotN rfl, kC.last (by omega) (QF.store j1 kZ (hlc.trans (hB0.mono hlc.size)) (by rw [unhide HA]; omega))⟩
        · intro listed a' w9 hI hall
          obtain ⟨c0, c1', c2', hb, ⟨z, t, hq, hrel⟩, hlow⟩ := hI.world.2 (hall 7 (by decide))
          have E := hI.frame [41, 42, 43, 44, 45, 46, 47] (by kernel_rfl)
          simp only [putAll] at E
          generalize a'.eval (.tmp 41) = y41 at E
          generalize a'.eval (.tmp 42) = y42 at E
          generalize a'.eval (.tmp 43) = y43 at E
          generalize a'.eval (.tmp 44) = y44 at E
          generalize a'.eval (.tmp 45) = y45 at E
          generalize a'.eval (.tmp 46) = y46 at E
          generalize a'.eval (.tmp 47) = y47 at E
          simp only [Act.put, List.setIfInBounds_toArray, List.set_cons_zero, List.set_cons_succ] at E
          clear hI hall
          subst E
          have HH := hide (And.intro hb (And.intro hq (And.intro hrel hlow)))
          clear hb hq hrel hlow
          go_wp2_with fail
          refine bodyPost_ret (res_add rfl (unhide HH).1) rfl ?_
          obtain ⟨_, hq, hrel, hlow⟩ := unhide HH
          rw [unhide HRelD] at hrel
          exact ⟨_, z, t, rfl, hq, hrel.1, hrel.2, hlow⟩
      · have HG : Hid (sg s2 (Y - X) = z1 * 2 ^ t2 + z2 * 2 ^ t1 ∧ Y - X = (z1 * 2 ^ t2 + z2 * 2 ^ t1).natAbs) := by
          show _ ∧ _
          rw [unhide HSum]
          exact sg_less (unhide HSE) (by omega)
        rw [cmpI_lt (show X < Y by omega)]
        have bS : Y - X < 4294967296 ^ 990 := Nat.lt_of_le_of_lt (Nat.sub_le _ _) bY
        go_upto_region 7 with fail
        obtain ⟨f5, f6, f7, fB⟩ := unhide H6
        have hlc : Below w.heap.size w w6 := hlw.trans (fB.mono hlw.size)
        have jS := (hBB.below fB hBB.lt)
        have jZ := hBZ.below fB hBZ.lt
        refine region_slotsA (adrV 48 49 50 51 53 (A + 1) s2 y6 y5 v7) (kC w6 7 [⟨4, 52, fun w v => NA w v (Y - X)⟩, ⟨6, 54, QR Rel⟩] (QF w (A + 1 + 1) Rel)) (by kernel_rfl) (by kernel_rfl) (by kernel_rfl) 55 (by kernel_rfl) rfl kC.start ?_ ?_
        · intro listed a w1 i o hI ho hsz hl hd
          have hi : i < 8 := by simpa using (Array.getElem?_eq_some_iff.1 ho).1
          have hsz' : listed.size = 8 := by simpa using hsz
          have eb : a.eval (.tmp 3) = .pointer (some ⟨A + 1, 0, none⟩) := (hI.base 3 (by kernel_rfl)).trans rfl
          have e4 : a.eval (.tmp 4) = .pointer (some ⟨A + 1 + 1, 0, none⟩) := (hI.base 4 (by kernel_rfl)).trans rfl
          have e5 : a.eval (.tmp 5) = y5 := (hI.base 5 (by kernel_rfl)).trans rfl
          have e6 : a.eval (.tmp 6) = y6 := (hI.base 6 (by kernel_rfl)).trans rfl
          have e7 : a.eval (.tmp 7) = v7 := (hI.base 7 (by kernel_rfl)).trans rfl
          have hc : kC w6 7 [⟨4, 52, fun w v => NA w v (Y - X)⟩, ⟨6, 54, QR Rel⟩] (QF w (A + 1 + 1) Rel) listed a w1 := hI.world
          have lk : listed.getD 7 false = false := hI.notYet hsz' 7 rfl (by kernel_rfl) hi hl
          obtain ⟨hB0, hps⟩ := hc.1 lk
          have kS := jS.below hB0 jS.lt
          have kZ := jZ.below hB0 jZ.lt
          rcases (by omega : i = 0 ∨ i = 1 ∨ i = 2 ∨ i = 3 ∨ i = 4 ∨ i = 5 ∨ i = 6 ∨ i = 7) with rfl | rfl | rfl | rfl | rfl | rfl | rfl | rfl
          all_goals obtain rfl := Option.some.inj ho
          · exact okR_field rfl eb (fieldQ _ 0 (by decide) _) ⟨slotR rfl rfl, hc.same 0 rfl (by decide) (by simp)⟩
          · have k1 := hI.slot 0 _ 48 rfl rfl (hd ⟨0, .data⟩ (by simp) rfl)
            exact okR_load rfl k1 (loadB _ _ _ (kS.cell 0 rfl)) ⟨slotR rfl rfl, hc.same 1 rfl (by decide) (by simp)⟩
          · exact okR_move rfl e6 ⟨slotR rfl rfl, hc.same 2 rfl (by decide) (by simp)⟩
          · exact okR_move rfl e5 ⟨slotR rfl rfl, hc.same 3 rfl (by decide) (by simp)⟩
          · have k1 := hI.slot 2 _ 50 rfl rfl (hd ⟨2, .data⟩ (by simp) rfl)
            have k2 := hI.slot 3 _ 51 rfl rfl (hd ⟨3, .data⟩ (by simp) rfl)
            refine okR_call2 enter_SubN rfl k1 k2 ((subN_b (f6.below hB0) (f5.below hB0) bY (by omega)).mono ?_)
            rintro e w' ⟨v, rfl, hv, hB⟩
            refine ⟨v, rfl, slotR rfl trivial, hc.made lk 4 hI.size (show 52 < 55 by omega) rfl (by decide) hB ?_ ?_⟩
            · intro c hc' he
              simp only [List.mem_cons, List.mem_nil_iff, or_false] at hc'
              rcases hc' with rfl | rfl
              · exact ⟨rfl, hv⟩
              · simp at he
            · intro c hc' hne
              simp only [List.mem_cons, List.mem_nil_iff, or_false] at hc'
              rcases hc' with rfl | rfl
              · exact absurd rfl hne
              · exact ⟨by simp, QR.keep _ _ hB⟩
          · exact okR_move rfl e7 ⟨slotR rfl rfl, hc.same 5 rfl (by decide) (by simp)⟩
          · have k1 := hI.slot 1 _ 49 rfl rfl (hd ⟨1, .data⟩ (by simp) rfl)
            have k2 := hI.slot 5 _ 53 rfl rfl (hd ⟨5, .data⟩ (by simp) rfl)
            have j1 := hps ⟨4, 52, fun w v => NA w v (Y - X)⟩ (by simp) (hd ⟨4, .data⟩ (by simp) rfl)
            refine okR_call3' enter_Lay rfl k1 rfl k2 ((unhide HLay s2 (Y - X) (unhide HG).1 (unhide HG).2 bS _ _ _ j1 (f7.below hB0)).mono ?_)
            rintro e w' ⟨v, rfl, hq, hB⟩
            refine ⟨v, rfl, slotR rfl trivial, hc.made lk 6 hI.size (show 54 < 55 by omega) rfl (by decide) hB ?_ ?_⟩
            · intro c hc' he
              simp only [List.mem_cons, List.mem_nil_iff, or_false] at hc'
              rcases hc' with rfl | rfl
              · simp at he
              · exact ⟨rfl, hq⟩
            · intro c hc' hne
              simp only [List.mem_cons, List.mem_nil_iff, or_false] at hc'
              rcases hc' with rfl | rfl
              · exact ⟨by simp, NA.keep _ _ hB⟩
              · exact absurd rfl hne
          · have j1 := hps ⟨6, 54, QR Rel⟩ (by simp) (hd ⟨6, .data⟩ (by simp) rfl)
            obtain ⟨bb, a1, n1', c1', a2, n2', c2', hv⟩ := QR.form j1
            rw [hv] at j1
            exact okR_store rfl e4 hv (run_storeAt_mid w1 (A + 1 + 1) 0 68 #[.bool bb, .slice a1 n1' c1', .slice a2 n2' c2'] kZ.there infoQ (by simp [Value.oneCell'])) ⟨slotN rfl, kC.last (by omega) (QF.store j1 kZ (hlc.trans (hB0.mono hlc.size)) (by rw [unhide HA]; omega))⟩
        · intro listed a' w9 hI hall
          obtain ⟨c0, c1', c2', hb, ⟨z, t, hq, hrel⟩, hlow⟩ := hI.world.2 (hall 7 (by decide))
          have E := hI.frame [48, 49, 50, 51, 52, 53, 54] (by kernel_rfl)
          simp only [putAll] at E
          generalize a'.eval (.tmp 48) = y48 at E
          generalize a'.eval (.tmp 49) = y49 at E
          generalize a'.eval (.tmp 50) = y50 at E
          generalize a'.eval (.tmp 51) = y51 at E
          generalize a'.eval (.tmp 52) = y52 at E
          generalize a'.eval (.tmp 53) = y53 at E
          generalize a'.eval (.tmp 54) = y54 at E
          simp only [Act.put, List.setIfInBounds_toArray, List.set_cons_zero, List.set_cons_succ] at E
          clear hI hall
          subst E
          have HH := hide (And.intro hb (And.intro hq (And.intro hrel hlow)))
          clear hb hq hrel hlow
          go_wp2_with fail
          refine bodyPost_ret (res_add rfl (unhide HH).1) rfl ?_
          obtain ⟨_, hq, hrel, hlow⟩ := unhide HH
          rw [unhide HRelD] at hrel
          exact ⟨_, z, t, rfl, hq, hrel.1, hrel.2, hlow⟩
end Go.Proofs.Ytlajalfdcfkmpaa
