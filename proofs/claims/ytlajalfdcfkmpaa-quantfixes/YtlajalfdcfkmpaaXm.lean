/- MulQ, QuoQ. -/
import Derived.Test.YtlajalfdcfkmpaaXgk
namespace Go.Proofs.Ytlajalfdcfkmpaa
open Go.RowKit Go.Maps

theorem three_blocks (w : World) (a b c : Array Value) (t : TypeId) :
    Blk (((w.alloc (.cells a t)).alloc (.cells b t)).alloc (.cells c t)) w.heap.size a t ∧ Blk (((w.alloc (.cells a t)).alloc (.cells b t)).alloc (.cells c t)) (w.heap.size + 1) b t ∧ Blk (((w.alloc (.cells a t)).alloc (.cells b t)).alloc (.cells c t)) (w.heap.size + 1 + 1) c t ∧ Below w.heap.size w (((w.alloc (.cells a t)).alloc (.cells b t)).alloc (.cells c t)) := by
  have s1 : (w.alloc (.cells a t)).heap.size = w.heap.size + 1 := by simp
  have s2 : ((w.alloc (.cells a t)).alloc (.cells b t)).heap.size = w.heap.size + 1 + 1 := by simp
  have h1 : Blk (w.alloc (.cells a t)) w.heap.size a t := Blk.alloc
  have h2 : Blk ((w.alloc (.cells a t)).alloc (.cells b t)) (w.heap.size + 1) b t := by rw [← s1]; exact Blk.alloc
  have h3 : Blk (((w.alloc (.cells a t)).alloc (.cells b t)).alloc (.cells c t)) (w.heap.size + 1 + 1) c t := by rw [← s2]; exact Blk.alloc
  have b1 := Joins.below_alloc1 w (.cells a t)
  have b2 := Joins.below_alloc1 (w.alloc (.cells a t)) (.cells b t)
  have b3 := Joins.below_alloc1 ((w.alloc (.cells a t)).alloc (.cells b t)) (.cells c t)
  exact ⟨(h1.below b2 h1.lt).below b3 (h1.below b2 h1.lt).lt, h2.below b3 h2.lt, h3, (b1.trans (b2.mono b1.size)).trans (b3.mono (b1.trans (b2.mono b1.size)).size)⟩
theorem sg_abs (z : Int) : sg (decide (z < 0)) z.natAbs = z := by
  unfold sg
  by_cases h : z < 0
  · simp only [h, decide_true, if_true]; omega
  · simp only [h, decide_false, Bool.false_eq_true, if_false]; omega
theorem sg_times (a b : Bool) (m n : Nat) : sg (a != b) (m * n) = sg a m * sg b n := by
  cases a <;> cases b <;> simp [sg, Int.neg_mul, Int.mul_neg]
theorem sg_mul (z1 z2 : Int) : sg (decide (z1 < 0) != decide (z2 < 0)) (z1.natAbs * z2.natAbs) = z1 * z2 := by
  rw [sg_times, sg_abs, sg_abs]
theorem mul_lt {a b i j k : Nat} (h1 : a < 4294967296 ^ i) (h2 : b < 4294967296 ^ j) (hk : i + j ≤ k) : a * b < 4294967296 ^ k := by
  have h := Nat.mul_lt_mul_of_lt_of_le h1 (Nat.le_of_lt h2) (bpos j)
  rw [← badd] at h
  exact Nat.lt_of_lt_of_le h (ble hk)
theorem lt_le {a i k : Nat} (h : a < 4294967296 ^ i) (hk : i ≤ k) : a < 4294967296 ^ k := Nat.lt_of_lt_of_le h (ble hk)
def mulQV (A B : Nat) (s1 s2 : Bool) (p1 p2 p3 p4 : Option Addr) (m1 q1 m2 q2 m3 q3 m4 q4 : Nat) : Nat → Value → Prop
  | 5, v => v = .pointer (some ⟨A, 0, none⟩)
  | 6, v => v = .bool s1
  | 7, v => v = .pointer (some ⟨B, 0, none⟩)
  | 8, v => v = .bool s2
  | 9, v => v = .bool (s1 != s2)
  | 10, v => v = .pointer (some ⟨A, 1, none⟩)
  | 11, v => v = .slice p1 m1 q1
  | 12, v => v = .pointer (some ⟨B, 1, none⟩)
  | 13, v => v = .slice p3 m3 q3
  | 15, v => v = .pointer (some ⟨A, 2, none⟩)
  | 16, v => v = .slice p2 m2 q2
  | 17, v => v = .pointer (some ⟨B, 2, none⟩)
  | 18, v => v = .slice p4 m4 q4
  | _, _ => True
theorem res_mulQ {w : World} {tmps : Array Value} {b : Nat} {c0 c1 c2 : Value} (h6 : tmps.getD 4 undef = .pointer (some ⟨b, 0, none⟩)) (hr : Blk w b #[c0, c1, c2] 68) :
    (results Try.f32 tmps).run Try.prog w = .ok (.agg #[c0, c1, c2]) w := by
  have hl := run_loadVar_mid (P := Try.prog) w b 0 68 [c0, c1, c2] _ hr.range Try.underlying68 rfl infoQ
  rw [Array.getD_eq_getD_getElem?] at h6
  simp [results, h6, asAddr, hl]
set_option maxRecDepth 100000 in
set_option maxHeartbeats 2000000 in
theorem mulQ_any {v1 v2 : Value} {z1 z2 : Int} {t1 t2 : Nat} {w : World} (h1 : QA w v1 z1 t1) (h2 : QA w v2 z2 t2) (b1 : z1.natAbs < 4294967296 ^ 400) (b2 : z2.natAbs < 4294967296 ^ 400) (ht : t1 + t2 ≤ 12000) :
    Calls Try.prog 32 #[v1, v2] w fun e w' => ∃ v z t, e = .returned v ∧ QA w' v z t ∧ t ≤ t1 + t2 ∧ z * 2 ^ (t1 + t2 - t) = z1 * z2 ∧ Below w.heap.size w w' := by
  obtain ⟨vN1, vD1, rfl, hN1, hD1, _⟩ := h1
  obtain ⟨vN2, vD2, rfl, hN2, hD2, _⟩ := h2
  obtain ⟨p1, m1, q1, rfl, _⟩ := hN1.form
  obtain ⟨p2, m2, q2, rfl, _⟩ := hD1.form
  obtain ⟨p3, m3, q3, rfl, _⟩ := hN2.form
  obtain ⟨p4, m4, q4, rfl, _⟩ := hD2.form
  obtain ⟨Rel, hRelD⟩ : ∃ Rel : Int → Nat → Prop, Rel = fun z t => t ≤ t1 + t2 ∧ z * 2 ^ (t1 + t2 - t) = z1 * z2 := ⟨_, rfl⟩
  have hRel : ∀ z t, t ≤ t1 + t2 → z * 2 ^ (t1 + t2 - t) = sg (decide (z1 < 0) != decide (z2 < 0)) (z1.natAbs * z2.natAbs) → Rel z t := fun z t h h' => by rw [hRelD]; exact ⟨h, h'.trans (sg_mul z1 z2)⟩
  have c1 : 2 ^ t1 < 4294967296 ^ 990 := pow_lt (k := 990) (by omega)
  have c2 : 2 ^ t2 < 4294967296 ^ 990 := pow_lt (k := 990) (by omega)
  have bm : z1.natAbs * z2.natAbs < 4294967296 ^ 990 := mul_lt (i := 400) (j := 400) (k := 990) b1 b2 (by decide)
  replace b1 : z1.natAbs < 4294967296 ^ 990 := lt_le (i := 400) (k := 990) b1 (by decide)
  replace b2 : z2.natAbs < 4294967296 ^ 990 := lt_le (i := 400) (k := 990) b2 (by decide)
  obtain ⟨A, hA⟩ : ∃ A, w.heap.size = A := ⟨_, rfl⟩
  obtain ⟨hBA, hBB, hBZ, hlw⟩ := three_blocks w #[.bool (decide (z1 < 0)), .slice p1 m1 q1, .slice p2 m2 q2] #[.bool (decide (z2 < 0)), .slice p3 m3 q3, .slice p4 m4 q4] zQ 68
  obtain ⟨W, hW⟩ : ∃ W, W = ((w.alloc (Obj.cells #[.bool (decide (z1 < 0)), .slice p1 m1 q1, .slice p2 m2 q2] 68)).alloc (Obj.cells #[.bool (decide (z2 < 0)), .slice p3 m3 q3, .slice p4 m4 q4] 68)).alloc (Obj.cells zQ 68) := ⟨_, rfl⟩
  rw [← hW] at hBA hBB hBZ hlw
  rw [hA] at hBA hBB hBZ
  replace hN1 := hN1.below hlw
  replace hN2 := hN2.below hlw
  replace hD1 := hD1.below hlw
  replace hD2 := hD2.below hlw
  go_enter Try.func32, Try.ntmps32
  go_upto_region 1 with fail
  unfold zQ at hW
  rw [← hW]
  clear hW
  refine region_slotsA (mulQV A (A + 1) (decide (z1 < 0)) (decide (z2 < 0)) p1 p2 p3 p4 m1 q1 m2 q2 m3 q3 m4 q4) (kC W 16 [⟨9, 14, fun w v => NA w v (z1.natAbs * z2.natAbs)⟩, ⟨14, 19, fun w v => NA w v (2 ^ (t1 + t2))⟩, ⟨15, 20, QR Rel⟩] (QF w (A + 1 + 1) Rel)) (by kernel_rfl) (by kernel_rfl) (by kernel_rfl) 21 (by kernel_rfl) rfl kC.start ?_ ?_
  · intro listed a w1 i o hI ho hsz hl hd
    have hi : i < 17 := by simpa using (Array.getElem?_eq_some_iff.1 ho).1
    have hsz' : listed.size = 17 := by simpa using hsz
    have e2 : a.eval (.tmp 2) = .pointer (some ⟨A, 0, none⟩) := (hI.base 2 (by kernel_rfl)).trans rfl
    have e3 : a.eval (.tmp 3) = .pointer (some ⟨A + 1, 0, none⟩) := (hI.base 3 (by kernel_rfl)).trans rfl
    have e4 : a.eval (.tmp 4) = .pointer (some ⟨A + 1 + 1, 0, none⟩) := (hI.base 4 (by kernel_rfl)).trans rfl
    have hc : kC W 16 [⟨9, 14, fun w v => NA w v (z1.natAbs * z2.natAbs)⟩, ⟨14, 19, fun w v => NA w v (2 ^ (t1 + t2))⟩, ⟨15, 20, QR Rel⟩] (QF w (A + 1 + 1) Rel) listed a w1 := hI.world
    have l16 : listed.getD 16 false = false := hI.notYet hsz' 16 rfl (by kernel_rfl) hi hl
    obtain ⟨hB0, hps⟩ := hc.1 l16
    have kA := hBA.below hB0 hBA.lt
    have kB := hBB.below hB0 hBB.lt
    have kZ := hBZ.below hB0 hBZ.lt
    rcases (by omega : i = 0 ∨ i = 1 ∨ i = 2 ∨ i = 3 ∨ i = 4 ∨ i = 5 ∨ i = 6 ∨ i = 7 ∨ i = 8 ∨ i = 9 ∨ i = 10 ∨ i = 11 ∨ i = 12 ∨ i = 13 ∨ i = 14 ∨ i = 15 ∨ i = 16) with rfl | rfl | rfl | rfl | rfl | rfl | rfl | rfl | rfl | rfl | rfl | rfl | rfl | rfl | rfl | rfl | rfl
    all_goals obtain rfl := Option.some.inj ho
    · exact okR_field rfl e2 (fieldQ _ 0 (by decide) _) ⟨slotR rfl rfl, hc.same 0 rfl (by decide) (by simp)⟩
    · have k1 := hI.slot 0 _ 5 rfl rfl (hd ⟨0, .data⟩ (by simp) rfl)
      exact okR_load rfl k1 (loadB _ _ _ (kA.cell 0 rfl)) ⟨slotR rfl rfl, hc.same 1 rfl (by decide) (by simp)⟩
    · exact okR_field rfl e3 (fieldQ _ 0 (by decide) _) ⟨slotR rfl rfl, hc.same 2 rfl (by decide) (by simp)⟩
    · have k1 := hI.slot 2 _ 7 rfl rfl (hd ⟨2, .data⟩ (by simp) rfl)
      exact okR_load rfl k1 (loadB _ _ _ (kB.cell 0 rfl)) ⟨slotR rfl rfl, hc.same 3 rfl (by decide) (by simp)⟩
    · have k1 := hI.slot 1 _ 6 rfl rfl (hd ⟨1, .data⟩ (by simp) rfl)
      have k2 := hI.slot 3 _ 8 rfl rfl (hd ⟨3, .data⟩ (by simp) rfl)
      exact okR_neqB rfl k1 k2 ⟨slotR rfl rfl, hc.same 4 rfl (by decide) (by simp)⟩
    · exact okR_field rfl e2 (fieldQ _ 1 (by decide) _) ⟨slotR rfl rfl, hc.same 5 rfl (by decide) (by simp)⟩
    · have k1 := hI.slot 5 _ 10 rfl rfl (hd ⟨5, .data⟩ (by simp) rfl)
      exact okR_load rfl k1 (loadL _ _ _ _ _ (kA.cell 1 rfl)) ⟨slotR rfl rfl, hc.same 6 rfl (by decide) (by simp)⟩
    · exact okR_field rfl e3 (fieldQ _ 1 (by decide) _) ⟨slotR rfl rfl, hc.same 7 rfl (by decide) (by simp)⟩
    · have k1 := hI.slot 7 _ 12 rfl rfl (hd ⟨7, .data⟩ (by simp) rfl)
      exact okR_load rfl k1 (loadL _ _ _ _ _ (kB.cell 1 rfl)) ⟨slotR rfl rfl, hc.same 8 rfl (by decide) (by simp)⟩
    · have k1 := hI.slot 6 _ 11 rfl rfl (hd ⟨6, .data⟩ (by simp) rfl)
      have k2 := hI.slot 8 _ 13 rfl rfl (hd ⟨8, .data⟩ (by simp) rfl)
      refine okR_call2 enter_MulN rfl k1 k2 ((mulN_b (hN1.below hB0) (hN2.below hB0) b1 b2).mono ?_)
      rintro e w' ⟨v, rfl, hv, hB⟩
      skip
      refine ⟨v, rfl, slotR rfl trivial, hc.made l16 9 hI.size (show 14 < 21 by omega) rfl (by decide) hB ?_ ?_⟩
      · intro c hc' he
        simp only [List.mem_cons, List.mem_nil_iff, or_false] at hc'
        rcases hc' with rfl | rfl | rfl
        · exact ⟨rfl, hv⟩
        · simp at he
        · simp at he
      · intro c hc' hne
        simp only [List.mem_cons, List.mem_nil_iff, or_false] at hc'
        rcases hc' with rfl | rfl | rfl
        · exact absurd rfl hne
        · exact ⟨by simp, NA.keep _ _ hB⟩
        · exact ⟨by simp, QR.keep _ _ hB⟩
    · exact okR_field rfl e2 (fieldQ _ 2 (by decide) _) ⟨slotR rfl rfl, hc.same 10 rfl (by decide) (by simp)⟩
    · have k1 := hI.slot 10 _ 15 rfl rfl (hd ⟨10, .data⟩ (by simp) rfl)
      exact okR_load rfl k1 (loadL _ _ _ _ _ (kA.cell 2 rfl)) ⟨slotR rfl rfl, hc.same 11 rfl (by decide) (by simp)⟩
    · exact okR_field rfl e3 (fieldQ _ 2 (by decide) _) ⟨slotR rfl rfl, hc.same 12 rfl (by decide) (by simp)⟩
    · have k1 := hI.slot 12 _ 17 rfl rfl (hd ⟨12, .data⟩ (by simp) rfl)
      exact okR_load rfl k1 (loadL _ _ _ _ _ (kB.cell 2 rfl)) ⟨slotR rfl rfl, hc.same 13 rfl (by decide) (by simp)⟩
    · have k1 := hI.slot 11 _ 16 rfl rfl (hd ⟨11, .data⟩ (by simp) rfl)
      have k2 := hI.slot 13 _ 18 rfl rfl (hd ⟨13, .data⟩ (by simp) rfl)
      refine okR_call2 enter_MulN rfl k1 k2 ((mulN_b (hD1.below hB0) (hD2.below hB0) c1 c2).mono ?_)
      rintro e w' ⟨v, rfl, hv, hB⟩
      rw [← Nat.pow_add] at hv
      refine ⟨v, rfl, slotR rfl trivial, hc.made l16 14 hI.size (show 19 < 21 by omega) rfl (by decide) hB ?_ ?_⟩
      · intro c hc' he
        simp only [List.mem_cons, List.mem_nil_iff, or_false] at hc'
        rcases hc' with rfl | rfl | rfl
        · simp at he
        · exact ⟨rfl, hv⟩
        · simp at he
      · intro c hc' hne
        simp only [List.mem_cons, List.mem_nil_iff, or_false] at hc'
        rcases hc' with rfl | rfl | rfl
        · exact ⟨by simp, NA.keep _ _ hB⟩
        · exact absurd rfl hne
        · exact ⟨by simp, QR.keep _ _ hB⟩
    · have k1 := hI.slot 4 _ 9 rfl rfl (hd ⟨4, .data⟩ (by simp) rfl)
      have j1 := hps ⟨9, 14, fun w v => NA w v (z1.natAbs * z2.natAbs)⟩ (by simp) (hd ⟨9, .data⟩ (by simp) rfl)
      have j2 := hps ⟨14, 19, fun w v => NA w v (2 ^ (t1 + t2))⟩ (by simp) (hd ⟨14, .data⟩ (by simp) rfl)
      refine okR_call3' enter_Lay rfl k1 rfl rfl ((lay_any _ j1 j2 bm ht).mono ?_)
      rintro e w' ⟨v, z, t, rfl, hq, ht', hz, hB⟩
      refine ⟨v, rfl, slotR rfl trivial, hc.made l16 15 hI.size (show 20 < 21 by omega) rfl (by decide) hB ?_ ?_⟩
      · intro c hc' he
        simp only [List.mem_cons, List.mem_nil_iff, or_false] at hc'
        rcases hc' with rfl | rfl | rfl
        · simp at he
        · simp at he
        · exact ⟨rfl, z, t, hq, hRel z t ht' hz⟩
      · intro c hc' hne
        simp only [List.mem_cons, List.mem_nil_iff, or_false] at hc'
        rcases hc' with rfl | rfl | rfl
        · exact ⟨by simp, NA.keep _ _ hB⟩
        · exact ⟨by simp, NA.keep _ _ hB⟩
        · exact absurd rfl hne
    · have j1 := hps ⟨15, 20, QR Rel⟩ (by simp) (hd ⟨15, .data⟩ (by simp) rfl)
      obtain ⟨bb, a1, n1', c1', a2, n2', c2', hv⟩ := QR.form j1
      rw [hv] at j1
      exact okR_store rfl e4 hv (run_storeAt_mid w1 (A + 1 + 1) 0 68 #[.bool bb, .slice a1 n1' c1', .slice a2 n2' c2'] kZ.there infoQ (by simp [Value.oneCell'])) ⟨slotN rfl, kC.last (by omega) (QF.store j1 kZ (hlw.trans (hB0.mono hlw.size)) (by omega))⟩
  · intro listed a' w9 hI hall
    have hF := hI.world.2 (hall 16 (by decide))
    obtain ⟨c0, c1', c2', hb, ⟨z, t, hq, hrel⟩, hlow⟩ := hF
    have E := hI.frame [5, 6, 7, 8, 9, 10, 11, 12, 13, 14, 15, 16, 17, 18, 19, 20] (by kernel_rfl)
    simp only [putAll] at E
    generalize a'.eval (.tmp 5) = y5 at E
    generalize a'.eval (.tmp 6) = y6 at E
    generalize a'.eval (.tmp 7) = y7 at E
    generalize a'.eval (.tmp 8) = y8 at E
    generalize a'.eval (.tmp 9) = y9 at E
    generalize a'.eval (.tmp 10) = y10 at E
    generalize a'.eval (.tmp 11) = y11 at E
    generalize a'.eval (.tmp 12) = y12 at E
    generalize a'.eval (.tmp 13) = y13 at E
    generalize a'.eval (.tmp 14) = y14 at E
    generalize a'.eval (.tmp 15) = y15 at E
    generalize a'.eval (.tmp 16) = y16 at E
    generalize a'.eval (.tmp 17) = y17 at E
    generalize a'.eval (.tmp 18) = y18 at E
    generalize a'.eval (.tmp 19) = y19 at E
    generalize a'.eval (.tmp 20) = y20 at E
    simp only [Act.put, List.setIfInBounds_toArray, List.set_cons_zero, List.set_cons_succ] at E
    clear hI hall
    subst E
    have HH := hide (And.intro hb (And.intro hq (And.intro hrel hlow)))
    clear hb hq hrel hlow hBA hBB hBZ hlw hN1 hN2 hD1 hD2
    go_wp2_with fail
    refine bodyPost_ret (res_mulQ rfl (unhide HH).1) rfl ?_
    obtain ⟨_, hq, hrel, hlow⟩ := unhide HH
    rw [hRelD] at hrel
    exact ⟨_, z, t, rfl, hq, hrel.1, hrel.2, hlow⟩
def quoQV (A B : Nat) (s1 s2 : Bool) (p1 p2 p3 p4 : Option Addr) (m1 q1 m2 q2 m3 q3 m4 q4 : Nat) : Nat → Value → Prop
  | 5, v => v = .pointer (some ⟨A, 0, none⟩)
  | 6, v => v = .bool s1
  | 7, v => v = .pointer (some ⟨B, 0, none⟩)
  | 8, v => v = .bool s2
  | 9, v => v = .bool (s1 != s2)
  | 10, v => v = .pointer (some ⟨A, 1, none⟩)
  | 11, v => v = .slice p1 m1 q1
  | 12, v => v = .pointer (some ⟨B, 2, none⟩)
  | 13, v => v = .slice p4 m4 q4
  | 15, v => v = .pointer (some ⟨A, 2, none⟩)
  | 16, v => v = .slice p2 m2 q2
  | 17, v => v = .pointer (some ⟨B, 1, none⟩)
  | 18, v => v = .slice p3 m3 q3
  | _, _ => True
theorem res_quoQ {w : World} {tmps : Array Value} {b : Nat} {c0 c1 c2 : Value} (h6 : tmps.getD 4 undef = .pointer (some ⟨b, 0, none⟩)) (hr : Blk w b #[c0, c1, c2] 68) :
    (results Try.f37 tmps).run Try.prog w = .ok (.agg #[c0, c1, c2]) w := by
  have hl := run_loadVar_mid (P := Try.prog) w b 0 68 [c0, c1, c2] _ hr.range Try.underlying68 rfl infoQ
  rw [Array.getD_eq_getD_getElem?] at h6
  simp [results, h6, asAddr, hl]
set_option maxRecDepth 100000 in
set_option maxHeartbeats 2000000 in
theorem quoQ_any {v1 v2 : Value} {z1 z2 : Int} {t1 t2 : Nat} {w : World} (h1 : QA w v1 z1 t1) (h2 : QA w v2 z2 t2) {k : Nat} (hz2 : z2 = 2 ^ k) (ht2 : t2 = 0) (b1 : z1.natAbs < 4294967296 ^ 990) (ht : t1 + k ≤ 12000) :
    Calls Try.prog 37 #[v1, v2] w fun e w' => ∃ v z t, e = .returned v ∧ QA w' v z t ∧ t ≤ t1 + k ∧ z * 2 ^ (t1 + k - t) = z1 ∧ Below w.heap.size w w' := by
  obtain ⟨vN1, vD1, rfl, hN1, hD1, _⟩ := h1
  obtain ⟨vN2, vD2, rfl, hN2, hD2, _⟩ := h2
  obtain ⟨p1, m1, q1, rfl, _⟩ := hN1.form
  obtain ⟨p2, m2, q2, rfl, _⟩ := hD1.form
  obtain ⟨p3, m3, q3, rfl, _⟩ := hN2.form
  obtain ⟨p4, m4, q4, rfl, _⟩ := hD2.form
  obtain ⟨Rel, hRelD⟩ : ∃ Rel : Int → Nat → Prop, Rel = fun z t => t ≤ t1 + k ∧ z * 2 ^ (t1 + k - t) = z1 := ⟨_, rfl⟩
  have hRel : ∀ z t, t ≤ t1 + k → z * 2 ^ (t1 + k - t) = sg (decide (z1 < 0) != decide (z2 < 0)) z1.natAbs → Rel z t := fun z t h h' => by
    rw [hRelD]
    have h2 : ¬ z2 < 0 := by rw [hz2]; exact Int.not_lt.2 (Int.le_of_lt (Int.pow_pos (by decide)))
    rw [decide_eq_false h2, Bool.bne_false, sg_abs] at h'
    exact ⟨h, h'⟩
  have hab : z2.natAbs = 2 ^ k := by rw [hz2, Int.natAbs_pow]; rfl
  have c1 : 2 ^ t1 < 4294967296 ^ 990 := pow_lt (k := 990) (by omega)
  have c2 : 2 ^ t2 < 4294967296 ^ 990 := pow_lt (k := 990) (by omega)
  have b2 : z2.natAbs < 4294967296 ^ 990 := by rw [hab]; exact pow_lt (k := 990) (by omega)
  clear hz2
  obtain ⟨A, hA⟩ : ∃ A, w.heap.size = A := ⟨_, rfl⟩
  obtain ⟨hBA, hBB, hBZ, hlw⟩ := three_blocks w #[.bool (decide (z1 < 0)), .slice p1 m1 q1, .slice p2 m2 q2] #[.bool (decide (z2 < 0)), .slice p3 m3 q3, .slice p4 m4 q4] zQ 68
  obtain ⟨W, hW⟩ : ∃ W, W = ((w.alloc (Obj.cells #[.bool (decide (z1 < 0)), .slice p1 m1 q1, .slice p2 m2 q2] 68)).alloc (Obj.cells #[.bool (decide (z2 < 0)), .slice p3 m3 q3, .slice p4 m4 q4] 68)).alloc (Obj.cells zQ 68) := ⟨_, rfl⟩
  rw [← hW] at hBA hBB hBZ hlw
  rw [hA] at hBA hBB hBZ
  replace hN1 := hN1.below hlw
  replace hN2 := hN2.below hlw
  replace hD1 := hD1.below hlw
  replace hD2 := hD2.below hlw
  go_enter Try.func37, Try.ntmps37
  go_upto_region 1 with fail
  unfold zQ at hW
  rw [← hW]
  clear hW
  refine region_slotsA (quoQV A (A + 1) (decide (z1 < 0)) (decide (z2 < 0)) p1 p2 p3 p4 m1 q1 m2 q2 m3 q3 m4 q4) (kC W 16 [⟨9, 14, fun w v => NA w v (z1.natAbs)⟩, ⟨14, 19, fun w v => NA w v (2 ^ (t1 + k))⟩, ⟨15, 20, QR Rel⟩] (QF w (A + 1 + 1) Rel)) (by kernel_rfl) (by kernel_rfl) (by kernel_rfl) 21 (by kernel_rfl) rfl kC.start ?_ ?_
  · intro listed a w1 i o hI ho hsz hl hd
    have hi : i < 17 := by simpa using (Array.getElem?_eq_some_iff.1 ho).1
    have hsz' : listed.size = 17 := by simpa using hsz
    have e2 : a.eval (.tmp 2) = .pointer (some ⟨A, 0, none⟩) := (hI.base 2 (by kernel_rfl)).trans rfl
    have e3 : a.eval (.tmp 3) = .pointer (some ⟨A + 1, 0, none⟩) := (hI.base 3 (by kernel_rfl)).trans rfl
    have e4 : a.eval (.tmp 4) = .pointer (some ⟨A + 1 + 1, 0, none⟩) := (hI.base 4 (by kernel_rfl)).trans rfl
    have hc : kC W 16 [⟨9, 14, fun w v => NA w v (z1.natAbs)⟩, ⟨14, 19, fun w v => NA w v (2 ^ (t1 + k))⟩, ⟨15, 20, QR Rel⟩] (QF w (A + 1 + 1) Rel) listed a w1 := hI.world
    have l16 : listed.getD 16 false = false := hI.notYet hsz' 16 rfl (by kernel_rfl) hi hl
    obtain ⟨hB0, hps⟩ := hc.1 l16
    have kA := hBA.below hB0 hBA.lt
    have kB := hBB.below hB0 hBB.lt
    have kZ := hBZ.below hB0 hBZ.lt
    rcases (by omega : i = 0 ∨ i = 1 ∨ i = 2 ∨ i = 3 ∨ i = 4 ∨ i = 5 ∨ i = 6 ∨ i = 7 ∨ i = 8 ∨ i = 9 ∨ i = 10 ∨ i = 11 ∨ i = 12 ∨ i = 13 ∨ i = 14 ∨ i = 15 ∨ i = 16) with rfl | rfl | rfl | rfl | rfl | rfl | rfl | rfl | rfl | rfl | rfl | rfl | rfl | rfl | rfl | rfl | rfl
    all_goals obtain rfl := Option.some.inj ho
    · exact okR_field rfl e2 (fieldQ _ 0 (by decide) _) ⟨slotR rfl rfl, hc.same 0 rfl (by decide) (by simp)⟩
    · have k1 := hI.slot 0 _ 5 rfl rfl (hd ⟨0, .data⟩ (by simp) rfl)
      exact okR_load rfl k1 (loadB _ _ _ (kA.cell 0 rfl)) ⟨slotR rfl rfl, hc.same 1 rfl (by decide) (by simp)⟩
    · exact okR_field rfl e3 (fieldQ _ 0 (by decide) _) ⟨slotR rfl rfl, hc.same 2 rfl (by decide) (by simp)⟩
    · have k1 := hI.slot 2 _ 7 rfl rfl (hd ⟨2, .data⟩ (by simp) rfl)
      exact okR_load rfl k1 (loadB _ _ _ (kB.cell 0 rfl)) ⟨slotR rfl rfl, hc.same 3 rfl (by decide) (by simp)⟩
    · have k1 := hI.slot 1 _ 6 rfl rfl (hd ⟨1, .data⟩ (by simp) rfl)
      have k2 := hI.slot 3 _ 8 rfl rfl (hd ⟨3, .data⟩ (by simp) rfl)
      exact okR_neqB rfl k1 k2 ⟨slotR rfl rfl, hc.same 4 rfl (by decide) (by simp)⟩
    · exact okR_field rfl e2 (fieldQ _ 1 (by decide) _) ⟨slotR rfl rfl, hc.same 5 rfl (by decide) (by simp)⟩
    · have k1 := hI.slot 5 _ 10 rfl rfl (hd ⟨5, .data⟩ (by simp) rfl)
      exact okR_load rfl k1 (loadL _ _ _ _ _ (kA.cell 1 rfl)) ⟨slotR rfl rfl, hc.same 6 rfl (by decide) (by simp)⟩
    · exact okR_field rfl e3 (fieldQ _ 2 (by decide) _) ⟨slotR rfl rfl, hc.same 7 rfl (by decide) (by simp)⟩
    · have k1 := hI.slot 7 _ 12 rfl rfl (hd ⟨7, .data⟩ (by simp) rfl)
      exact okR_load rfl k1 (loadL _ _ _ _ _ (kB.cell 2 rfl)) ⟨slotR rfl rfl, hc.same 8 rfl (by decide) (by simp)⟩
    · have k1 := hI.slot 6 _ 11 rfl rfl (hd ⟨6, .data⟩ (by simp) rfl)
      have k2 := hI.slot 8 _ 13 rfl rfl (hd ⟨8, .data⟩ (by simp) rfl)
      refine okR_call2 enter_MulN rfl k1 k2 ((mulN_b (hN1.below hB0) (hD2.below hB0) b1 c2).mono ?_)
      rintro e w' ⟨v, rfl, hv, hB⟩
      rw [ht2, Nat.pow_zero, Nat.mul_one] at hv
      refine ⟨v, rfl, slotR rfl trivial, hc.made l16 9 hI.size (show 14 < 21 by omega) rfl (by decide) hB ?_ ?_⟩
      · intro c hc' he
        simp only [List.mem_cons, List.mem_nil_iff, or_false] at hc'
        rcases hc' with rfl | rfl | rfl
        · exact ⟨rfl, hv⟩
        · simp at he
        · simp at he
      · intro c hc' hne
        simp only [List.mem_cons, List.mem_nil_iff, or_false] at hc'
        rcases hc' with rfl | rfl | rfl
        · exact absurd rfl hne
        · exact ⟨by simp, NA.keep _ _ hB⟩
        · exact ⟨by simp, QR.keep _ _ hB⟩
    · exact okR_field rfl e2 (fieldQ _ 2 (by decide) _) ⟨slotR rfl rfl, hc.same 10 rfl (by decide) (by simp)⟩
    · have k1 := hI.slot 10 _ 15 rfl rfl (hd ⟨10, .data⟩ (by simp) rfl)
      exact okR_load rfl k1 (loadL _ _ _ _ _ (kA.cell 2 rfl)) ⟨slotR rfl rfl, hc.same 11 rfl (by decide) (by simp)⟩
    · exact okR_field rfl e3 (fieldQ _ 1 (by decide) _) ⟨slotR rfl rfl, hc.same 12 rfl (by decide) (by simp)⟩
    · have k1 := hI.slot 12 _ 17 rfl rfl (hd ⟨12, .data⟩ (by simp) rfl)
      exact okR_load rfl k1 (loadL _ _ _ _ _ (kB.cell 1 rfl)) ⟨slotR rfl rfl, hc.same 13 rfl (by decide) (by simp)⟩
    · have k1 := hI.slot 11 _ 16 rfl rfl (hd ⟨11, .data⟩ (by simp) rfl)
      have k2 := hI.slot 13 _ 18 rfl rfl (hd ⟨13, .data⟩ (by simp) rfl)
      refine okR_call2 enter_MulN rfl k1 k2 ((mulN_b (hD1.below hB0) (hN2.below hB0) c1 b2).mono ?_)
      rintro e w' ⟨v, rfl, hv, hB⟩
      rw [hab, ← Nat.pow_add] at hv
      refine ⟨v, rfl, slotR rfl trivial, hc.made l16 14 hI.size (show 19 < 21 by omega) rfl (by decide) hB ?_ ?_⟩
      · intro c hc' he
        simp only [List.mem_cons, List.mem_nil_iff, or_false] at hc'
        rcases hc' with rfl | rfl | rfl
        · simp at he
        · exact ⟨rfl, hv⟩
        · simp at he
      · intro c hc' hne
        simp only [List.mem_cons, List.mem_nil_iff, or_false] at hc'
        rcases hc' with rfl | rfl | rfl
        · exact ⟨by simp, NA.keep _ _ hB⟩
        · exact absurd rfl hne
        · exact ⟨by simp, QR.keep _ _ hB⟩
    · have k1 := hI.slot 4 _ 9 rfl rfl (hd ⟨4, .data⟩ (by simp) rfl)
      have j1 := hps ⟨9, 14, fun w v => NA w v (z1.natAbs)⟩ (by simp) (hd ⟨9, .data⟩ (by simp) rfl)
      have j2 := hps ⟨14, 19, fun w v => NA w v (2 ^ (t1 + k))⟩ (by simp) (hd ⟨14, .data⟩ (by simp) rfl)
      refine okR_call3' enter_Lay rfl k1 rfl rfl ((lay_any _ j1 j2 b1 ht).mono ?_)
      rintro e w' ⟨v, z, t, rfl, hq, ht', hz, hB⟩
      refine ⟨v, rfl, slotR rfl trivial, hc.made l16 15 hI.size (show 20 < 21 by omega) rfl (by decide) hB ?_ ?_⟩
      · intro c hc' he
        simp only [List.mem_cons, List.mem_nil_iff, or_false] at hc'
        rcases hc' with rfl | rfl | rfl
        · simp at he
        · simp at he
        · exact ⟨rfl, z, t, hq, hRel z t ht' hz⟩
      · intro c hc' hne
        simp only [List.mem_cons, List.mem_nil_iff, or_false] at hc'
        rcases hc' with rfl | rfl | rfl
        · exact ⟨by simp, NA.keep _ _ hB⟩
        · exact ⟨by simp, NA.keep _ _ hB⟩
        · exact absurd rfl hne
    · have j1 := hps ⟨15, 20, QR Rel⟩ (by simp) (hd ⟨15, .data⟩ (by simp) rfl)
      obtain ⟨bb, a1, n1', c1', a2, n2', c2', hv⟩ := QR.form j1
      rw [hv] at j1
      exact okR_store rfl e4 hv (run_storeAt_mid w1 (A + 1 + 1) 0 68 #[.bool bb, .slice a1 n1' c1', .slice a2 n2' c2'] kZ.there infoQ (by simp [Value.oneCell'])) ⟨slotN rfl, kC.last (by omega) (QF.store j1 kZ (hlw.trans (hB0.mono hlw.size)) (by omega))⟩
  · intro listed a' w9 hI hall
    have hF := hI.world.2 (hall 16 (by decide))
    obtain ⟨c0, c1', c2', hb, ⟨z, t, hq, hrel⟩, hlow⟩ := hF
    have E := hI.frame [5, 6, 7, 8, 9, 10, 11, 12, 13, 14, 15, 16, 17, 18, 19, 20] (by kernel_rfl)
    simp only [putAll] at E
    generalize a'.eval (.tmp 5) = y5 at E
    generalize a'.eval (.tmp 6) = y6 at E
    generalize a'.eval (.tmp 7) = y7 at E
    generalize a'.eval (.tmp 8) = y8 at E
    generalize a'.eval (.tmp 9) = y9 at E
    generalize a'.eval (.tmp 10) = y10 at E
    generalize a'.eval (.tmp 11) = y11 at E
    generalize a'.eval (.tmp 12) = y12 at E
    generalize a'.eval (.tmp 13) = y13 at E
    generalize a'.eval (.tmp 14) = y14 at E
    generalize a'.eval (.tmp 15) = y15 at E
    generalize a'.eval (.tmp 16) = y16 at E
    generalize a'.eval (.tmp 17) = y17 at E
    generalize a'.eval (.tmp 18) = y18 at E
    generalize a'.eval (.tmp 19) = y19 at E
    generalize a'.eval (.tmp 20) = y20 at E
    simp only [Act.put, List.setIfInBounds_toArray, List.set_cons_zero, List.set_cons_succ] at E
    clear hI hall
    subst E
    have HH := hide (And.intro hb (And.intro hq (And.intro hrel hlow)))
    clear hb hq hrel hlow hBA hBB hBZ hlw hN1 hN2 hD1 hD2
    go_wp2_with fail
    refine bodyPost_ret (res_quoQ rfl (unhide HH).1) rfl ?_
    obtain ⟨_, hq, hrel, hlow⟩ := unhide HH
    rw [hRelD] at hrel
    exact ⟨_, z, t, rfl, hq, hrel.1, hrel.2, hlow⟩
end Go.Proofs.Ytlajalfdcfkmpaa
