/- A sample through a guarded filter: what its step does. -/
import Derived.Test.YthafffnebaaeiaaDoorGre
namespace Go.Proofs.YthafffnebaaeiaaDoor
open Go.RowKit

theorem wUp_zero (g : Gu) (sec : Nat → Sec) (st : Nat → C2 × C2) (x : C2) : wUp g sec st x 0 = st := by
  funext i; unfold wUp; rw [if_neg (by omega)]
theorem wUp_succ (g : Gu) (sec : Nat → Sec) (st : Nat → C2 × C2) (x : C2) (k : Nat) : wUp g sec st x (k + 1) = fun i => if i = k then wSt g sec st x k else wUp g sec st x k i := by
  funext i
  unfold wUp
  by_cases h : i = k
  · subst h; simp
  · by_cases h2 : i < k
    · rw [if_pos (by omega), if_neg h, if_pos h2]
    · rw [if_neg (by omega), if_neg h, if_neg h2]
theorem wCnt_le (g : Gu) (sec : Nat → Sec) (st : Nat → C2 × C2) (x : C2) : ∀ k, wCnt g sec st x k ≤ 6 * k
  | 0 => Nat.le_refl _
  | k + 1 => by
    have := wCnt_le g sec st x k
    have h1 := (cl2_count g (wRaw g sec st x k)).1
    have h2 := (cl2_count g (wS1 g sec st x k)).1
    have h3 := (cl2_count g (wS2 g sec st x k)).1
    rw [wCnt]
    omega

/-- What the slots of the region that calls Step come to hold. -/
def g5V (B A b n cs cA k : Nat) (se sv x : Value) (zy z1 z2 : C2) : Nat → Value → Prop
  | 29, v => v = .pointer (some ⟨B, 0, none⟩)
  | 30, v => v = .pointer (some ⟨B, 0, none⟩)
  | 31, v => v = .pointer (some ⟨B, 3, none⟩)
  | 32, v => v = .slice (some ⟨b, 0, none⟩) n cs
  | 33, v => v = .int .i64 k
  | 34, v => v = .pointer (some ⟨b, k * 5, none⟩)
  | 35, v => v = se
  | 36, v => v = .slice (some ⟨A, 0, none⟩) n cA
  | 37, v => v = .int .i64 k
  | 38, v => v = .pointer (some ⟨A, k * 2, none⟩)
  | 39, v => v = sv
  | 40, v => v = x
  | 41, v => ∃ y p q, v = .tuple #[y, .agg #[p, q]] ∧ CIs y zy ∧ CIs p z1 ∧ CIs q z2
  | 28, v => ∃ y p q, v = .tuple #[y, .agg #[p, q]] ∧ CIs y zy ∧ CIs p z1 ∧ CIs q z2
  | 42, v => CIs v zy
  | 43, v => ∃ p q, v = .agg #[p, q] ∧ CIs p z1 ∧ CIs q z2
  | 10, v => ∃ N, v = .pointer (some ⟨N, 0, none⟩)
  | 9, v => CIs v zy
  | _, _ => True

/-- What the slots of the region that cleans the states come to hold. -/
def g7V (B A N n cA k : Nat) (p q : Value) (z1 z2 : C2) : Nat → Value → Prop
  | 47, v => v = .slice (some ⟨A, 0, none⟩) n cA
  | 48, v => v = .int .i64 k
  | 49, v => v = .pointer (some ⟨B, 0, none⟩)
  | 50, v => v = .pointer (some ⟨N, 0, none⟩)
  | 51, v => v = p
  | 52, v => CIs v z1
  | 53, v => v = .pointer (some ⟨B, 0, none⟩)
  | 54, v => v = .pointer (some ⟨N, 1, none⟩)
  | 55, v => v = q
  | 56, v => CIs v z2
  | 57, v => ∃ u u', v = .agg #[u, u'] ∧ CIs u z1 ∧ CIs u' z2
  | 58, v => v = .pointer (some ⟨A, k * 2, none⟩)
  | _, _ => True
def g7C (W : World) (B A n k : Nat) (gv lk sv : Value) (g : Gu) (c n1 n2 : Nat) (st : Nat → C2 × C2) (z1 z2 : C2) (listed : Array Bool) (w : World) : Prop :=
  Apart W w B A ∧ GCells w B gv lk sv g (c + (if listed.getD 5 false then n1 else 0) + (if listed.getD 9 false then n2 else 0)) ∧ w.there A 0 (n * 2) ∧ StRow w A n (if listed.getD 12 false then (fun i => if i = k then (z1, z2) else st i) else st)
theorem g7C.same {W w : World} {B A n k c n1 n2 : Nat} {gv lk sv : Value} {g : Gu} {st : Nat → C2 × C2} {z1 z2 : C2} {listed : Array Bool} (h : g7C W B A n k gv lk sv g c n1 n2 st z1 z2 listed w) (i : Nat) (h5 : i ≠ 5) (h9 : i ≠ 9) (h12 : i ≠ 12) : g7C W B A n k gv lk sv g c n1 n2 st z1 z2 (listed.setIfInBounds i true) w := by
  unfold g7C
  rw [getD_set_ne false h5, getD_set_ne false h9, getD_set_ne false h12]
  exact h
theorem StRow.set {w : World} {A n k : Nat} {st : Nat → C2 × C2} (h : StRow w A n st) (ht : w.there A 0 (n * 2)) (hk : k < n) {u v : Value} {z1 z2 : C2} (hu : CIs u z1) (hv : CIs v z2) : StRow (w.setCells A (k * 2) [u, v]) A n (fun i => if i = k then (z1, z2) else st i) := fun i hi => by
  by_cases hik : i = k
  · subst hik
    exact ⟨u, v, World.rangeAt_setCells_same w A (i * 2) [u, v] (there_part ht (by simp; omega)), by simpa using hu, by simpa using hv⟩
  · obtain ⟨p, q, hr, hp, hq⟩ := h i hi
    exact ⟨p, q, World.rangeAt_setCells_apart hr A _ _ (.inr (by simp only [List.length_cons, List.length_nil]; omega)), by simpa [hik] using hp, by simpa [hik] using hq⟩
theorem ok_dclean {o : Oper} {a : Act} {w : World} {V : Nat → Value → Prop} {C : World → Prop} {d : Nat} {x y : Operand} {u v : Value} {tys : Array TypeId} (hop : o.op = .call { callee := .value (.func 38), args := #[x, y], argTypes := tys }) (hd : o.dst = some d) (hx : a.eval x = u) (hy : a.eval y = v)
    (hc : Calls Tryd.prog 38 #[u, v] w fun e w' => ∃ v, e = .returned v ∧ V d v ∧ C w') : StepOk Tryd.prog o a w (fun v => ∀ d, o.dst = some d → V d v) C := by
  refine .inr (.inr ⟨38, #[a.eval x, a.eval y], ?_, ?_⟩)
  · simp [execOp, hop]
    go_simp
  · rw [hx, hy]
    exact hc.mono fun e w' ⟨v, h1, h2, h3⟩ => ⟨v, h1, slot_of hd h2, h3⟩

set_option maxRecDepth 100000 in
set_option maxHeartbeats 2000000 in
theorem gstep_any (B A n c cA gr gi x x' : Nat) (lk sv : Value) (g : Gu) (G X : C2) (sec : Nat → Sec) (st : Nat → C2 × C2) (w : World) (hG : GCells w B (.complex .f64 gr gi) lk sv g c) (hg : CIs (.complex .f64 gr gi) G) (hx : CIs (.complex .f64 x x') X)
    (hS : SecsIs w sv n sec) (hSB : Off sv n B) (hSA : Off sv n A) (hst : StRow w A n st) (htA : w.there A 0 (n * 2)) (hne : B ≠ A) (hB : B < w.heap.size) (hA : A < w.heap.size) (hn : n ≤ 16) (hc : c ≤ 8000000000000000000) :
    Calls Tryd.prog 28 #[.pointer (some ⟨B, 0, none⟩), .slice (some ⟨A, 0, none⟩) n cA, .complex .f64 x x'] w fun e w' => ∃ r i, e = .returned (.complex .f64 r i) ∧ CIs (.complex .f64 r i) (wY g sec st (cmul G X) n) ∧
      StRow w' A n (wUp g sec st (cmul G X) n) ∧ w'.there A 0 (n * 2) ∧ GCells w' B (.complex .f64 gr gi) lk sv g (c + wCnt g sec st (cmul G X) n) ∧ SecsIs w' sv n sec ∧ Apart w w' B A := by
  obtain ⟨ads, cs, rfl, _⟩ := id hS
  have Hm := hide (mulC hg hx)
  have c2 : w.cell? ⟨B, 2, none⟩ = some (.complex .f64 gr gi) := hG.2 2 _ rfl
  have c3 : w.cell? ⟨B, 3, none⟩ = some (.slice ads n cs) := hG.2 3 _ rfl
  have H := hide (And.intro hG (And.intro hS (And.intro hst htA)))
  clear hG hS hst htA
  go_enter Tryd.func28, Tryd.ntmps28
  go_wp2_with fail
  refine (unhide Hm _).mono ?_
  rintro e w1 ⟨y0, rfl, hy0, hs0⟩
  have c3' : w1.cell? ⟨B, 3, none⟩ = some (.slice ads n cs) := by rw [hs0.cell]; exact c3
  have Hs0 := hide hs0
  have Hy0 := hide hy0
  obtain ⟨y1, y2, rfl, _⟩ := id hy0
  clear Hm hs0 hy0 c2 c3
  go_wp2_with fail
  go_loopw [7, 25] (fun y i wr => ∃ k : Nat, k ≤ n ∧ i = .int .i64 k ∧ CIs y (wY g sec st (cmul G X) k) ∧ StRow wr A n (wUp g sec st (cmul G X) k) ∧ wr.there A 0 (n * 2) ∧ GCells wr B (.complex .f64 gr gi) lk (.slice ads n cs) g (c + wCnt g sec st (cmul G X) k) ∧ SecsIs wr (.slice ads n cs) n sec ∧ Apart w wr B A)
    (fun _ i _ => n - (intOf i).toNat)
  case atStart =>
    obtain ⟨hG, hS, hst, htA⟩ := unhide H
    have k := Apart.low B A (unhide Hs0 w.heap.size)
    have kg := (unhide Hs0).grown none
    exact ⟨0, Nat.zero_le _, rfl, unhide Hy0, by rw [wUp_zero]; exact hst.grown kg (by simp), (unhide Hs0).there htA, hG.grown kg hB (by simp), hS.below (unhide Hs0 w.heap.size), k⟩
  case round =>
    obtain ⟨k, hk, rfl, hy, hst, htA, hG, hS, hap⟩ := hrel
    by_cases hkn : k < n
    · have hkn' : (k : Int) < (n : Int) := by omega
      obtain ⟨ad2, cs2, e2, hsec⟩ := id hS
      obtain ⟨b, v0, v1, v2, v3, v4, hads, hb, hra, _, _, _, _, _, i0, i1, i2, i3, i4⟩ := hsec k hkn
      obtain ⟨rfl, rfl⟩ : ads = ad2 ∧ cs = cs2 := by simpa using e2
      subst hads
      obtain ⟨p, q, hrs, ip, iq⟩ := hst k hkn
      have hstk : wUp g sec st (cmul G X) k k = st k := by unfold wUp; rw [if_neg (by omega)]
      rw [hstk] at ip iq
      obtain ⟨b0, b0', rfl, _⟩ := id i0
      obtain ⟨b1, b1', rfl, _⟩ := id i1
      obtain ⟨b2, b2', rfl, _⟩ := id i2
      obtain ⟨a1, a1', rfl, _⟩ := id i3
      obtain ⟨a2, a2', rfl, _⟩ := id i4
      obtain ⟨s, s', rfl, _⟩ := id ip
      obtain ⟨t, t', rfl, _⟩ := id iq
      obtain ⟨z, z', rfl, _⟩ := id hy
      have l0 : wr.cell? ⟨b, k * 5, none⟩ = some (.complex .f64 b0 b0') := hra 0 _ rfl
      have l1 : wr.cell? ⟨b, k * 5 + 1, none⟩ = some (.complex .f64 b1 b1') := hra 1 _ rfl
      have l2 : wr.cell? ⟨b, k * 5 + 2, none⟩ = some (.complex .f64 b2 b2') := hra 2 _ rfl
      have l3 : wr.cell? ⟨b, k * 5 + 3, none⟩ = some (.complex .f64 a1 a1') := hra 3 _ rfl
      have l4 : wr.cell? ⟨b, k * 5 + 4, none⟩ = some (.complex .f64 a2 a2') := hra 4 _ rfl
      have l5 : wr.cell? ⟨A, k * 2, none⟩ = some (.complex .f64 s s') := hrs 0 _ rfl
      have l6 : wr.cell? ⟨A, k * 2 + 1, none⟩ = some (.complex .f64 t t') := hrs 1 _ rfl
      have l7 : wr.cell? ⟨B, 3, none⟩ = some (.slice (some ⟨b, 0, none⟩) n cs) := hG.2 3 _ rfl
      have Hr := hide (rstep_any b0 b0' b1 b1' b2 b2' a1 a1' a2 a2' s s' t t' z z' (sec k) (st k).1 (st k).2 (wY g sec st (cmul G X) k) i0 i1 i2 i3 i4 ip iq hy)
      have HH := hide (And.intro hst (And.intro htA (And.intro hG (And.intro hS hap))))
      have Hl7 := hide l7
      have Hra := hide hra
      have Hrs := hide hrs
      clear i0 i1 i2 i3 i4 ip iq hy hra hrs hst htA hG hS hap hsec e2
      have hsc := run_store_c
      go_wp2_with fail
      rename_i K hK
      have HK := hide hK
      clear hK l0 l1 l2 l3 l4 l5 l6 l7 hsc
      refine region_slotsA (g5V B A b n cs cA k (.agg #[.complex .f64 b0 b0', .complex .f64 b1 b1', .complex .f64 b2 b2', .complex .f64 a1 a1', .complex .f64 a2 a2']) (.agg #[.complex .f64 s s', .complex .f64 t t']) (.complex .f64 z z') (wRaw g sec st (cmul G X) k) (wS1 g sec st (cmul G X) k) (wS2 g sec st (cmul G X) k)) (g5C 10 16 18 wr (wS1 g sec st (cmul G X) k) (wS2 g sec st (cmul G X) k)) (by kernel_rfl) (by kernel_rfl) (by kernel_rfl) 61 (by kernel_rfl) rfl ?_ ?_ ?_
      · exact ⟨grown_drew _ _, fun h => by simp at h⟩
      · intro listed a' w2 i o hI ho hsz hl hd
        have hi : i < 19 := by simpa using (Array.getElem?_eq_some_iff.1 ho).1
        have hc : g5C 10 16 18 wr (wS1 g sec st (cmul G X) k) (wS2 g sec st (cmul G X) k) listed a' w2 := hI.world
        have hsz' : listed.size = 19 := hsz
        have hrg : ∀ b o cs, wr.rangeAt b o cs → w2.rangeAt b o cs := fun b o cs h j v hv => hc.1.cell (h j v hv) (by simp)
        rcases (by omega : i = 0 ∨ i = 1 ∨ i = 2 ∨ i = 3 ∨ i = 4 ∨ i = 5 ∨ i = 6 ∨ i = 7 ∨ i = 8 ∨ i = 9 ∨ i = 10 ∨ i = 11 ∨ i = 12 ∨ i = 13 ∨ i = 14 ∨ i = 15 ∨ i = 16 ∨ i = 17 ∨ i = 18) with rfl | rfl | rfl | rfl | rfl | rfl | rfl | rfl | rfl | rfl | rfl | rfl | rfl | rfl | rfl | rfl | rfl | rfl | rfl
        all_goals obtain rfl := Option.some.inj ho
        · exact (ok_move rfl rfl (hI.base 0 (by kernel_rfl)) rfl (hc.same 0 29 rfl (by omega) (by omega) (by omega))).toR
        · exact (ok_nil rfl rfl (hI.slot 0 _ 29 rfl rfl (hd ⟨0, .data⟩ (by simp) rfl)) rfl (hc.same 1 30 rfl (by omega) (by omega) (by omega))).toR
        · exact (ok_field rfl rfl (hI.slot 1 _ 30 rfl rfl (hd ⟨1, .data⟩ (by simp) rfl)) (field_grd0 _ _) rfl (hc.same 2 31 rfl (by omega) (by omega) (by omega))).toR
        · exact (ok_load rfl rfl (hI.slot 2 _ 31 rfl rfl (hd ⟨2, .data⟩ (by simp) rfl)) (load_secs _ _ _ _ _ (hc.1.cell (unhide Hl7) (by simp))) rfl (hc.same 3 32 rfl (by omega) (by omega) (by omega))).toR
        · exact (ok_move rfl rfl (hI.base 8 (by kernel_rfl)) rfl (hc.same 4 33 rfl (by omega) (by omega) (by omega))).toR
        · exact (ok_index rfl rfl (hI.slot 3 _ 32 rfl rfl (hd ⟨3, .data⟩ (by simp) rfl)) (hI.slot 4 _ 33 rfl rfl (hd ⟨4, .data⟩ (by simp) rfl)) (index_secs _ _ _ _ _ hkn (by omega)) rfl (hc.same 5 34 rfl (by omega) (by omega) (by omega))).toR
        · exact (ok_load rfl rfl (hI.slot 5 _ 34 rfl rfl (hd ⟨5, .data⟩ (by simp) rfl)) (run_loadAt_mid w2 b (k * 5) 52 _ _ (hrg _ _ _ (unhide Hra)) Tryd.underlying52 rfl info_sec) rfl (hc.same 6 35 rfl (by omega) (by omega) (by omega))).toR
        · exact (ok_move rfl rfl (hI.base 1 (by kernel_rfl)) rfl (hc.same 7 36 rfl (by omega) (by omega) (by omega))).toR
        · exact (ok_move rfl rfl (hI.base 8 (by kernel_rfl)) rfl (hc.same 8 37 rfl (by omega) (by omega) (by omega))).toR
        · exact (ok_index rfl rfl (hI.slot 7 _ 36 rfl rfl (hd ⟨7, .data⟩ (by simp) rfl)) (hI.slot 8 _ 37 rfl rfl (hd ⟨8, .data⟩ (by simp) rfl)) (index_sts _ _ _ _ _ hkn (by omega)) rfl (hc.same 9 38 rfl (by omega) (by omega) (by omega))).toR
        · exact (ok_load rfl rfl (hI.slot 9 _ 38 rfl rfl (hd ⟨9, .data⟩ (by simp) rfl)) (run_loadAt_mid w2 A (k * 2) 50 _ _ (hrg _ _ _ (unhide Hrs)) Tryd.underlying50 rfl info_st) rfl (hc.same 10 39 rfl (by omega) (by omega) (by omega))).toR
        · exact (ok_move rfl rfl (hI.base 7 (by kernel_rfl)) rfl (hc.same 11 40 rfl (by omega) (by omega) (by omega))).toR
        · refine okR_rstep rfl (hI.slot 6 _ 35 rfl rfl (hd ⟨6, .data⟩ (by simp) rfl)) (hI.slot 10 _ 39 rfl rfl (hd ⟨10, .data⟩ (by simp) rfl)) (hI.slot 11 _ 40 rfl rfl (hd ⟨11, .data⟩ (by simp) rfl)) ((unhide Hr w2).mono ?_)
          rintro e w3 ⟨y, u, v, rfl, hy, hu, hv, hbl⟩
          exact ⟨_, rfl, slot_of rfl ⟨y, u, v, rfl, hy, hu, hv⟩, hc.call 12 41 rfl (by omega) (by omega) (by omega) hbl⟩
        · obtain ⟨y, u, v, k1, k2, k3, k4⟩ := hI.slot 12 _ 41 rfl rfl (hd ⟨12, .data⟩ (by simp) rfl)
          exact (ok_move rfl rfl k1 ⟨y, u, v, rfl, k2, k3, k4⟩ (hc.same 13 28 rfl (by omega) (by omega) (by omega))).toR
        · obtain ⟨y, u, v, k1, k2, k3, k4⟩ := hI.slot 13 _ 28 rfl rfl (hd ⟨13, .data⟩ (by simp) rfl)
          exact (ok_extract0 rfl rfl k1 k2 (hc.same 14 42 rfl (by omega) (by omega) (by omega))).toR
        · obtain ⟨y, u, v, k1, k2, k3, k4⟩ := hI.slot 13 _ 28 rfl rfl (hd ⟨13, .data⟩ (by simp) rfl)
          exact (ok_extract1 rfl rfl k1 ⟨u, v, rfl, k3, k4⟩ (hc.same 15 43 rfl (by omega) (by omega) (by omega))).toR
        · have u18 : listed.getD 18 false = false := hI.not_yet hsz' (by omega) hl 18 rfl ⟨16, .data⟩ (by simp) rfl rfl
          refine .inl ⟨_, _, ?_, slot_of rfl ⟨w2.heap.size, rfl⟩, hc.alloc hI.size (show 10 < 61 by omega) rfl (by omega) u18⟩
          simp [execOp, run_alloc_st]
        · have k1 := hI.slot 14 _ 42 rfl rfl (hd ⟨14, .data⟩ (by simp) rfl)
          exact (ok_assign (d := 9) rfl rfl rfl k1 (hc.same 17 9 rfl (by omega) (by omega) (by omega))).toR
        · obtain ⟨p, q, k1, k2, k3⟩ := hI.slot 15 _ 43 rfl rfl (hd ⟨15, .data⟩ (by simp) rfl)
          have l16 := hd ⟨16, .data⟩ (by simp) rfl
          obtain ⟨N, e, n1, n2, ht, _⟩ := hc.2 l16
          refine okR_sto rfl e k1 (run_storeAt_mid w2 N 0 50 #[p, q] ht info_st (by simp [k2.one, k3.one])) ⟨fun d' h => (by cases h), hc.store rfl l16 e k2 k3⟩
      · intro listed a' w2 hI hall
        have hw5 : g5C 10 16 18 wr (wS1 g sec st (cmul G X) k) (wS2 g sec st (cmul G X) k) listed a' w2 := hI.world
        obtain ⟨hg2, hN2⟩ := hw5
        obtain ⟨N, eN, n1, n2, htN, hsN⟩ := hN2 (hall 16 (by decide))
        obtain ⟨p, q, hrN, hp, hq⟩ := hsN (hall 18 (by decide))
        have k9 := hI.slot 17 _ 9 rfl rfl (hall 17 (by decide))
        have E := act_lit a' 61 hI.size
        rw [hI.defers] at E
        replace E : a' = ⟨#[a'.eval (.tmp 0), a'.eval (.tmp 1), a'.eval (.tmp 2), a'.eval (.tmp 3), a'.eval (.tmp 4), a'.eval (.tmp 5), a'.eval (.tmp 6), a'.eval (.tmp 7), a'.eval (.tmp 8), a'.eval (.tmp 9), a'.eval (.tmp 10), a'.eval (.tmp 11), a'.eval (.tmp 12), a'.eval (.tmp 13), a'.eval (.tmp 14), a'.eval (.tmp 15), a'.eval (.tmp 16), a'.eval (.tmp 17), a'.eval (.tmp 18), a'.eval (.tmp 19), a'.eval (.tmp 20), a'.eval (.tmp 21), a'.eval (.tmp 22), a'.eval (.tmp 23), a'.eval (.tmp 24), a'.eval (.tmp 25), a'.eval (.tmp 26), a'.eval (.tmp 27), a'.eval (.tmp 28), a'.eval (.tmp 29), a'.eval (.tmp 30), a'.eval (.tmp 31), a'.eval (.tmp 32), a'.eval (.tmp 33), a'.eval (.tmp 34), a'.eval (.tmp 35), a'.eval (.tmp 36), a'.eval (.tmp 37), a'.eval (.tmp 38), a'.eval (.tmp 39), a'.eval (.tmp 40), a'.eval (.tmp 41), a'.eval (.tmp 42), a'.eval (.tmp 43), a'.eval (.tmp 44), a'.eval (.tmp 45), a'.eval (.tmp 46), a'.eval (.tmp 47), a'.eval (.tmp 48), a'.eval (.tmp 49), a'.eval (.tmp 50), a'.eval (.tmp 51), a'.eval (.tmp 52), a'.eval (.tmp 53), a'.eval (.tmp 54), a'.eval (.tmp 55), a'.eval (.tmp 56), a'.eval (.tmp 57), a'.eval (.tmp 58), a'.eval (.tmp 59), a'.eval (.tmp 60)], _⟩ := E
        rw [hI.base 0 (by kernel_rfl), hI.base 1 (by kernel_rfl), hI.base 2 (by kernel_rfl), hI.base 3 (by kernel_rfl), hI.base 4 (by kernel_rfl), hI.base 5 (by kernel_rfl), hI.base 6 (by kernel_rfl), hI.base 7 (by kernel_rfl), hI.base 8 (by kernel_rfl), hI.base 11 (by kernel_rfl), hI.base 12 (by kernel_rfl), hI.base 13 (by kernel_rfl), hI.base 14 (by kernel_rfl), hI.base 15 (by kernel_rfl), hI.base 16 (by kernel_rfl), hI.base 17 (by kernel_rfl), hI.base 18 (by kernel_rfl), hI.base 19 (by kernel_rfl), hI.base 20 (by kernel_rfl), hI.base 21 (by kernel_rfl), hI.base 22 (by kernel_rfl), hI.base 23 (by kernel_rfl), hI.base 24 (by kernel_rfl), hI.base 25 (by kernel_rfl), hI.base 26 (by kernel_rfl), hI.base 27 (by kernel_rfl), hI.base 44 (by kernel_rfl), hI.base 45 (by kernel_rfl), hI.base 46 (by kernel_rfl), hI.base 47 (by kernel_rfl), hI.base 48 (by kernel_rfl), hI.base 49 (by kernel_rfl), hI.base 50 (by kernel_rfl), hI.base 51 (by kernel_rfl), hI.base 52 (by kernel_rfl), hI.base 53 (by kernel_rfl), hI.base 54 (by kernel_rfl), hI.base 55 (by kernel_rfl), hI.base 56 (by kernel_rfl), hI.base 57 (by kernel_rfl), hI.base 58 (by kernel_rfl), hI.base 59 (by kernel_rfl), hI.base 60 (by kernel_rfl)] at E
        clear hI
        generalize a'.eval (.tmp 9) = y9 at E k9
        generalize a'.eval (.tmp 10) = y10 at E eN
        subst eN
        generalize a'.eval (.tmp 28) = y28 at E
        generalize a'.eval (.tmp 29) = y29 at E
        generalize a'.eval (.tmp 30) = y30 at E
        generalize a'.eval (.tmp 31) = y31 at E
        generalize a'.eval (.tmp 32) = y32 at E
        generalize a'.eval (.tmp 33) = y33 at E
        generalize a'.eval (.tmp 34) = y34 at E
        generalize a'.eval (.tmp 35) = y35 at E
        generalize a'.eval (.tmp 36) = y36 at E
        generalize a'.eval (.tmp 37) = y37 at E
        generalize a'.eval (.tmp 38) = y38 at E
        generalize a'.eval (.tmp 39) = y39 at E
        generalize a'.eval (.tmp 40) = y40 at E
        generalize a'.eval (.tmp 41) = y41 at E
        generalize a'.eval (.tmp 42) = y42 at E
        generalize a'.eval (.tmp 43) = y43 at E
        simp [Act.eval] at E
        subst E
        refine unhide HK _ _ ?_
        clear HK hall
        obtain ⟨p, p', rfl, _⟩ := id hp
        obtain ⟨q, q', rfl, _⟩ := id hq
        obtain ⟨y9, y9', rfl, _⟩ := id k9
        have c10 : w2.cell? ⟨N, 0, none⟩ = some (.complex .f64 p p') := hrN 0 _ rfl
        have c11 : w2.cell? ⟨N, 1, none⟩ = some (.complex .f64 q q') := hrN 1 _ rfl
        obtain ⟨hst, htA, hG, hS, hap⟩ := unhide HH
        have hBr : B < wr.heap.size := Nat.lt_of_lt_of_le hB hap.size
        have hAr : A < wr.heap.size := Nat.lt_of_lt_of_le hA hap.size
        have hcle := wCnt_le g sec st (cmul G X) k
        have hB2 : B < w2.heap.size := Nat.lt_of_lt_of_le hBr hg2.size
        have Hd := hide (dclean_any B (c + wCnt g sec st (cmul G X) k) _ _ _ g y9 y9' _ w2 (hG.grown hg2 hBr (by simp)) hB2 k9 (by omega))
        have H2 := hide (And.intro (hst.grown hg2 (by simp)) (And.intro (there_grown htA hg2 hAr (by simp)) (And.intro (hS.below ⟨hg2.os, hg2.tape, hg2.output, hg2.size, fun k hk => hg2.block k hk (by simp)⟩) (hap.trans ⟨hg2.os, hg2.tape, hg2.output, hg2.size, fun k hk _ _ => hg2.block k hk (by simp)⟩))))
        have Hpq := hide (And.intro hp hq)
        clear hst htA hG hS hap hp hq k9 hrN hsN htN
        go_wp2_with fail
        refine (unhide Hd).mono ?_
        rintro e wr3 ⟨y7, y7', rfl, hy7, hG3, hg3⟩
        obtain ⟨hst, htA, hS, hap⟩ := unhide H2
        have hNB : N ≠ B := by omega
        have hNA : N ≠ A := by omega
        have c10' : wr3.cell? ⟨N, 0, none⟩ = some (.complex .f64 p p') := hg3.cell c10 (by intro e; exact hNB (Option.some.inj e))
        have c11' : wr3.cell? ⟨N, 1, none⟩ = some (.complex .f64 q q') := hg3.cell c11 (by intro e; exact hNB (Option.some.inj e))
        have hA2 : A < w2.heap.size := Nat.lt_of_lt_of_le hAr hg2.size
        have hst3 := hst.grown hg3 (by intro e; exact hne (Option.some.inj e).symm)
        have htA3 := there_grown htA hg3 hA2 (by intro e; exact hne (Option.some.inj e).symm)
        have hap3 := hap.trans (.fst A hg3)
        have hS3 := hS.apart (.fst A hg3) hSB hSA
        have hB3 : B < wr3.heap.size := Nat.lt_of_lt_of_le hB2 hg3.size
        have hw23 := hg3.size
        have H3 := hide (And.intro hy7 (And.intro hG3 (And.intro hst3 (And.intro htA3 (And.intro hap3 hS3)))))
        have H10 := hide c10'
        have H11 := hide c11'
        clear hst htA hS hap hy7 hG3 hg3 hst3 htA3 hap3 hS3 c10 c11 H2 Hd
        go_wp2_with fail
        clear c10' c11'
        obtain ⟨hy7, hG3, hst3, htA3, hap3, hS3⟩ := unhide H3
        obtain ⟨hp, hq⟩ := unhide Hpq
        refine region_slots (g7V B A N n cA k (.complex .f64 p p') (.complex .f64 q q') (wSt g sec st (cmul G X) k).1 (wSt g sec st (cmul G X) k).2) (g7C wr3 B A n k (.complex .f64 gr gi) lk (.slice (some ⟨b, 0, none⟩) n cs) g (c + wCnt g sec st (cmul G X) k + (cl2 g (wRaw g sec st (cmul G X) k)).2) (cl2 g (wS1 g sec st (cmul G X) k)).2 (cl2 g (wS2 g sec st (cmul G X) k)).2 (wUp g sec st (cmul G X) k) (wSt g sec st (cmul G X) k).1 (wSt g sec st (cmul G X) k).2) (by kernel_rfl) (by kernel_rfl) (by kernel_rfl) 61 (by kernel_rfl) rfl ?_ ?_ ?_
        · refine ⟨.low _ _ ((Below.refl _ _).drew), ?_, ?_, ?_⟩
          · rw [if_neg (by simp), if_neg (by simp)]
            exact hG3.grown (grown_drew _ none) hB3 (by simp)
          · exact (still_drew wr3).there htA3
          · rw [if_neg (by simp)]
            exact hst3.grown (grown_drew _ none) (by simp)
        · intro listed a' w4 i o hI ho hsz hl hd
          have hi : i < 13 := by simpa using (Array.getElem?_eq_some_iff.1 ho).1
          have hc : g7C wr3 B A n k (.complex .f64 gr gi) lk (.slice (some ⟨b, 0, none⟩) n cs) g (c + wCnt g sec st (cmul G X) k + (cl2 g (wRaw g sec st (cmul G X) k)).2) (cl2 g (wS1 g sec st (cmul G X) k)).2 (cl2 g (wS2 g sec st (cmul G X) k)).2 (wUp g sec st (cmul G X) k) (wSt g sec st (cmul G X) k).1 (wSt g sec st (cmul G X) k).2 listed w4 := hI.world
          have hsz' : listed.size = 13 := hsz
          have hB4 : B < w4.heap.size := Nat.lt_of_lt_of_le hB3 hc.1.size
          rcases (by omega : i = 0 ∨ i = 1 ∨ i = 2 ∨ i = 3 ∨ i = 4 ∨ i = 5 ∨ i = 6 ∨ i = 7 ∨ i = 8 ∨ i = 9 ∨ i = 10 ∨ i = 11 ∨ i = 12) with rfl | rfl | rfl | rfl | rfl | rfl | rfl | rfl | rfl | rfl | rfl | rfl | rfl
          all_goals obtain rfl := Option.some.inj ho
          · exact ok_move rfl rfl (hI.base 1 (by kernel_rfl)) rfl (hc.same 0 (by omega) (by omega) (by omega))
          · exact ok_move rfl rfl (hI.base 8 (by kernel_rfl)) rfl (hc.same 1 (by omega) (by omega) (by omega))
          · exact ok_move rfl rfl (hI.base 0 (by kernel_rfl)) rfl (hc.same 2 (by omega) (by omega) (by omega))
          · exact ok_field rfl rfl (hI.base 10 (by kernel_rfl)) (field_st _ 0 (by omega) _) rfl (hc.same 3 (by omega) (by omega) (by omega))
          · exact ok_load rfl rfl (hI.slot 3 _ 50 rfl rfl (hd ⟨3, .data⟩ (by simp) rfl)) (load_c _ _ _ _ (hc.1.cell (unhide H10) hNB hNA)) rfl (hc.same 4 (by omega) (by omega) (by omega))
          · have u5 := unlisted hl hsz' (by omega)
            have u9 : listed.getD 9 false = false := hI.not_yet hsz' (by omega) hl 9 rfl ⟨5, .chain⟩ (by simp) rfl rfl
            have u12 : listed.getD 12 false = false := hI.not_yet hsz' (by omega) hl 12 rfl ⟨5, .phase⟩ (by simp) rfl rfl
            obtain ⟨r1, r2, r3, r4⟩ := hc
            rw [u5, u9, if_neg (by simp), if_neg (by simp), Nat.add_zero] at r2
            rw [u12, if_neg (by simp)] at r4
            refine ok_dclean rfl rfl (hI.slot 2 _ 49 rfl rfl (hd ⟨2, .data⟩ (by simp) rfl)) (hI.slot 4 _ 51 rfl rfl (hd ⟨4, .data⟩ (by simp) rfl)) ?_
            refine (dclean_any B _ _ _ _ g p p' _ w4 r2 hB4 hp (by have := (cl2_count g (wRaw g sec st (cmul G X) k)).1; omega)).mono ?_
            rintro e w5 ⟨u, u', rfl, hu, hG5, hg5⟩
            refine ⟨_, rfl, hu, r1.trans (.fst A hg5), ?_, there_grown r3 hg5 (Nat.lt_of_lt_of_le (Nat.lt_of_lt_of_le hA2 hw23) r1.size) (by intro e; exact hne (Option.some.inj e).symm), ?_⟩
            · rw [listed_set hsz' (by omega), if_pos rfl, getD_set_ne false (by omega), u9, if_neg (by simp), Nat.add_zero]
              exact hG5
            · rw [getD_set_ne false (by omega), u12, if_neg (by simp)]
              exact r4.grown hg5 (by intro e; exact hne (Option.some.inj e).symm)
          · exact ok_move rfl rfl (hI.base 0 (by kernel_rfl)) rfl (hc.same 6 (by omega) (by omega) (by omega))
          · exact ok_field rfl rfl (hI.base 10 (by kernel_rfl)) (field_st _ 1 (by omega) _) rfl (hc.same 7 (by omega) (by omega) (by omega))
          · exact ok_load rfl rfl (hI.slot 7 _ 54 rfl rfl (hd ⟨7, .data⟩ (by simp) rfl)) (load_c _ _ _ _ (hc.1.cell (unhide H11) hNB hNA)) rfl (hc.same 8 (by omega) (by omega) (by omega))
          · have u9 := unlisted hl hsz' (by omega)
            have l5 : listed.getD 5 false = true := hd ⟨5, .chain⟩ (by simp) rfl
            have u12 : listed.getD 12 false = false := hI.not_yet hsz' (by omega) hl 12 rfl ⟨9, .phase⟩ (by simp) rfl rfl
            obtain ⟨r1, r2, r3, r4⟩ := hc
            rw [l5, u9, if_pos rfl, if_neg (by simp), Nat.add_zero] at r2
            rw [u12, if_neg (by simp)] at r4
            refine ok_dclean rfl rfl (hI.slot 6 _ 53 rfl rfl (hd ⟨6, .data⟩ (by simp) rfl)) (hI.slot 8 _ 55 rfl rfl (hd ⟨8, .data⟩ (by simp) rfl)) ?_
            refine (dclean_any B _ _ _ _ g q q' _ w4 r2 hB4 hq (by have := (cl2_count g (wRaw g sec st (cmul G X) k)).1; have := (cl2_count g (wS1 g sec st (cmul G X) k)).1; omega)).mono ?_
            rintro e w5 ⟨u, u', rfl, hu, hG5, hg5⟩
            refine ⟨_, rfl, hu, r1.trans (.fst A hg5), ?_, there_grown r3 hg5 (Nat.lt_of_lt_of_le (Nat.lt_of_lt_of_le hA2 hw23) r1.size) (by intro e; exact hne (Option.some.inj e).symm), ?_⟩
            · rw [listed_set hsz' (by omega), if_pos rfl, getD_set_ne false (by omega), l5, if_pos rfl]
              exact hG5
            · rw [getD_set_ne false (by omega), u12, if_neg (by simp)]
              exact r4.grown hg5 (by intro e; exact hne (Option.some.inj e).symm)
          · have x1 := hI.slot 5 _ 52 rfl rfl (hd ⟨5, .data⟩ (by simp) rfl)
            have x2 := hI.slot 9 _ 56 rfl rfl (hd ⟨9, .data⟩ (by simp) rfl)
            exact ok_build (d := 57) rfl rfl rfl rfl x1 x2 ⟨_, _, rfl, x1, x2⟩ (hc.same 10 (by omega) (by omega) (by omega))
          · exact ok_index rfl rfl (hI.slot 0 _ 47 rfl rfl (hd ⟨0, .data⟩ (by simp) rfl)) (hI.slot 1 _ 48 rfl rfl (hd ⟨1, .data⟩ (by simp) rfl)) (index_sts _ _ _ _ _ hkn (by omega)) rfl (hc.same 11 (by omega) (by omega) (by omega))
          · obtain ⟨u, u', x1, x2, x3⟩ := hI.slot 10 _ 57 rfl rfl (hd ⟨10, .data⟩ (by simp) rfl)
            have u12 := unlisted hl hsz' (by omega)
            obtain ⟨r1, r2, r3, r4⟩ := hc
            rw [u12, if_neg (by simp)] at r4
            have hgs : w4.grownBy (w4.setCells A (k * 2) [u, u']) (some A) := grown_setCells (grown_refl _ _)
            refine ok_store rfl rfl (hI.slot 11 _ 58 rfl rfl (hd ⟨11, .data⟩ (by simp) rfl)) x1 info_st (by simp [x2.one, x3.one]) (there_part r3 (by simp; omega)) ⟨r1.trans (.snd B hgs), ?_, there_set r3, ?_⟩
            · rw [getD_set_ne false (by omega), getD_set_ne false (by omega)]
              exact r2.grown hgs hB4 (by intro e; exact hne (Option.some.inj e))
            · rw [listed_set hsz' (by omega), if_pos rfl]
              exact r4.set r3 hkn x2 x3
        · intro listed a' w4 hI hall
          have hw7 : g7C wr3 B A n k (.complex .f64 gr gi) lk (.slice (some ⟨b, 0, none⟩) n cs) g (c + wCnt g sec st (cmul G X) k + (cl2 g (wRaw g sec st (cmul G X) k)).2) (cl2 g (wS1 g sec st (cmul G X) k)).2 (cl2 g (wS2 g sec st (cmul G X) k)).2 (wUp g sec st (cmul G X) k) (wSt g sec st (cmul G X) k).1 (wSt g sec st (cmul G X) k).2 listed w4 := hI.world
          have E := act_lit a' 61 hI.size
          rw [hI.defers] at E
          replace E : a' = ⟨#[a'.eval (.tmp 0), a'.eval (.tmp 1), a'.eval (.tmp 2), a'.eval (.tmp 3), a'.eval (.tmp 4), a'.eval (.tmp 5), a'.eval (.tmp 6), a'.eval (.tmp 7), a'.eval (.tmp 8), a'.eval (.tmp 9), a'.eval (.tmp 10), a'.eval (.tmp 11), a'.eval (.tmp 12), a'.eval (.tmp 13), a'.eval (.tmp 14), a'.eval (.tmp 15), a'.eval (.tmp 16), a'.eval (.tmp 17), a'.eval (.tmp 18), a'.eval (.tmp 19), a'.eval (.tmp 20), a'.eval (.tmp 21), a'.eval (.tmp 22), a'.eval (.tmp 23), a'.eval (.tmp 24), a'.eval (.tmp 25), a'.eval (.tmp 26), a'.eval (.tmp 27), a'.eval (.tmp 28), a'.eval (.tmp 29), a'.eval (.tmp 30), a'.eval (.tmp 31), a'.eval (.tmp 32), a'.eval (.tmp 33), a'.eval (.tmp 34), a'.eval (.tmp 35), a'.eval (.tmp 36), a'.eval (.tmp 37), a'.eval (.tmp 38), a'.eval (.tmp 39), a'.eval (.tmp 40), a'.eval (.tmp 41), a'.eval (.tmp 42), a'.eval (.tmp 43), a'.eval (.tmp 44), a'.eval (.tmp 45), a'.eval (.tmp 46), a'.eval (.tmp 47), a'.eval (.tmp 48), a'.eval (.tmp 49), a'.eval (.tmp 50), a'.eval (.tmp 51), a'.eval (.tmp 52), a'.eval (.tmp 53), a'.eval (.tmp 54), a'.eval (.tmp 55), a'.eval (.tmp 56), a'.eval (.tmp 57), a'.eval (.tmp 58), a'.eval (.tmp 59), a'.eval (.tmp 60)], _⟩ := E
          rw [hI.base 0 (by kernel_rfl), hI.base 1 (by kernel_rfl), hI.base 2 (by kernel_rfl), hI.base 3 (by kernel_rfl), hI.base 4 (by kernel_rfl), hI.base 5 (by kernel_rfl), hI.base 6 (by kernel_rfl), hI.base 7 (by kernel_rfl), hI.base 8 (by kernel_rfl), hI.base 9 (by kernel_rfl), hI.base 10 (by kernel_rfl), hI.base 11 (by kernel_rfl), hI.base 12 (by kernel_rfl), hI.base 13 (by kernel_rfl), hI.base 14 (by kernel_rfl), hI.base 15 (by kernel_rfl), hI.base 16 (by kernel_rfl), hI.base 17 (by kernel_rfl), hI.base 18 (by kernel_rfl), hI.base 19 (by kernel_rfl), hI.base 20 (by kernel_rfl), hI.base 21 (by kernel_rfl), hI.base 22 (by kernel_rfl), hI.base 23 (by kernel_rfl), hI.base 24 (by kernel_rfl), hI.base 25 (by kernel_rfl), hI.base 26 (by kernel_rfl), hI.base 27 (by kernel_rfl), hI.base 28 (by kernel_rfl), hI.base 29 (by kernel_rfl), hI.base 30 (by kernel_rfl), hI.base 31 (by kernel_rfl), hI.base 32 (by kernel_rfl), hI.base 33 (by kernel_rfl), hI.base 34 (by kernel_rfl), hI.base 35 (by kernel_rfl), hI.base 36 (by kernel_rfl), hI.base 37 (by kernel_rfl), hI.base 38 (by kernel_rfl), hI.base 39 (by kernel_rfl), hI.base 40 (by kernel_rfl), hI.base 41 (by kernel_rfl), hI.base 42 (by kernel_rfl), hI.base 43 (by kernel_rfl), hI.base 44 (by kernel_rfl), hI.base 45 (by kernel_rfl), hI.base 46 (by kernel_rfl), hI.base 59 (by kernel_rfl), hI.base 60 (by kernel_rfl)] at E
          clear hI
          generalize a'.eval (.tmp 47) = y47 at E
          generalize a'.eval (.tmp 48) = y48 at E
          generalize a'.eval (.tmp 49) = y49 at E
          generalize a'.eval (.tmp 50) = y50 at E
          generalize a'.eval (.tmp 51) = y51 at E
          generalize a'.eval (.tmp 52) = y52 at E
          generalize a'.eval (.tmp 53) = y53 at E
          generalize a'.eval (.tmp 54) = y54 at E
          generalize a'.eval (.tmp 55) = y55 at E
          generalize a'.eval (.tmp 56) = y56 at E
          generalize a'.eval (.tmp 57) = y57 at E
          generalize a'.eval (.tmp 58) = y58 at E
          simp [Act.eval] at E
          subst E
          obtain ⟨r1, r2, r3, r4⟩ := hw7
          rw [hall 5 (by decide), hall 9 (by decide), if_pos rfl, if_pos rfl] at r2
          rw [hall 12 (by decide), if_pos rfl] at r4
          clear hall
          go_wp2
          go_roundw
          case rel =>
            refine ⟨k + 1, by omega, by go_num, hy7, ?_, r3, ?_, hS3.apart r1 hSB hSA, hap3.trans r1⟩
            · rw [wUp_succ]; exact r4
            · rw [wCnt]
              have e : c + (wCnt g sec st (cmul G X) k + ((cl2 g (wRaw g sec st (cmul G X) k)).2 + (cl2 g (wS1 g sec st (cmul G X) k)).2 + (cl2 g (wS2 g sec st (cmul G X) k)).2)) = c + wCnt g sec st (cmul G X) k + (cl2 g (wRaw g sec st (cmul G X) k)).2 + (cl2 g (wS1 g sec st (cmul G X) k)).2 + (cl2 g (wS2 g sec st (cmul G X) k)).2 := by omega
              rw [e]
              exact r2
          case measure => simp [intOf]; omega
    · have : k = n := by omega
      subst this
      obtain ⟨z, z', rfl, _⟩ := id hy
      have HH := hide (And.intro hy (And.intro hst (And.intro htA (And.intro hG (And.intro hS hap)))))
      clear hy hst htA hG hS hap
      go_wp2
      go_ret
      obtain ⟨hy, hst, htA, hG, hS, hap⟩ := unhide HH
      exact ⟨_, _, rfl, hy, hst, htA, hG, hS, hap⟩
end Go.Proofs.YthafffnebaaeiaaDoor
