/- FloorQ; quaverref25's scale and product. -/
import Derived.Test.YtlajalfdcfkmpaaXq
namespace Go.Proofs.Ytlajalfdcfkmpaa
open Go.RowKit Go.Maps

theorem floor_of {z D k : Int} (hD : 0 < D) (h1 : k * D ≤ z) (h2 : z < (k + 1) * D) : z / D = k := by
  have a := (Int.le_ediv_iff_mul_le hD).2 h1
  have b := (Int.ediv_lt_iff_lt_mul hD).2 h2
  omega
/-- The greatest whole number at most z over 2^t, by magnitudes. -/
def flN (z : Int) (t : Nat) : Nat := if z < 0 ∧ z.natAbs % 2 ^ t ≠ 0 then z.natAbs / 2 ^ t + 1 else z.natAbs / 2 ^ t
theorem flN_eq (z : Int) (t : Nat) : sg (decide (z < 0)) (flN z t) = z / 2 ^ t := by
  have hD : (0 : Int) < 2 ^ t := Int.pow_pos (by decide)
  have hd := Nat.div_add_mod z.natAbs (2 ^ t)
  have hm := Nat.mod_lt z.natAbs (Nat.two_pow_pos t)
  unfold flN sg
  obtain ⟨D, hDD⟩ : ∃ D : Nat, 2 ^ t = D := ⟨_, rfl⟩
  have hDI : (2 : Int) ^ t = (D : Int) := by rw [← hDD]; simp
  rw [hDI] at hD ⊢
  rw [hDD] at hd hm ⊢
  generalize z.natAbs / D = q at *
  generalize hr : z.natAbs % D = r at *
  have hP : ((D * q : Nat) : Int) = (q : Int) * (D : Int) := by rw [Int.natCast_mul, Int.mul_comm]
  by_cases h0 : z < 0
  · rw [decide_eq_true h0, if_pos rfl]
    by_cases hr0 : r = 0
    · rw [if_neg (by omega)]
      refine (floor_of hD ?_ ?_).symm
      · rw [Int.neg_mul]; omega
      · rw [Int.add_mul, Int.neg_mul, Int.one_mul]; omega
    · rw [if_pos ⟨h0, hr0⟩]
      refine (floor_of hD ?_ ?_).symm
      · rw [Int.neg_mul, Int.natCast_add, Int.add_mul]; omega
      · rw [Int.add_mul, Int.neg_mul, Int.natCast_add, Int.add_mul, Int.one_mul]; omega
  · rw [decide_eq_false h0, if_neg (by decide), if_neg (by omega)]
    refine (floor_of hD ?_ ?_).symm
    · omega
    · rw [Int.add_mul, Int.one_mul]; omega
def floV (A : Nat) (s : Bool) (x : Value) : Nat → Value → Prop
  | 23, v => v = .pointer (some ⟨A, 0, none⟩)
  | 24, v => v = .bool s
  | 25, v => v = x
  | _, _ => True
theorem res_flo {w : World} {tmps : Array Value} {b : Nat} {c0 c1 c2 : Value} (h6 : tmps.getD 2 undef = .pointer (some ⟨b, 0, none⟩)) (hr : Blk w b #[c0, c1, c2] 68) :
    (results Try.f50 tmps).run Try.prog w = .ok (.agg #[c0, c1, c2]) w := by
  have hl := run_loadVar_mid (P := Try.prog) w b 0 68 [c0, c1, c2] _ hr.range Try.underlying68 rfl infoQ
  rw [Array.getD_eq_getD_getElem?] at h6
  simp [results, h6, asAddr, hl]
set_option maxRecDepth 100000 in
set_option maxHeartbeats 4000000 in
theorem floor_any {v : Value} {z : Int} {t : Nat} {w : World} (h : QA w v z t) (b : z.natAbs < 4294967296 ^ 400) (ht : t ≤ 12000) :
    Calls Try.prog 50 #[v] w fun e w' => ∃ v', e = .returned v' ∧ QA w' v' (z / 2 ^ t) 0 ∧ Below w.heap.size w w' := by
  obtain ⟨vN, vD, rfl, hN, hD, _⟩ := h
  obtain ⟨p1, m1, q1, rfl, _⟩ := hN.form
  obtain ⟨p2, m2, q2, rfl, _⟩ := hD.form
  obtain ⟨Rel, hRelD⟩ : ∃ Rel : Int → Nat → Prop, Rel = fun z' t' => z' = z / 2 ^ t ∧ t' = 0 := ⟨_, rfl⟩
  have hfl := flN_eq z t
  obtain ⟨s, hs⟩ : ∃ s, decide (z < 0) = s := ⟨_, rfl⟩
  rw [hs] at hfl ⊢
  have hRel : ∀ z' t', t' ≤ 0 → z' * 2 ^ (0 - t') = sg s (flN z t) → Rel z' t' := fun z' t' a b => by
    rw [hRelD]
    obtain rfl : t' = 0 := by omega
    rw [Nat.sub_zero, Int.pow_zero, Int.mul_one] at b
    exact ⟨b.trans hfl, rfl⟩
  have bq : flN z t < 4294967296 ^ 990 := by
    have h1 : flN z t ≤ z.natAbs + 1 := by
      unfold flN
      have := Nat.div_le_self z.natAbs (2 ^ t)
      split <;> omega
    exact Nat.lt_of_le_of_lt h1 (add_lt (i := 400) (k := 990) b (lt_pow (k := 400) (by decide) (by decide)) (by decide))
  have b1 : z.natAbs < 4294967296 ^ 990 := lt_le (i := 400) (k := 990) b (by decide)
  have hp : 2 ^ t < 4294967296 ^ 990 := pow_lt (k := 990) (by omega)
  obtain ⟨A, hA⟩ : ∃ A, w.heap.size = A := ⟨_, rfl⟩
  obtain ⟨hBA, hBZ, hlw⟩ := two_blocks w #[.bool s, .slice p1 m1 q1, .slice p2 m2 q2] zQ 68
  obtain ⟨W, hW⟩ : ∃ W, W = (w.alloc (Obj.cells #[.bool s, .slice p1 m1 q1, .slice p2 m2 q2] 68)).alloc (Obj.cells zQ 68) := ⟨_, rfl⟩
  rw [← hW] at hBA hBZ hlw
  rw [hA] at hBA hBZ
  have HD := hide (div_b (hN.below hlw) (hD.below hlw) b1 (Nat.two_pow_pos t) hp)
  have HRelD := hide hRelD
  have HA := hide hA
  have Hs := hide hs
  have HB2 := hide bq
  have x1' := hBA.cell 1 rfl
  have x2' := hBA.cell 2 rfl
  clear hRelD hfl hN hD hs b b1 bq
  go_enter Try.func50, Try.ntmps50
  go_upto_region 1 with fail
  unfold zQ at hW
  rw [← hW]
  clear hW hA
  go_wp2_with fail
  refine (unhide HD).mono ?_
  rintro e w2 ⟨vq, vr, rfl, hq, hr, hB2⟩
  obtain ⟨a3, n3, c3, rfl, f3⟩ := hr.form
  have x0 := (hBA.below hB2 hBA.lt).cell 0 rfl
  have H2 := hide (And.intro hq hB2)
  have HF3 := hide f3
  clear hq hr hB2 HD x1' x2' f3
  go_upto_region 2 with fail
  go_cut [19] (fun v wx => v = .bool (s && decide (0 < n3)) ∧ w2 = wx)
  case first =>
    cases s with
    | false =>
      go_wp2_with fail
      go_meet
      exact ⟨rfl, rfl⟩
    | true =>
      go_wp2_with fail
      go_meet
      exact ⟨by first | rfl | simp, rfl⟩
  case rest =>
   obtain ⟨rfl, rfl⟩ := hcut
   obtain ⟨bz, hbz⟩ : ∃ bz, (s && decide (0 < n3)) = bz := ⟨_, rfl⟩
   rw [hbz]
   have HBZ : Hid ((bz = true → z < 0 ∧ z.natAbs % 2 ^ t ≠ 0) ∧ (bz = false → ¬ (z < 0 ∧ z.natAbs % 2 ^ t ≠ 0))) := by
     show _ ∧ _
     have h3 := unhide HF3
     have hs := unhide Hs
     rw [← hbz, ← hs]
     refine ⟨fun h => ?_, fun h => ?_⟩
     · simp only [Bool.and_eq_true, decide_eq_true_eq] at h
       exact ⟨h.1, fun e => by have := h3.2 e; omega⟩
     · simp only [Bool.and_eq_false_iff, decide_eq_false_iff_not] at h
       rintro ⟨g1, g2⟩
       rcases h with h | h
       · exact h g1
       · exact g2 (h3.1 (by omega))
   clear hbz
   go_upto_if 19 with fail
   go_cut [3] (fun v wx => Hid (NA wx v (flN z t) ∧ Below W.heap.size W wx))
   case first =>
     cases bz with
     | false =>
       have HM0 := hide ((unhide HBZ).2 rfl)
       clear HBZ
       go_wp2_with fail
       go_meet
       show _ ∧ _
       unfold flN
       rw [if_neg (unhide HM0)]
       exact unhide H2
     | true =>
       have HM0 := hide ((unhide HBZ).1 rfl)
       clear HBZ
       have HW1 := hide (word_any 1 (by decide) w2)
       go_wp2_with fail
       refine (unhide HW1).mono ?_
       rintro e w3 ⟨v3, rfl, hN3, hB3⟩
       have hq0 : z.natAbs / 2 ^ t < 4294967296 ^ 990 := by
         have h := unhide HB2
         unfold flN at h
         rw [if_pos (unhide HM0)] at h
         omega
       have HAd := hide (addN_b ((unhide H2).1.below hB3) hN3 hq0 (lt990 (by decide)))
       have HB3 := hide ((unhide H2).2.trans (hB3.mono (unhide H2).2.size))
       clear hN3 hB3 hq0 HW1
       go_wp2_with fail
       refine (unhide HAd).mono ?_
       rintro e w4 ⟨v4, rfl, hN4, hB4⟩
       have H4 := hide (And.intro hN4 ((unhide HB3).trans (hB4.mono (unhide HB3).size)))
       clear hN4 hB4 HAd
       go_wp2_with fail
       go_meet
       show _ ∧ _
       unfold flN
       rw [if_pos (unhide HM0)]
       exact unhide H4
   case rest =>
     obtain ⟨x1, fB⟩ := unhide hcut
     have bq := unhide HB2
     have hlc : Below w.heap.size w wc := hlw.trans (fB.mono hlw.size)
     have jA := hBA.below fB hBA.lt
     have jZ := hBZ.below fB hBZ.lt
     go_upto_region 4 with fail
     refine region_slotsA (floV A s u3) (kC wc 5 [⟨3, 26, fun w v => NA w v 1⟩, ⟨4, 27, QR Rel⟩] (QF w (A + 1) Rel)) (by kernel_rfl) (by kernel_rfl) (by kernel_rfl) 28 (by kernel_rfl) rfl kC.start ?_ ?_
     · intro listed a w1 i o hI ho hsz hl hd
       have hi : i < 6 := by simpa using (Array.getElem?_eq_some_iff.1 ho).1
       have hsz' : listed.size = 6 := by simpa using hsz
       have e1 : a.eval (.tmp 1) = .pointer (some ⟨A, 0, none⟩) := (hI.base 1 (by kernel_rfl)).trans rfl
       have e2 : a.eval (.tmp 2) = .pointer (some ⟨A + 1, 0, none⟩) := (hI.base 2 (by kernel_rfl)).trans rfl
       have e3 : a.eval (.tmp 3) = u3 := (hI.base 3 (by kernel_rfl)).trans rfl
       have hc : kC wc 5 [⟨3, 26, fun w v => NA w v 1⟩, ⟨4, 27, QR Rel⟩] (QF w (A + 1) Rel) listed a w1 := hI.world
       have lk : listed.getD 5 false = false := hI.notYet hsz' 5 rfl (by kernel_rfl) hi hl
       obtain ⟨hB0, hps⟩ := hc.1 lk
       have kA := jA.below hB0 jA.lt
       have kZ := jZ.below hB0 jZ.lt
       rcases (by omega : i = 0 ∨ i = 1 ∨ i = 2 ∨ i = 3 ∨ i = 4 ∨ i = 5) with rfl | rfl | rfl | rfl | rfl | rfl
       all_goals obtain rfl := Option.some.inj ho
       · exact okR_field rfl e1 (fieldQ _ 0 (by decide) _) ⟨slotR rfl rfl, hc.same 0 rfl (by decide) (by simp)⟩
       · have k1 := hI.slot 0 _ 23 rfl rfl (hd ⟨0, .data⟩ (by simp) rfl)
         exact okR_load rfl k1 (loadB _ _ _ (kA.cell 0 rfl)) ⟨slotR rfl rfl, hc.same 1 rfl (by decide) (by simp)⟩
       · exact okR_move rfl e3 ⟨slotR rfl rfl, hc.same 2 rfl (by decide) (by simp)⟩
       · refine okR_call1 enter_Word rfl rfl ((word_any 1 (by decide) _).mono ?_)
         rintro e w' ⟨v, rfl, hv, hB⟩
         refine ⟨v, rfl, slotR rfl trivial, hc.made lk 3 hI.size (show 26 < 28 by omega) rfl (by decide) hB ?_ ?_⟩
         · intro c hc' he
           simp only [List.mem_cons, List.mem_nil_iff, or_false] at hc'
           rcases hc' with rfl | rfl
           · exact ⟨rfl, hv⟩
           · simp at he
         · intro c hc' hne
           simp only [List.mem_cons, List.mem_nil_iff, or_false] at hc'
           rcases hc' with rfl | rfl
           · exact absurd rfl hne
           · exact ⟨by simp, QR.keep _ _ hB⟩
       · have k1 := hI.slot 1 _ 24 rfl rfl (hd ⟨1, .data⟩ (by simp) rfl)
         have k2 := hI.slot 2 _ 25 rfl rfl (hd ⟨2, .data⟩ (by simp) rfl)
         have j1 := hps ⟨3, 26, fun w v => NA w v 1⟩ (by simp) (hd ⟨3, .data⟩ (by simp) rfl)
         refine okR_call3' enter_Lay rfl k1 k2 rfl ((lay_any (t := 0) s (x1.below hB0) j1 bq (by omega)).mono ?_)
         rintro e w' ⟨v, z', t', rfl, hq, h3, h4, hB⟩
         have hv : QR Rel w' v := ⟨z', t', hq, hRel z' t' h3 h4⟩
         refine ⟨v, rfl, slotR rfl trivial, hc.made lk 4 hI.size (show 27 < 28 by omega) rfl (by decide) hB ?_ ?_⟩
         · intro c hc' he
           simp only [List.mem_cons, List.mem_nil_iff, or_false] at hc'
           rcases hc' with rfl | rfl
           · simp at he
           · exact ⟨rfl, hv⟩
         · intro c hc' hne
           simp only [List.mem_cons, List.mem_nil_iff, or_false] at hc'
           rcases hc' with rfl | rfl
           · exact ⟨by simp, NA.keep _ _ hB⟩
           · exact absurd rfl hne
       · have j1 := hps ⟨4, 27, QR Rel⟩ (by simp) (hd ⟨4, .data⟩ (by simp) rfl)
         obtain ⟨bb, a1, n1', c1', a2, n2', c2', hv⟩ := QR.form j1
         rw [hv] at j1
         exact okR_store rfl e2 hv (run_storeAt_mid w1 (A + 1) 0 68 #[.bool bb, .slice a1 n1' c1', .slice a2 n2' c2'] kZ.there infoQ (by simp [Value.oneCell'])) ⟨slotN rfl, kC.last (by omega) (QF.store j1 kZ (hlc.trans (hB0.mono hlc.size)) (by rw [unhide HA]; omega))⟩
     · intro listed a' w9 hI hall
       obtain ⟨c0, c1', c2', hb, ⟨z', t', hq, hrel⟩, hlow⟩ := hI.world.2 (hall 5 (by decide))
       have E := hI.frame [23, 24, 25, 26, 27] (by kernel_rfl)
       simp only [putAll] at E
       generalize a'.eval (.tmp 23) = y23 at E
       generalize a'.eval (.tmp 24) = y24 at E
       generalize a'.eval (.tmp 25) = y25 at E
       generalize a'.eval (.tmp 26) = y26 at E
       generalize a'.eval (.tmp 27) = y27 at E
       simp only [Act.put, List.setIfInBounds_toArray, List.set_cons_zero, List.set_cons_succ] at E
       clear hI hall
       subst E
       have HH := hide (And.intro hb (And.intro hq (And.intro hrel hlow)))
       clear hb hq hrel hlow
       go_wp2_with fail
       refine bodyPost_ret (res_flo rfl (unhide HH).1) rfl ?_
       obtain ⟨_, hq, hrel, hlow⟩ := unhide HH
       rw [unhide HRelD] at hrel
       rw [hrel.1, hrel.2] at hq
       exact ⟨_, rfl, hq, hlow⟩
end Go.Proofs.Ytlajalfdcfkmpaa
