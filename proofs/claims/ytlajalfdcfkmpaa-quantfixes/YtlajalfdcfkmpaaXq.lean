/- SubQ, CmpQ, FloorQ. -/
import Derived.Test.YtlajalfdcfkmpaaXp
namespace Go.Proofs.Ytlajalfdcfkmpaa
open Go.RowKit Go.Maps

theorem enter_NegQ (xs : Array Value) (w : World) : (callFunc 64 xs).run Try.prog w = .ok (.enter 64 xs) w := by go_simp
theorem enter_AddQ (xs : Array Value) (w : World) : (callFunc 44 xs).run Try.prog w = .ok (.enter 44 xs) w := by go_simp
theorem enter_Word (xs : Array Value) (w : World) : (callFunc 55 xs).run Try.prog w = .ok (.enter 55 xs) w := by go_simp
theorem QA.keep {z : Int} {t : Nat} (w w' : World) (hb : Below w.heap.size w w') : ∀ v, QA w v z t → QA w' v z t := fun _ h => h.below hb
theorem QA.form {w : World} {v : Value} {z : Int} {t : Nat} (h : QA w v z t) : ∃ a1 n1 c1 a2 n2 c2, v = .agg #[.bool (decide (z < 0)), .slice a1 n1 c1, .slice a2 n2 c2] := by
  obtain ⟨vN, vD, rfl, h1, h2, _⟩ := h
  obtain ⟨a1, n1, c1, rfl, _⟩ := h1.form
  obtain ⟨a2, n2, c2, rfl, _⟩ := h2.form
  exact ⟨_, _, _, _, _, _, rfl⟩
def subV (x y : Value) : Nat → Value → Prop
  | 5, v => v = x
  | 6, v => v = y
  | _, _ => True
theorem res_sub {w : World} {tmps : Array Value} {b : Nat} {c0 c1 c2 : Value} (h6 : tmps.getD 4 undef = .pointer (some ⟨b, 0, none⟩)) (hr : Blk w b #[c0, c1, c2] 68) :
    (results Try.f46 tmps).run Try.prog w = .ok (.agg #[c0, c1, c2]) w := by
  have hl := run_loadVar_mid (P := Try.prog) w b 0 68 [c0, c1, c2] _ hr.range Try.underlying68 rfl infoQ
  rw [Array.getD_eq_getD_getElem?] at h6
  simp [results, h6, asAddr, hl]
set_option maxRecDepth 100000 in
set_option maxHeartbeats 4000000 in
theorem subQ_any {v1 v2 : Value} {z1 z2 : Int} {t1 t2 : Nat} {w : World} (h1 : QA w v1 z1 t1) (h2 : QA w v2 z2 t2) (b1 : z1.natAbs < 4294967296 ^ 400) (b2 : z2.natAbs < 4294967296 ^ 400) (ht : t1 + t2 ≤ 12000) :
    Calls Try.prog 46 #[v1, v2] w fun e w' => ∃ v z t, e = .returned v ∧ QA w' v z t ∧ t ≤ t1 + t2 ∧ z * 2 ^ (t1 + t2 - t) = z1 * 2 ^ t2 + -z2 * 2 ^ t1 ∧ Below w.heap.size w w' := by
  obtain ⟨p1, m1, q1, p2, m2, q2, hv1⟩ := h1.form
  obtain ⟨p3, m3, q3, p4, m4, q4, hv2⟩ := h2.form
  subst hv1 hv2
  obtain ⟨Rel, hRelD⟩ : ∃ Rel : Int → Nat → Prop, Rel = fun z t => t ≤ t1 + t2 ∧ z * 2 ^ (t1 + t2 - t) = z1 * 2 ^ t2 + -z2 * 2 ^ t1 := ⟨_, rfl⟩
  have hRel : ∀ z t, t ≤ t1 + t2 → z * 2 ^ (t1 + t2 - t) = z1 * 2 ^ t2 + -z2 * 2 ^ t1 → Rel z t := fun z t a b => by rw [hRelD]; exact ⟨a, b⟩
  obtain ⟨A, hA⟩ : ∃ A, w.heap.size = A := ⟨_, rfl⟩
  obtain ⟨s1, hs1⟩ : ∃ s, decide (z1 < 0) = s := ⟨_, rfl⟩
  obtain ⟨s2, hs2⟩ : ∃ s, decide (z2 < 0) = s := ⟨_, rfl⟩
  rw [hs1] at h1 ⊢
  rw [hs2] at h2 ⊢
  obtain ⟨hBA, hBB, hBZ, hlw⟩ := three_blocks w #[.bool s1, .slice p1 m1 q1, .slice p2 m2 q2] #[.bool s2, .slice p3 m3 q3, .slice p4 m4 q4] zQ 68
  obtain ⟨W, hW⟩ : ∃ W, W = ((w.alloc (Obj.cells #[.bool s1, .slice p1 m1 q1, .slice p2 m2 q2] 68)).alloc (Obj.cells #[.bool s2, .slice p3 m3 q3, .slice p4 m4 q4] 68)).alloc (Obj.cells zQ 68) := ⟨_, rfl⟩
  rw [← hW] at hBA hBB hBZ hlw
  rw [hA] at hBA hBB hBZ
  replace h1 := h1.below hlw
  replace h2 := h2.below hlw
  have HRelD := hide hRelD
  have HA := hide hA
  clear hRelD hs1 hs2
  go_enter Try.func46, Try.ntmps46
  go_upto_region 1 with fail
  unfold zQ at hW
  rw [← hW]
  clear hW hA
  refine region_slotsA (subV (.agg #[.bool s1, .slice p1 m1 q1, .slice p2 m2 q2]) (.agg #[.bool s2, .slice p3 m3 q3, .slice p4 m4 q4])) (kC W 4 [⟨2, 7, fun w v => QA w v (-z2) t2⟩, ⟨3, 8, QR Rel⟩] (QF w (A + 1 + 1) Rel)) (by kernel_rfl) (by kernel_rfl) (by kernel_rfl) 9 (by kernel_rfl) rfl kC.start ?_ ?_
  · intro listed a w1 i o hI ho hsz hl hd
    have hi : i < 5 := by simpa using (Array.getElem?_eq_some_iff.1 ho).1
    have hsz' : listed.size = 5 := by simpa using hsz
    have e2 : a.eval (.tmp 2) = .pointer (some ⟨A, 0, none⟩) := (hI.base 2 (by kernel_rfl)).trans rfl
    have e3 : a.eval (.tmp 3) = .pointer (some ⟨A + 1, 0, none⟩) := (hI.base 3 (by kernel_rfl)).trans rfl
    have e4 : a.eval (.tmp 4) = .pointer (some ⟨A + 1 + 1, 0, none⟩) := (hI.base 4 (by kernel_rfl)).trans rfl
    have hc : kC W 4 [⟨2, 7, fun w v => QA w v (-z2) t2⟩, ⟨3, 8, QR Rel⟩] (QF w (A + 1 + 1) Rel) listed a w1 := hI.world
    have lk : listed.getD 4 false = false := hI.notYet hsz' 4 rfl (by kernel_rfl) hi hl
    obtain ⟨hB0, hps⟩ := hc.1 lk
    have kA := hBA.below hB0 hBA.lt
    have kB := hBB.below hB0 hBB.lt
    have kZ := hBZ.below hB0 hBZ.lt
    rcases (by omega : i = 0 ∨ i = 1 ∨ i = 2 ∨ i = 3 ∨ i = 4) with rfl | rfl | rfl | rfl | rfl
    all_goals obtain rfl := Option.some.inj ho
    · exact okR_load rfl e2 (loadQ _ _ _ _ _ _ _ _ _ kA) ⟨slotR rfl rfl, hc.same 0 rfl (by decide) (by simp)⟩
    · exact okR_load rfl e3 (loadQ _ _ _ _ _ _ _ _ _ kB) ⟨slotR rfl rfl, hc.same 1 rfl (by decide) (by simp)⟩
    · have k1 := hI.slot 1 _ 6 rfl rfl (hd ⟨1, .data⟩ (by simp) rfl)
      refine okR_call1 enter_NegQ rfl k1 ((neg_any (h2.below hB0)).mono ?_)
      rintro e w' ⟨v, rfl, hv, hB⟩
      refine ⟨v, rfl, slotR rfl trivial, hc.made lk 2 hI.size (show 7 < 9 by omega) rfl (by decide) hB ?_ ?_⟩
      · intro c hc' he
        simp only [List.mem_cons, List.mem_nil_iff, or_false] at hc'
        rcases hc' with rfl | rfl
        · exact ⟨rfl, hv⟩
        · simp at he
      · intro c hc' hne
        simp only [List.mem_cons, List.mem_nil_iff, or_false] at hc'
        rcases hc' with rfl | rfl
        · exact absurd rfl hne
        · exact ⟨by simp, QR.keep _ _ hB⟩
    · have k1 := hI.slot 0 _ 5 rfl rfl (hd ⟨0, .data⟩ (by simp) rfl)
      have j1 := hps ⟨2, 7, fun w v => QA w v (-z2) t2⟩ (by simp) (hd ⟨2, .data⟩ (by simp) rfl)
      refine okR_call2 enter_AddQ rfl k1 rfl ((addQ_any (h1.below hB0) j1 b1 (by rw [Int.natAbs_neg]; exact b2) ht).mono ?_)
      rintro e w' ⟨v, z, t, rfl, hq, h3, h4, hB⟩
      have hv : QR Rel w' v := ⟨z, t, hq, hRel z t h3 h4⟩
      refine ⟨v, rfl, slotR rfl trivial, hc.made lk 3 hI.size (show 8 < 9 by omega) rfl (by decide) hB ?_ ?_⟩
      · intro c hc' he
        simp only [List.mem_cons, List.mem_nil_iff, or_false] at hc'
        rcases hc' with rfl | rfl
        · simp at he
        · exact ⟨rfl, hv⟩
      · intro c hc' hne
        simp only [List.mem_cons, List.mem_nil_iff, or_false] at hc'
        rcases hc' with rfl | rfl
        · exact ⟨by simp, QA.keep _ _ hB⟩
        · exact absurd rfl hne
    · have j1 := hps ⟨3, 8, QR Rel⟩ (by simp) (hd ⟨3, .data⟩ (by simp) rfl)
      obtain ⟨bb, a1, n1', c1', a2, n2', c2', hv⟩ := QR.form j1
      rw [hv] at j1
      exact okR_store rfl e4 hv (run_storeAt_mid w1 (A + 1 + 1) 0 68 #[.bool bb, .slice a1 n1' c1', .slice a2 n2' c2'] kZ.there infoQ (by simp [Value.oneCell'])) ⟨slotN rfl, kC.last (by omega) (QF.store j1 kZ (hlw.trans (hB0.mono hlw.size)) (by rw [unhide HA]; omega))⟩
  · intro listed a' w9 hI hall
    obtain ⟨c0, c1', c2', hb, ⟨z, t, hq, hrel⟩, hlow⟩ := hI.world.2 (hall 4 (by decide))
    have E := hI.frame [5, 6, 7, 8] (by kernel_rfl)
    simp only [putAll] at E
    generalize a'.eval (.tmp 5) = y5 at E
    generalize a'.eval (.tmp 6) = y6 at E
    generalize a'.eval (.tmp 7) = y7 at E
    generalize a'.eval (.tmp 8) = y8 at E
    simp only [Act.put, List.setIfInBounds_toArray, List.set_cons_zero, List.set_cons_succ] at E
    clear hI hall
    subst E
    have HH := hide (And.intro hb (And.intro hq (And.intro hrel hlow)))
    clear hb hq hrel hlow
    go_wp2_with fail
    refine bodyPost_ret (res_sub rfl (unhide HH).1) rfl ?_
    obtain ⟨_, hq, hrel, hlow⟩ := unhide HH
    rw [unhide HRelD] at hrel
    exact ⟨_, z, t, rfl, hq, hrel.1, hrel.2, hlow⟩

def sgnI (d : Int) : Int := if d = 0 then 0 else if d < 0 then -1 else 1
theorem sgn_pow (z : Int) (k : Nat) : sgnI (z * 2 ^ k) = sgnI z := by
  have hp : (0 : Int) < 2 ^ k := Int.pow_pos (by decide)
  unfold sgnI
  by_cases h0 : z = 0
  · rw [h0, Int.zero_mul]
  · by_cases h1 : z < 0
    · rw [if_neg (Int.ne_of_lt (Int.mul_neg_of_neg_of_pos h1 hp)), if_pos (Int.mul_neg_of_neg_of_pos h1 hp), if_neg h0, if_pos h1]
    · have h2 := Int.mul_pos (show 0 < z by omega) hp
      rw [if_neg (Int.ne_of_gt h2), if_neg (by omega), if_neg h0, if_neg h1]

set_option maxRecDepth 100000 in
set_option maxHeartbeats 1000000 in
theorem cmpQ_any {v1 v2 : Value} {z1 z2 : Int} {t1 t2 : Nat} {w : World} (h1 : QA w v1 z1 t1) (h2 : QA w v2 z2 t2) (b1 : z1.natAbs < 4294967296 ^ 400) (b2 : z2.natAbs < 4294967296 ^ 400) (ht : t1 + t2 ≤ 12000) :
    Calls Try.prog 51 #[v1, v2] w fun e w' => e = .returned (.int .i64 (sgnI (z1 * 2 ^ t2 + -z2 * 2 ^ t1))) ∧ Below w.heap.size w w' := by
  obtain ⟨p1, m1, q1, p2, m2, q2, hv1⟩ := h1.form
  obtain ⟨p3, m3, q3, p4, m4, q4, hv2⟩ := h2.form
  subst hv1 hv2
  obtain ⟨S, hS⟩ : ∃ S, sgnI (z1 * 2 ^ t2 + -z2 * 2 ^ t1) = S := ⟨_, rfl⟩
  rw [hS]
  have HS := hide hS
  obtain ⟨s1, hs1⟩ : ∃ s, decide (z1 < 0) = s := ⟨_, rfl⟩
  obtain ⟨s2, hs2⟩ : ∃ s, decide (z2 < 0) = s := ⟨_, rfl⟩
  rw [hs1] at h1 ⊢
  rw [hs2] at h2 ⊢
  obtain ⟨hBA, hBB, hlw⟩ := two_blocks w #[.bool s1, .slice p1 m1 q1, .slice p2 m2 q2] #[.bool s2, .slice p3 m3 q3, .slice p4 m4 q4] 68
  have HC := hide (subQ_any (h1.below hlw) (h2.below hlw) b1 b2 ht)
  have HL := hide hlw
  clear hBA hBB hlw h1 h2 hS hs1 hs2 b1 b2
  go_enter Try.func51, Try.ntmps51
  go_wp2_with fail
  refine (unhide HC).mono ?_
  rintro e w2 ⟨v, z, t, rfl, hq, h3, h4, hB⟩
  have HZ := hide (sign_any hq)
  have H4 := hide (And.intro h4 ((unhide HL).trans (hB.mono (unhide HL).size)))
  clear h4 hB hq HC
  go_wp2_with fail
  refine (unhide HZ).mono ?_
  rintro e w3 ⟨rfl, hB3⟩
  obtain ⟨T, hT⟩ : ∃ T : Int, (if z = 0 then 0 else if z < 0 then -1 else 1) = T := ⟨_, rfl⟩
  rw [hT]
  have HT := hide hT
  have HB3 := hide hB3
  clear hT hB3 HZ
  go_wp2
  go_ret
  refine ⟨?_, (unhide H4).2.trans ((unhide HB3).mono (unhide H4).2.size)⟩
  rw [← unhide HS, ← (unhide H4).1, sgn_pow, ← unhide HT]
  rfl
end Go.Proofs.Ytlajalfdcfkmpaa
