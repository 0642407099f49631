/- What package quant's lead answers. -/
import Derived.Test.YtmddclgidccnhabQe
namespace Go.Proofs.Ytmddclgidccnhab
open Go.RowKit

theorem enter_next (xs : Array Value) (w : World) : (callFunc 41 xs).run Try.prog w = .ok (.enter 41 xs) w := by go_simp

def l8V (f : Fx) (s0 s1 h0 h1 : St) : Nat → Value → Prop
  | 20, v => v = vF f
  | 21, v => v = vS s0
  | 22, v => v = vS s1
  | 23, v => v = vF f
  | 24, v => v = vS h0
  | 25, v => v = vS h1
  | _, _ => True
def l8C (w : World) (f : Fx) (s0 s1 h0 h1 : St) (listed : Array Bool) (w' : World) : Prop :=
  QW w (aF f) (aS (if listed.getD 6 false then s1 else s0)) (aS (if listed.getD 7 false then h1 else h0)) w'
theorem l8C.same {w : World} {f : Fx} {s0 s1 h0 h1 : St} {listed : Array Bool} {w' w'' : World} (h : l8C w f s0 s1 h0 h1 listed w') (i : Nat) (h6 : i ≠ 6) (h7 : i ≠ 7) (hb : Below w'.heap.size w' w'') : l8C w f s0 s1 h0 h1 (listed.setIfInBounds i true) w'' := by
  unfold l8C
  rw [getD_set_ne false h6, getD_set_ne false h7]
  exact QW.later h hb
theorem QW.allS {w a : World} {fs rs : Array Value} {s : St} (h : QW w fs (aS s) rs a) (t : St) : QW w fs (aS t) rs (a.setCells (w.heap.size + 1) 0 (aS t).toList) :=
  ⟨Below.setCells h.low (by omega) 0 (aS t).toList, h.sec.other (by omega) (aS t).toList 0, h.st.all (ds := aS t) rfl, h.res.other (by omega) (aS t).toList 0⟩
theorem QW.allR {w a : World} {fs ss : Array Value} {s : St} (h : QW w fs ss (aS s) a) (t : St) : QW w fs ss (aS t) (a.setCells (w.heap.size + 1 + 1) 0 (aS t).toList) :=
  ⟨Below.setCells h.low (by omega) 0 (aS t).toList, h.sec.other (by omega) (aS t).toList 0, h.st.other (by omega) (aS t).toList 0, h.res.all (ds := aS t) rfl⟩

def LeadPost (f : Fx) (s : St) (b : Nat) (e : Ending) : Prop := ∃ a : Nat, e = .returned (.int .i64 a) ∧ so f s (a + b) = so f s a ∧ ∀ i, i < a → so f s (i + b) ≠ so f s i

set_option maxRecDepth 100000 in
set_option maxHeartbeats 2000000 in
theorem lead_any (f : Fx) (s : St) (b p : Nat) (hb : b ≤ 4194304) (hp : p ≤ 4194304) (hpb : so f s (p + b) = so f s p) (w : World) :
    Calls Try.prog 24 #[vF f, vS s, .int .i64 b] w fun e w' => LeadPost f s b e ∧ Below w.heap.size w w' := by
  have Hs := hide (fun k => next_any f (so f s k))
  have Hs' := Hs
  have Hq := hide (QW.start w (aF f) (aS s) (aS s))
  have Hpb := hide hpb
  clear hpb
  unfold vF vS at Hs ⊢
  go_enter Try.func24, Try.ntmps24
  go_wp2_with fail
  go_loopw [11] (fun t wr => ∃ c : Nat, t = .int .i64 c ∧ c ≤ b ∧ Hid (QW w (aF f) (aS s) (aS (so f s c)) wr)) (fun t _ => b - (intOf t).toNat)
  case atStart =>
    exact ⟨0, rfl, Nat.zero_le _, Hq⟩
  case round =>
    obtain ⟨c, rfl, hcb, hQ⟩ := hrel
    clear Hq
    by_cases hc : (c : Int) < (b : Int)
    · obtain ⟨c0, c1, c2, c3, c4, c5⟩ := (unhide hQ).cellsF
      obtain ⟨d0, d1, d2, d3, d4, d5, d6, d7⟩ := (unhide hQ).cellsR
      clear Hs'
      go_wp2_with fail
      refine (unhide Hs c _).mono ?_
      rintro e w2 ⟨rfl, hb2⟩
      have hQ2 := (unhide hQ).later hb2
      clear c0 c1 c2 c3 c4 c5 d0 d1 d2 d3 d4 d5 d6 d7
      obtain ⟨d0, d1, d2, d3, d4, d5, d6, d7⟩ := hQ2.cellsR
      have HQ2 := hide hQ2
      clear hQ2 hb2 hQ
      go_wp2
      go_roundw
      case rel => exact ⟨c + 1, by go_num, by omega, (unhide HQ2).setR (so f s (c + 1))⟩
      case measure => simp [intOf]; omega
    · obtain rfl : c = b := by omega
      clear Hs
      go_wp2_with fail
      go_loopw [8] (fun t wr => ∃ a : Nat, t = .int .i64 a ∧ a ≤ p ∧ Hid (QW w (aF f) (aS (so f s a)) (aS (so f s (a + c))) wr) ∧ Hid (∀ i, i < a → so f s (i + c) ≠ so f s i)) (fun t _ => p - (intOf t).toNat)
      case atStart =>
        refine ⟨0, rfl, Nat.zero_le _, ?_, fun i hi => absurd hi (Nat.not_lt_zero i)⟩
        rw [Nat.zero_add]
        exact hQ
      case round =>
        obtain ⟨a, rfl, hap, hQa, hno⟩ := hrel
        clear hQ
        by_cases hEq : so f s a = so f s (a + c)
        · obtain ⟨d0, d1, d2, d3, d4, d5, d6, d7⟩ := (unhide hQa).cellsS
          obtain ⟨e0, e1, e2, e3, e4, e5, e6, e7⟩ := (unhide hQa).cellsR
          have HE := hide hEq
          rw [← hEq] at e0 e1 e2 e3
          clear hEq
          go_wp2
          go_ret
          exact ⟨⟨a, rfl, (unhide HE).symm, unhide hno⟩, (unhide hQa).low⟩
        · have hlt : a < p := by
            by_cases h : a = p
            · subst h; exact absurd (unhide Hpb).symm hEq
            · omega
          obtain ⟨s0, hs0⟩ : ∃ s0, s0 = so f s a := ⟨_, rfl⟩
          obtain ⟨h0, hh0⟩ : ∃ h0, h0 = so f s (a + c) := ⟨_, rfl⟩
          have HE := hide hEq
          have HS := hide hs0
          have HH := hide hh0
          have hQ0 : Hid (QW w (aF f) (aS s0) (aS h0) wr) := by rw [hs0, hh0]; exact hQa
          have N1 : Hid (∀ w, Calls Try.prog 41 #[vF f, vS s0] w fun e w' => e = .returned (vS (nxt f s0 0)) ∧ Below w.heap.size w w') := by rw [hs0]; exact unhide Hs' a
          have N2 : Hid (∀ w, Calls Try.prog 41 #[vF f, vS h0] w fun e w' => e = .returned (vS (nxt f h0 0)) ∧ Below w.heap.size w w') := by rw [hh0]; exact unhide Hs' (a + c)
          have hne : ¬ (s0.x1 = h0.x1 ∧ s0.x2 = h0.x2 ∧ s0.y1 = h0.y1 ∧ s0.y2 = h0.y2) := by
            rintro ⟨g1, g2, g3, g4⟩
            refine hEq ?_
            rw [← hs0, ← hh0]
            obtain ⟨x, y, z, u⟩ := s0
            obtain ⟨x', y', z', u'⟩ := h0
            simp only at g1 g2 g3 g4
            rw [g1, g2, g3, g4]
          clear hEq hs0 hh0 hQa Hs'
          obtain ⟨d0, d1, d2, d3, d4, d5, d6, d7⟩ := (unhide hQ0).cellsS
          obtain ⟨e0, e1, e2, e3, e4, e5, e6, e7⟩ := (unhide hQ0).cellsR
          have Hne := hide hne
          clear hne
          go_wp2_with fail
          · exact absurd ⟨by assumption, by assumption, by assumption, by assumption⟩ (unhide Hne)
          all_goals
            clear d0 d1 d2 d3 d4 d5 d6 d7 e0 e1 e2 e3 e4 e5 e6 e7
            rename_i K hK
            have HK := hide hK
            clear hK
            refine region_slots (l8V f s0 (nxt f s0 0) h0 (nxt f h0 0)) (l8C w f s0 (nxt f s0 0) h0 (nxt f h0 0)) (by kernel_rfl) (by kernel_rfl) (by kernel_rfl) 29 (by kernel_rfl) rfl ?_ ?_ ?_
            · exact QW.later (unhide hQ0) (Below.refl _ wr).drew
            · intro listed a w1 i o hI ho hsz hl hd
              have hi : i < 8 := by simpa using (Array.getElem?_eq_some_iff.1 ho).1
              have hsz' : listed.size = 8 := by simpa using hsz
              have e3 : a.eval (.tmp 3) = .pointer (some ⟨w.heap.size, 0, none⟩) := (hI.base 3 (by kernel_rfl)).trans rfl
              have e4 : a.eval (.tmp 4) = .pointer (some ⟨w.heap.size + 1, 0, none⟩) := (hI.base 4 (by kernel_rfl)).trans rfl
              have e7 : a.eval (.tmp 7) = .pointer (some ⟨w.heap.size + 1 + 1, 0, none⟩) := (hI.base 7 (by kernel_rfl)).trans rfl
              have hc : l8C w f s0 (nxt f s0 0) h0 (nxt f h0 0) listed w1 := hI.world
              rcases (by omega : i = 0 ∨ i = 1 ∨ i = 2 ∨ i = 3 ∨ i = 4 ∨ i = 5 ∨ i = 6 ∨ i = 7) with rfl | rfl | rfl | rfl | rfl | rfl | rfl | rfl
              all_goals obtain rfl := Option.some.inj ho
              · exact okR_load rfl e3 (loadFx _ _ _ _ _ _ _ _ hc.sec) ⟨slotR rfl rfl, hc.same 0 (by omega) (by omega) (Below.refl _ _)⟩
              · have h6 : listed.getD 6 false = false := by
                  cases h6 : listed.getD 6 false with
                  | false => rfl
                  | true =>
                    exfalso
                    have := hI.closed 6 _ rfl h6 ⟨1, .phase⟩ (by simp) rfl
                    rw [unl hl hsz' (by omega)] at this
                    cases this
                have hs := hc.st
                rw [h6, if_neg (by simp)] at hs
                exact okR_load rfl e4 (loadSt _ _ _ _ _ _ hs) ⟨slotR rfl rfl, hc.same 1 (by omega) (by omega) (Below.refl _ _)⟩
              · have k1 := hI.slot 0 _ 20 rfl rfl (hd ⟨0, .data⟩ (by simp) rfl)
                have k2 := hI.slot 1 _ 21 rfl rfl (hd ⟨1, .data⟩ (by simp) rfl)
                refine okR_call2 enter_next rfl k1 k2 ((unhide N1 w1).mono ?_)
                rintro e w' ⟨rfl, hb'⟩
                exact ⟨_, rfl, slotR rfl rfl, hc.same 2 (by omega) (by omega) hb'⟩
              · exact okR_load rfl e3 (loadFx _ _ _ _ _ _ _ _ hc.sec) ⟨slotR rfl rfl, hc.same 3 (by omega) (by omega) (Below.refl _ _)⟩
              · have h7 : listed.getD 7 false = false := by
                  cases h7 : listed.getD 7 false with
                  | false => rfl
                  | true =>
                    exfalso
                    have := hI.closed 7 _ rfl h7 ⟨4, .phase⟩ (by simp) rfl
                    rw [unl hl hsz' (by omega)] at this
                    cases this
                have hs := hc.res
                rw [h7, if_neg (by simp)] at hs
                exact okR_load rfl e7 (loadSt _ _ _ _ _ _ hs) ⟨slotR rfl rfl, hc.same 4 (by omega) (by omega) (Below.refl _ _)⟩
              · have k1 := hI.slot 3 _ 23 rfl rfl (hd ⟨3, .data⟩ (by simp) rfl)
                have k2 := hI.slot 4 _ 24 rfl rfl (hd ⟨4, .data⟩ (by simp) rfl)
                refine okR_call2 enter_next rfl k1 k2 ((unhide N2 w1).mono ?_)
                rintro e w' ⟨rfl, hb'⟩
                exact ⟨_, rfl, slotR rfl rfl, hc.same 5 (by omega) (by omega) hb'⟩
              · have k1 := hI.slot 2 _ 22 rfl rfl (hd ⟨2, .data⟩ (by simp) rfl)
                refine okR_store rfl e4 k1 (run_storeAt_mid w1 (w.heap.size + 1) 0 25 (aS (nxt f s0 0)) hc.st.there infoSt (by simp [aS, Value.oneCell'])) ⟨slotN rfl, ?_⟩
                unfold l8C
                rw [lset hsz' (by omega), if_pos rfl, getD_set_ne false (by omega)]
                exact QW.allS hc (nxt f s0 0)
              · have k1 := hI.slot 5 _ 25 rfl rfl (hd ⟨5, .data⟩ (by simp) rfl)
                refine okR_store rfl e7 k1 (run_storeAt_mid w1 (w.heap.size + 1 + 1) 0 25 (aS (nxt f h0 0)) hc.res.there infoSt (by simp [aS, Value.oneCell'])) ⟨slotN rfl, ?_⟩
                unfold l8C
                rw [lset hsz' (by omega), getD_set_ne false (by omega), if_pos rfl]
                exact QW.allR hc (nxt f h0 0)
            · intro listed a' w1 hI hall
              have hc : l8C w f s0 (nxt f s0 0) h0 (nxt f h0 0) listed w1 := hI.world
              unfold l8C at hc
              rw [hall 6 (by decide), hall 7 (by decide), if_pos rfl, if_pos rfl] at hc
              have HC := hide hc
              clear hc
              have E := act_lit a' 29 hI.size
              rw [hI.defers] at E
              replace E : a' = ⟨#[a'.eval (.tmp 0), a'.eval (.tmp 1), a'.eval (.tmp 2), a'.eval (.tmp 3), a'.eval (.tmp 4), a'.eval (.tmp 5), a'.eval (.tmp 6), a'.eval (.tmp 7), a'.eval (.tmp 8), a'.eval (.tmp 9), a'.eval (.tmp 10), a'.eval (.tmp 11), a'.eval (.tmp 12), a'.eval (.tmp 13), a'.eval (.tmp 14), a'.eval (.tmp 15), a'.eval (.tmp 16), a'.eval (.tmp 17), a'.eval (.tmp 18), a'.eval (.tmp 19), a'.eval (.tmp 20), a'.eval (.tmp 21), a'.eval (.tmp 22), a'.eval (.tmp 23), a'.eval (.tmp 24), a'.eval (.tmp 25), a'.eval (.tmp 26), a'.eval (.tmp 27), a'.eval (.tmp 28)], _⟩ := E
              rw [hI.base 0 (by kernel_rfl), hI.base 1 (by kernel_rfl), hI.base 2 (by kernel_rfl), hI.base 3 (by kernel_rfl), hI.base 4 (by kernel_rfl), hI.base 5 (by kernel_rfl), hI.base 6 (by kernel_rfl), hI.base 7 (by kernel_rfl), hI.base 8 (by kernel_rfl), hI.base 9 (by kernel_rfl), hI.base 10 (by kernel_rfl), hI.base 11 (by kernel_rfl), hI.base 12 (by kernel_rfl), hI.base 13 (by kernel_rfl), hI.base 14 (by kernel_rfl), hI.base 15 (by kernel_rfl), hI.base 16 (by kernel_rfl), hI.base 17 (by kernel_rfl), hI.base 18 (by kernel_rfl), hI.base 19 (by kernel_rfl), hI.base 26 (by kernel_rfl), hI.base 27 (by kernel_rfl), hI.base 28 (by kernel_rfl)] at E
              generalize a'.eval (.tmp 20) = y20 at E
              generalize a'.eval (.tmp 21) = y21 at E
              generalize a'.eval (.tmp 22) = y22 at E
              generalize a'.eval (.tmp 23) = y23 at E
              generalize a'.eval (.tmp 24) = y24 at E
              generalize a'.eval (.tmp 25) = y25 at E
              clear hI hall
              subst E
              refine unhide HK _ _ ?_
              clear HK
              have ew : IntKind.i64.wrap ((a : Int) + 1) = (a : Int) + 1 := by rw [IntKind.wrap_i64]; omega
              go_wp2
              go_roundw
              case rel =>
                refine ⟨a + 1, by go_num, by omega, ?_, ?_⟩
                · rw [show a + 1 + c = a + c + 1 by omega, so_succ, so_succ, ← unhide HS, ← unhide HH]
                  exact HC
                · intro i hi
                  by_cases h : i = a
                  · subst h; exact fun e => unhide HE e.symm
                  · exact unhide hno i (by omega)
              case measure => simp [intOf]; omega
end Go.Proofs.Ytmddclgidccnhab
