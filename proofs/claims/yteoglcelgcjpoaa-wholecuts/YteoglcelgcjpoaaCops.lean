/- What a filter at work keeps, told and set anew: States, Set, Rest. -/
import Derived.Test.YteoglcelgcjpoaaCnew
namespace Go.Proofs.Yteoglcelgcjpoaa
open Go.RowKit

/-- Block A holds these n states. -/
def StRow (w : World) (A n : Nat) (st : Nat → C2 × C2) : Prop := ∀ i, i < n → ∃ p q, w.rangeAt A (i * 2) [p, q] ∧ CIs p (st i).1 ∧ CIs q (st i).2
theorem StRow.grown {w w' : World} {A n : Nat} {st : Nat → C2 × C2} {row : Option Nat} (h : StRow w A n st) (hg : w.grownBy w' row) (hne : some A ≠ row) : StRow w' A n st := fun i hi => by
  obtain ⟨p, q, hr, hp, hq⟩ := h i hi
  exact ⟨p, q, fun j v hv => hg.cell (hr j v hv) hne, hp, hq⟩

theorem st_put {wr : World} {A n k : Nat} {st : Nat → C2 × C2} (hk : k < n) (ht : wr.there A 0 (n * 2)) (hst : StRow wr A k st) (hA : A < wr.heap.size) {u v : Value} (hu : CIs u (st k).1) (hv : CIs v (st k).2) (o : Obj) :
    (((wr.setCell ⟨A, k * 2, none⟩ u).setCell ⟨A, k * 2 + 1, none⟩ v).alloc o).there A 0 (n * 2) ∧ StRow (((wr.setCell ⟨A, k * 2, none⟩ u).setCell ⟨A, k * 2 + 1, none⟩ v).alloc o) A (k + 1) st ∧ wr.grownBy (((wr.setCell ⟨A, k * 2, none⟩ u).setCell ⟨A, k * 2 + 1, none⟩ v).alloc o) (some A) := by
  have hg0 : wr.grownBy (wr.setCells A (k * 2) [u, v]) (some A) := grown_setCells (grown_refl _ _)
  have e : wr.setCells A (k * 2) [u, v] = (wr.setCell ⟨A, k * 2, none⟩ u).setCell ⟨A, k * 2 + 1, none⟩ v := rfl
  rw [← e]
  have hAs : A < (wr.setCells A (k * 2) [u, v]).heap.size := Nat.lt_of_lt_of_le hA hg0.size
  have hga := World.grownBy_alloc (wr.setCells A (k * 2) [u, v]) o none
  refine ⟨there_grown (there_set ht) hga hAs (by simp), ?_, grown_trans hg0 (World.grownBy_alloc _ _ _)⟩
  refine StRow.grown ?_ hga (by simp)
  intro i hi
  by_cases hik : i = k
  · subst hik
    exact ⟨u, v, World.rangeAt_setCells_same wr A (i * 2) [u, v] (there_part ht (by simp; omega)), hu, hv⟩
  · obtain ⟨p, q, hr, hp, hq⟩ := hst i (by omega)
    exact ⟨p, q, World.rangeAt_setCells_apart hr A _ _ (.inr (by simp only [List.length_cons, List.length_nil]; omega)), hp, hq⟩

theorem infoz_st : (Try.prog.info? 57).map (fun i => (i.zero, i.size, i.bytes)) = some (some (.agg #[c0, c0]), 2, 32) := by kernel_rfl

set_option maxRecDepth 100000 in
set_option maxHeartbeats 2000000 in
theorem cstates_any (B L n cap g g' : Nat) (sec : Nat → Sec) (st : Nat → C2 × C2) (w : World) (hB : w.rangeAt B 0 [.complex .f64 g g', .slice (some ⟨L, 0, none⟩) n cap])
    (hL : Links w L n sec st) (hn : n ≤ 16) (hLw : L < w.heap.size) :
    Calls Try.prog 14 #[.pointer (some ⟨B, 0, none⟩)] w fun e w' => ∃ A, e = .returned (.slice (some ⟨A, 0, none⟩) n n) ∧ w.heap.size ≤ A ∧ A < w'.heap.size ∧ StRow w' A n st ∧ Below w.heap.size w w' := by
  obtain ⟨i0, hi, hz0, hz1, hz2⟩ := info_parts infoz_st
  have hb1 : w.cell? ⟨B, 1, none⟩ = some (.slice (some ⟨L, 0, none⟩) n cap) := hB 1 _ rfl
  have HL := hide hL
  have Hb1 := hide hb1
  clear hL hB
  go_enter Try.func14, Try.ntmps14
  go_wp2_with (first
    | (refine wpList_make_full _ rfl _ _ 50 rfl w.heap.size 57 i0 (.agg #[c0, c0]) 2 Try.underlying50 hi hz0 hz1 .i64 .i64 _ _ n rfl rfl rfl rfl (by rw [hz2]; omega) (by unfold maxLen; omega) (Nat.le_refl _) ?_; intro w1 hown hgr; have hb2 : w1.cell? ⟨B, 1, none⟩ = some (.slice (some ⟨L, 0, none⟩) n cap) := hgr.cell (unhide Hb1) (by simp)))
  obtain ⟨hth, hAw⟩ := own_there hown
  clear hown hi hz0 hz1 hz2
  go_loopw [19] (fun i wr => ∃ k : Nat, k ≤ n ∧ i = .int .i64 k ∧ Below w.heap.size w wr ∧ w.heap.size < wr.heap.size ∧ wr.there w.heap.size 0 (n * 2) ∧ StRow wr w.heap.size k st) (fun i _ => n - (intOf i).toNat)
  case atStart => exact ⟨0, Nat.zero_le _, rfl, below_of_grown hgr, hAw, hth, fun i hi => by omega⟩
  case round =>
    obtain ⟨k, hk, rfl, hbl, hsk, htk, hstk⟩ := hrel
    by_cases hkn : k < n
    · have hkn' : (k : Int) < (n : Int) := by omega
      obtain ⟨v0, v1, v2, v3, v4, p, q, hra, j0, j1, j2, j3, j4, jp, jq⟩ := ((unhide HL).below hbl hLw).2 k hkn
      obtain ⟨b0, b0', rfl, _⟩ := id j0
      obtain ⟨b1, b1', rfl, _⟩ := id j1
      obtain ⟨b2, b2', rfl, _⟩ := id j2
      obtain ⟨a1, a1', rfl, _⟩ := id j3
      obtain ⟨a2, a2', rfl, _⟩ := id j4
      obtain ⟨s, s', rfl, _⟩ := id jp
      obtain ⟨t, t', rfl, _⟩ := id jq
      have l0 : wr.cell? ⟨L, k * 7, none⟩ = some (.complex .f64 b0 b0') := hra 0 _ rfl
      have l1 : wr.cell? ⟨L, k * 7 + 1, none⟩ = some (.complex .f64 b1 b1') := hra 1 _ rfl
      have l2 : wr.cell? ⟨L, k * 7 + 2, none⟩ = some (.complex .f64 b2 b2') := hra 2 _ rfl
      have l3 : wr.cell? ⟨L, k * 7 + 3, none⟩ = some (.complex .f64 a1 a1') := hra 3 _ rfl
      have l4 : wr.cell? ⟨L, k * 7 + 4, none⟩ = some (.complex .f64 a2 a2') := hra 4 _ rfl
      have l5 : wr.cell? ⟨L, k * 7 + 5, none⟩ = some (.complex .f64 s s') := hra 5 _ rfl
      have l6 : wr.cell? ⟨L, k * 7 + 6, none⟩ = some (.complex .f64 t t') := hra 6 _ rfl
      have ta := htk (k * 2) (by omega)
      have tb := htk (k * 2 + 1) (by omega)
      rw [Nat.zero_add] at ta tb
      obtain ⟨ua, hua⟩ := Option.isSome_iff_exists.1 ta.1
      obtain ⟨ub, hub⟩ := Option.isSome_iff_exists.1 tb.1
      have fa := ta.2
      have fb := tb.2
      have Hj := hide (And.intro jp jq)
      have Hbl := hide (And.intro hbl (And.intro htk hstk))
      have hsz : w.heap.size ≠ wr.heap.size := by omega
      clear hra j0 j1 j2 j3 j4 jp jq hbl htk hstk ta tb
      have hsc := run_store_c
      go_wp2
      go_roundw
      case rel =>
        obtain ⟨hbl, htk, hstk⟩ := unhide Hbl
        obtain ⟨jp, jq⟩ := unhide Hj
        obtain ⟨r1, r2, r3⟩ := st_put hkn htk hstk hsk jp jq (Obj.cells #[.complex .f64 b0 b0', .complex .f64 b1 b1', .complex .f64 b2 b2', .complex .f64 a1 a1', .complex .f64 a2 a2', .complex .f64 s s', .complex .f64 t t'] 66)
        exact ⟨k + 1, by omega, by go_num, hbl.grown r3 hbl.size (fun j e => by cases e; exact Nat.le_refl _), Nat.lt_of_lt_of_le hsk r3.size, r1, r2⟩
      case measure => simp [intOf]; omega
    · have : k = n := by omega
      subst this
      go_wp2
      go_ret
      exact ⟨w.heap.size, rfl, Nat.le_refl _, hsk, hstk, hbl⟩

set_option maxRecDepth 100000 in
set_option maxHeartbeats 2000000 in
theorem crest_any (B L n cap g g' : Nat) (sec : Nat → Sec) (st : Nat → C2 × C2) (w : World) (hB : w.rangeAt B 0 [.complex .f64 g g', .slice (some ⟨L, 0, none⟩) n cap])
    (hL : Links w L n sec st) (hne : B ≠ L) (hn : n ≤ 16) :
    Calls Try.prog 18 #[.pointer (some ⟨B, 0, none⟩)] w fun e w' => e = .returned (.tuple #[]) ∧ Links w' L n sec rest0 ∧ w.grownBy w' (some L) := by
  have hb1 : w.cell? ⟨B, 1, none⟩ = some (.slice (some ⟨L, 0, none⟩) n cap) := hB 1 _ rfl
  have Hb1 := hide hb1
  have HL := hide hL
  clear hL hB
  go_enter Try.func18, Try.ntmps18
  go_wp2_with fail
  go_loopw [10] (fun i wr => ∃ k : Nat, k ≤ n ∧ i = .int .i64 k ∧ Links wr L n sec (fun i => if i < k then (z0, z0) else st i) ∧ w.grownBy wr (some L)) (fun i _ => n - (intOf i).toNat)
  case atStart => exact ⟨0, Nat.zero_le _, rfl, by simpa using unhide HL, grown_refl _ _⟩
  case round =>
    obtain ⟨k, hk, rfl, hLk, hgk⟩ := hrel
    by_cases hkn : k < n
    · have hkn' : (k : Int) < (n : Int) := by omega
      have hbr : wr.cell? ⟨B, 1, none⟩ = some (.slice (some ⟨L, 0, none⟩) n cap) := hgk.cell (unhide Hb1) (by intro e; exact hne (Option.some.inj e))
      have ta := hLk.1 (k * 7 + 5) (by omega)
      have tb := hLk.1 (k * 7 + 6) (by omega)
      rw [Nat.zero_add] at ta tb
      obtain ⟨ua, hua⟩ := Option.isSome_iff_exists.1 ta.1
      obtain ⟨ub, hub⟩ := Option.isSome_iff_exists.1 tb.1
      have fa := ta.2
      have fb := tb.2
      have HS := hide (hLk.set hkn c0_is c0_is)
      have HG := hide (grown_setCells (o := k * 7 + 5) (cs := [c0, c0]) hgk)
      clear ta tb hLk hgk
      have hsc := run_store_c
      go_wp2
      go_roundw
      case rel =>
        refine ⟨k + 1, by omega, by go_num, ?_, unhide HG⟩
        have h := unhide HS
        have e : (fun i => if i < k + 1 then (z0, z0) else st i) = (fun i => if i = k then (z0, z0) else if i < k then (z0, z0) else st i) := by
          funext i
          by_cases h1 : i = k
          · rw [if_pos (by omega), if_pos h1]
          · by_cases h2 : i < k
            · rw [if_pos (by omega), if_neg h1, if_pos h2]
            · rw [if_neg (by omega), if_neg h1, if_neg h2]
        rw [e]
        exact h
      case measure => simp [intOf]; omega
    · have : k = n := by omega
      subst this
      go_wp2
      go_end0
      refine ⟨rfl, ?_, hgk⟩
      refine ⟨hLk.1, fun i hi => ?_⟩
      have h := hLk.2 i hi
      simp only [hi, if_true] at h
      exact h

def sV (B L n cap k : Nat) (se : Value) : Nat → Value → Prop
  | 26, v => v = .pointer (some ⟨B, 0, none⟩)
  | 27, v => v = .pointer (some ⟨B, 0, none⟩)
  | 28, v => v = .pointer (some ⟨B, 1, none⟩)
  | 29, v => v = .slice (some ⟨L, 0, none⟩) n cap
  | 30, v => v = .int .i64 k
  | 31, v => v = se
  | 32, v => v = .pointer (some ⟨L, k * 7, none⟩)
  | 33, v => v = .pointer (some ⟨L, k * 7 + 5, none⟩)
  | _, _ => True
def sC (W : World) (L n k : Nat) (sec : Nat → Sec) (st st' : Nat → C2 × C2) (listed : Array Bool) (w : World) : Prop :=
  W.grownBy w (some L) ∧ Links w L n sec (fun i => if i < (if listed.getD 8 false then k + 1 else k) then st' i else st i)
theorem sC.same {W w : World} {L n k : Nat} {sec : Nat → Sec} {st st' : Nat → C2 × C2} {listed : Array Bool} (h : sC W L n k sec st st' listed w) (i : Nat) (hi : i ≠ 8) : sC W L n k sec st st' (listed.setIfInBounds i true) w := by
  unfold sC
  rw [getD_set_ne false hi]
  exact h
theorem upd_succ {st st' : Nat → C2 × C2} (k : Nat) : (fun i => if i < k + 1 then st' i else st i) = (fun i => if i = k then ((st' k).1, (st' k).2) else if i < k then st' i else st i) := by
  funext i
  by_cases h1 : i = k
  · subst h1; rw [if_pos (by omega), if_pos rfl]
  · by_cases h2 : i < k
    · rw [if_pos (by omega), if_neg h1, if_pos h2]
    · rw [if_neg (by omega), if_neg h1, if_neg h2]

set_option maxRecDepth 100000 in
set_option maxHeartbeats 2000000 in
theorem cset_any (B L n cap g g' A c : Nat) (sec : Nat → Sec) (st st' : Nat → C2 × C2) (w : World) (hB : w.rangeAt B 0 [.complex .f64 g g', .slice (some ⟨L, 0, none⟩) n cap])
    (hL : Links w L n sec st) (hA : StRow w A n st') (hAL : A ≠ L) (hne : B ≠ L) (hn : n ≤ 16) (hLw : L < w.heap.size) :
    Calls Try.prog 15 #[.pointer (some ⟨B, 0, none⟩), .slice (some ⟨A, 0, none⟩) n c] w fun e w' => e = .returned (.int .i64 0) ∧ Links w' L n sec st' ∧ w.grownBy w' (some L) := by
  have hb1 : w.cell? ⟨B, 1, none⟩ = some (.slice (some ⟨L, 0, none⟩) n cap) := hB 1 _ rfl
  have Hb1 := hide hb1
  have HL := hide hL
  have HA := hide hA
  clear hL hB hA
  go_enter Try.func15, Try.ntmps15
  go_wp2_with fail
  go_loopw [21] (fun i wr => ∃ k : Nat, k ≤ n ∧ i = .int .i64 k ∧ Links wr L n sec (fun i => if i < k then st' i else st i) ∧ w.grownBy wr (some L)) (fun i _ => n - (intOf i).toNat)
  case atStart => exact ⟨0, Nat.zero_le _, rfl, by simpa using unhide HL, grown_refl _ _⟩
  case round =>
    obtain ⟨k, hk, rfl, hLk, hgk⟩ := hrel
    by_cases hkn : k < n
    · have hkn' : (k : Int) < (n : Int) := by omega
      obtain ⟨p, q, hra, jp, jq⟩ := unhide HA k hkn
      obtain ⟨s, s', rfl, _⟩ := id jp
      obtain ⟨t, t', rfl, _⟩ := id jq
      have hAr : some A ≠ some L := by intro e; exact hAL (Option.some.inj e)
      have l0 : wr.cell? ⟨A, k * 2, none⟩ = some (.complex .f64 s s') := hgk.cell (hra 0 _ rfl) hAr
      have l1 : wr.cell? ⟨A, k * 2 + 1, none⟩ = some (.complex .f64 t t') := hgk.cell (hra 1 _ rfl) hAr
      have Hj := hide (And.intro jp jq)
      have HP := hide (And.intro hLk hgk)
      clear hra jp jq hLk hgk
      have hsc := run_store_c
      go_wp2_with fail
      rename_i K hK
      have HK := hide hK
      clear hK l0 l1 hsc
      obtain ⟨hLk, hgk⟩ := unhide HP
      obtain ⟨X, hX⟩ : ∃ X, X = wr.alloc (Obj.cells #[.complex .f64 s s', .complex .f64 t t'] 57) := ⟨_, rfl⟩
      rw [← hX]
      have hNr : L < wr.heap.size := by have := hgk.size; omega
      have hgX : wr.grownBy X (some L) := by rw [hX]; exact World.grownBy_alloc _ _ _
      have hLX : Links X L n sec (fun i => if i < k then st' i else st i) := by rw [hX]; exact hLk.grown (World.grownBy_alloc _ _ none) hNr (by simp)
      have m0 : X.rangeAt wr.heap.size 0 [.complex .f64 s s', .complex .f64 t t'] := by
        intro j v hv
        have hj : j < 2 := (List.getElem?_eq_some_iff.1 hv).1
        rw [hX]
        rcases (by omega : j = 0 ∨ j = 1) with rfl | rfl <;> (obtain rfl := Option.some.inj hv; go_simp)
      have hBX : X.cell? ⟨B, 1, none⟩ = some (.slice (some ⟨L, 0, none⟩) n cap) := (grown_trans hgk hgX).cell (unhide Hb1) (by intro e; exact hne (Option.some.inj e))
      clear hX
      refine region_slots (sV B L n cap k (.agg #[.complex .f64 s s', .complex .f64 t t'])) (sC X L n k sec st st') (by kernel_rfl) (by kernel_rfl) (by kernel_rfl) 35 (by kernel_rfl) rfl ?_ ?_ ?_
      · exact ⟨grown_drew _ _, by rw [if_neg (by simp)]; exact hLX.grown (grown_drew X none) (by have := hgX.size; omega) (by simp)⟩
      · intro listed a' w3 i o hI ho hsz hl hd
        have hi : i < 9 := by simpa using (Array.getElem?_eq_some_iff.1 ho).1
        have hc : sC X L n k sec st st' listed w3 := hI.world
        have hsz' : listed.size = 9 := hsz
        rcases (by omega : i = 0 ∨ i = 1 ∨ i = 2 ∨ i = 3 ∨ i = 4 ∨ i = 5 ∨ i = 6 ∨ i = 7 ∨ i = 8) with rfl | rfl | rfl | rfl | rfl | rfl | rfl | rfl | rfl
        all_goals obtain rfl := Option.some.inj ho
        · exact ok_move rfl rfl (hI.base 0 (by kernel_rfl)) rfl (hc.same 0 (by omega))
        · exact ok_nil rfl rfl (hI.slot 0 _ 26 rfl rfl (hd ⟨0, .data⟩ (by simp) rfl)) rfl (hc.same 1 (by omega))
        · exact ok_field rfl rfl (hI.slot 1 _ 27 rfl rfl (hd ⟨1, .data⟩ (by simp) rfl)) (field_casc1 _ _) rfl (hc.same 2 (by omega))
        · exact ok_load rfl rfl (hI.slot 2 _ 28 rfl rfl (hd ⟨2, .data⟩ (by simp) rfl)) (load_links _ _ _ _ _ (hc.1.cell hBX (by intro e; exact hne (Option.some.inj e)))) rfl (hc.same 3 (by omega))
        · exact ok_move rfl rfl (hI.base 5 (by kernel_rfl)) rfl (hc.same 4 (by omega))
        · exact ok_load rfl rfl (hI.base 6 (by kernel_rfl)) (run_loadAt_mid w3 wr.heap.size 0 57 _ _ (fun j v hv => hc.1.cell (m0 j v hv) (by intro e; have := Option.some.inj e; simp only at this; omega)) Try.underlying57 rfl info_st) rfl (hc.same 5 (by omega))
        · exact ok_index rfl rfl (hI.slot 3 _ 29 rfl rfl (hd ⟨3, .data⟩ (by simp) rfl)) (hI.slot 4 _ 30 rfl rfl (hd ⟨4, .data⟩ (by simp) rfl)) (index_links _ _ _ _ _ hkn (by omega)) rfl (hc.same 6 (by omega))
        · exact ok_field rfl rfl (hI.slot 6 _ 32 rfl rfl (hd ⟨6, .data⟩ (by simp) rfl)) (field_link1 _ _ _) rfl (hc.same 7 (by omega))
        · have k1 := hI.slot 5 _ 31 rfl rfl (hd ⟨5, .data⟩ (by simp) rfl)
          have hun := unlisted hl hsz' (by omega)
          have hPn := hc.2
          rw [hun] at hPn
          obtain ⟨i0, i1⟩ := unhide Hj
          have hset := hPn.set hkn i0 i1
          refine ok_store rfl rfl (hI.slot 7 _ 33 rfl rfl (hd ⟨7, .data⟩ (by simp) rfl)) k1 info_st (by simp [i0.one, i1.one]) (there_part hPn.1 (by simp; omega)) ⟨grown_setCells hc.1, ?_⟩
          rw [listed_set hsz' (by omega), if_pos rfl, upd_succ]
          exact hset
      · intro listed a' w3 hI hall
        have E := act_lit a' 35 hI.size
        rw [hI.defers] at E
        replace E : a' = ⟨#[a'.eval (.tmp 0), a'.eval (.tmp 1), a'.eval (.tmp 2), a'.eval (.tmp 3), a'.eval (.tmp 4), a'.eval (.tmp 5), a'.eval (.tmp 6), a'.eval (.tmp 7), a'.eval (.tmp 8), a'.eval (.tmp 9), a'.eval (.tmp 10), a'.eval (.tmp 11), a'.eval (.tmp 12), a'.eval (.tmp 13), a'.eval (.tmp 14), a'.eval (.tmp 15), a'.eval (.tmp 16), a'.eval (.tmp 17), a'.eval (.tmp 18), a'.eval (.tmp 19), a'.eval (.tmp 20), a'.eval (.tmp 21), a'.eval (.tmp 22), a'.eval (.tmp 23), a'.eval (.tmp 24), a'.eval (.tmp 25), a'.eval (.tmp 26), a'.eval (.tmp 27), a'.eval (.tmp 28), a'.eval (.tmp 29), a'.eval (.tmp 30), a'.eval (.tmp 31), a'.eval (.tmp 32), a'.eval (.tmp 33), a'.eval (.tmp 34)], _⟩ := E
        rw [hI.base 0 (by kernel_rfl), hI.base 1 (by kernel_rfl), hI.base 2 (by kernel_rfl), hI.base 3 (by kernel_rfl), hI.base 4 (by kernel_rfl), hI.base 5 (by kernel_rfl), hI.base 6 (by kernel_rfl), hI.base 7 (by kernel_rfl), hI.base 8 (by kernel_rfl), hI.base 9 (by kernel_rfl), hI.base 10 (by kernel_rfl), hI.base 11 (by kernel_rfl), hI.base 12 (by kernel_rfl), hI.base 13 (by kernel_rfl), hI.base 14 (by kernel_rfl), hI.base 15 (by kernel_rfl), hI.base 16 (by kernel_rfl), hI.base 17 (by kernel_rfl), hI.base 18 (by kernel_rfl), hI.base 19 (by kernel_rfl), hI.base 20 (by kernel_rfl), hI.base 21 (by kernel_rfl), hI.base 22 (by kernel_rfl), hI.base 23 (by kernel_rfl), hI.base 24 (by kernel_rfl), hI.base 25 (by kernel_rfl), hI.base 34 (by kernel_rfl)] at E
        have hw := hI.world
        clear hI
        generalize a'.eval (.tmp 26) = y26 at E
        generalize a'.eval (.tmp 27) = y27 at E
        generalize a'.eval (.tmp 28) = y28 at E
        generalize a'.eval (.tmp 29) = y29 at E
        generalize a'.eval (.tmp 30) = y30 at E
        generalize a'.eval (.tmp 31) = y31 at E
        generalize a'.eval (.tmp 32) = y32 at E
        generalize a'.eval (.tmp 33) = y33 at E
        simp [Act.eval] at E
        subst E
        obtain ⟨hg3, hP3⟩ := hw
        rw [hall 8 (by decide), if_pos rfl] at hP3
        refine unhide HK _ _ ?_
        clear HK hall
        go_wp2
        go_roundw
        case rel => exact ⟨k + 1, by omega, by go_num, hP3, grown_trans (grown_trans hgk hgX) hg3⟩
        case measure => simp [intOf]; omega
    · have : k = n := by omega
      subst this
      go_wp2
      go_ret
      refine ⟨rfl, ?_, hgk⟩
      refine ⟨hLk.1, fun i hi => ?_⟩
      have h := hLk.2 i hi
      simp only [hi, if_true] at h
      exact h
end Go.Proofs.Yteoglcelgcjpoaa
