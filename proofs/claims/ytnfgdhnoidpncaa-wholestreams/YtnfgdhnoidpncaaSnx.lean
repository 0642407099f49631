/- Forks and what a stream tells of itself; a new stream. -/
import Derived.Test.YtnfgdhnoidpncaaSnw
namespace Go.Proofs.Ytnfgdhnoidpncaa
open Go.RowKit

theorem SCells.setS {w : World} {B t c : Nat} {gv sv sl : Value} {g : Gu} (h : SCells w B gv sv g t c sl) (s' : Value) : SCells (w.setCell ⟨B, 7, none⟩ s') B gv sv g t c s' := by
  refine ⟨there_setCell h.1 _ _, fun j v hv => ?_⟩
  have hj : j < 8 := (List.getElem?_eq_some_iff.1 hv).1
  by_cases h7 : j = 7
  · subst h7
    obtain rfl := Option.some.inj hv
    exact cell_eq (h.2 7 _ rfl)
  · rw [cell_ne (by intro e; have := (Addr.mk.inj e).2.1; omega)]
    refine h.2 j v ?_
    rcases (by omega : j = 0 ∨ j = 1 ∨ j = 2 ∨ j = 3 ∨ j = 4 ∨ j = 5 ∨ j = 6) with rfl | rfl | rfl | rfl | rfl | rfl | rfl <;> exact hv
theorem infoz_st2 : (Try.prog.info? 74).map (fun i => (i.zero, i.size, i.bytes)) = some (some (.agg #[c0, c0]), 2, 32) := by kernel_rfl
theorem StRow.cells {w : World} {A n : Nat} {st : Nat → C2 × C2} (h : StRow w A n st) :
    ∃ news : List Value, news.length = n * 2 ∧ (∀ j u, news[j]? = some u → w.cell? ((⟨A, 0, none⟩ : Addr).add j) = some u) ∧ (∀ u ∈ news, u.oneCell' = true) ∧ ∀ i, i < n → ∃ p q, news[i * 2]? = some p ∧ news[i * 2 + 1]? = some q ∧ CIs p (st i).1 ∧ CIs q (st i).2 := by
  obtain ⟨l, h1, h2⟩ := list_of (P := fun j u => w.cell? ((⟨A, 0, none⟩ : Addr).add j) = some u ∧ CIs u (if j % 2 = 0 then (st (j / 2)).1 else (st (j / 2)).2)) (n * 2) (fun j hj => by
    obtain ⟨p, q, hr, hp, hq⟩ := h (j / 2) (by omega)
    by_cases hm : j % 2 = 0
    · have := hr 0 p rfl
      rw [show j / 2 * 2 + 0 = j by omega] at this
      exact ⟨p, by rw [Addr.add_mid, Nat.zero_add]; exact this, by rw [if_pos hm]; exact hp⟩
    · have := hr 1 q rfl
      rw [show j / 2 * 2 + 1 = j by omega] at this
      exact ⟨q, by rw [Addr.add_mid, Nat.zero_add]; exact this, by rw [if_neg hm]; exact hq⟩)
  refine ⟨l, h1, fun j u hu => (h2 j u hu).1, fun u hu => ?_, fun i hi => ?_⟩
  · obtain ⟨j, hj, rfl⟩ := List.mem_iff_getElem.1 hu
    exact (h2 j _ (List.getElem?_eq_getElem hj)).2.one
  · have e1 : l[i * 2]? = some (l[i * 2]'(by omega)) := List.getElem?_eq_getElem (by omega)
    have e2 : l[i * 2 + 1]? = some (l[i * 2 + 1]'(by omega)) := List.getElem?_eq_getElem (by omega)
    have k1 := (h2 _ _ e1).2
    have k2 := (h2 _ _ e2).2
    rw [if_pos (by omega), show i * 2 / 2 = i by omega] at k1
    rw [if_neg (by omega), show (i * 2 + 1) / 2 = i by omega] at k2
    exact ⟨_, _, e1, e2, k1, k2⟩

set_option maxRecDepth 100000 in
set_option maxHeartbeats 2000000 in
theorem tclone_any (A n c : Nat) (st : Nat → C2 × C2) (w : World) (hv : StRow w A n st) (hn : n ≤ 16) :
    Calls Try.prog 33 #[.slice (some ⟨A, 0, none⟩) n c] w fun e w' => ∃ g cp, e = .returned (.slice (some ⟨g, 0, none⟩) n cp) ∧ StRow w' g n st ∧ w'.there g 0 (n * 2) ∧ w.heap.size ≤ g ∧ g < w'.heap.size ∧ Below w.heap.size w w' := by
  obtain ⟨i0, hi, hz0, hz1, hz2⟩ := info_parts infoz_st2
  obtain ⟨news, k1, k2, k3, k4⟩ := hv.cells
  have Hk := hide (And.intro k2 (And.intro k3 k4))
  clear k2 k3 k4 hv
  have hq := tql_nil (some ⟨A, 0, none⟩) n c
  go_enter Try.func33, Try.ntmps33
  go_wp2_with (first
    | (at_builtin; refine wpList_append_own _ rfl _ _ 57 rfl w.heap.size 74 i0 (.agg #[c0, c0]) 2 32 Try.underlying57 hi hz0 hz1 hz2 rfl (by decide) _ 0 [] rfl (World.ownsRow_made w #[] 0 (Nat.le_refl _) (by unfold maxLen; omega) rfl) ⟨A, 0, none⟩ n c news rfl k1 (fun j u hu => by rw [World.cell?_alloc_lt _ _ _ (World.block_lt_of_cell? _ _ ((unhide Hk).1 j u hu))]; exact (unhide Hk).1 j u hu) (unhide Hk).2.1 (by unfold maxLen; omega) (by omega) (by simp) ?_; intro v' w1 hown hgr hnil)
    | go_in)
  go_ret
  rw [Nat.zero_add, List.nil_append] at hown
  have hbel : Below w.heap.size w w1 := ((Below.refl _ w).alloc (Nat.le_refl _) (Obj.cells #[] 74)).grown hgr (by simp) (fun k e => Nat.le_of_eq (Option.some.inj e))
  rcases id hown.2 with ⟨e1, _⟩ | ⟨g, cp, cur, rfl, hb, hg, _⟩
  · exact absurd (hnil.1 e1).1 (by intro h; cases h)
  · have hgw : g < w1.heap.size := (Array.getElem?_eq_some_iff.1 hg).1
    refine ⟨g, cp, rfl, fun i hi => ?_, (own_there hown).1, hb, hgw, hbel⟩
    obtain ⟨p, q, hp, hq, ip, iq⟩ := (unhide Hk).2.2 i hi
    refine ⟨p, q, fun j x hx => ?_, ip, iq⟩
    have hj : j < 2 := (List.getElem?_eq_some_iff.1 hx).1
    rcases (by omega : j = 0 ∨ j = 1) with rfl | rfl
    · obtain rfl := Option.some.inj hx
      have h1 := hown.cells (g := g) rfl (i * 2) _ hp
      rw [Addr.add_mid, Nat.zero_add] at h1
      exact h1
    · obtain rfl := Option.some.inj hx
      have h1 := hown.cells (g := g) rfl (i * 2 + 1) _ hq
      rw [Addr.add_mid, Nat.zero_add] at h1
      exact h1

set_option maxRecDepth 100000 in
theorem sat_any {w : World} {O : Nat → Prop} {B A n cA gr gi : Nat} {sv : Value} {G : C2} {sec : Nat → Sec} {g : Gu} {st : Nat → C2 × C2} {t c : Nat} (h : SA w O B A n cA gr gi sv G sec g st t c) :
    Calls Try.prog 8 #[.pointer (some ⟨B, 0, none⟩)] w fun e w' => e = .returned (.int .u64 t) ∧ w' = w := by
  have c5 : w.cell? ⟨B, 5, none⟩ = some (.int .u64 t) := h.cells.2 5 _ rfl
  clear h
  go_enter Try.func8, Try.ntmps8
  go_wp2
  go_ret
  exact ⟨rfl, rfl⟩

set_option maxRecDepth 100000 in
set_option maxHeartbeats 2000000 in
theorem sfork_any {w : World} {O : Nat → Prop} {B A n cA gr gi : Nat} {sv : Value} {G : C2} {sec : Nat → Sec} {g : Gu} {st : Nat → C2 × C2} {t c : Nat} (h : SA w O B A n cA gr gi sv G sec g st t c) (hn : n ≤ 16) :
    Calls Try.prog 14 #[.pointer (some ⟨B, 0, none⟩)] w fun e w' => ∃ B2 O2, e = .returned (.pointer (some ⟨B2, 0, none⟩)) ∧ SAt w' O2 B2 n G sec g st t c ∧ (∀ k, O2 k → w.heap.size ≤ k ∨ O k ∧ ShB w B k) ∧ w.heap.size ≤ B2 ∧ Below w.heap.size w w' := by
  have H := hide h
  obtain ⟨ad, cs, rfl, _⟩ := id h.secs
  obtain ⟨fl, cp, mu⟩ := g
  have c0' : w.cell? ⟨B, 0, none⟩ = some (.complex .f64 gr gi) := h.cells.2 0 _ rfl
  have c1 : w.cell? ⟨B, 1, none⟩ = some (.slice ad n cs) := h.cells.2 1 _ rfl
  have c2 : w.cell? ⟨B, 2, none⟩ = some (.bool fl) := h.cells.2 2 _ rfl
  have c3 : w.cell? ⟨B, 3, none⟩ = some (.bool cp) := h.cells.2 3 _ rfl
  have c4 : w.cell? ⟨B, 4, none⟩ = some (.bool mu) := h.cells.2 4 _ rfl
  have c5 : w.cell? ⟨B, 5, none⟩ = some (.int .u64 t) := h.cells.2 5 _ rfl
  have c6 : w.cell? ⟨B, 6, none⟩ = some (.int .u64 c) := h.cells.2 6 _ rfl
  have c7 : w.cell? ⟨B, 7, none⟩ = some (.slice (some ⟨A, 0, none⟩) n cA) := h.cells.2 7 _ rfl
  have e7 : ∀ o, (w.alloc o).cell? ⟨B, 7, none⟩ = some (.slice (some ⟨A, 0, none⟩) n cA) := fun o => by rw [World.cell?_alloc_lt _ _ _ (h.lt B h.oB)]; exact c7
  clear h
  go_enter Try.func14, Try.ntmps14
  have hsc := run_store_c
  go_wp2_with fail
  obtain ⟨w1, hw1⟩ : ∃ w1, w.alloc (Obj.cells #[.complex .f64 gr gi, .slice ad n cs, .bool fl, .bool cp, .bool mu, .int .u64 t, .int .u64 c, .slice (some ⟨A, 0, none⟩) n cA] 59) = w1 := ⟨_, rfl⟩
  rw [hw1]
  have hb1 : Below w.heap.size w w1 := by rw [← hw1]; exact (Below.refl _ _).alloc (Nat.le_refl _) _
  have hs1 : w.heap.size < w1.heap.size := by rw [← hw1]; simp
  have hcell : ∀ j x, [Value.complex .f64 gr gi, .slice ad n cs, .bool fl, .bool cp, .bool mu, .int .u64 t, .int .u64 c, .slice (some ⟨A, 0, none⟩) n cA][j]? = some x → w1.cell? ⟨w.heap.size, 0 + j, none⟩ = some x := fun j x hx => by
    rw [← hw1, Nat.zero_add, cell_of_row _ w.heap.size _ _ _ _ (heap_alloc_new _ _), List.getElem?_toArray]; exact hx
  have hth : w1.there w.heap.size 0 8 := fun j hj => by
    refine ⟨?_, ?_⟩
    · rcases (by omega : j = 0 ∨ j = 1 ∨ j = 2 ∨ j = 3 ∨ j = 4 ∨ j = 5 ∨ j = 6 ∨ j = 7) with rfl | rfl | rfl | rfl | rfl | rfl | rfl | rfl <;> rw [hcell _ _ rfl] <;> rfl
    · rw [← hw1, Nat.zero_add, frozen_of_row _ _ _ _ _ (heap_alloc_new _ _)]
  have hS1 : SCells w1 w.heap.size (.complex .f64 gr gi) (.slice ad n cs) ⟨fl, cp, mu⟩ t c (.slice (some ⟨A, 0, none⟩) n cA) := ⟨hth, hcell⟩
  have h1 := (unhide H).keep (w' := w1) (fun k hk => hb1.block k ((unhide H).lt k hk)) hb1.size
  clear hw1 hcell hth e7 c0' c1 c2 c3 c4 c5 c6 c7
  refine (tclone_any A n cA st w1 h1.row hn).mono ?_
  rintro e w2 ⟨g2, cp2, rfl, hr2, ht2, hg1, hg2, hb2⟩
  have hs2 := hb2.size
  have hS2 := hS1.below hb2 hs1
  have d7 : (w2.cell? ⟨w.heap.size, 7, none⟩) = some (.slice (some ⟨A, 0, none⟩) n cA) := hS2.2 7 _ rfl
  have f7 : w2.frozen? ⟨w.heap.size, 7, none⟩ = false := (hS2.1 7 (by omega)).2
  have H2 := hide (And.intro hr2 (And.intro ht2 (And.intro hb2 (And.intro hb1 (And.intro hS2 h1)))))
  clear hr2 ht2 hb2 hb1 hS2 h1 hS1
  go_wp2
  go_ret
  obtain ⟨hr2, ht2, hb2, hb1, hS2, h1⟩ := unhide H2
  have h0 := unhide H
  have hgs : w2.grownBy (w2.setCell ⟨w.heap.size, 7, none⟩ (.slice (some ⟨g2, 0, none⟩) n cp2)) (some w.heap.size) := grown_setCells (o := 7) (cs := [.slice (some ⟨g2, 0, none⟩) n cp2]) (grown_refl _ _)
  have hbw : Below w.heap.size w w2 := hb1.trans (hb2.mono (by omega))
  have hne : some g2 ≠ some w.heap.size := by intro e; have := Option.some.inj e; omega
  have hblk : ∀ k, O k → (w2.setCell ⟨w.heap.size, 7, none⟩ (.slice (some ⟨g2, 0, none⟩) n cp2)).heap[k]? = w.heap[k]? := fun k hk => (Below.heap_setCell _ _ _ _ (by have := h0.lt k hk; show k ≠ w.heap.size; omega)).trans (hbw.block k (h0.lt k hk))
  refine ⟨w.heap.size, fun k => k = w.heap.size ∨ k = g2 ∨ O k ∧ ShB w B k, rfl, ⟨g2, cp2, gr, gi, .slice ad n cs, ⟨hS2.setS _, h0.gain, h0.fin, h0.secs.same h0.oS hblk (by simp; omega), hr2.grown hgs hne, there_grown ht2 hgs hg2 hne, by omega, ?_, ?_, .inl rfl, .inr (.inl rfl), ?_, ?_, h0.tle, h0.cle⟩⟩, ?_, Nat.le_refl _, ?_⟩
  · exact fun hn b off m cc e => by have := h0.lt b (h0.oS hn b off m cc e); omega
  · exact fun hn b off m cc e => by have := h0.lt b (h0.oS hn b off m cc e); omega
  · exact fun hn b off m cc e => .inr (.inr ⟨h0.oS hn b off m cc e, off, m, cc, by rw [← e]; exact h0.cells.2 1 _ rfl, by injection e with _ e _; omega⟩)
  · rintro k (rfl | rfl | ⟨hk, _⟩)
    · simp; omega
    · simpa using hg2
    · have := h0.lt k hk; simp; omega
  · rintro k (rfl | rfl | hk)
    · exact .inl (Nat.le_refl _)
    · exact .inl (by omega)
    · exact .inr hk
  · exact hbw.trans ((Below.refl _ _).setCell (p := ⟨w.heap.size, 7, none⟩) (Nat.le_refl _) _)
end Go.Proofs.Ytnfgdhnoidpncaa
