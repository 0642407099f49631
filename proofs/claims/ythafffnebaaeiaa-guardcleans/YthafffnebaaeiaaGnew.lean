/- A new guarded filter: what package guard's New lays in memory where all is finite. -/
import Derived.Test.YthafffnebaaeiaaGrun
namespace Go.Proofs.Ythafffnebaaeiaa
open Go.RowKit

theorem infoz_sec5 : (Try.prog.info? 66).map (fun i => (i.zero, i.size, i.bytes)) = some (some (.agg #[c0, c0, c0, c0, c0]), 5, 80) := by kernel_rfl
theorem sql_in (d : Nat) (a : Option Addr) (n c : Nat) (w : World) : (Op.equalIn (d + 1) 35 (.slice a n c) (.slice none 0 0)).run Try.prog w = .ok a.isNone w := by
  cases a <;> simp [Op.equalIn, run_underlying Try.underlying35]
theorem sql_nil (a : Option Addr) (n c : Nat) (w : World) : (binOp .eql 35 (.slice a n c) (.slice none 0 0)).run Try.prog w = .ok (.bool a.isNone) w := by
  have h : (Op.equal 35 (.slice a n c) (.slice none 0 0)).run Try.prog w = .ok a.isNone w := sql_in 9999 a n c w
  simp [binOp, h]
theorem SecsIs.cells {w : World} {v : Value} {n c : Nat} {ad : Option Addr} {sec : Nat → Sec} (h : SecsIs w v n sec) (hv : v = .slice ad n c) (a : Addr) (ha : ad = some a) :
    ∃ news : List Value, news.length = n * 5 ∧ (∀ j u, news[j]? = some u → w.cell? (a.add j) = some u) ∧ (∀ u ∈ news, u.oneCell' = true) ∧ ∀ i, i < n → ∃ u0 u1 u2 u3 u4, (∀ j x, [u0, u1, u2, u3, u4][j]? = some x → news[i * 5 + j]? = some x) ∧
    FinV u0 ∧ FinV u1 ∧ FinV u2 ∧ FinV u3 ∧ FinV u4 ∧ CIs u0 (sec i).b0 ∧ CIs u1 (sec i).b1 ∧ CIs u2 (sec i).b2 ∧ CIs u3 (sec i).a1 ∧ CIs u4 (sec i).a2 := by
  obtain ⟨ad', c', e, hs⟩ := h
  obtain ⟨rfl, rfl⟩ : ad = ad' ∧ c = c' := by rw [hv] at e; simpa using e
  subst ha
  by_cases hn : n = 0
  · subst hn
    exact ⟨[], rfl, fun j u hu => by simp at hu, (fun u hu => by cases hu), fun i hi => by omega⟩
  · obtain ⟨b, _, _, _, _, _, e0, _⟩ := hs 0 (by omega)
    obtain rfl := Option.some.inj e0
    have hget : ∀ j, j < n * 5 → ∃ u, w.cell? ⟨b, j, none⟩ = some u ∧ u.oneCell' = true := fun j hj => by
      obtain ⟨b2, u0, u1, u2, u3, u4, e2, _, hr, f0, f1, f2, f3, f4, g0, g1, g2, g3, g4⟩ := hs (j / 5) (by omega)
      have : b2 = b := by simp at e2; omega
      subst this
      have hm : j % 5 < 5 := Nat.mod_lt _ (by omega)
      have hx := hr (j % 5)
      rw [show j / 5 * 5 + j % 5 = j by omega] at hx
      rcases (by omega : j % 5 = 0 ∨ j % 5 = 1 ∨ j % 5 = 2 ∨ j % 5 = 3 ∨ j % 5 = 4) with e | e | e | e | e <;> rw [e] at hx
      · exact ⟨_, hx _ rfl, g0.one⟩
      · exact ⟨_, hx _ rfl, g1.one⟩
      · exact ⟨_, hx _ rfl, g2.one⟩
      · exact ⟨_, hx _ rfl, g3.one⟩
      · exact ⟨_, hx _ rfl, g4.one⟩
    refine ⟨cellsOf w b (n * 5), cellsOf_len _ _ _, fun j u hu => ?_, fun u hu => ?_, fun i hi => ?_⟩
    · have hj : j < n * 5 := by have := (List.getElem?_eq_some_iff.1 hu).1; simpa [cellsOf] using this
      obtain ⟨v, hv, _⟩ := hget j hj
      rw [cellsOf_at hj hv] at hu
      rw [Addr.add_mid, Nat.zero_add, hv]; exact hu
    · obtain ⟨j, hj, rfl⟩ := List.mem_iff_getElem.1 hu
      have hj' : j < n * 5 := by simpa [cellsOf] using hj
      obtain ⟨v, hv, h1⟩ := hget j hj'
      have := cellsOf_at hj' hv
      rw [List.getElem?_eq_getElem hj] at this
      rw [Option.some.inj this]; exact h1
    · obtain ⟨b2, u0, u1, u2, u3, u4, e2, _, hr, hh⟩ := hs i hi
      have : b2 = b := by simp at e2; omega
      subst this
      refine ⟨u0, u1, u2, u3, u4, fun j x hx => ?_, hh⟩
      have hj : j < 5 := (List.getElem?_eq_some_iff.1 hx).1
      exact cellsOf_at (by omega) (hr j x hx)

set_option maxRecDepth 100000 in
set_option maxHeartbeats 2000000 in
theorem sclone_any (v : Value) (n : Nat) (sec : Nat → Sec) (w : World) (hv : SecsIs w v n sec) (hn : n ≤ 16) :
    Calls Try.prog 33 #[v] w fun e w' => ∃ ad c, e = .returned (.slice ad n c) ∧ SecsIs w' (.slice ad n c) n sec ∧ InR (.slice ad n c) n w.heap.size w'.heap.size ∧ Below w.heap.size w w' := by
  obtain ⟨i0, hi, hz0, hz1, hz2⟩ := info_parts infoz_sec5
  obtain ⟨ad, c, rfl, _⟩ := id hv
  cases ad with
  | none =>
    have hn0 : n = 0 := by
      cases n with
      | zero => rfl
      | succ n =>
        obtain ⟨ad, c, e, hs⟩ := hv
        obtain ⟨b, _, _, _, _, _, e2, _⟩ := hs 0 (by omega)
        subst e2
        simp at e
    subst hn0
    clear hv
    have hq := sql_nil none 0 c
    go_enter Try.func33, Try.ntmps33
    go_wp2
    go_ret
    exact ⟨none, 0, rfl, ⟨none, 0, rfl, fun i hi => by omega⟩, fun h => by omega, Below.refl _ _⟩
  | some a =>
    obtain ⟨news, k1, k2, k3, k4⟩ := hv.cells rfl a rfl
    have Hk := hide (And.intro k2 (And.intro k3 k4))
    clear k2 k3 k4 hv
    have hq := sql_nil (some a) n c
    go_enter Try.func33, Try.ntmps33
    go_wp2_with (first
      | (at_builtin; refine wpList_append_own _ rfl _ _ 35 rfl w.heap.size 66 i0 (.agg #[c0, c0, c0, c0, c0]) 5 80 Try.underlying35 hi hz0 hz1 hz2 rfl (by decide) _ 0 [] rfl (World.ownsRow_made w #[] 0 (Nat.le_refl _) (by unfold maxLen; omega) rfl) a n c news rfl k1 (fun j u hu => by rw [World.cell?_alloc_lt _ _ _ (World.block_lt_of_cell? _ _ ((unhide Hk).1 j u hu))]; exact (unhide Hk).1 j u hu) (unhide Hk).2.1 (by unfold maxLen; omega) (by omega) (by simp) ?_; intro v' w1 hown hgr hnil)
      | go_in)
    go_ret
    rw [Nat.zero_add, List.nil_append] at hown
    have hbel : Below w.heap.size w w1 := ((Below.refl _ w).alloc (Nat.le_refl _) (Obj.cells #[] 66)).grown hgr (by simp) (fun k e => Nat.le_of_eq (Option.some.inj e))
    rcases id hown.2 with ⟨e1, _⟩ | ⟨g, cp, cur, rfl, hb, hg, _⟩
    · exact absurd (hnil.1 e1).1 (by intro h; cases h)
    · have hgw : g < w1.heap.size := (Array.getElem?_eq_some_iff.1 hg).1
      refine ⟨some ⟨g, 0, none⟩, cp, rfl, ⟨_, cp, rfl, fun i hi => ?_⟩, fun _ b off m c' e => ?_, hbel⟩
      · obtain ⟨u0, u1, u2, u3, u4, hr, hh⟩ := (unhide Hk).2.2 i hi
        refine ⟨g, u0, u1, u2, u3, u4, rfl, hgw, fun j x hx => ?_, hh⟩
        have h1 := hown.cells (g := g) rfl (i * 5 + j) x (hr j x hx)
        rw [Addr.add_mid, Nat.zero_add] at h1
        exact h1
      · have : g = b := by simp at e; omega
        omega

set_option maxRecDepth 100000 in
set_option maxHeartbeats 2000000 in
theorem gnew_any (r r' n : Nat) (v : Value) (g : Gu) (G : C2) (sec : Nat → Sec) (w : World) (hg : FinV (.complex .f64 r r')) (hG : CIs (.complex .f64 r r') G) (hv : SecsIs w v n sec) (hn : n ≤ 16) :
    Calls Try.prog 12 #[.agg #[.complex .f64 r r', v], Gv g] w fun e w' => ∃ B L, e = .returned (.tuple #[.pointer (some ⟨B, 0, none⟩), .int .i64 0]) ∧ GuardAt w' w.heap.size w'.heap.size B L n G sec rest0 g 0 ∧ Below w.heap.size w w' := by
  obtain ⟨ad, c, rfl, _⟩ := id hv
  have Hn := hide (fun w' (h : SecsIs w' (.slice ad n c) n sec) => cnew_any r r' n (.slice ad n c) sec w' hg h hn)
  have Hv := hide hv
  have Hc := hide (fun w' (h : SecsIs w' (.slice ad n c) n sec) => sclone_any (.slice ad n c) n sec w' h hn)
  clear hv hg
  obtain ⟨fl, cp, mu⟩ := g
  unfold Gv
  dsimp only
  go_enter Try.func12, Try.ntmps12
  go_wp2_with fail
  obtain ⟨W, hW⟩ : ∃ W, W = (w.alloc (Obj.cells #[.complex .f64 r r', .slice ad n c] 37)).alloc (Obj.cells #[.bool fl, .bool cp, .bool mu] 23) := ⟨_, rfl⟩
  rw [← hW]
  have hbW : Below w.heap.size w W := by rw [hW]; exact ((Below.refl _ _).alloc (Nat.le_refl _) _).alloc (by simp) _
  have hsW : W.heap.size = w.heap.size + 2 := by rw [hW]; simp
  have m0 : W.cell? ⟨w.heap.size, 0, none⟩ = some (.complex .f64 r r') := by rw [hW]; go_simp
  have m1 : W.cell? ⟨w.heap.size, 1, none⟩ = some (.slice ad n c) := by rw [hW]; go_simp
  have m2 : W.cell? ⟨w.heap.size + 1, 0, none⟩ = some (.bool fl) := by rw [hW]; go_simp
  have m3 : W.cell? ⟨w.heap.size + 1, 1, none⟩ = some (.bool cp) := by rw [hW]; go_simp
  have m4 : W.cell? ⟨w.heap.size + 1, 2, none⟩ = some (.bool mu) := by rw [hW]; go_simp
  clear hW
  refine (unhide Hn W ((unhide Hv).below hbW)).mono ?_
  rintro e w1 ⟨B, L, rfl, hne, hB1, hL1, hB2, hL2, hra, hLk, hbl⟩
  have n0 : w1.cell? ⟨w.heap.size, 0, none⟩ = some (.complex .f64 r r') := (hbl.cell (by show w.heap.size < _; omega)).trans m0
  have n1 : w1.cell? ⟨w.heap.size, 1, none⟩ = some (.slice ad n c) := (hbl.cell (by show w.heap.size < _; omega)).trans m1
  have n2 : w1.cell? ⟨w.heap.size + 1, 0, none⟩ = some (.bool fl) := (hbl.cell (by show w.heap.size + 1 < _; omega)).trans m2
  have n3 : w1.cell? ⟨w.heap.size + 1, 1, none⟩ = some (.bool cp) := (hbl.cell (by show w.heap.size + 1 < _; omega)).trans m3
  have n4 : w1.cell? ⟨w.heap.size + 1, 2, none⟩ = some (.bool mu) := (hbl.cell (by show w.heap.size + 1 < _; omega)).trans m4
  have n5 : w1.cell? ⟨B, 0, none⟩ = some (.complex .f64 r r') := hra 0 _ rfl
  have n6 : w1.cell? ⟨B, 1, none⟩ = some (.slice (some ⟨L, 0, none⟩) n n) := hra 1 _ rfl
  have hs1 := hbl.size
  have H1 := hide (And.intro ((unhide Hv).below (hbW.trans (hbl.mono (by omega)))) (And.intro hLk (hbW.trans (hbl.mono (by omega)))))
  clear hra hLk hbl hbW m0 m1 m2 m3 m4 Hn Hv
  have Hd := hide ((unhide H1).1.below (still_drew w1 w1.heap.size))
  go_wp2_with fail
  go_region_held3 (fun w' => w'.cell? ⟨w.heap.size, 0, none⟩ = some (.complex .f64 r r') ∧ w'.cell? ⟨w.heap.size, 1, none⟩ = some (.slice ad n c) ∧ w'.cell? ⟨w.heap.size + 1, 0, none⟩ = some (.bool fl) ∧ w'.cell? ⟨w.heap.size + 1, 1, none⟩ = some (.bool cp) ∧ w'.cell? ⟨w.heap.size + 1, 2, none⟩ = some (.bool mu) ∧ w'.cell? ⟨B, 0, none⟩ = some (.complex .f64 r r') ∧ w'.cell? ⟨B, 1, none⟩ = some (.slice (some ⟨L, 0, none⟩) n n)) (go_keep)
    ((go_at_call 33; refine (unhide Hc _ (unhide Hd)).mono ?_; rintro e w2 ⟨ad2, c2, rfl, hS2, hI2, hb2⟩; have k0 : w2.cell? ⟨w.heap.size, 0, none⟩ = some (.complex .f64 r r') := (hb2.cell (by first | exact hB2 | (show w.heap.size < w1.heap.size; omega) | (show w.heap.size + 1 < w1.heap.size; omega))).trans n0; have k1 : w2.cell? ⟨w.heap.size, 1, none⟩ = some (.slice ad n c) := (hb2.cell (by first | exact hB2 | (show w.heap.size < w1.heap.size; omega) | (show w.heap.size + 1 < w1.heap.size; omega))).trans n1; have k2 : w2.cell? ⟨w.heap.size + 1, 0, none⟩ = some (.bool fl) := (hb2.cell (by first | exact hB2 | (show w.heap.size < w1.heap.size; omega) | (show w.heap.size + 1 < w1.heap.size; omega))).trans n2; have k3 : w2.cell? ⟨w.heap.size + 1, 1, none⟩ = some (.bool cp) := (hb2.cell (by first | exact hB2 | (show w.heap.size < w1.heap.size; omega) | (show w.heap.size + 1 < w1.heap.size; omega))).trans n3; have k4 : w2.cell? ⟨w.heap.size + 1, 2, none⟩ = some (.bool mu) := (hb2.cell (by first | exact hB2 | (show w.heap.size < w1.heap.size; omega) | (show w.heap.size + 1 < w1.heap.size; omega))).trans n4; have k5 : w2.cell? ⟨B, 0, none⟩ = some (.complex .f64 r r') := (hb2.cell (by first | exact hB2 | (show w.heap.size < w1.heap.size; omega) | (show w.heap.size + 1 < w1.heap.size; omega))).trans n5; have k6 : w2.cell? ⟨B, 1, none⟩ = some (.slice (some ⟨L, 0, none⟩) n n) := (hb2.cell (by first | exact hB2 | (show w.heap.size < w1.heap.size; omega) | (show w.heap.size + 1 < w1.heap.size; omega))).trans n6))
  go_wp2
  go_ret2
  obtain ⟨_, hLk, hbw⟩ := unhide H1
  have hb2' : Below w1.heap.size w1 w2 := (still_drew w1 _).trans hb2
  have hs2 : w1.heap.size ≤ w2.heap.size := hb2'.size
  have hIa : InR (.slice ad2 n c2) n w1.heap.size w2.heap.size := hI2
  have hws := hbw.size
  have hga := World.grownBy_alloc w2 (Obj.cells #[.complex .f64 r r', .slice (some ⟨L, 0, none⟩) n n, .complex .f64 r r', .slice ad2 n c2, .bool fl, .bool cp, .bool mu, .int .u64 0] 73) none
  have hcell : ∀ j x, [Value.complex .f64 r r', .slice (some ⟨L, 0, none⟩) n n, .complex .f64 r r', .slice ad2 n c2, .bool fl, .bool cp, .bool mu, .int .u64 0][j]? = some x → (w2.alloc (Obj.cells #[.complex .f64 r r', .slice (some ⟨L, 0, none⟩) n n, .complex .f64 r r', .slice ad2 n c2, .bool fl, .bool cp, .bool mu, .int .u64 0] 73)).cell? ⟨w2.heap.size, 0 + j, none⟩ = some x := fun j x hx => by
    rw [Nat.zero_add, cell_of_row _ w2.heap.size _ _ _ _ (heap_alloc_new _ _), List.getElem?_toArray]; exact hx
  refine ⟨w2.heap.size, L, rfl, ⟨r, r', n, .slice ad2 n c2, ⟨fun j hj => ?_, hcell⟩, hG, ?_, hS2.below ((Below.refl _ w2).alloc (Nat.le_refl _) _), ?_, hIa.off (by omega), hIa.off (by omega), by omega, by omega, by simp, by omega, by simp; omega, Nat.le_refl _⟩, ?_⟩
  · refine ⟨?_, ?_⟩
    · rcases (by omega : j = 0 ∨ j = 1 ∨ j = 2 ∨ j = 3 ∨ j = 4 ∨ j = 5 ∨ j = 6 ∨ j = 7) with rfl | rfl | rfl | rfl | rfl | rfl | rfl | rfl <;> rw [hcell _ _ rfl] <;> rfl
    · rw [Nat.zero_add, frozen_of_row _ _ _ _ _ (heap_alloc_new _ _)]
  · exact (hLk.below hb2' hL2).grown hga (by omega) (by simp)
  · intro h0 b off mm cc e
    have := hIa h0 b off mm cc e
    simp; omega
  · exact (hbw.trans (hb2'.mono hws)).trans ((Below.refl _ w2).alloc (by omega) _)
end Go.Proofs.Ythafffnebaaeiaa
