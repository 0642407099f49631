/- A new filter: what package cascade's New lays in memory where all is finite. -/
import Derived.Test.YteoglcelgcjpoaaCfin
namespace Go.Proofs.Yteoglcelgcjpoaa
open Go.RowKit

def c0 : Value := .complex .f64 0 0
/-- Nought. -/
def z0 : C2 := (lf 0, lf 0)
theorem c0_is : CIs c0 z0 := CIs.of 0 0 (by omega) (by omega)
def rest0 : Nat → C2 × C2 := fun _ => (z0, z0)

theorem infoz_link : (Try.prog.info? 66).map (fun i => (i.zero, i.size, i.bytes)) = some (some (.agg #[c0, c0, c0, c0, c0, c0, c0]), 7, 112) := by kernel_rfl
theorem made_get (m j : Nat) (hj : j < m) : (madeCells (Value.agg #[c0, c0, c0, c0, c0, c0, c0]).cells m)[j]? = some c0 := by
  have h7 : j % 7 < 7 := Nat.mod_lt _ (by omega)
  simp only [madeCells, Array.getElem?_map, Array.getElem?_range, hj, if_true, Option.map_some, Value.cells]
  congr 1
  have e : (#[c0, c0, c0, c0, c0, c0, c0] : Array Value).size = 7 := rfl
  rw [e]
  generalize j % 7 = r at h7
  rcases (by omega : r = 0 ∨ r = 1 ∨ r = 2 ∨ r = 3 ∨ r = 4 ∨ r = 5 ∨ r = 6) with rfl | rfl | rfl | rfl | rfl | rfl | rfl <;> rfl
theorem make_links (n : Nat) (hn : n ≤ 16) (w : World) : (Instr.makeSlice 62 (.int .i64 n) (.int .i64 n)).run Try.prog w = .ok (.slice (some ⟨w.heap.size, 0, none⟩) n n) (w.alloc (.cells (madeCells (Value.agg #[c0, c0, c0, c0, c0, c0, c0]).cells (n * 7)) 66)) := by
  obtain ⟨i0, hi, hz0, hz1, hz2⟩ := info_parts infoz_link
  have h := run_make (P := Try.prog) w 62 66 i0 _ Try.underlying62 hi hz0 .i64 .i64 (n : Int) (n : Int) (by omega) (by omega) (by rw [hz2]; omega) (by omega)
  rw [hz1] at h
  simpa using h
theorem build_casc (r i : Nat) (a : Option Addr) (n c : Nat) (w : World) : (Instr.build 64 #[(0, .complex .f64 r i), (1, .slice a n c)]).run Try.prog w = .ok (.agg #[.complex .f64 r i, .slice a n c]) w := by go_simp
theorem box_casc (r i : Nat) (a : Option Addr) (n c : Nat) (w : World) : (Instr.box 64 (.agg #[.complex .f64 r i, .slice a n c])).run Try.prog w = .ok (.pointer (some ⟨w.heap.size, 0, none⟩)) (w.alloc (.cells #[.complex .f64 r i, .slice a n c] 64)) := by go_simp
theorem field_filt0 (b : Nat) (w : World) : (Instr.fieldAt 28 (.pointer (some ⟨b, 0, none⟩)) 0).run Try.prog w = .ok (.pointer (some ⟨b, 0, none⟩)) w := by go_simp
theorem field_filt1 (b : Nat) (w : World) : (Instr.fieldAt 28 (.pointer (some ⟨b, 0, none⟩)) 1).run Try.prog w = .ok (.pointer (some ⟨b, 1, none⟩)) w := by go_simp
theorem load_secs (p : Addr) (a : Option Addr) (n c : Nat) (w : World) (h : w.cell? p = some (.slice a n c)) : (Instr.loadAt 26 (.pointer (some p))).run Try.prog w = .ok (.slice a n c) w := by go_simp

section
variable {o : Oper} {a : Act} {w : World} {V : Nat → Value → Prop} {C : World → Prop} {d : Nat}
theorem ok_run {r : Value} {w' : World} (hr : (execOp a.eval o).run Try.prog w = .ok (.value r) w') (hd : o.dst = some d) (hV : V d r) (hC : C w') :
    StepOk Try.prog o a w (fun v => ∀ d, o.dst = some d → V d v) C := .inl ⟨r, w', hr, slot_of hd hV, hC⟩
end

/-- The links that New has laid, k sections of n. -/
def PLinks (w : World) (L n k : Nat) (sec : Nat → Sec) : Prop :=
  w.there L 0 (n * 7) ∧ ∀ i, i < n → ∃ u0 u1 u2 u3 u4, w.rangeAt L (i * 7) [u0, u1, u2, u3, u4, c0, c0] ∧ (i < k → CIs u0 (sec i).b0 ∧ CIs u1 (sec i).b1 ∧ CIs u2 (sec i).b2 ∧ CIs u3 (sec i).a1 ∧ CIs u4 (sec i).a2)
theorem PLinks.done {w : World} {L n : Nat} {sec : Nat → Sec} (h : PLinks w L n n sec) : Links w L n sec rest0 :=
  ⟨h.1, fun i hi => by
    obtain ⟨u0, u1, u2, u3, u4, hr, hh⟩ := h.2 i hi
    obtain ⟨h0, h1, h2, h3, h4⟩ := hh hi
    exact ⟨u0, u1, u2, u3, u4, c0, c0, hr, h0, h1, h2, h3, h4, c0_is, c0_is⟩⟩
theorem PLinks.start {w : World} {L n : Nat} {sec : Nat → Sec} (h : w.heap[L]? = some (.cells (madeCells (Value.agg #[c0, c0, c0, c0, c0, c0, c0]).cells (n * 7)) 66 (0, 0))) : PLinks w L n 0 sec := by
  have hc : ∀ j, j < n * 7 → w.cell? ⟨L, j, none⟩ = some c0 := fun j hj => by rw [cell_of_row w L j _ _ _ h]; exact made_get _ _ hj
  refine ⟨fun j hj => ?_, fun i hi => ⟨c0, c0, c0, c0, c0, fun j v hv => ?_, fun h => by omega⟩⟩
  · rw [Nat.zero_add, hc j hj, frozen_of_row w L j _ _ h]; exact ⟨rfl, rfl⟩
  · have hj : j < 7 := (List.getElem?_eq_some_iff.1 hv).1
    rw [hc (i * 7 + j) (by omega), ← hv]
    rcases (by omega : j = 0 ∨ j = 1 ∨ j = 2 ∨ j = 3 ∨ j = 4 ∨ j = 5 ∨ j = 6) with rfl | rfl | rfl | rfl | rfl | rfl | rfl <;> rfl
theorem PLinks.grown {w w' : World} {L n k : Nat} {sec : Nat → Sec} {row : Option Nat} (h : PLinks w L n k sec) (hg : w.grownBy w' row) (hL : L < w.heap.size) (hne : some L ≠ row) : PLinks w' L n k sec := by
  have hb := hg.block L hL hne
  refine ⟨there_grown h.1 hg hL hne, fun i hi => ?_⟩
  obtain ⟨u0, u1, u2, u3, u4, hr, hh⟩ := h.2 i hi
  exact ⟨u0, u1, u2, u3, u4, fun j v hv => by rw [World.cell?_of_block (w := w) hb]; exact hr j v hv, hh⟩
theorem PLinks.set {w : World} {L n k : Nat} {sec : Nat → Sec} (h : PLinks w L n k sec) (hk : k < n) {v0 v1 v2 v3 v4 : Value} (h0 : CIs v0 (sec k).b0) (h1 : CIs v1 (sec k).b1) (h2 : CIs v2 (sec k).b2) (h3 : CIs v3 (sec k).a1) (h4 : CIs v4 (sec k).a2) :
    PLinks (w.setCells L (k * 7) [v0, v1, v2, v3, v4]) L n (k + 1) sec := by
  refine ⟨there_set h.1, fun i hi => ?_⟩
  obtain ⟨u0, u1, u2, u3, u4, hr, hh⟩ := h.2 i hi
  have ht : w.there L (k * 7) 5 := there_part h.1 (by omega)
  by_cases hik : i = k
  · subst hik
    refine ⟨v0, v1, v2, v3, v4, fun j x hx => ?_, fun _ => ⟨h0, h1, h2, h3, h4⟩⟩
    have hj7 : j < 7 := (List.getElem?_eq_some_iff.1 hx).1
    by_cases hj : j < 5
    · have hs := World.rangeAt_setCells_same w L (i * 7) [v0, v1, v2, v3, v4] ht
      refine hs j x ?_
      rcases (by omega : j = 0 ∨ j = 1 ∨ j = 2 ∨ j = 3 ∨ j = 4) with rfl | rfl | rfl | rfl | rfl <;> exact hx
    · rw [World.cell?_setCells_out L [v0, v1, v2, v3, v4] _ w ⟨L, i * 7 + j, none⟩ (fun _ _ => .inr (by show i * 7 + 5 ≤ i * 7 + j; omega))]
      refine hr j x ?_
      rcases (by omega : j = 5 ∨ j = 6) with rfl | rfl <;> exact hx
  · refine ⟨u0, u1, u2, u3, u4, World.rangeAt_setCells_apart hr L _ _ (.inr ?_), fun h => hh (by omega)⟩
    simp only [List.length_cons, List.length_nil]
    omega

def nV (F N n c : Nat) (g : Value) (ad : Option Addr) : Nat → Value → Prop
  | 16, v => v = .pointer (some ⟨F, 0, none⟩)
  | 17, v => v = g
  | 18, v => v = .pointer (some ⟨F, 1, none⟩)
  | 19, v => v = .slice ad n c
  | 20, v => v = .int .i64 n
  | 21, v => v = .slice (some ⟨N, 0, none⟩) n n
  | 22, v => v = .agg #[g, .slice (some ⟨N, 0, none⟩) n n]
  | 23, v => v = .pointer (some ⟨N + 1, 0, none⟩)
  | 4, v => v = .pointer (some ⟨N + 1, 0, none⟩)
  | _, _ => True
def nC (W : World) (n : Nat) (g : Value) (listed : Array Bool) (w : World) : Prop :=
  W.grownBy w none ∧ (listed.getD 5 false = false → w.heap.size = W.heap.size) ∧ (listed.getD 5 false = true → listed.getD 7 false = false → w.heap.size = W.heap.size + 1) ∧ (listed.getD 7 false = true → w.heap.size = W.heap.size + 2) ∧
  (listed.getD 5 false = true → w.heap[W.heap.size]? = some (.cells (madeCells (Value.agg #[c0, c0, c0, c0, c0, c0, c0]).cells (n * 7)) 66 (0, 0))) ∧
  (listed.getD 7 false = true → w.heap[W.heap.size + 1]? = some (.cells #[g, .slice (some ⟨W.heap.size, 0, none⟩) n n] 64 (0, 0)))
theorem nC.same {W w : World} {n : Nat} {g : Value} {listed : Array Bool} (h : nC W n g listed w) (i : Nat) (h5 : i ≠ 5) (h7 : i ≠ 7) : nC W n g (listed.setIfInBounds i true) w := by
  unfold nC
  rw [getD_set_ne false h5, getD_set_ne false h7]
  exact h

def nV9 (B L n k : Nat) (se : Value) : Nat → Value → Prop
  | 32, v => v = .pointer (some ⟨B, 0, none⟩)
  | 33, v => v = .pointer (some ⟨B, 0, none⟩)
  | 34, v => v = .pointer (some ⟨B, 1, none⟩)
  | 35, v => v = .slice (some ⟨L, 0, none⟩) n n
  | 36, v => v = .int .i64 k
  | 37, v => v = se
  | 38, v => v = .pointer (some ⟨L, k * 7, none⟩)
  | 39, v => v = .pointer (some ⟨L, k * 7, none⟩)
  | _, _ => True
def nC9 (W : World) (L n k : Nat) (sec : Nat → Sec) (listed : Array Bool) (w : World) : Prop :=
  W.grownBy w (some L) ∧ PLinks w L n (if listed.getD 8 false then k + 1 else k) sec
theorem nC9.same {W w : World} {L n k : Nat} {sec : Nat → Sec} {listed : Array Bool} (h : nC9 W L n k sec listed w) (i : Nat) (hi : i ≠ 8) : nC9 W L n k sec (listed.setIfInBounds i true) w := by
  unfold nC9
  rw [getD_set_ne false hi]
  exact h
theorem below_of_grown {w w' : World} (h : w.grownBy w' none) : Below w.heap.size w w' := ⟨h.os, h.tape, h.output, h.size, fun k hk => h.block k hk (by simp)⟩
theorem unlisted {listed : Array Bool} {i n : Nat} (hl : listed.getD i true = false) (hs : listed.size = n) (hi : i < n) : listed.getD i false = false := by
  have : i < listed.size := by omega
  rw [Array.getD_eq_getD_getElem?, Array.getElem?_eq_getElem this] at hl ⊢
  exact hl
theorem listed_set {listed : Array Bool} {i n : Nat} (hs : listed.size = n) (hi : i < n) : (listed.setIfInBounds i true).getD i false = true := by
  have : i < listed.size := by omega
  simp [this]

set_option maxRecDepth 100000 in
set_option maxHeartbeats 2000000 in
theorem cnew_any (g g' n : Nat) (v : Value) (sec : Nat → Sec) (w : World) (hg : FinV (.complex .f64 g g')) (hv : SecsIs w v n sec) (hn : n ≤ 16) :
    Calls Try.prog 9 #[.agg #[.complex .f64 g g', v]] w fun e w' => ∃ B L, e = .returned (.tuple #[.pointer (some ⟨B, 0, none⟩), .int .i64 0]) ∧ B ≠ L ∧ w.heap.size ≤ B ∧ w.heap.size ≤ L ∧ B < w'.heap.size ∧ L < w'.heap.size ∧
      w'.rangeAt B 0 [.complex .f64 g g', .slice (some ⟨L, 0, none⟩) n n] ∧ Links w' L n sec rest0 ∧ Below w.heap.size w w' := by
  obtain ⟨ad, c, rfl, hs⟩ := id hv
  have H := hide hs
  have Hv := hide hv
  have Hg := hide hg
  clear hs hg hv
  go_enter Try.func9, Try.ntmps9
  go_wp2_with fail
  have hbw0 : Below w.heap.size w (w.alloc (Obj.cells #[.complex .f64 g g', .slice ad n c] 28)) := (Below.refl _ _).alloc (Nat.le_refl _) _
  refine (cfinite_any g g' n (.slice ad n c) sec _ (unhide Hg) ?_ hn).mono ?_
  · obtain ⟨ad', c', e1, h1⟩ := unhide Hv
    refine ⟨ad', c', e1, fun i hi => ?_⟩
    obtain ⟨b, u0, u1, u2, u3, u4, e2, hb, hr, hh⟩ := h1 i hi
    exact ⟨b, u0, u1, u2, u3, u4, e2, by simp; omega, fun j x hx => by rw [hbw0.cell (by exact hb)]; exact hr j x hx, hh⟩
  rintro e W ⟨rfl, hb1⟩
  have hcg : W.cell? ⟨w.heap.size, 0, none⟩ = some (.complex .f64 g g') := by rw [hb1.cell (by simp)]; go_simp
  have hcs : W.cell? ⟨w.heap.size, 1, none⟩ = some (.slice ad n c) := by rw [hb1.cell (by simp)]; go_simp
  have hbw : Below w.heap.size w W := hbw0.trans (hb1.mono (by simp))
  have hwW : w.heap.size < W.heap.size := by have := hb1.size; simp at this; omega
  clear hbw0 hb1
  have Hbw := hide hbw
  clear hbw
  go_wp2_with fail
  rename_i K hK
  have HK := hide hK
  clear hK
  refine region_slots (nV w.heap.size W.heap.size n c (.complex .f64 g g') ad) (nC W n (.complex .f64 g g')) (by kernel_rfl) (by kernel_rfl) (by kernel_rfl) 42 (by kernel_rfl) rfl ?_ ?_ ?_
  · exact ⟨grown_drew _ _, fun _ => rfl, fun h => by simp at h, fun h => by simp at h, fun h => by simp at h, fun h => by simp at h⟩
  · intro listed a' w2 i o hI ho hsz hl hd
    have hi : i < 9 := by simpa using (Array.getElem?_eq_some_iff.1 ho).1
    have hc : nC W n (.complex .f64 g g') listed w2 := hI.world
    have hcell : ∀ p v, W.cell? p = some v → w2.cell? p = some v := fun p v h => hc.1.cell h (by simp)
    have hsz' : listed.size = 9 := hsz
    rcases (by omega : i = 0 ∨ i = 1 ∨ i = 2 ∨ i = 3 ∨ i = 4 ∨ i = 5 ∨ i = 6 ∨ i = 7 ∨ i = 8) with rfl | rfl | rfl | rfl | rfl | rfl | rfl | rfl | rfl
    all_goals obtain rfl := Option.some.inj ho
    · exact ok_field rfl rfl (hI.base 1 (by kernel_rfl)) (field_filt0 _ _) rfl (hc.same 0 (by omega) (by omega))
    · exact ok_load rfl rfl (hI.slot 0 _ 16 rfl rfl (hd ⟨0, .data⟩ (by simp) rfl)) (load_c _ _ _ _ (hcell _ _ hcg)) rfl (hc.same 1 (by omega) (by omega))
    · exact ok_field rfl rfl (hI.base 1 (by kernel_rfl)) (field_filt1 _ _) rfl (hc.same 2 (by omega) (by omega))
    · exact ok_load rfl rfl (hI.slot 2 _ 18 rfl rfl (hd ⟨2, .data⟩ (by simp) rfl)) (load_secs _ _ _ _ _ (hcell _ _ hcs)) rfl (hc.same 3 (by omega) (by omega))
    · have k1 : a'.eval (.tmp 19) = .slice ad n c := hI.slot 3 _ 19 rfl rfl (hd ⟨3, .data⟩ (by simp) rfl)
      refine ok_run (r := .int .i64 n) (w' := w2) ?_ rfl rfl (hc.same 4 (by omega) (by omega))
      rw [Act.eval, Array.getD_eq_getD_getElem?] at k1
      simp only [execOp]
      go_simp
    · have k1 : a'.eval (.tmp 20) = .int .i64 n := hI.slot 4 _ 20 rfl rfl (hd ⟨4, .data⟩ (by simp) rfl)
      have u5 := unlisted hl hsz' (by omega)
      have u7 : listed.getD 7 false = false := by
        cases h7 : listed.getD 7 false with
        | false => rfl
        | true =>
          have h6 := hI.closed 7 _ rfl h7 ⟨6, .data⟩ (by simp) rfl
          have h5 := hI.closed 6 _ rfl h6 ⟨5, .data⟩ (by simp) rfl
          rw [u5] at h5; cases h5
      obtain ⟨g1, g2, g3, g4, g5, g6⟩ := hc
      have hs2 := g2 u5
      refine ok_run (r := .slice (some ⟨w2.heap.size, 0, none⟩) n n) (w' := w2.alloc (.cells (madeCells (Value.agg #[c0, c0, c0, c0, c0, c0, c0]).cells (n * 7)) 66)) (d := 21) ?_ rfl ?_ ?_
      · simp [execOp, k1, make_links n hn]
      · show _ = _
        rw [hs2]
      · have l5 := listed_set hsz' (show 5 < 9 by omega)
        have l7 : (listed.setIfInBounds 5 true).getD 7 false = false := by rw [getD_set_ne false (by omega)]; exact u7
        refine ⟨grown_trans g1 (World.grownBy_alloc _ _ _), fun h => ?_, fun _ _ => ?_, fun h => ?_, fun _ => ?_, fun h => ?_⟩
        · rw [l5] at h; cases h
        · simp [hs2]
        · rw [l7] at h; cases h
        · rw [← hs2]; exact heap_alloc_new _ _
        · rw [l7] at h; cases h
    · have k1 : a'.eval (.tmp 17) = .complex .f64 g g' := hI.slot 1 _ 17 rfl rfl (hd ⟨1, .data⟩ (by simp) rfl)
      have k2 : a'.eval (.tmp 21) = .slice (some ⟨W.heap.size, 0, none⟩) n n := hI.slot 5 _ 21 rfl rfl (hd ⟨5, .data⟩ (by simp) rfl)
      refine ok_run (r := .agg #[.complex .f64 g g', .slice (some ⟨W.heap.size, 0, none⟩) n n]) (w' := w2) ?_ rfl rfl (hc.same 6 (by omega) (by omega))
      simp [execOp, k1, k2, build_casc]
    · have k1 : a'.eval (.tmp 22) = .agg #[.complex .f64 g g', .slice (some ⟨W.heap.size, 0, none⟩) n n] := hI.slot 6 _ 22 rfl rfl (hd ⟨6, .data⟩ (by simp) rfl)
      have u7 := unlisted hl hsz' (by omega)
      have u6 := hd ⟨6, .data⟩ (by simp) rfl
      have u5 : listed.getD 5 false = true := hI.closed 6 _ rfl u6 ⟨5, .data⟩ (by simp) rfl
      obtain ⟨g1, g2, g3, g4, g5, g6⟩ := hc
      have hs2 := g3 u5 u7
      refine ok_run (r := .pointer (some ⟨w2.heap.size, 0, none⟩)) (w' := w2.alloc (.cells #[.complex .f64 g g', .slice (some ⟨W.heap.size, 0, none⟩) n n] 64)) (d := 23) ?_ rfl ?_ ?_
      · simp [execOp, k1, box_casc]
      · show _ = _
        rw [hs2]
      · have l7 := listed_set hsz' (show 7 < 9 by omega)
        have l5 : (listed.setIfInBounds 7 true).getD 5 false = true := by rw [getD_set_ne false (by omega)]; exact u5
        refine ⟨grown_trans g1 (World.grownBy_alloc _ _ _), fun h => ?_, fun _ h => ?_, fun _ => ?_, fun _ => ?_, fun _ => ?_⟩
        · rw [l5] at h; cases h
        · rw [l7] at h; cases h
        · simp [hs2]
        · rw [Below.heap_alloc _ _ _ (by omega)]; exact g5 u5
        · rw [← hs2]; exact heap_alloc_new _ _
    · have k1 := hI.slot 7 _ 23 rfl rfl (hd ⟨7, .data⟩ (by simp) rfl)
      exact ok_assign rfl rfl k1 rfl (hc.same 8 (by omega) (by omega))
  · intro listed a' w2 hI hall
    have k4 := hI.slot 8 _ 4 rfl rfl (hall 8 (by decide))
    have E := act_lit a' 42 hI.size
    rw [hI.defers] at E
    replace E : a' = ⟨#[a'.eval (.tmp 0), a'.eval (.tmp 1), a'.eval (.tmp 2), a'.eval (.tmp 3), a'.eval (.tmp 4), a'.eval (.tmp 5), a'.eval (.tmp 6), a'.eval (.tmp 7), a'.eval (.tmp 8), a'.eval (.tmp 9), a'.eval (.tmp 10), a'.eval (.tmp 11), a'.eval (.tmp 12), a'.eval (.tmp 13), a'.eval (.tmp 14), a'.eval (.tmp 15), a'.eval (.tmp 16), a'.eval (.tmp 17), a'.eval (.tmp 18), a'.eval (.tmp 19), a'.eval (.tmp 20), a'.eval (.tmp 21), a'.eval (.tmp 22), a'.eval (.tmp 23), a'.eval (.tmp 24), a'.eval (.tmp 25), a'.eval (.tmp 26), a'.eval (.tmp 27), a'.eval (.tmp 28), a'.eval (.tmp 29), a'.eval (.tmp 30), a'.eval (.tmp 31), a'.eval (.tmp 32), a'.eval (.tmp 33), a'.eval (.tmp 34), a'.eval (.tmp 35), a'.eval (.tmp 36), a'.eval (.tmp 37), a'.eval (.tmp 38), a'.eval (.tmp 39), a'.eval (.tmp 40), a'.eval (.tmp 41)], _⟩ := E
    rw [hI.base 0 (by kernel_rfl), hI.base 1 (by kernel_rfl), hI.base 2 (by kernel_rfl), hI.base 3 (by kernel_rfl), hI.base 5 (by kernel_rfl), hI.base 6 (by kernel_rfl), hI.base 7 (by kernel_rfl), hI.base 8 (by kernel_rfl), hI.base 9 (by kernel_rfl), hI.base 10 (by kernel_rfl), hI.base 11 (by kernel_rfl), hI.base 12 (by kernel_rfl), hI.base 13 (by kernel_rfl), hI.base 14 (by kernel_rfl), hI.base 15 (by kernel_rfl), hI.base 24 (by kernel_rfl), hI.base 25 (by kernel_rfl), hI.base 26 (by kernel_rfl), hI.base 27 (by kernel_rfl), hI.base 28 (by kernel_rfl), hI.base 29 (by kernel_rfl), hI.base 30 (by kernel_rfl), hI.base 31 (by kernel_rfl), hI.base 32 (by kernel_rfl), hI.base 33 (by kernel_rfl), hI.base 34 (by kernel_rfl), hI.base 35 (by kernel_rfl), hI.base 36 (by kernel_rfl), hI.base 37 (by kernel_rfl), hI.base 38 (by kernel_rfl), hI.base 39 (by kernel_rfl), hI.base 40 (by kernel_rfl), hI.base 41 (by kernel_rfl)] at E
    have hw := hI.world
    clear hI
    generalize a'.eval (.tmp 4) = y4 at E k4
    generalize a'.eval (.tmp 16) = y16 at E
    generalize a'.eval (.tmp 17) = y17 at E
    generalize a'.eval (.tmp 18) = y18 at E
    generalize a'.eval (.tmp 19) = y19 at E
    generalize a'.eval (.tmp 20) = y20 at E
    generalize a'.eval (.tmp 21) = y21 at E
    generalize a'.eval (.tmp 22) = y22 at E
    generalize a'.eval (.tmp 23) = y23 at E
    simp [Act.eval] at E
    subst E
    obtain ⟨g1, _, _, g4, g5, g6⟩ := hw
    have hs2 := g4 (hall 7 (by decide))
    have hL0 := g5 (hall 5 (by decide))
    have hB0 := g6 (hall 7 (by decide))
    obtain ⟨N, hN⟩ : ∃ N, N = W.heap.size := ⟨_, rfl⟩
    rw [← hN] at k4 hL0 hB0 hs2
    change y4 = _ at k4
    subst k4
    have hcs2 : w2.cell? ⟨w.heap.size, 1, none⟩ = some (.slice ad n c) := g1.cell hcs (by simp)
    refine unhide HK _ _ ?_
    clear HK hall g4 g5 g6
    have hP0 : PLinks w2 N n 0 sec := PLinks.start hL0
    have hB2 : w2.rangeAt (N + 1) 0 [.complex .f64 g g', .slice (some ⟨N, 0, none⟩) n n] := by
      intro j x hx
      rw [cell_of_row w2 (N + 1) _ _ _ _ hB0]
      have hj : j < 2 := (List.getElem?_eq_some_iff.1 hx).1
      rcases (by omega : j = 0 ∨ j = 1) with rfl | rfl <;> exact hx
    have Hg1 := hide g1
    clear g1 hL0 hB0
    go_wp2_with fail
    go_loopw [27] (fun i wr => ∃ k : Nat, k ≤ n ∧ i = .int .i64 k ∧ PLinks wr N n k sec ∧ w2.grownBy wr (some N)) (fun i _ => n - (intOf i).toNat)
    case atStart => exact ⟨0, Nat.zero_le _, rfl, hP0, grown_refl _ _⟩
    case round =>
      obtain ⟨k, hk, rfl, hPk, hgk⟩ := hrel
      by_cases hkn : k < n
      · have hkn' : (k : Int) < (n : Int) := by omega
        obtain ⟨b, v0, v1, v2, v3, v4, rfl, hb, hra, _, _, _, _, _, i0, i1, i2, i3, i4⟩ := unhide H k hkn
        obtain ⟨b0, b0', rfl, _⟩ := id i0
        obtain ⟨b1, b1', rfl, _⟩ := id i1
        obtain ⟨b2, b2', rfl, _⟩ := id i2
        obtain ⟨a1, a1', rfl, _⟩ := id i3
        obtain ⟨a2, a2', rfl, _⟩ := id i4
        have hcc : ∀ j x, [Value.complex .f64 b0 b0', .complex .f64 b1 b1', .complex .f64 b2 b2', .complex .f64 a1 a1', .complex .f64 a2 a2'][j]? = some x → wr.cell? ⟨b, k * 5 + j, none⟩ = some x := fun j x hx => by
          have h1 := hra j x hx
          have h2 : W.cell? ⟨b, k * 5 + j, none⟩ = some x := by rw [(unhide Hbw).cell (by exact hb)]; exact h1
          exact hgk.cell ((unhide Hg1).cell h2 (by simp)) (by intro e; have := Option.some.inj e; simp only at this; omega)
        have l0 : wr.cell? ⟨b, k * 5, none⟩ = some (.complex .f64 b0 b0') := hcc 0 _ rfl
        have l1 : wr.cell? ⟨b, k * 5 + 1, none⟩ = some (.complex .f64 b1 b1') := hcc 1 _ rfl
        have l2 : wr.cell? ⟨b, k * 5 + 2, none⟩ = some (.complex .f64 b2 b2') := hcc 2 _ rfl
        have l3 : wr.cell? ⟨b, k * 5 + 3, none⟩ = some (.complex .f64 a1 a1') := hcc 3 _ rfl
        have l4 : wr.cell? ⟨b, k * 5 + 4, none⟩ = some (.complex .f64 a2 a2') := hcc 4 _ rfl
        have Hi := hide (And.intro i0 (And.intro i1 (And.intro i2 (And.intro i3 i4))))
        clear hra hcc i0 i1 i2 i3 i4
        have hsc := run_store_c
        have HP := hide hPk
        have HG := hide hgk
        clear hPk hgk
        go_wp2_with fail
        rename_i K2 hK2
        have HK := hide hK2
        clear hK2 l0 l1 l2 l3 l4 hsc
        have hPk := unhide HP
        have hgk := unhide HG
        obtain ⟨X, hX⟩ : ∃ X, X = wr.alloc (Obj.cells #[.complex .f64 b0 b0', .complex .f64 b1 b1', .complex .f64 b2 b2', .complex .f64 a1 a1', .complex .f64 a2 a2'] 33) := ⟨_, rfl⟩
        rw [← hX]
        have hNr : N < wr.heap.size := by have := hgk.size; omega
        have hgX : wr.grownBy X (some N) := by rw [hX]; exact World.grownBy_alloc _ _ _
        have hPX : PLinks X N n k sec := by rw [hX]; exact hPk.grown (World.grownBy_alloc _ _ none) hNr (by simp)
        have m0 : X.rangeAt wr.heap.size 0 [.complex .f64 b0 b0', .complex .f64 b1 b1', .complex .f64 b2 b2', .complex .f64 a1 a1', .complex .f64 a2 a2'] := by
          intro j v hv
          have hj : j < 5 := (List.getElem?_eq_some_iff.1 hv).1
          rw [hX]
          rcases (by omega : j = 0 ∨ j = 1 ∨ j = 2 ∨ j = 3 ∨ j = 4) with rfl | rfl | rfl | rfl | rfl <;> (obtain rfl := Option.some.inj hv; go_simp)
        have hBX : X.cell? ⟨N + 1, 1, none⟩ = some (.slice (some ⟨N, 0, none⟩) n n) := (grown_trans hgk hgX).cell (hB2 1 _ rfl) (by intro e; have := Option.some.inj e; simp only at this; omega)
        clear hX
        refine region_slots (nV9 (N + 1) N n k (.agg #[.complex .f64 b0 b0', .complex .f64 b1 b1', .complex .f64 b2 b2', .complex .f64 a1 a1', .complex .f64 a2 a2'])) (nC9 X N n k sec) (by kernel_rfl) (by kernel_rfl) (by kernel_rfl) 42 (by kernel_rfl) rfl ?_ ?_ ?_
        · exact ⟨grown_drew _ _, by rw [if_neg (by simp)]; exact hPX.grown (grown_drew X none) (by have := hgX.size; omega) (by simp)⟩
        · intro listed a' w3 i o hI ho hsz hl hd
          have hi : i < 9 := by simpa using (Array.getElem?_eq_some_iff.1 ho).1
          have hc : nC9 X N n k sec listed w3 := hI.world
          have hsz' : listed.size = 9 := hsz
          rcases (by omega : i = 0 ∨ i = 1 ∨ i = 2 ∨ i = 3 ∨ i = 4 ∨ i = 5 ∨ i = 6 ∨ i = 7 ∨ i = 8) with rfl | rfl | rfl | rfl | rfl | rfl | rfl | rfl | rfl
          all_goals obtain rfl := Option.some.inj ho
          · exact ok_move rfl rfl (hI.base 4 (by kernel_rfl)) rfl (hc.same 0 (by omega))
          · exact ok_nil rfl rfl (hI.slot 0 _ 32 rfl rfl (hd ⟨0, .data⟩ (by simp) rfl)) rfl (hc.same 1 (by omega))
          · exact ok_field rfl rfl (hI.slot 1 _ 33 rfl rfl (hd ⟨1, .data⟩ (by simp) rfl)) (field_casc1 _ _) rfl (hc.same 2 (by omega))
          · exact ok_load rfl rfl (hI.slot 2 _ 34 rfl rfl (hd ⟨2, .data⟩ (by simp) rfl)) (load_links _ _ _ _ _ (hc.1.cell hBX (by intro e; have := Option.some.inj e; simp only at this; omega))) rfl (hc.same 3 (by omega))
          · exact ok_move rfl rfl (hI.base 5 (by kernel_rfl)) rfl (hc.same 4 (by omega))
          · exact ok_load rfl rfl (hI.base 6 (by kernel_rfl)) (run_loadAt_mid w3 wr.heap.size 0 33 _ _ (fun j v hv => hc.1.cell (m0 j v hv) (by intro e; have := Option.some.inj e; simp only at this; omega)) Try.underlying33 rfl info_sec) rfl (hc.same 5 (by omega))
          · exact ok_index rfl rfl (hI.slot 3 _ 35 rfl rfl (hd ⟨3, .data⟩ (by simp) rfl)) (hI.slot 4 _ 36 rfl rfl (hd ⟨4, .data⟩ (by simp) rfl)) (index_links _ _ _ _ _ hkn (by omega)) rfl (hc.same 6 (by omega))
          · exact ok_field rfl rfl (hI.slot 6 _ 38 rfl rfl (hd ⟨6, .data⟩ (by simp) rfl)) (field_link0 _ _ _) rfl (hc.same 7 (by omega))
          · have k1 := hI.slot 5 _ 37 rfl rfl (hd ⟨5, .data⟩ (by simp) rfl)
            have hun := unlisted hl hsz' (by omega)
            have hPn := hc.2
            rw [hun] at hPn
            obtain ⟨i0, i1, i2, i3, i4⟩ := unhide Hi
            have hset := hPn.set hkn i0 i1 i2 i3 i4
            refine ok_store rfl rfl (hI.slot 7 _ 39 rfl rfl (hd ⟨7, .data⟩ (by simp) rfl)) k1 info_sec (by simp [i0.one, i1.one, i2.one, i3.one, i4.one]) (there_part hPn.1 (by simp; omega)) ⟨grown_setCells hc.1, ?_⟩
            rw [listed_set hsz' (by omega), if_pos rfl]
            exact hset
        · intro listed a' w3 hI hall
          have E := act_lit a' 42 hI.size
          rw [hI.defers] at E
          replace E : a' = ⟨#[a'.eval (.tmp 0), a'.eval (.tmp 1), a'.eval (.tmp 2), a'.eval (.tmp 3), a'.eval (.tmp 4), a'.eval (.tmp 5), a'.eval (.tmp 6), a'.eval (.tmp 7), a'.eval (.tmp 8), a'.eval (.tmp 9), a'.eval (.tmp 10), a'.eval (.tmp 11), a'.eval (.tmp 12), a'.eval (.tmp 13), a'.eval (.tmp 14), a'.eval (.tmp 15), a'.eval (.tmp 16), a'.eval (.tmp 17), a'.eval (.tmp 18), a'.eval (.tmp 19), a'.eval (.tmp 20), a'.eval (.tmp 21), a'.eval (.tmp 22), a'.eval (.tmp 23), a'.eval (.tmp 24), a'.eval (.tmp 25), a'.eval (.tmp 26), a'.eval (.tmp 27), a'.eval (.tmp 28), a'.eval (.tmp 29), a'.eval (.tmp 30), a'.eval (.tmp 31), a'.eval (.tmp 32), a'.eval (.tmp 33), a'.eval (.tmp 34), a'.eval (.tmp 35), a'.eval (.tmp 36), a'.eval (.tmp 37), a'.eval (.tmp 38), a'.eval (.tmp 39), a'.eval (.tmp 40), a'.eval (.tmp 41)], _⟩ := E
          rw [hI.base 0 (by kernel_rfl), hI.base 1 (by kernel_rfl), hI.base 2 (by kernel_rfl), hI.base 3 (by kernel_rfl), hI.base 4 (by kernel_rfl), hI.base 5 (by kernel_rfl), hI.base 6 (by kernel_rfl), hI.base 7 (by kernel_rfl), hI.base 8 (by kernel_rfl), hI.base 9 (by kernel_rfl), hI.base 10 (by kernel_rfl), hI.base 11 (by kernel_rfl), hI.base 12 (by kernel_rfl), hI.base 13 (by kernel_rfl), hI.base 14 (by kernel_rfl), hI.base 15 (by kernel_rfl), hI.base 16 (by kernel_rfl), hI.base 17 (by kernel_rfl), hI.base 18 (by kernel_rfl), hI.base 19 (by kernel_rfl), hI.base 20 (by kernel_rfl), hI.base 21 (by kernel_rfl), hI.base 22 (by kernel_rfl), hI.base 23 (by kernel_rfl), hI.base 24 (by kernel_rfl), hI.base 25 (by kernel_rfl), hI.base 26 (by kernel_rfl), hI.base 27 (by kernel_rfl), hI.base 28 (by kernel_rfl), hI.base 29 (by kernel_rfl), hI.base 30 (by kernel_rfl), hI.base 31 (by kernel_rfl), hI.base 40 (by kernel_rfl), hI.base 41 (by kernel_rfl)] at E
          have hw := hI.world
          clear hI
          generalize a'.eval (.tmp 32) = y32 at E
          generalize a'.eval (.tmp 33) = y33 at E
          generalize a'.eval (.tmp 34) = y34 at E
          generalize a'.eval (.tmp 35) = y35 at E
          generalize a'.eval (.tmp 36) = y36 at E
          generalize a'.eval (.tmp 37) = y37 at E
          generalize a'.eval (.tmp 38) = y38 at E
          generalize a'.eval (.tmp 39) = y39 at E
          simp [Act.eval] at E
          subst E
          obtain ⟨hg3, hP3⟩ := hw
          rw [hall 8 (by decide), if_pos rfl] at hP3
          refine unhide HK _ _ ?_
          clear HK hall
          go_wp2
          go_roundw
          case rel => exact ⟨k + 1, by omega, by go_num, hP3, grown_trans (grown_trans hgk hgX) hg3⟩
          case measure => simp [intOf]; omega
      · have : k = n := by omega
        subst this
        go_wp2
        go_ret2
        have hs3 := hgk.size
        refine ⟨N + 1, N, rfl, by omega, by omega, by omega, by omega, by omega, fun j x hx => hgk.cell (hB2 j x hx) (by intro e; have := Option.some.inj e; simp only at this; omega), hPk.done, ?_⟩
        exact ((unhide Hbw).trans ((below_of_grown (unhide Hg1)).mono (by omega))).grown hgk (by omega) (fun j e => by cases e; omega)
end Go.Proofs.Yteoglcelgcjpoaa
