/- GuardFixed: the walk. -/
import Derived.Test.YthafffnebaaeiaaDoorGfx
import Derived.BigQuiet
import Derived.Deep.QuietTactic
namespace Go.Proofs.YthafffnebaaeiaaDoor
open Go.RowKit

def gCl : Gu := ⟨false, true, false⟩
def mX : Nat → C2 := fun _ => (lf 9218868437227405311, lf 0)
theorem cl_c : wCntN gCl z1 1 secA rest0 mX 2 = 2 := by kernel_rfl
theorem cl_a0 : wAnsN gCl z1 1 secA rest0 mX 0 = (lf 9218868437227405311, lf 0) := by kernel_rfl
theorem cl_a1 : wAnsN gCl z1 1 secA rest0 mX 1 = (lf 9218868437227405311, lf 0) := by kernel_rfl
theorem cl_s : (wStN gCl z1 1 secA rest0 mX 2 0).1 = (lf 9218868437227405311, lf 9221120237041090561) := by kernel_rfl
theorem op_a : wAnsN gNone z1 1 secA rest0 lX 1 = (some 2251799813685248, some 0) := by kernel_rfl
def zG : C2 := (lf 4611686018427387904, lf 0)
def bX : Nat → C2 := fun _ => (lf 1, lf 9218868437227405312)
theorem ba_a : wAnsN gAll zG 0 secA rest0 bX 0 = (none, some 9218868437227405312) := by kernel_rfl
theorem ba_c : wCntN gAll zG 0 secA rest0 bX 1 = 0 := by kernel_rfl
theorem q_1 : clb ⟨true, false, false⟩ 1 = (0, 1) := by decide
theorem q_2 : clb ⟨true, false, false⟩ 9223389629040820224 = (9223372036854775808, 1) := by decide
theorem q_3 : clb ⟨false, true, false⟩ 18442240474082181120 = (18442240474082181119, 1) := by decide
theorem q_4 : clb ⟨false, true, false⟩ 1 = (1, 0) := by decide
theorem q_5 : clb ⟨false, false, true⟩ 9221120237041090561 = (0, 1) := by decide
theorem q_6 : clb ⟨false, false, true⟩ 9218868437227405312 = (9218868437227405312, 0) := by decide
theorem q_7 : clb ⟨false, false, false⟩ 9221120237041090561 = (9221120237041090561, 0) := by decide
theorem q_8 : clb ⟨false, false, false⟩ 9218868437227405312 = (9218868437227405312, 0) := by decide
theorem sgb_one : sgb 13830554455654793216 = 9223372036854775808 := by decide
theorem CIs.bit {u : Value} {z : C2} {r : Nat} (h : CIs u z) (hz : z.1 = some r) : ∃ i, u = .complex .f64 r i := by
  obtain ⟨a, b, rfl, _, _, h1, _⟩ := h
  rw [hz] at h1
  unfold lf at h1
  split at h1
  · cases h1
  · obtain rfl := Option.some.inj h1
    exact ⟨b, rfl⟩
theorem same_lit (r i : Nat) (hr : r < 18446744073709551616) (hi : i < 18446744073709551616) (w : World) : Calls Tryd.prog 9 #[.complex .f64 r i, .complex .f64 r i] w fun e w' => e = .returned (.bool true) ∧ w' = w := rSameC (CIs.of r i hr hi) (CIs.of r i hr hi) w
theorem made_5 (m j : Nat) (hj : j < m) : (madeCells (Value.agg #[c0, c0, c0, c0, c0]).cells m)[j]? = some c0 := by
  have h7 : j % 5 < 5 := Nat.mod_lt _ (by omega)
  simp only [madeCells, Array.getElem?_map, Array.getElem?_range, hj, if_true, Option.map_some, Value.cells]
  congr 1
  have e : (#[c0, c0, c0, c0, c0] : Array Value).size = 5 := rfl
  rw [e]
  generalize j % 5 = r at h7
  rcases (by omega : r = 0 ∨ r = 1 ∨ r = 2 ∨ r = 3 ∨ r = 4) with rfl | rfl | rfl | rfl | rfl <;> rfl
theorem make_17 (w : World) : ∃ W, (Instr.makeSlice 38 (.int .i64 17) (.int .i64 17)).run Tryd.prog w = .ok (.slice (some ⟨w.heap.size, 0, none⟩) 17 17) W ∧ (∀ j, j < 85 → W.cell? ⟨w.heap.size, j, none⟩ = some c0 ∧ W.frozen? ⟨w.heap.size, j, none⟩ = false) ∧ Below w.heap.size w W ∧ W.heap.size = w.heap.size + 1 := by
  obtain ⟨i0, hi, hz0, hz1, hz2⟩ := info_parts infoz_sec5
  have h := run_make (P := Tryd.prog) w 38 52 i0 _ Tryd.underlying38 hi hz0 .i64 .i64 17 17 (by omega) (by omega) (by rw [hz2]; omega) (by omega)
  rw [hz1] at h
  refine ⟨_, h, fun j hj => ?_, (Below.refl _ w).alloc (Nat.le_refl _) _, by simp⟩
  rw [cell_of_row _ w.heap.size _ _ _ _ (heap_alloc_new _ _), frozen_of_row _ _ _ _ _ (heap_alloc_new _ _)]
  exact ⟨made_5 _ _ hj, rfl⟩
/-- The variable with all flags. -/
def AllAt (w : World) : Prop := w.cell? ⟨0, 0, none⟩ = some (.bool true) ∧ w.cell? ⟨0, 1, none⟩ = some (.bool true) ∧ w.cell? ⟨0, 2, none⟩ = some (.bool true)

theorem AllAt.below {w w' : World} {N : Nat} (h : AllAt w) (hb : Below N w w') (hN : 0 < N) : AllAt w' :=
  ⟨(hb.cell (by exact hN)).trans h.1, (hb.cell (by exact hN)).trans h.2.1, (hb.cell (by exact hN)).trans h.2.2⟩
set_option maxRecDepth 100000 in
set_option maxHeartbeats 8000000 in
theorem fixed_any (w : World) (hall : AllAt w) : Calls Tryd.prog 3 #[] w fun e w' => e = .returned (.bool true) ∧ Below w.heap.size w w' := by
  have h00 := World.block_lt_of_cell? _ _ hall.1
  have h0 : 0 < w.heap.size := h00
  have HA := hide hall
  have H1 := hide (gclean_bits ⟨true, false, false⟩ 1 9223389629040820224 (by omega) (by omega))
  have H2 := hide (gclean_bits ⟨false, true, false⟩ 18442240474082181120 1 (by omega) (by omega))
  have H3 := hide (gclean_bits ⟨false, false, true⟩ 9221120237041090561 9218868437227405312 (by omega) (by omega))
  have H4 := hide (gclean_bits ⟨false, false, false⟩ 9221120237041090561 9218868437227405312 (by omega) (by omega))
  rw [q_1, q_2] at H1
  rw [q_3, q_4] at H2
  rw [q_5, q_6] at H3
  rw [q_7, q_8] at H4
  unfold Gv at H1 H2 H3 H4
  dsimp only at H1 H2 H3 H4
  clear hall h00
  have ng1 : ∀ w, (Op.unary .neg (.float .f64 17592186044416)).run Tryd.prog w = .ok (.float .f64 9223389629040820224) w := fun _ => rfl
  have ng2 : ∀ w, (Op.unary .neg (.float .f64 9218868437227405312)).run Tryd.prog w = .ok (.float .f64 18442240474082181120) w := fun _ => rfl
  go_enter Tryd.func3, Tryd.ntmps3
  go_wp2_with fail
  refine (awake19 _).mono ?_
  rintro e w1 ⟨rfl, hb1⟩
  have B1 := hide hb1
  have s1 := hb1.size
  clear hb1
  go_wp2_with fail
  refine (inf_pos _).mono ?_
  rintro e w2 ⟨rfl, rfl⟩
  go_wp2_with fail
  refine (nan_any _).mono ?_
  rintro e w3 ⟨rfl, rfl⟩
  go_wp2_with fail
  refine (ldexp_run _).mono ?_
  rintro e w4 ⟨rfl, rfl⟩
  have B4 := B1
  have s4 := s1
  clear B1 s1
  go_wp2_with fail
  refine (unhide H1 _).mono ?_
  rintro e w5 ⟨rfl, hb5⟩
  have B5 := hide ((unhide B4).trans (hb5.mono s4))
  have s5 := Nat.le_trans s4 hb5.size
  clear hb5
  go_wp2_with fail
  refine (unhide H2 _).mono ?_
  rintro e w6 ⟨rfl, hb6⟩
  have B6 := hide ((unhide B5).trans (hb6.mono s5))
  have s6 := Nat.le_trans s5 hb6.size
  clear hb6
  go_wp2_with fail
  refine (unhide H3 _).mono ?_
  rintro e w7 ⟨rfl, hb7⟩
  have B7 := hide ((unhide B6).trans (hb7.mono s6))
  have s7 := Nat.le_trans s6 hb7.size
  clear hb7
  go_wp2_with fail
  refine (unhide H4 _).mono ?_
  rintro e w8 ⟨rfl, hb8⟩
  have B8 := hide ((unhide B7).trans (hb8.mono s7))
  have s8 := Nat.le_trans s7 hb8.size
  clear hb8
  go_wp2_with fail
  have Hcs := hide (copysign_zero 13830554455654793216 (by omega))
  rw [sgb_one] at Hcs
  refine (unhide Hcs _).mono ?_
  rintro e w9 ⟨rfl, rfl⟩
  go_wp2_with fail
  refine (same_lit _ _ (by omega) (by omega) _).mono ?_
  rintro e w10 ⟨rfl, rfl⟩
  go_wp2_with fail
  refine (same_lit _ _ (by omega) (by omega) _).mono ?_
  rintro e w11 ⟨rfl, rfl⟩
  go_wp2_with fail
  refine (same_lit _ _ (by omega) (by omega) _).mono ?_
  rintro e w12 ⟨rfl, rfl⟩
  go_wp2_with fail
  refine (same_lit _ _ (by omega) (by omega) _).mono ?_
  rintro e w13 ⟨rfl, rfl⟩
  go_wp2_with fail
  refine (half19 _).mono ?_
  rintro e w14 ⟨b, rfl, hbb, hS14, hb14⟩
  have B14 := hide ((unhide B8).trans (hb14.mono s8))
  have s14 := Nat.le_trans s8 hb14.size
  have HS14 := hide hS14
  clear hS14 hb14 B8
  go_wp2_with fail
  refine (gnew_any 4607182418800017408 0 1 _ gCl z1 secA w14 fin_1 c1_is (unhide HS14) (by omega)).mono ?_
  rintro e w15 ⟨B, L, rfl, hG15, hb15⟩
  have hGl := hG15.lt
  have B15 := hide ((unhide B14).trans (hb15.mono s14))
  have s15 := Nat.le_trans s14 hb15.size
  have HG15 := hide hG15
  clear hG15 hb15 B14
  go_wp2_with fail
  obtain ⟨W, hW⟩ : ∃ W, W = w15.alloc (Obj.cells #[.complex .f64 9218868437227405311 0, .complex .f64 9218868437227405311 0] 26) := ⟨_, rfl⟩
  rw [← hW]
  have hbW : Below w15.heap.size w15 W := by rw [hW]; exact (Below.refl _ _).alloc (Nat.le_refl _) _
  have hsW : W.heap.size = w15.heap.size + 1 := by rw [hW]; simp
  have x0 : W.cell? ⟨w15.heap.size, 0, none⟩ = some (.complex .f64 9218868437227405311 0) := by rw [hW]; go_simp
  have x1 : W.cell? ⟨w15.heap.size, 1, none⟩ = some (.complex .f64 9218868437227405311 0) := by rw [hW]; go_simp
  clear hW
  have hX : ListIs W (.slice (some ⟨w15.heap.size, 0, none⟩) 2 2) 2 mX := ⟨_, 2, rfl, fun j hj => by
    rcases (by omega : j = 0 ∨ j = 1) with rfl | rfl
    · exact ⟨w15.heap.size, 0, _, rfl, by omega, x0, CIs.of _ _ (by omega) (by omega)⟩
    · exact ⟨w15.heap.size, 0, _, rfl, by omega, x1, CIs.of _ _ (by omega) (by omega)⟩⟩
  refine (grun_any _ _ B L 1 0 2 _ gCl z1 mX secA rest0 W ((unhide HG15).below hbW) hX ?_ ?_ (by omega) (by omega) (by omega)).mono ?_
  · intro _ b' off mm cc e
    have : w15.heap.size = b' := by simp at e; omega
    omega
  · intro _ b' off mm cc e
    have : w15.heap.size = b' := by simp at e; omega
    omega
  rintro e w16 ⟨A, rfl, hA1, hA2, hans, hG16, hap⟩
  have B16 := hide (hap.below ((unhide B15).trans (hbW.mono s15)) (by omega) (by omega) (by omega))
  have s16 : w.heap.size ≤ w16.heap.size := by have := hap.size; omega
  rw [cl_c] at hG16
  have H16 := hide (And.intro hans hG16)
  clear hans hG16 hap hX x0 x1 hbW HG15 B15
  go_wp2_with fail
  obtain ⟨hans, hG16⟩ := unhide H16
  obtain ⟨W2, hW2⟩ : ∃ W2, W2 = w16.alloc (Obj.cells #[.complex .f64 9218868437227405311 0, .complex .f64 9218868437227405311 0] 26) := ⟨_, rfl⟩
  rw [← hW2]
  have hbW2 : Below w16.heap.size w16 W2 := by rw [hW2]; exact (Below.refl _ _).alloc (Nat.le_refl _) _
  have x0 : W2.cell? ⟨w16.heap.size, 0, none⟩ = some (.complex .f64 9218868437227405311 0) := by rw [hW2]; go_simp
  have x1 : W2.cell? ⟨w16.heap.size, 1, none⟩ = some (.complex .f64 9218868437227405311 0) := by rw [hW2]; go_simp
  clear hW2
  refine (sameAll_any A w16.heap.size 2 2 2 mX W2 (by omega) (fun j hj => ?_) (fun j hj => ?_)).mono ?_
  · rcases (by omega : j = 0 ∨ j = 1) with rfl | rfl
    · obtain ⟨u, h1, h2⟩ := hans 0 (by omega)
      rw [cl_a0] at h2
      exact ⟨u, (hbW2.cell (by exact hA2)).trans h1, h2⟩
    · obtain ⟨u, h1, h2⟩ := hans 1 (by omega)
      rw [cl_a1] at h2
      exact ⟨u, (hbW2.cell (by exact hA2)).trans h1, h2⟩
  · rcases (by omega : j = 0 ∨ j = 1) with rfl | rfl
    · exact ⟨_, x0, CIs.of _ _ (by omega) (by omega)⟩
    · exact ⟨_, x1, CIs.of _ _ (by omega) (by omega)⟩
  rintro e w17 ⟨rfl, hst⟩
  have hG17 := (hG16.below hbW2).still hst
  have B17 := hide (((unhide B16).trans (hbW2.mono s16)).trans (hst _))
  have s17 : w.heap.size ≤ w17.heap.size := (unhide B17).size
  have Hc := hide (changedG hG17)
  have Hs := hide (statesG hG17 (by omega))
  clear hans hG16 hbW2 x0 x1 hst hG17 H16 B16
  go_wp2_with fail
  refine (unhide Hc).mono ?_
  rintro e w18 ⟨rfl, rfl⟩
  go_wp2_with fail
  refine (unhide Hs).mono ?_
  rintro e w19 ⟨A19, rfl, ha1, ha2, hst19, hb19⟩
  have B19 := hide ((unhide B17).trans (hb19.mono s17))
  have s19 := Nat.le_trans s17 hb19.size
  obtain ⟨p, q, hr19, hp19, hq19⟩ := hst19 0 (by omega)
  rw [cl_s] at hp19
  obtain ⟨p1, p2, rfl, _⟩ := id hp19
  obtain ⟨q1, q2, rfl, _⟩ := id hq19
  have y0 : w19.cell? ⟨A19, 0, none⟩ = some (.complex .f64 p1 p2) := hr19 0 _ rfl
  have y1 : w19.cell? ⟨A19, 1, none⟩ = some (.complex .f64 q1 q2) := hr19 1 _ rfl
  have Hsm := hide (rSameC hp19 (CIs.of 9218868437227405311 9221120237041090561 (by omega) (by omega)))
  clear hst19 hb19 hr19 hp19 hq19 B17 Hc Hs
  go_wp2_with fail
  refine (unhide Hsm _).mono ?_
  rintro e w20 ⟨rfl, rfl⟩
  clear y0 y1 Hsm
  go_wp2_with fail
  refine (half19 _).mono ?_
  rintro e w21 ⟨bo, rfl, hbo, hS21, hb21⟩
  have B21 := hide ((unhide B19).trans (hb21.mono s19))
  have s21 := Nat.le_trans s19 hb21.size
  have HS21 := hide hS21
  clear hS21 hb21 B19
  go_wp2_with fail
  refine (gnew_any 4607182418800017408 0 1 _ gNone z1 secA w21 fin_1 c1_is (unhide HS21) (by omega)).mono ?_
  rintro e w22 ⟨Bo, Lo, rfl, hG22, hb22⟩
  have hGo := hG22.lt
  have B22 := hide ((unhide B21).trans (hb22.mono s21))
  have s22 := Nat.le_trans s21 hb22.size
  have HG22 := hide hG22
  clear hG22 hb22 B21
  go_wp2_with fail
  refine (least_any _).mono ?_
  rintro e w23 ⟨rfl, rfl⟩
  go_wp2_with fail
  obtain ⟨W3, hW3⟩ : ∃ W3, W3 = w23.alloc (Obj.cells #[.complex .f64 4503599627370496 0, .complex .f64 0 0] 26) := ⟨_, rfl⟩
  rw [← hW3]
  have hbW3 : Below w23.heap.size w23 W3 := by rw [hW3]; exact (Below.refl _ _).alloc (Nat.le_refl _) _
  have hsW3 : W3.heap.size = w23.heap.size + 1 := by rw [hW3]; simp
  have x0 : W3.cell? ⟨w23.heap.size, 0, none⟩ = some (.complex .f64 4503599627370496 0) := by rw [hW3]; go_simp
  have x1 : W3.cell? ⟨w23.heap.size, 1, none⟩ = some (.complex .f64 0 0) := by rw [hW3]; go_simp
  clear hW3
  have hX : ListIs W3 (.slice (some ⟨w23.heap.size, 0, none⟩) 2 2) 2 lX := ⟨_, 2, rfl, fun j hj => by
    rcases (by omega : j = 0 ∨ j = 1) with rfl | rfl
    · exact ⟨w23.heap.size, 0, _, rfl, by omega, x0, CIs.of _ _ (by omega) (by omega)⟩
    · exact ⟨w23.heap.size, 0, _, rfl, by omega, x1, c0_is⟩⟩
  refine (grun_any _ _ Bo Lo 1 0 2 _ gNone z1 lX secA rest0 W3 ((unhide HG22).below hbW3) hX ?_ ?_ (by omega) (by omega) (by omega)).mono ?_
  · intro _ b' off mm cc e
    have : w23.heap.size = b' := by simp at e; omega
    omega
  · intro _ b' off mm cc e
    have : w23.heap.size = b' := by simp at e; omega
    omega
  rintro e w24 ⟨Ao, rfl, hAo1, hAo2, hano, hG24, hap24⟩
  have B24 := hide (hap24.below ((unhide B22).trans (hbW3.mono s22)) (by omega) (by omega) (by omega))
  have s24 : w.heap.size ≤ w24.heap.size := by have := hap24.size; omega
  obtain ⟨uo, ho1, ho2⟩ := hano 1 (by omega)
  rw [op_a] at ho2
  obtain ⟨io, rfl⟩ := ho2.bit rfl
  have c24 : w24.cell? ⟨Ao, 1, none⟩ = some (.complex .f64 2251799813685248 io) := ho1
  clear hano hG24 hap24 hX x0 x1 hbW3 HG22 B22 ho1 ho2
  obtain ⟨W4, hmk, hm4, hbm4, hsm4⟩ := make_17 w24
  have z13 := hm4 13 (by omega)
  have z13a := z13.1
  have z13b := z13.2
  have hsc := run_store_c
  clear z13
  have hA4 := ((unhide HA).below (unhide B24) h0).below hbm4 (by omega)
  obtain ⟨g40, g41, g42⟩ := hA4
  have h24 : w24.heap.size ≠ 0 := by omega
  have h24' : ¬ (0 = w24.heap.size) := by omega
  have HM := hide (And.intro hm4 hbm4)
  clear hm4 hbm4
  go_wp2_with fail
  obtain ⟨hm4, hbm4⟩ := unhide HM
  obtain ⟨W5, hW5⟩ : ∃ W5, W5 = (W4.setCell ⟨w24.heap.size, 13, none⟩ (.complex .f64 0 9221120237041090561)).alloc (Obj.cells #[.complex .f64 0 0, .slice (some ⟨w24.heap.size, 0, none⟩) 17 17] 40) := ⟨_, rfl⟩
  rw [← hW5]
  have hsz4 : (W4.setCell ⟨w24.heap.size, 13, none⟩ (.complex .f64 0 9221120237041090561)).heap.size = w24.heap.size + 1 := by simp [World.setCell, hsm4]
  have hsz5 : W5.heap.size = w24.heap.size + 2 := by rw [hW5]; simp [hsz4]
  have hrow5 : W5.heap[w24.heap.size + 1]? = some (.cells #[.complex .f64 0 0, .slice (some ⟨w24.heap.size, 0, none⟩) 17 17] 40 (0, 0)) := by
    rw [hW5, ← hsz4]; exact heap_alloc_new _ _
  have hb5 : Below w24.heap.size w24 W5 := by rw [hW5]; exact (hbm4.setCell (Nat.le_refl _) _).alloc (by omega) _
  have hse5 : ∀ j, j < 85 → j ≠ 13 → W5.cell? ⟨w24.heap.size, j, none⟩ = some c0 := fun j hj hne => by
    rw [hW5, World.cell?_alloc_lt _ _ _ (by show w24.heap.size < _; omega), cell_ne (by intro e; exact hne (Addr.mk.inj e).2.1.symm)]
    exact (hm4 j hj).1
  have hse13 : W5.cell? ⟨w24.heap.size, 13, none⟩ = some (.complex .f64 0 9221120237041090561) := by
    rw [hW5, World.cell?_alloc_lt _ _ _ (by show w24.heap.size < _; omega)]
    exact cell_eq (hm4 13 (by omega)).1
  have hm50 : W5.cell? ⟨w24.heap.size + 1, 0, none⟩ = some (.complex .f64 0 0) := by rw [cell_of_row _ _ _ _ _ _ hrow5]; rfl
  have hm51 : W5.cell? ⟨w24.heap.size + 1, 1, none⟩ = some (.slice (some ⟨w24.heap.size, 0, none⟩) 17 17) := by rw [cell_of_row _ _ _ _ _ _ hrow5]; rfl
  have hm5f : W5.frozen? ⟨w24.heap.size + 1, 1, none⟩ = false := frozen_of_row _ _ _ _ _ hrow5
  have hA5 := ((unhide HA).below (unhide B24) h0).below hb5 (by omega)
  have c25 : W5.cell? ⟨Ao, 1, none⟩ = some (.complex .f64 2251799813685248 io) := (hb5.cell (by exact hAo2)).trans c24
  have B5' := hide ((unhide B24).trans (hb5.mono s24))
  clear hW5 hm4 hbm4 HM hb5 hrow5 B24 c24 g40 g41 g42 z13a z13b hmk
  refine (gnew_err 0 0 17 17 (some ⟨w24.heap.size, 0, none⟩) true true true 2 W5 (.inl rfl) (fun w' _ => cnew_long 0 0 17 17 _ w' (by omega))).mono ?_
  rintro e w25 ⟨rfl, hb25⟩
  have hw25s := hb25.size
  have n50 : w25.cell? ⟨w24.heap.size + 1, 0, none⟩ = some (.complex .f64 0 0) := (hb25.cell (by show w24.heap.size + 1 < _; omega)).trans hm50
  have n51 : w25.cell? ⟨w24.heap.size + 1, 1, none⟩ = some (.slice (some ⟨w24.heap.size, 0, none⟩) 17 17) := (hb25.cell (by show w24.heap.size + 1 < _; omega)).trans hm51
  have n5f : w25.frozen? ⟨w24.heap.size + 1, 1, none⟩ = false := (hb25.frozen (by show w24.heap.size + 1 < _; omega)).trans hm5f
  have hA25 := hA5.below hb25 (by omega)
  obtain ⟨g50, g51, g52⟩ := id hA25
  have hse : ∀ j, j < 85 → j ≠ 13 → w25.cell? ⟨w24.heap.size, j, none⟩ = some c0 := fun j hj hne => (hb25.cell (by show w24.heap.size < _; omega)).trans (hse5 j hj hne)
  have hse13' : w25.cell? ⟨w24.heap.size, 13, none⟩ = some (.complex .f64 0 9221120237041090561) := (hb25.cell (by show w24.heap.size < _; omega)).trans hse13
  have c26 : w25.cell? ⟨Ao, 1, none⟩ = some (.complex .f64 2251799813685248 io) := (hb25.cell (by show Ao < _; omega)).trans c25
  have B25 := hide ((unhide B5').trans (hb25.mono (by omega)))
  have H25 := hide (And.intro hse (And.intro hse13' (And.intro hA25 c26)))
  clear hb25 hse hse13' hA25 c26 hse5 hse13 hm50 hm51 hm5f hA5 c25 B5'
  go_wp2_with fail
  obtain ⟨hse, hse13, hA25, c26⟩ := unhide H25
  obtain ⟨W6, hW6⟩ : ∃ W6, W6 = w25.setCell ⟨w24.heap.size + 1, 1, none⟩ (.slice (some ⟨w24.heap.size, 0, none⟩) 16 17) := ⟨_, rfl⟩
  rw [← hW6]
  have hne6 : ∀ (bb j : Nat) (v : Value), bb ≠ w24.heap.size + 1 → w25.cell? ⟨bb, j, none⟩ = some v → W6.cell? ⟨bb, j, none⟩ = some v := fun bb j v hn h => by
    rw [hW6, cell_ne (by intro e; exact hn (Addr.mk.inj e).1.symm)]; exact h
  have hs6 : W6.heap.size = w25.heap.size := by rw [hW6]; simp [World.setCell]
  have B6' := hide (show Below w.heap.size w W6 by rw [hW6]; exact (unhide B25).setCell (by show w.heap.size ≤ w24.heap.size + 1; omega) _)
  have hA6 : AllAt W6 := ⟨hne6 0 0 _ (by omega) hA25.1, hne6 0 1 _ (by omega) hA25.2.1, hne6 0 2 _ (by omega) hA25.2.2⟩
  have c27 := hne6 Ao 1 _ (by omega) c26
  have hq6 : ∀ j, j < 85 → j ≠ 13 → W6.cell? ⟨w24.heap.size, j, none⟩ = some c0 := fun j hj hn => hne6 _ _ _ (by omega) (hse j hj hn)
  have hq13 : W6.cell? ⟨w24.heap.size, 13, none⟩ = some (.complex .f64 0 9221120237041090561) := hne6 _ _ _ (by omega) hse13
  have hfin6 : ∀ w', Below W6.heap.size W6 w' → Calls Tryd.prog 35 #[.agg #[.complex .f64 0 0, .slice (some ⟨w24.heap.size, 0, none⟩) 16 17]] w' fun e w'' => e = .returned (.bool false) ∧ Below w'.heap.size w' w'' := fun w' hb' => by
    have hcell : ∀ j v, W6.cell? ⟨w24.heap.size, j, none⟩ = some v → w'.cell? ⟨w24.heap.size, j, none⟩ = some v := fun j v h => (hb'.cell (by show w24.heap.size < _; omega)).trans h
    refine cfinite_sec 0 0 16 17 w24.heap.size 2 w' (by omega) (by omega) (by have := hb'.size; omega) (fun i hi => ⟨c0, c0, c0, c0, c0, fun j x hx => ?_, fin_c0, fin_c0, fin_c0, fin_c0, fin_c0⟩) ⟨c0, c0, c0, .complex .f64 0 9221120237041090561, c0, fun j x hx => ?_, fin_c0, fin_c0, fin_c0, ⟨_, _, rfl, by omega, by omega, by decide⟩, fin_c0⟩
    · have hj : j < 5 := (List.getElem?_eq_some_iff.1 hx).1
      have hx' : x = c0 := by rcases (by omega : j = 0 ∨ j = 1 ∨ j = 2 ∨ j = 3 ∨ j = 4) with rfl | rfl | rfl | rfl | rfl <;> exact (Option.some.inj hx).symm
      rw [hx']
      exact hcell _ _ (hq6 _ (by omega) (by omega))
    · have hj : j < 5 := (List.getElem?_eq_some_iff.1 hx).1
      rcases (by omega : j = 3 ∨ j ≠ 3) with rfl | hj3
      · obtain rfl := Option.some.inj hx
        exact hcell _ _ hq13
      · have hx' : x = c0 := by rcases (by omega : j = 0 ∨ j = 1 ∨ j = 2 ∨ j = 4) with rfl | rfl | rfl | rfl <;> exact (Option.some.inj hx).symm
        rw [hx']
        exact hcell _ _ (hq6 _ (by omega) (by omega))
  clear hse hse13 hA25 c26 H25 hW6 hq6 hq13 hne6 n50 n51 n5f g50 g51 g52 B25
  refine (gnew_err 0 0 16 17 (some ⟨w24.heap.size, 0, none⟩) true true true 5 W6 (.inr rfl) (fun w' hb' => cnew_nan 0 0 16 17 _ w' (by omega) (fun w'' hb'' => hfin6 w'' (hb'.trans (hb''.mono hb'.size))))).mono ?_
  rintro e w26 ⟨rfl, hb26⟩
  have hw26s := hb26.size
  have hA26 := hA6.below hb26 (by omega)
  obtain ⟨g60, g61, g62⟩ := id hA26
  have c28 : w26.cell? ⟨Ao, 1, none⟩ = some (.complex .f64 2251799813685248 io) := (hb26.cell (by show Ao < _; omega)).trans c27
  have B26 := hide ((unhide B6').trans (hb26.mono (by omega)))
  have H26 := hide (And.intro hA26 c28)
  clear hb26 hA26 c28 hA6 c27 hfin6 B6'
  go_wp2_with fail
  refine (gnew_err 9218868437227405312 0 0 0 none true true true 5 w26 (.inr rfl) (fun w' _ => cnew_nan _ _ 0 0 none w' (by omega) (fun w'' _ => cfinite_gain _ _ w'' ⟨_, _, rfl, by omega, by omega, by decide⟩))).mono ?_
  rintro e w27 ⟨rfl, hb27⟩
  have hw27s := hb27.size
  obtain ⟨hA26, c28⟩ := unhide H26
  have hA27 := hA26.below hb27 (by omega)
  obtain ⟨g70, g71, g72⟩ := id hA27
  have c29 : w27.cell? ⟨Ao, 1, none⟩ = some (.complex .f64 2251799813685248 io) := (hb27.cell (by show Ao < _; omega)).trans c28
  have B27 := hide ((unhide B26).trans (hb27.mono (by omega)))
  clear hb27 hA26 c28 hA27 H26 B26 g60 g61 g62
  have Hc29 := hide c29
  clear c29
  go_wp2_with fail
  have hS27 : SecsIs w27 (.slice none 0 0) 0 secA := ⟨none, 0, rfl, fun i hi => by omega⟩
  refine (gnew_any 4611686018427387904 0 0 _ gAll zG secA w27 ⟨_, _, rfl, by omega, by omega, by decide⟩ (CIs.of _ _ (by omega) (by omega)) hS27 (by omega)).mono ?_
  rintro e w28 ⟨Bb, Lb, rfl, hG28, hb28⟩
  have hGb := hG28.lt
  have c30 : w28.cell? ⟨Ao, 1, none⟩ = some (.complex .f64 2251799813685248 io) := (hb28.cell (by show Ao < _; omega)).trans (unhide Hc29)
  have B28 := hide ((unhide B27).trans (hb28.mono (by omega)))
  have hw28s := hb28.size
  have HG28 := hide hG28
  clear hG28 hb28 hS27 B27 Hc29 g70 g71 g72
  have hquo : ∀ w, (binOp .quo 23 (.float .f64 4503599627370496) (.float .f64 4611686018427387904)).run Tryd.prog w = .ok (.float .f64 2251799813685248) w := fun w => run_fl (by kernel_rfl) w
  have hneq : (FloatKind.f64.format.order 2251799813685248 2251799813685248 != some .eq) = false := by kernel_rfl
  go_wp2_with fail
  go_quiet (first | (go_at_call 17; exact Calls.quiet_of_same (least_any _)))
  go_wp2_with fail
  obtain ⟨W7, hW7⟩ : ∃ W7, W7 = (w28.drewN nq).alloc (Obj.cells #[.complex .f64 1 9218868437227405312] 26) := ⟨_, rfl⟩
  rw [← hW7]
  have hdn : Below w28.heap.size w28 (w28.drewN nq) := ⟨rfl, rfl, rfl, Nat.le_refl _, fun _ _ => rfl⟩
  have hbW7 : Below w28.heap.size w28 W7 := by rw [hW7]; exact hdn.alloc hdn.size _
  have hsW7 : W7.heap.size = w28.heap.size + 1 := by rw [hW7]; simp
  have x0 : W7.cell? ⟨w28.heap.size, 0, none⟩ = some (.complex .f64 1 9218868437227405312) := by rw [hW7]; exact (cell_of_row _ w28.heap.size 0 _ _ _ (heap_alloc_new (w28.drewN nq) (Obj.cells #[.complex .f64 1 9218868437227405312] 26))).trans rfl
  clear hW7 hdn c30
  have hX : ListIs W7 (.slice (some ⟨w28.heap.size, 0, none⟩) 1 1) 1 bX := ⟨_, 1, rfl, fun j hj => by
    obtain rfl : j = 0 := by omega
    exact ⟨w28.heap.size, 0, _, rfl, by omega, x0, CIs.of _ _ (by omega) (by omega)⟩⟩
  refine (grun_any _ _ Bb Lb 0 0 1 _ gAll zG bX secA rest0 W7 ((unhide HG28).below hbW7) hX ?_ ?_ (by omega) (by omega) (by omega)).mono ?_
  · intro _ b' off mm cc e
    have : w28.heap.size = b' := by simp at e; omega
    omega
  · intro _ b' off mm cc e
    have : w28.heap.size = b' := by simp at e; omega
    omega
  rintro e w29 ⟨Ab, rfl, hAb1, hAb2, hanb, hG29, hap29⟩
  have B29 := hide (hap29.below ((unhide B28).trans (hbW7.mono (by omega))) (by omega) (by omega) (by omega))
  obtain ⟨ub, hb1, hb2⟩ := hanb 0 (by omega)
  rw [ba_a] at hb2
  rw [ba_c] at hG29
  obtain ⟨ur, ui, rfl, hur, hui, hl1, hl2⟩ := hb2
  obtain rfl : ui = 9218868437227405312 := by
    have hl2' : lf ui = some 9218868437227405312 := hl2
    unfold lf at hl2'
    split at hl2'
    · cases hl2'
    · exact Option.some.inj hl2'
  have hnr : isnan ur = true := by
    have hl1' : lf ur = none := hl1
    unfold lf at hl1'
    split at hl1'
    · assumption
    · cases hl1'
  have hin := isnan_run ur hur
  rw [hnr] at hin
  have Hin := hide hin
  have Hch := hide (changedG hG29)
  have c31 : w29.cell? ⟨Ab, 0, none⟩ = some (.complex .f64 ur 9218868437227405312) := hb1
  clear hanb hG29 hap29 hX x0 hbW7 HG28 B28 hb1 hl1 hl2 hin hnr hur hui
  go_wp2_with fail
  refine (unhide Hin _).mono ?_
  rintro e w30 ⟨rfl, rfl⟩
  go_wp2_with fail
  refine (isinf_1 _).mono ?_
  rintro e w31 ⟨rfl, rfl⟩
  go_wp2_with fail
  refine (unhide Hch).mono ?_
  rintro e w32 ⟨rfl, rfl⟩
  go_wp2_with fail
  refine (run_nil _ _).mono ?_
  rintro e w33 ⟨rfl, rfl⟩
  go_wp2_with fail
  refine (changed_nil _).mono ?_
  rintro e w34 ⟨rfl, rfl⟩
  go_wp2_with fail
  refine (states_nil _).mono ?_
  rintro e w35 ⟨rfl, rfl⟩
  go_wp2
  go_ret
  exact ⟨rfl, (unhide B29).alloc (unhide B29).size _⟩
end Go.Proofs.YthafffnebaaeiaaDoor
