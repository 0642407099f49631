/- The statement's own cleaning; the calls whose answers the document fixes, for layer 19. -/
import Derived.Test.YthafffnebaaeiaaDoorG19
namespace Go.Proofs.YthafffnebaaeiaaDoor
open Go.RowKit

set_option maxHeartbeats 1000000 in
theorem least_any (w : World) : Calls Tryd.prog 17 #[] w fun e w' => e = .returned (.float .f64 4503599627370496) ∧ w' = w := by
  have hx := run_frombits
  go_enter Tryd.func17, Tryd.ntmps17
  go_wp2
  go_ret
  exact ⟨rfl, rfl⟩
def secA : Nat → Sec := fun _ => ⟨z1, z0, z0, (lf 13826050856027422720, lf 0), z0⟩
theorem fin_1 : FinV (.complex .f64 4607182418800017408 0) := ⟨_, _, rfl, by omega, by omega, by decide⟩
theorem fin_c0 : FinV c0 := ⟨_, _, rfl, by omega, by omega, by decide⟩
theorem fin_a1 : FinV (.complex .f64 13826050856027422720 0) := ⟨_, _, rfl, by omega, by omega, by decide⟩
theorem secs_A {w : World} {b c : Nat} (hb : b < w.heap.size) (h : w.rangeAt b 0 [.complex .f64 4607182418800017408 0, c0, c0, .complex .f64 13826050856027422720 0, c0]) : SecsIs w (.slice (some ⟨b, 0, none⟩) 1 c) 1 secA := by
  refine ⟨_, c, rfl, fun i hi => ?_⟩
  obtain rfl : i = 0 := by omega
  exact ⟨b, _, _, _, _, _, rfl, hb, h, fin_1, fin_c0, fin_c0, fin_a1, fin_c0, c1_is, c0_is, c0_is, CIs.of _ _ (by omega) (by omega), c0_is⟩
theorem results_cellA {fn : Func} {a : Nat} {t : TypeId} (h : fn.results = #[.cell a t]) {tmps : Array Value} {b : Nat} {v : Value} {w : World} (hp : tmps.getD a undef = .pointer (some ⟨b, 0, none⟩)) (hl : (loadVar t ⟨b, 0, none⟩).run Tryd.prog w = .ok v w) :
    (results fn tmps).run Tryd.prog w = .ok v w := by
  rw [Array.getD_eq_getD_getElem?] at hp
  simp [results, h, hp, asAddr, hl]
theorem info_filt2 : (Tryd.prog.info? 40).map (·.size) = some 2 := by kernel_rfl
set_option maxRecDepth 100000 in
set_option maxHeartbeats 1000000 in
theorem half19 (w : World) : Calls Tryd.prog 12 #[] w fun e w' => ∃ b, e = .returned (.agg #[.complex .f64 4607182418800017408 0, .slice (some ⟨b, 0, none⟩) 1 1]) ∧ w.heap.size ≤ b ∧ SecsIs w' (.slice (some ⟨b, 0, none⟩) 1 1) 1 secA ∧ Below w.heap.size w w' := by
  have hsc := run_store_c
  go_enter Tryd.func12, Tryd.ntmps12
  go_wp2
  clear hsc
  refine bodyPost_ret (results_cellA rfl (b := w.heap.size) rfl (run_loadVar_mid _ w.heap.size 0 40 [.complex .f64 4607182418800017408 0, .slice (some ⟨w.heap.size + 1, 0, none⟩) 1 1] _ ?_ Tryd.underlying40 rfl info_filt2)) rfl ?_
  · intro j x hx
    have hj : j < 2 := (List.getElem?_eq_some_iff.1 hx).1
    rcases (by omega : j = 0 ∨ j = 1) with rfl | rfl <;> (obtain rfl := Option.some.inj hx; go_simp)
  · refine ⟨w.heap.size + 1, rfl, by omega, secs_A ?_ ?_, ?_⟩
    · simp
    · intro j x hx
      have hj : j < 5 := (List.getElem?_eq_some_iff.1 hx).1
      rcases (by omega : j = 0 ∨ j = 1 ∨ j = 2 ∨ j = 3 ∨ j = 4) with rfl | rfl | rfl | rfl | rfl <;> (obtain rfl := Option.some.inj hx; (try unfold c0); go_simp)
    · exact ((Below.refl _ w).alloc (Nat.le_refl _) _).alloc (by simp) _

/-- The least normal number, and nought behind it. -/
def lX : Nat → C2 := fun j => if j = 0 then (lf 4503599627370496, lf 0) else z0
def gFl : Gu := ⟨true, false, false⟩
theorem aw_c : wCntN gFl z1 1 secA rest0 lX 2 = 1 := by kernel_rfl
theorem aw_a0 : wAnsN gFl z1 1 secA rest0 lX 0 = (lf 4503599627370496, lf 0) := by kernel_rfl
theorem aw_a1 : wAnsN gFl z1 1 secA rest0 lX 1 = z0 := by kernel_rfl

set_option maxRecDepth 100000 in
set_option maxHeartbeats 4000000 in
theorem awake19 (w : World) : Calls Tryd.prog 4 #[] w fun e w' => e = .returned (.bool true) ∧ Below w.heap.size w w' := by
  have hsc := run_store_c
  go_enter Tryd.func4, Tryd.ntmps4
  go_wp2_with fail
  refine (half19 _).mono ?_
  rintro e w1 ⟨b, rfl, hbw, hS1, hb1⟩
  have H1 := hide (And.intro hS1 hb1)
  clear hS1 hb1
  go_wp2_with fail
  obtain ⟨hS1, hb1⟩ := unhide H1
  refine (gnew_any 4607182418800017408 0 1 _ gFl z1 secA w1 fin_1 c1_is hS1 (by omega)).mono ?_
  rintro e w2 ⟨B, L, rfl, hG2, hb2⟩
  have hs1 := hb1.size
  have hbw2 : Below w.heap.size w w2 := hb1.trans (hb2.mono hs1)
  have H2 := hide (And.intro hG2 hbw2)
  clear hG2 hb2 hbw2 hS1 hb1 H1
  go_wp2_with fail
  refine (least_any _).mono ?_
  rintro e w3 ⟨rfl, rfl⟩
  go_wp2_with fail
  obtain ⟨hG2, hbw2⟩ := unhide H2
  have hGl := hG2.lt
  obtain ⟨W, hW⟩ : ∃ W, W = w3.alloc (Obj.cells #[.complex .f64 4503599627370496 0, .complex .f64 0 0] 26) := ⟨_, rfl⟩
  rw [← hW]
  have hbW : Below w3.heap.size w3 W := by rw [hW]; exact (Below.refl _ _).alloc (Nat.le_refl _) _
  have hsW : W.heap.size = w3.heap.size + 1 := by rw [hW]; simp
  have x0 : W.cell? ⟨w3.heap.size, 0, none⟩ = some (.complex .f64 4503599627370496 0) := by rw [hW]; go_simp
  have x1 : W.cell? ⟨w3.heap.size, 1, none⟩ = some (.complex .f64 0 0) := by rw [hW]; go_simp
  clear hW
  have hX : ListIs W (.slice (some ⟨w3.heap.size, 0, none⟩) 2 2) 2 lX := ⟨_, 2, rfl, fun j hj => by
    rcases (by omega : j = 0 ∨ j = 1) with rfl | rfl
    · exact ⟨w3.heap.size, 0, _, rfl, by omega, x0, CIs.of _ _ (by omega) (by omega)⟩
    · exact ⟨w3.heap.size, 0, _, rfl, by omega, x1, c0_is⟩⟩
  refine (grun_any w1.heap.size w3.heap.size B L 1 0 2 _ gFl z1 lX secA rest0 W (hG2.below hbW) hX ?_ ?_ (by omega) (by omega) (by omega)).mono ?_
  · intro _ b' off mm cc e
    have : w3.heap.size = b' := by simp at e; omega
    omega
  · intro _ b' off mm cc e
    have : w3.heap.size = b' := by simp at e; omega
    omega
  rintro e w4 ⟨A, rfl, hA1, hA2, hans, hG4, hap⟩
  have hbw4 : Below w.heap.size w w4 := hap.below (hbw2.trans (hbW.mono hbw2.size)) (by have := hbw2.size; omega) (by omega) (by omega)
  rw [aw_c] at hG4
  have H4 := hide (And.intro hans (And.intro hG4 hbw4))
  clear hans hG4 hbw4 hap hX hbw2 hG2 H2 x0 x1 hbW
  go_wp2_with fail
  refine (least_any _).mono ?_
  rintro e w5 ⟨rfl, rfl⟩
  go_wp2_with fail
  obtain ⟨hans, hG4, hbw4⟩ := unhide H4
  obtain ⟨W2, hW2⟩ : ∃ W2, W2 = w5.alloc (Obj.cells #[.complex .f64 4503599627370496 0, .complex .f64 0 0] 26) := ⟨_, rfl⟩
  rw [← hW2]
  have hbW2 : Below w5.heap.size w5 W2 := by rw [hW2]; exact (Below.refl _ _).alloc (Nat.le_refl _) _
  have x0 : W2.cell? ⟨w5.heap.size, 0, none⟩ = some (.complex .f64 4503599627370496 0) := by rw [hW2]; go_simp
  have x1 : W2.cell? ⟨w5.heap.size, 1, none⟩ = some (.complex .f64 0 0) := by rw [hW2]; go_simp
  clear hW2
  refine (sameAll_any A w5.heap.size 2 2 2 lX W2 (by omega) (fun j hj => ?_) (fun j hj => ?_)).mono ?_
  · rcases (by omega : j = 0 ∨ j = 1) with rfl | rfl
    · obtain ⟨u, h1, h2⟩ := hans 0 (by omega)
      rw [aw_a0] at h2
      exact ⟨u, (hbW2.cell (by exact hA2)).trans h1, h2⟩
    · obtain ⟨u, h1, h2⟩ := hans 1 (by omega)
      rw [aw_a1] at h2
      exact ⟨u, (hbW2.cell (by exact hA2)).trans h1, h2⟩
  · rcases (by omega : j = 0 ∨ j = 1) with rfl | rfl
    · exact ⟨_, x0, CIs.of _ _ (by omega) (by omega)⟩
    · exact ⟨_, x1, c0_is⟩
  rintro e w6 ⟨rfl, hst⟩
  have hG6 := (hG4.below hbW2).still hst
  have hbw6 : Below w.heap.size w w6 := (hbw4.trans (hbW2.mono hbw4.size)).trans (hst _)
  have Hc := hide (changedG hG6)
  have Hs := hide (statesG hG6 (by omega))
  have H6 := hide hbw6
  clear hans hG4 hbw4 hbW2 x0 x1 hst hG6 hbw6 H4
  go_wp2_with fail
  refine (unhide Hc).mono ?_
  rintro e w7 ⟨rfl, rfl⟩
  go_wp2_with fail
  refine (unhide Hs).mono ?_
  rintro e w8 ⟨A8, rfl, h1, h2, h3, h4⟩
  have H8 := hide ((unhide H6).trans (h4.mono (unhide H6).size))
  clear h1 h2 h3 h4
  go_wp2
  go_ret
  exact ⟨rfl, unhide H8⟩
end Go.Proofs.YthafffnebaaeiaaDoor
