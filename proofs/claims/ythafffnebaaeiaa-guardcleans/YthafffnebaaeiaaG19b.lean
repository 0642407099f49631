/- The statement's own cleaning; the calls whose answers the document fixes, for layer 19. -/
import Derived.Test.YthafffnebaaeiaaG19
namespace Go.Proofs.Ythafffnebaaeiaa
open Go.RowKit

set_option maxRecDepth 100000 in
set_option maxHeartbeats 2000000 in
theorem rclean_bits (g : Gu) (r i : Nat) (hr : r < 18446744073709551616) (hi : i < 18446744073709551616) (w : World) :
    Calls Try.prog 8 #[Gv g, .complex .f64 r i] w fun e w' => e = .returned (.tuple #[.complex .f64 (clb g r).1 (clb g i).1, .int .i64 (((clb g r).2 + (clb g i).2 : Nat) : Int)]) ∧ Below w.heap.size w w' := by
  have h1 := clb_le g r
  have h2 := clb_le g i
  obtain ⟨fl, cp, mu⟩ := g
  have H1 := hide (rpart_any fl cp mu r hr)
  have H2 := hide (rpart_any fl cp mu i hi)
  unfold Gv
  dsimp only
  generalize clb ⟨fl, cp, mu⟩ r = a at *
  generalize clb ⟨fl, cp, mu⟩ i = b at *
  obtain ⟨a1, a2⟩ := a
  obtain ⟨b1, b2⟩ := b
  dsimp only at *
  clear hr hi
  go_enter Try.func8, Try.ntmps8
  go_wp2_with fail
  refine (unhide H1 _).mono ?_
  rintro e w1 ⟨rfl, hb1⟩
  have k0 : w1.cell? ⟨w.heap.size, 0, none⟩ = some (.bool fl) := (hb1.cell (by simp)).trans (by go_simp)
  have k1 : w1.cell? ⟨w.heap.size, 1, none⟩ = some (.bool cp) := (hb1.cell (by simp)).trans (by go_simp)
  have k2 : w1.cell? ⟨w.heap.size, 2, none⟩ = some (.bool mu) := (hb1.cell (by simp)).trans (by go_simp)
  have Hb1 := hide (((Below.refl _ w).alloc (Nat.le_refl _) _).trans (hb1.mono (by simp)))
  clear hb1
  go_wp2_with fail
  refine (unhide H2 _).mono ?_
  rintro e w2 ⟨rfl, hb2⟩
  have Hb2 := hide ((unhide Hb1).trans (hb2.mono (unhide Hb1).size))
  clear hb2
  go_wp2
  go_ret2
  exact ⟨rfl, unhide Hb2⟩

set_option maxHeartbeats 1000000 in
theorem least_any (w : World) : Calls Try.prog 26 #[] w fun e w' => e = .returned (.float .f64 4503599627370496) ∧ w' = w := by
  have hx := run_frombits
  go_enter Try.func26, Try.ntmps26
  go_wp2
  go_ret
  exact ⟨rfl, rfl⟩
def secA : Nat → Sec := fun _ => ⟨z1, z0, z0, (lf 13826050856027422720, lf 0), z0⟩
theorem fin_1 : FinV (.complex .f64 4607182418800017408 0) := ⟨_, _, rfl, by omega, by omega, by decide⟩
theorem fin_c0 : FinV c0 := ⟨_, _, rfl, by omega, by omega, by decide⟩
theorem fin_a1 : FinV (.complex .f64 13826050856027422720 0) := ⟨_, _, rfl, by omega, by omega, by decide⟩
theorem secs_A {w : World} {b c : Nat} (hb : b < w.heap.size) (h : w.rangeAt b 0 [.complex .f64 4607182418800017408 0, c0, c0, .complex .f64 13826050856027422720 0, c0]) : SecsIs w (.slice (some ⟨b, 0, none⟩) 1 c) 1 secA := by
  refine ⟨_, c, rfl, fun i hi => ?_⟩
  obtain rfl : i = 0 := by omega
  exact ⟨b, _, _, _, _, _, rfl, hb, h, fin_1, fin_c0, fin_c0, fin_a1, fin_c0, c1_is, c0_is, c0_is, CIs.of _ _ (by omega) (by omega), c0_is⟩
theorem results_cellA {fn : Func} {a : Nat} {t : TypeId} (h : fn.results = #[.cell a t]) {tmps : Array Value} {b : Nat} {v : Value} {w : World} (hp : tmps.getD a undef = .pointer (some ⟨b, 0, none⟩)) (hl : (loadVar t ⟨b, 0, none⟩).run Try.prog w = .ok v w) :
    (results fn tmps).run Try.prog w = .ok v w := by
  rw [Array.getD_eq_getD_getElem?] at hp
  simp [results, h, hp, asAddr, hl]
theorem info_filt2 : (Try.prog.info? 37).map (·.size) = some 2 := by kernel_rfl
set_option maxRecDepth 100000 in
set_option maxHeartbeats 1000000 in
theorem half19 (w : World) : Calls Try.prog 25 #[] w fun e w' => ∃ b, e = .returned (.agg #[.complex .f64 4607182418800017408 0, .slice (some ⟨b, 0, none⟩) 1 1]) ∧ w.heap.size ≤ b ∧ SecsIs w' (.slice (some ⟨b, 0, none⟩) 1 1) 1 secA ∧ Below w.heap.size w w' := by
  have hsc := run_store_c
  go_enter Try.func25, Try.ntmps25
  go_wp2
  clear hsc
  refine bodyPost_ret (results_cellA rfl (b := w.heap.size) rfl (run_loadVar_mid _ w.heap.size 0 37 [.complex .f64 4607182418800017408 0, .slice (some ⟨w.heap.size + 1, 0, none⟩) 1 1] _ ?_ Try.underlying37 rfl info_filt2)) rfl ?_
  · intro j x hx
    have hj : j < 2 := (List.getElem?_eq_some_iff.1 hx).1
    rcases (by omega : j = 0 ∨ j = 1) with rfl | rfl <;> (obtain rfl := Option.some.inj hx; go_simp)
  · refine ⟨w.heap.size + 1, rfl, by omega, secs_A ?_ ?_, ?_⟩
    · simp
    · intro j x hx
      have hj : j < 5 := (List.getElem?_eq_some_iff.1 hx).1
      rcases (by omega : j = 0 ∨ j = 1 ∨ j = 2 ∨ j = 3 ∨ j = 4) with rfl | rfl | rfl | rfl | rfl <;> (obtain rfl := Option.some.inj hx; (try unfold c0); go_simp)
    · exact ((Below.refl _ w).alloc (Nat.le_refl _) _).alloc (by simp) _

/-- The least normal number, and nought behind it. -/
def lX : Nat → C2 := fun j => if j = 0 then (lf 4503599627370496, lf 0) else z0
def gFl : Gu := ⟨true, false, false⟩
theorem aw_c : wCntN gFl z1 1 secA rest0 lX 2 = 1 := by kernel_rfl
theorem aw_a0 : wAnsN gFl z1 1 secA rest0 lX 0 = (lf 4503599627370496, lf 0) := by kernel_rfl
theorem aw_a1 : wAnsN gFl z1 1 secA rest0 lX 1 = z0 := by kernel_rfl

set_option maxRecDepth 100000 in
set_option maxHeartbeats 4000000 in
theorem awake19 (w : World) : Calls Try.prog 5 #[] w fun e w' => e = .returned (.bool true) ∧ Below w.heap.size w w' := by
  have hsc := run_store_c
  go_enter Try.func5, Try.ntmps5
  go_wp2_with fail
  refine (half19 _).mono ?_
  rintro e w1 ⟨b, rfl, hbw, hS1, hb1⟩
  have H1 := hide (And.intro hS1 hb1)
  clear hS1 hb1
  go_wp2_with fail
  obtain ⟨hS1, hb1⟩ := unhide H1
  refine (gnew_any 4607182418800017408 0 1 _ gFl z1 secA w1 fin_1 c1_is hS1 (by omega)).mono ?_
  rintro e w2 ⟨B, L, rfl, hG2, hb2⟩
  have hs1 := hb1.size
  have hbw2 : Below w.heap.size w w2 := hb1.trans (hb2.mono hs1)
  have H2 := hide (And.intro hG2 hbw2)
  clear hG2 hb2 hbw2 hS1 hb1 H1
  go_wp2_with fail
  refine (least_any _).mono ?_
  rintro e w3 ⟨rfl, rfl⟩
  go_wp2_with fail
  obtain ⟨hG2, hbw2⟩ := unhide H2
  have hGl := hG2.lt
  obtain ⟨W, hW⟩ : ∃ W, W = w3.alloc (Obj.cells #[.complex .f64 4503599627370496 0, .complex .f64 0 0] 26) := ⟨_, rfl⟩
  rw [← hW]
  have hbW : Below w3.heap.size w3 W := by rw [hW]; exact (Below.refl _ _).alloc (Nat.le_refl _) _
  have hsW : W.heap.size = w3.heap.size + 1 := by rw [hW]; simp
  have x0 : W.cell? ⟨w3.heap.size, 0, none⟩ = some (.complex .f64 4503599627370496 0) := by rw [hW]; go_simp
  have x1 : W.cell? ⟨w3.heap.size, 1, none⟩ = some (.complex .f64 0 0) := by rw [hW]; go_simp
  clear hW
  have hX : ListIs W (.slice (some ⟨w3.heap.size, 0, none⟩) 2 2) 2 lX := ⟨_, 2, rfl, fun j hj => by
    rcases (by omega : j = 0 ∨ j = 1) with rfl | rfl
    · exact ⟨w3.heap.size, 0, _, rfl, by omega, x0, CIs.of _ _ (by omega) (by omega)⟩
    · exact ⟨w3.heap.size, 0, _, rfl, by omega, x1, c0_is⟩⟩
  refine (grun_any w1.heap.size w3.heap.size B L 1 0 2 _ gFl z1 lX secA rest0 W (hG2.below hbW) hX ?_ ?_ (by omega) (by omega) (by omega)).mono ?_
  · intro _ b' off mm cc e
    have : w3.heap.size = b' := by simp at e; omega
    omega
  · intro _ b' off mm cc e
    have : w3.heap.size = b' := by simp at e; omega
    omega
  rintro e w4 ⟨A, rfl, hA1, hA2, hans, hG4, hap⟩
  have hbw4 : Below w.heap.size w w4 := hap.below (hbw2.trans (hbW.mono hbw2.size)) (by have := hbw2.size; omega) (by omega) (by omega)
  rw [aw_c] at hG4
  have H4 := hide (And.intro hans (And.intro hG4 hbw4))
  clear hans hG4 hbw4 hap hX hbw2 hG2 H2 x0 x1 hbW
  go_wp2_with fail
  refine (least_any _).mono ?_
  rintro e w5 ⟨rfl, rfl⟩
  go_wp2_with fail
  obtain ⟨hans, hG4, hbw4⟩ := unhide H4
  obtain ⟨W2, hW2⟩ : ∃ W2, W2 = w5.alloc (Obj.cells #[.complex .f64 4503599627370496 0, .complex .f64 0 0] 26) := ⟨_, rfl⟩
  rw [← hW2]
  have hbW2 : Below w5.heap.size w5 W2 := by rw [hW2]; exact (Below.refl _ _).alloc (Nat.le_refl _) _
  have x0 : W2.cell? ⟨w5.heap.size, 0, none⟩ = some (.complex .f64 4503599627370496 0) := by rw [hW2]; go_simp
  have x1 : W2.cell? ⟨w5.heap.size, 1, none⟩ = some (.complex .f64 0 0) := by rw [hW2]; go_simp
  clear hW2
  refine (sameAll_any A w5.heap.size 2 2 2 lX W2 (by omega) (fun j hj => ?_) (fun j hj => ?_)).mono ?_
  · rcases (by omega : j = 0 ∨ j = 1) with rfl | rfl
    · obtain ⟨u, h1, h2⟩ := hans 0 (by omega)
      rw [aw_a0] at h2
      exact ⟨u, (hbW2.cell (by exact hA2)).trans h1, h2⟩
    · obtain ⟨u, h1, h2⟩ := hans 1 (by omega)
      rw [aw_a1] at h2
      exact ⟨u, (hbW2.cell (by exact hA2)).trans h1, h2⟩
  · rcases (by omega : j = 0 ∨ j = 1) with rfl | rfl
    · exact ⟨_, x0, CIs.of _ _ (by omega) (by omega)⟩
    · exact ⟨_, x1, c0_is⟩
  rintro e w6 ⟨rfl, hst⟩
  have hG6 := (hG4.below hbW2).still hst
  have hbw6 : Below w.heap.size w w6 := (hbw4.trans (hbW2.mono hbw4.size)).trans (hst _)
  have Hc := hide (changedG hG6)
  have Hs := hide (statesG hG6 (by omega))
  have H6 := hide hbw6
  clear hans hG4 hbw4 hbW2 x0 x1 hst hG6 hbw6 H4
  go_wp2_with fail
  refine (unhide Hc).mono ?_
  rintro e w7 ⟨rfl, rfl⟩
  go_wp2_with fail
  refine (unhide Hs).mono ?_
  rintro e w8 ⟨A8, rfl, h1, h2, h3, h4⟩
  have H8 := hide ((unhide H6).trans (h4.mono (unhide H6).size))
  clear h1 h2 h3 h4
  go_wp2
  go_ret
  exact ⟨rfl, unhide H8⟩

theorem clb_again (g : Gu) (b : Nat) : clb g (clb g b).1 = ((clb g b).1, 0) := by
  have hz : cls 0 = 0 := by decide
  obtain ⟨s4, s3, s1⟩ := cls_rg (sgb b)
  obtain ⟨t4, t3, t1⟩ := cls_rg (sgb b + 9218868437227405311)
  rw [rg_sgb] at s4 s3 s1
  rw [rg_top] at t4 t3 t1
  have es : clb g (sgb b) = (sgb b, 0) := by
    unfold clb
    rw [if_neg (by omega), if_neg (by omega), if_neg (by omega)]
  have et : clb g (sgb b + 9218868437227405311) = (sgb b + 9218868437227405311, 0) := by
    unfold clb
    rw [if_neg (by omega), if_neg (by omega), if_neg (by omega)]
  by_cases c4 : cls b = 4
  · cases hm : g.mute
    · have e : clb g b = (b, 0) := by simp [clb, c4, hm]
      rw [e]; exact e
    · have e : clb g b = (0, 1) := by simp [clb, c4, hm]
      rw [e]; simp [clb, hz]
  · by_cases c3 : cls b = 3
    · cases hm : g.clip
      · have e : clb g b = (b, 0) := by simp [clb, c3, hm]
        rw [e]; exact e
      · have e : clb g b = (sgb b + 9218868437227405311, 1) := by simp [clb, c3, hm]
        rw [e]; exact et
    · by_cases c1 : cls b = 1
      · cases hm : g.flush
        · have e : clb g b = (b, 0) := by simp [clb, c1, hm]
          rw [e]; exact e
        · have e : clb g b = (sgb b, 1) := by simp [clb, c1, hm]
          rw [e]; exact es
      · have e : clb g b = (b, 0) := by simp [clb, c4, c3, c1]
        rw [e]; exact e

set_option maxRecDepth 100000 in
set_option maxHeartbeats 4000000 in
theorem cleans_any (fl cp mu : Bool) (x y : Nat) (hx : x < 18446744073709551616) (hy : y < 18446744073709551616) (w : World) :
    Calls Try.prog 3 #[.agg #[.bool fl, .bool cp, .bool mu], .int .u64 x, .int .u64 y] w fun e w' => e = .returned (.bool true) ∧ Below w.heap.size w w' := by
  have hfb := run_frombits
  have l1 := clb_le ⟨fl, cp, mu⟩ x
  have l2 := clb_le ⟨fl, cp, mu⟩ y
  have a1 := clb_is ⟨fl, cp, mu⟩ x hx
  have a2 := clb_is ⟨fl, cp, mu⟩ y hy
  have H1 := hide (gclean_bits ⟨fl, cp, mu⟩ x y hx hy)
  have H2 := hide (rclean_bits ⟨fl, cp, mu⟩ x y hx hy)
  have H3 := hide (gclean_bits ⟨fl, cp, mu⟩ (clb ⟨fl, cp, mu⟩ x).1 (clb ⟨fl, cp, mu⟩ y).1 a1.1 a2.1)
  rw [clb_again, clb_again] at H3
  have hC : CIs (.complex .f64 (clb ⟨fl, cp, mu⟩ x).1 (clb ⟨fl, cp, mu⟩ y).1) (lf (clb ⟨fl, cp, mu⟩ x).1, lf (clb ⟨fl, cp, mu⟩ y).1) := CIs.of _ _ a1.1 a2.1
  have H4 := hide (rSameC hC hC)
  clear hC a1 a2 hx hy
  unfold Gv at H1 H2 H3
  dsimp only at H1 H2 H3
  generalize clb ⟨fl, cp, mu⟩ x = p at *
  generalize clb ⟨fl, cp, mu⟩ y = q at *
  obtain ⟨p, m⟩ := p
  obtain ⟨q, n⟩ := q
  dsimp only at *
  go_enter Try.func3, Try.ntmps3
  go_wp2_with fail
  refine (awake19 _).mono ?_
  rintro e w1 ⟨rfl, hb1⟩
  have k10 : w1.cell? ⟨w.heap.size, 0, none⟩ = some (.bool fl) := (hb1.cell (by show w.heap.size < _; simp)).trans (by go_simp)
  have k11 : w1.cell? ⟨w.heap.size, 1, none⟩ = some (.bool cp) := (hb1.cell (by show w.heap.size < _; simp)).trans (by go_simp)
  have k12 : w1.cell? ⟨w.heap.size, 2, none⟩ = some (.bool mu) := (hb1.cell (by show w.heap.size < _; simp)).trans (by go_simp)
  have B1 : Below w.heap.size w w1 := ((Below.refl _ w).alloc (Nat.le_refl _) _).trans (hb1.mono (by simp))
  have s1 : w.heap.size < w1.heap.size := by have := hb1.size; simp at this; omega
  have HB1 := hide B1
  clear hb1 B1
  go_wp2_with fail
  refine (unhide H1 _).mono ?_
  rintro e w2 ⟨rfl, hb2⟩
  have k20 : w2.cell? ⟨w.heap.size, 0, none⟩ = some (.bool fl) := (hb2.cell (by show w.heap.size < _; omega)).trans k10
  have k21 : w2.cell? ⟨w.heap.size, 1, none⟩ = some (.bool cp) := (hb2.cell (by show w.heap.size < _; omega)).trans k11
  have k22 : w2.cell? ⟨w.heap.size, 2, none⟩ = some (.bool mu) := (hb2.cell (by show w.heap.size < _; omega)).trans k12
  have HB2 := hide ((unhide HB1).trans (hb2.mono (by omega)))
  have s2 : w.heap.size < w2.heap.size := by have := hb2.size; omega
  clear hb2 k10 k11 k12
  go_wp2_with fail
  refine (unhide H2 _).mono ?_
  rintro e w3 ⟨rfl, hb3⟩
  have k30 : w3.cell? ⟨w.heap.size, 0, none⟩ = some (.bool fl) := (hb3.cell (by show w.heap.size < _; omega)).trans k20
  have k31 : w3.cell? ⟨w.heap.size, 1, none⟩ = some (.bool cp) := (hb3.cell (by show w.heap.size < _; omega)).trans k21
  have k32 : w3.cell? ⟨w.heap.size, 2, none⟩ = some (.bool mu) := (hb3.cell (by show w.heap.size < _; omega)).trans k22
  have HB3 := hide ((unhide HB2).trans (hb3.mono (by omega)))
  have s3 : w.heap.size < w3.heap.size := by have := hb3.size; omega
  clear hb3 k20 k21 k22
  have hmn : ((m + n : Nat) : Int) ≤ 2 := by omega
  go_wp2_with fail
  refine (unhide H4 _).mono ?_
  rintro e w4 ⟨rfl, rfl⟩
  go_wp2_with fail
  refine (unhide H3 _).mono ?_
  rintro e w5 ⟨rfl, hb5⟩
  have HB5 := hide ((unhide HB3).trans (hb5.mono (by omega)))
  clear hb5
  go_wp2_with fail
  refine (unhide H4 _).mono ?_
  rintro e w6 ⟨rfl, rfl⟩
  go_wp2
  go_ret
  exact ⟨rfl, unhide HB5⟩
end Go.Proofs.Ythafffnebaaeiaa
