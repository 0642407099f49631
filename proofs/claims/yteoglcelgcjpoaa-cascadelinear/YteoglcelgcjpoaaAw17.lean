/- The calls whose answers the document fixes, for layer 17. -/
import Derived.Test.YteoglcelgcjpoaaLin
namespace Go.Proofs.Yteoglcelgcjpoaa
open Go.RowKit

def gA : C2 := (lf 4611686018427387904, lf 0)
def secA : Nat → Sec := fun _ => ⟨z1, z0, z0, (lf 13826050856027422720, lf 0), z0⟩
theorem gA_is : CIs (.complex .f64 4611686018427387904 0) gA := CIs.of _ _ (by omega) (by omega)
theorem fin_gA : FinV (.complex .f64 4611686018427387904 0) := ⟨_, _, rfl, by omega, by omega, by decide⟩
theorem fin_c0 : FinV c0 := ⟨_, _, rfl, by omega, by omega, by decide⟩
theorem fin_a1 : FinV (.complex .f64 13826050856027422720 0) := ⟨_, _, rfl, by omega, by omega, by decide⟩
theorem aw_y1 : yAt secA rest0 (cmul gA z1) 1 = (some 4611686018427387904, some 0) := by kernel_rfl
theorem aw_y2 : yAt secA (upTo secA rest0 (cmul gA z1) 1) (cmul gA z0) 1 = (some 4607182418800017408, some 0) := by kernel_rfl
theorem aw_y3 : ansN gA 1 secA rest0 oneX 2 = (some 4602678819172646912, some 0) := by kernel_rfl
theorem aw_st : ((upTo secA (upTo secA rest0 (cmul gA z1) 1) (cmul gA z0) 1) 0).1 = (some 4602678819172646912, some 0) := by kernel_rfl
theorem CIs.bits {u : Value} {z : C2} {r i : Nat} (h : CIs u z) (hz : z = (some r, some i)) : u = .complex .f64 r i := by
  obtain ⟨a, b, rfl, _, _, h1, h2⟩ := h
  subst hz
  rw [lf_some h1, lf_some h2]
theorem eql_2 (w : World) : (binOp .eql 25 (.complex .f64 4611686018427387904 0) (.complex .f64 4611686018427387904 0)).run Try.prog w = .ok (.bool true) w := by rfl
theorem eql_1 (w : World) : (binOp .eql 25 (.complex .f64 4607182418800017408 0) (.complex .f64 4607182418800017408 0)).run Try.prog w = .ok (.bool true) w := by rfl
theorem eql_half (w : World) : (binOp .eql 25 (.complex .f64 4602678819172646912 0) (.complex .f64 4602678819172646912 0)).run Try.prog w = .ok (.bool true) w := by rfl
theorem SecsIs.grown {w w' : World} {v : Value} {n : Nat} {sec : Nat → Sec} {L : Nat} (h : SecsIs w v n sec) (hg : w.grownBy w' (some L)) (hL : ∀ b, (∃ m c, v = .slice (some ⟨b, 0, none⟩) m c) → b ≠ L) : SecsIs w' v n sec := by
  obtain ⟨ad, c, rfl, h1⟩ := h
  refine ⟨ad, c, rfl, fun i hi => ?_⟩
  obtain ⟨b, u0, u1, u2, u3, u4, e2, hlt, hr, hh⟩ := h1 i hi
  exact ⟨b, u0, u1, u2, u3, u4, e2, Nat.lt_of_lt_of_le hlt hg.size, fun j x hx => hg.cell (hr j x hx) (by intro e; exact hL b ⟨n, c, by rw [e2]⟩ (Option.some.inj e)), hh⟩
theorem sl_ne {a L k c0' : Nat} (h : a ≠ L) : ∀ b, (∃ m c, Value.slice (some ⟨a, 0, none⟩) k c0' = .slice (some ⟨b, 0, none⟩) m c) → b ≠ L := by
  rintro b ⟨m, c, e⟩
  have : a = b := by simp at e; omega
  omega
theorem secs_A {w : World} {b c : Nat} (hb : b < w.heap.size) (h : w.rangeAt b 0 [.complex .f64 4607182418800017408 0, c0, c0, .complex .f64 13826050856027422720 0, c0]) : SecsIs w (.slice (some ⟨b, 0, none⟩) 1 c) 1 secA := by
  refine ⟨_, c, rfl, fun i hi => ?_⟩
  obtain rfl : i = 0 := by omega
  exact ⟨b, _, _, _, _, _, rfl, hb, h, fin_one, fin_c0, fin_c0, fin_a1, fin_c0, c1_is, c0_is, c0_is, CIs.of _ _ (by omega) (by omega), c0_is⟩

set_option maxRecDepth 100000 in
set_option maxHeartbeats 4000000 in
theorem awake17 (w : World) : Calls Try.prog 5 #[] w fun e w' => e = .returned (.bool true) ∧ Below w.heap.size w w' := by
  have hsc := run_store_c
  go_enter Try.func5, Try.ntmps5
  go_wp2_with fail
  obtain ⟨W, hW⟩ : ∃ W, W = (w.alloc (Obj.cells #[.complex .f64 4607182418800017408 0, .complex .f64 0 0, .complex .f64 0 0, .complex .f64 13826050856027422720 0, .complex .f64 0 0] 33)).alloc (Obj.cells #[.complex .f64 4611686018427387904 0, .slice (some ⟨w.heap.size, 0, none⟩) 1 1] 28) := ⟨_, rfl⟩
  rw [← hW]
  have hS : SecsIs W (.slice (some ⟨w.heap.size, 0, none⟩) 1 1) 1 secA := by
    refine secs_A (by rw [hW]; simp; omega) ?_
    intro j x hx
    have hj : j < 5 := (List.getElem?_eq_some_iff.1 hx).1
    rw [hW, World.cell?_alloc_lt _ _ _ (by simp), cell_of_row _ w.heap.size _ _ _ _ (heap_alloc_new _ _), Nat.zero_add, List.getElem?_toArray]
    exact hx
  have hF0 : W.cell? ⟨w.heap.size + 1, 0, none⟩ = some (.complex .f64 4611686018427387904 0) := by rw [hW]; go_simp
  have hF1 : W.cell? ⟨w.heap.size + 1, 1, none⟩ = some (.slice (some ⟨w.heap.size, 0, none⟩) 1 1) := by rw [hW]; go_simp
  have hbW : Below w.heap.size w W := by rw [hW]; exact ((Below.refl _ _).alloc (Nat.le_refl _) _).alloc (by simp) _
  have hsW : w.heap.size + 2 ≤ W.heap.size := by rw [hW]; simp
  clear hW hsc
  refine (newW fin_gA gA_is hS (by omega)).mono ?_
  rintro e w1 ⟨B, L, rfl, hB, hL, hC1, hb1⟩
  have HP := hide (And.intro (hbW.trans (hb1.mono (by omega))) (And.intro hC1 (hS.below hb1)))
  have hF0 : w1.cell? ⟨w.heap.size + 1, 0, none⟩ = some (.complex .f64 4611686018427387904 0) := (hb1.cell (by show w.heap.size + 1 < _; omega)).trans hF0
  have hF1 : w1.cell? ⟨w.heap.size + 1, 1, none⟩ = some (.slice (some ⟨w.heap.size, 0, none⟩) 1 1) := (hb1.cell (by show w.heap.size + 1 < _; omega)).trans hF1
  have hs1 : w.heap.size + 2 ≤ w1.heap.size := by have := hb1.size; omega
  clear hbW hb1 hC1 hS
  go_wp2_with fail
  obtain ⟨hw1, hC1, hS1⟩ := unhide HP
  clear HP
  refine (stepW hC1 c1_is (by omega)).mono ?_
  rintro e w2 ⟨r1, j1, rfl, hy1, hC2, hg2⟩
  have hLF : some (w.heap.size + 1) ≠ some L := by intro e; have := Option.some.inj e; omega
  have hF0 : w2.cell? ⟨w.heap.size + 1, 0, none⟩ = some (.complex .f64 4611686018427387904 0) := hg2.cell hF0 hLF
  have hF1 : w2.cell? ⟨w.heap.size + 1, 1, none⟩ = some (.slice (some ⟨w.heap.size, 0, none⟩) 1 1) := hg2.cell hF1 hLF
  have hS2 : SecsIs w2 (.slice (some ⟨w.heap.size, 0, none⟩) 1 1) 1 secA := hS1.grown hg2 (sl_ne (by omega))
  have e1 := hy1.bits aw_y1
  obtain ⟨rfl, rfl⟩ : r1 = 4611686018427387904 ∧ j1 = 0 := by simpa using e1
  clear e1
  have HP := hide (And.intro (hw1.grown hg2 (by omega) (fun k e => by have := Option.some.inj e; omega)) (And.intro hC2 hS2))
  have hs2 := hg2.size
  clear hw1 hC1 hS1 hy1 hC2 hg2 hS2
  go_wp2_with fail
  obtain ⟨hw2, hC2, hS2⟩ := unhide HP
  clear HP
  refine (stepW hC2 c0_is (by omega)).mono ?_
  rintro e w3 ⟨r2, j2, rfl, hy2, hC3, hg3⟩
  have hF0 : w3.cell? ⟨w.heap.size + 1, 0, none⟩ = some (.complex .f64 4611686018427387904 0) := hg3.cell hF0 hLF
  have hF1 : w3.cell? ⟨w.heap.size + 1, 1, none⟩ = some (.slice (some ⟨w.heap.size, 0, none⟩) 1 1) := hg3.cell hF1 hLF
  have hS3 : SecsIs w3 (.slice (some ⟨w.heap.size, 0, none⟩) 1 1) 1 secA := hS2.grown hg3 (sl_ne (by omega))
  have e2 := hy2.bits aw_y2
  obtain ⟨rfl, rfl⟩ : r2 = 4607182418800017408 ∧ j2 = 0 := by simpa using e2
  clear e2
  have HP := hide (And.intro (hw2.grown hg3 (by omega) (fun k e => by have := Option.some.inj e; omega)) (And.intro hC3 hS3))
  have hs3 := hg3.size
  clear hw2 hC2 hS2 hy2 hC3 hg3 hS3
  go_wp2_with fail
  obtain ⟨hw3, hC3, hS3⟩ := unhide HP
  clear HP
  refine (cimp_any 4611686018427387904 0 1 3 (.slice (some ⟨w.heap.size, 0, none⟩) 1 1) gA secA w3 fin_gA gA_is hS3 (by omega) (by omega) (by omega)).mono ?_
  rintro e w4 ⟨A, rfl, hA, hans, hb4⟩
  obtain ⟨u, hu1, hu2⟩ := hans 2 (by omega)
  obtain rfl := hu2.bits aw_y3
  have HP := hide (And.intro (hw3.trans (hb4.mono (by omega))) (hC3.below hb4))
  have hs4 := hb4.size
  clear hw3 hC3 hS3 hans hu2 hb4
  have q1 := eql_2
  have q2 := eql_1
  have q3 := eql_half
  go_wp2_with fail
  obtain ⟨hw4, hC4⟩ := unhide HP
  clear HP
  refine (statesW hC4 (by omega)).mono ?_
  rintro e w5 ⟨S1, rfl, hS11, hS12, hSt5, hb5⟩
  have HP := hide (And.intro (hw4.trans (hb5.mono (by omega))) (hC4.below hb5))
  have hs5 := hb5.size
  clear hw4 hC4 hSt5 hb5
  go_wp2_with fail
  obtain ⟨hw5, hC5⟩ := unhide HP
  clear HP
  refine (statesW hC5 (by omega)).mono ?_
  rintro e w6 ⟨S2, rfl, hS21, hS22, hSt6, hb6⟩
  obtain ⟨p, q, hr, hp, _⟩ := hSt6 0 (by omega)
  obtain rfl := hp.bits aw_st
  have hc6 : w6.cell? ⟨S2, 0, none⟩ = some (.complex .f64 4602678819172646912 0) := hr 0 _ rfl
  have HP := hide (hw5.trans (hb6.mono (by omega)))
  clear hw5 hC5 hSt6 hb6 hr hp
  go_wp2
  go_ret
  exact ⟨rfl, unhide HP⟩
end Go.Proofs.Yteoglcelgcjpoaa
