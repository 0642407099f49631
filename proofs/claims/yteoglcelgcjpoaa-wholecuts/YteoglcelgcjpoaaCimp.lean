/- The first answers of a filter, from rest, to 1 and noughts: what package cascade's Impulse answers. -/
import Derived.Test.YteoglcelgcjpoaaCcopy
namespace Go.Proofs.Yteoglcelgcjpoaa
open Go.RowKit

def z1 : C2 := (lf 4607182418800017408, lf 0)
theorem c1_is : CIs (.complex .f64 4607182418800017408 0) z1 := CIs.of _ _ (by omega) (by omega)
/-- 1, and noughts behind it. -/
def oneX : Nat → C2 := fun j => if j = 0 then z1 else z0

theorem SecsIs.below {w w' : World} {v : Value} {n : Nat} {sec : Nat → Sec} (h : SecsIs w v n sec) (hb : Below w.heap.size w w') : SecsIs w' v n sec := by
  obtain ⟨ad', c', e1, h1⟩ := h
  refine ⟨ad', c', e1, fun i hi => ?_⟩
  obtain ⟨b, u0, u1, u2, u3, u4, e2, hlt, hr, hh⟩ := h1 i hi
  exact ⟨b, u0, u1, u2, u3, u4, e2, Nat.lt_of_lt_of_le hlt hb.size, fun j x hx => by rw [hb.cell (by exact hlt)]; exact hr j x hx, hh⟩

set_option maxRecDepth 100000 in
set_option maxHeartbeats 2000000 in
theorem cimp_any (g g' n m : Nat) (v : Value) (G : C2) (sec : Nat → Sec) (w : World) (hg : FinV (.complex .f64 g g')) (hG : CIs (.complex .f64 g g') G) (hv : SecsIs w v n sec) (hn : n ≤ 16) (hm0 : 0 < m) (hm : m ≤ 60000) :
    Calls Try.prog 10 #[.agg #[.complex .f64 g g', v], .int .i64 m] w fun e w' => ∃ A, e = .returned (.tuple #[.slice (some ⟨A, 0, none⟩) m m, .int .i64 0]) ∧ A < w'.heap.size ∧ (∀ j, j < m → ∃ u, w'.cell? ⟨A, j, none⟩ = some u ∧ CIs u (ansN G n sec rest0 oneX j)) ∧ Below w.heap.size w w' := by
  obtain ⟨ad, c, rfl, _⟩ := id hv
  obtain ⟨i0, hi, hz0, hz1, hz2⟩ := info_parts info_c
  have Hn := hide (fun w' (h : SecsIs w' (.slice ad n c) n sec) => cnew_any g g' n (.slice ad n c) sec w' hg h hn)
  have Hv := hide hv
  clear hv hg
  have hm1 : (0 : Int) < (m : Int) := by omega
  have hm2 : (m : Int) ≤ 60000 := by omega
  go_enter Try.func10, Try.ntmps10
  go_wp2_with fail
  refine (unhide Hn _ ((unhide Hv).below ((Below.refl _ _).alloc (Nat.le_refl _) _))).mono ?_
  rintro e w1 ⟨B, L, rfl, hne, hB1, hL1, hB2, hL2, hra, hLk, hbl⟩
  have hbw : Below w.heap.size w w1 := ((Below.refl _ w).alloc (Nat.le_refl _) _).trans (hbl.mono (by simp))
  have hs1 : w.heap.size < w1.heap.size := by have := hbl.size; simp at this; omega
  have hwL : w.heap.size ≤ L := by simp at hL1; omega
  have H1 := hide (And.intro hra (And.intro hLk hbw))
  clear hra hLk hbl hbw hB1 hL1 Hn
  go_wp2_with (first
    | (refine wpList_make_full _ rfl _ _ 34 rfl w1.heap.size 25 i0 (.complex .f64 0 0) 1 Try.underlying34 hi hz0 hz1 .i64 .i64 _ _ m rfl rfl rfl rfl (by rw [hz2]; omega) (by unfold maxLen; omega) (Nat.le_refl _) ?_; intro w2 hown hgr; obtain ⟨hth, hAw⟩ := own_there hown; have t0 := hth 0 (by omega); obtain ⟨u0, hu0⟩ := Option.isSome_iff_exists.1 t0.1; have f0 := t0.2; rw [Nat.zero_add] at hu0 f0; have hsc := run_store_c))
  obtain ⟨hra, hLk, hbw⟩ := unhide H1
  have hcs : ∀ j, j < m → w2.cell? ⟨w1.heap.size, j, none⟩ = some c0 := by
    intro j hj
    have e1 : (madeCells (Value.complex .f64 0 0).cells (m * 1)).toList = List.replicate m c0 := by rw [Nat.mul_one]; exact toList_madeCells_one _ _
    rw [e1] at hown
    have h1 := hown.cells (g := w1.heap.size) rfl j c0 (by simp [hj])
    rw [Addr.add_mid, Nat.zero_add] at h1
    exact h1
  refine (crun_any B L n n g g' m (.slice (some ⟨w1.heap.size, 0, none⟩) m m) G oneX sec rest0 _ ?_ hG ?_ (by omega) ?_ ?_ hne hn ?_).mono ?_
  · intro j x hx
    rw [cell_ne (by intro e; have := congrArg Addr.block e; simp only at this; omega)]
    exact hgr.cell (hra j x hx) (by simp)
  · refine ⟨some ⟨w1.heap.size, 0, none⟩, m, rfl, fun j hj => ?_⟩
    by_cases hj0 : j = 0
    · subst hj0
      exact ⟨w1.heap.size, 0, _, rfl, by simpa [World.setCell] using hAw, cell_eq hu0, c1_is⟩
    · refine ⟨w1.heap.size, 0, c0, rfl, by simpa [World.setCell] using hAw, ?_, by unfold oneX; rw [if_neg hj0]; exact c0_is⟩
      rw [Nat.zero_add, cell_ne (by intro e; have := congrArg Addr.off e; simp only at this; omega)]
      exact hcs j hj
  · rintro b off ⟨mm, cc, e⟩ _
    have e2 : w1.heap.size = b := by simp at e; omega
    omega
  · exact (hLk.grown hgr hL2 (by simp)).setCell (by show w1.heap.size ≠ L; omega) _
  · have := hgr.size
    simp [World.setCell]; omega
  rintro e w3 ⟨A, rfl, hA1, hA2, hans, hL3, hg3⟩
  go_wp2
  go_ret2
  have hb2 : Below w.heap.size w (w2.setCell ⟨w1.heap.size, 0, none⟩ (.complex .f64 4607182418800017408 0)) := (hbw.grown hgr (by omega) (fun k e => by cases e)).setCell (by show w.heap.size ≤ w1.heap.size; omega) _
  exact ⟨A, rfl, hA2, hans, hb2.grown hg3 (by have := hgr.size; simp [World.setCell]; omega) (fun k e => by have := Option.some.inj e; omega)⟩
end Go.Proofs.Yteoglcelgcjpoaa
