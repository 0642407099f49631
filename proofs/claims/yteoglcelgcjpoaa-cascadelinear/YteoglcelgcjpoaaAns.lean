/- The statement's own answers: a new filter, and samples through it from rest. -/
import Derived.Test.YteoglcelgcjpoaaAw17
namespace Go.Proofs.Yteoglcelgcjpoaa
open Go.RowKit

theorem ListIs.below {w w' : World} {v : Value} {m : Nat} {X : Nat → C2} (h : ListIs w v m X) (hb : Below w.heap.size w w') : ListIs w' v m X := by
  obtain ⟨ad, c, rfl, h1⟩ := h
  refine ⟨ad, c, rfl, fun j hj => ?_⟩
  obtain ⟨b, off, u, e, hlt, hc, hu⟩ := h1 j hj
  exact ⟨b, off, u, e, Nat.lt_of_lt_of_le hlt hb.size, by rw [hb.cell (by exact hlt)]; exact hc, hu⟩

set_option maxRecDepth 100000 in
set_option maxHeartbeats 2000000 in
theorem answers_any (g g' n m : Nat) (v lv : Value) (G : C2) (X : Nat → C2) (sec : Nat → Sec) (w : World) (hg : FinV (.complex .f64 g g')) (hG : CIs (.complex .f64 g g') G) (hv : SecsIs w v n sec) (hn : n ≤ 16) (hl : ListIs w lv m X) (hm : m ≤ 1000) :
    Calls Try.prog 6 #[.agg #[.complex .f64 g g', v], lv] w fun e w' => ∃ A, e = .returned (.slice (some ⟨A, 0, none⟩) m m) ∧ w.heap.size ≤ A ∧ A < w'.heap.size ∧ (∀ j, j < m → ∃ u, w'.cell? ⟨A, j, none⟩ = some u ∧ CIs u (ansN G n sec rest0 X j)) ∧ Below w.heap.size w w' := by
  obtain ⟨ads, c1, rfl, _⟩ := id hv
  obtain ⟨ad, c, rfl, hlc⟩ := id hl
  have H := hide (And.intro hv hl)
  clear hv hl
  go_enter Try.func6, Try.ntmps6
  go_wp2_with fail
  obtain ⟨hv, hl⟩ := unhide H
  have hba : Below w.heap.size w (w.alloc (Obj.cells #[.complex .f64 g g', .slice ads n c1] 28)) := (Below.refl _ _).alloc (Nat.le_refl _) _
  refine (newW hg hG (hv.below hba) hn).mono ?_
  rintro e w1 ⟨B, L, rfl, hB, hL, hC1, hb1⟩
  have hw1 := hba.trans (hb1.mono hba.size)
  have hl1 := hl.below hw1
  have hwL : w.heap.size < L := by simp at hL; omega
  have HP := hide (And.intro hw1 (And.intro hC1 hl1))
  clear hv hl hba hw1 hl1 hC1 hb1 H
  go_wp2_with fail
  obtain ⟨hw1, hC1, hl1⟩ := unhide HP
  refine (runW hC1 hl1 (by omega) ?_ hn).mono ?_
  · rintro b off ⟨mm, c', e⟩ h0
    obtain ⟨b2, off2, u, e2, hlt, _⟩ := hlc 0 h0
    rw [e2] at e
    have : b2 = b := by simp at e; omega
    omega
  rintro e w2 ⟨A, rfl, hA1, hA2, hans, hC2, hg2⟩
  have hw1s := hw1.size
  go_wp2
  go_ret
  exact ⟨A, rfl, by omega, hA2, hans, hw1.grown hg2 hw1s (fun k e => by have := Option.some.inj e; omega)⟩
end Go.Proofs.Yteoglcelgcjpoaa
