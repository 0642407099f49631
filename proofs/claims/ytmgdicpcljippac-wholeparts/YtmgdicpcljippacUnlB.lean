/- What package cplx's Unlike answers: the unlike ones of a list in new memory. -/
import Derived.Test.YtmgdicpcljippacUnlA
import Derived.Laws.AppendOwn
import Derived.OwnWalk
namespace Go.Proofs.Ytmgdicpcljippac
open Go.RowKit Go.Maps

/-- A row of the call's own lies elsewhere. -/
theorem row_apart {w : World} {base : Nat} {e : TypeId} {size : Nat} {v : Value} {n : Nat} {xs : List Value} (h : w.ownsRow base e size v n xs) {b : Nat} (hb : b < base) : some b ≠ v.ownBlock := by
  intro h1
  have h2 := (h.lt b h1.symm).1
  omega

set_option maxHeartbeats 800000 in
set_option maxRecDepth 100000 in
theorem unlike_any (b off len cap : Nat) (zs : List (Nat × Nat)) (w : World) (hreach : len * 16 ≤ 140737488351232) (hz : len ≤ zs.length) (hb : b < w.heap.size)
    (hc : ∀ j, j < zs.length → w.cell? ⟨b, off + j, none⟩ = some (cv (zs.getD j (0, 0)))) :
    Calls Try.prog 13 #[.slice (some ⟨b, off, none⟩) len cap] w fun e w' => ∃ v, e = .returned v ∧ w'.ownsRow (w.heap.size + 1) 23 1 v (unl zs len).length ((unl zs len).map cv) ∧ Below w.heap.size w w' := by
  have hmm := @run_makeMap Try.prog
  obtain ⟨i0, hi, hz0, hz1, hz2⟩ := info_parts info_c
  go_enter Try.func13, Try.ntmps13
  go_wp2
  go_loopw [4, 12] (fun v i wr => ∃ k : Nat, k ≤ len ∧ i = .int .i64 k ∧ MapIs wr w.heap.size (unl zs k) ∧ wr.ownsRow (w.heap.size + 1) 23 1 v (unl zs k).length ((unl zs k).map cv) ∧
      Below w.heap.size w wr ∧ w.heap.size + 1 ≤ wr.heap.size)
    (fun _ i _ => len - (intOf i).toNat)
  case atStart => exact ⟨0, Nat.zero_le _, rfl, mapIs_made _, World.ownsRow_nil _ _ _ _, (Below.refl _ _).alloc (Nat.le_refl _) _, by simp⟩
  case round =>
    obtain ⟨k, hk, rfl, hown, hrow, hnx, hws⟩ := hrel
    obtain ⟨z, hzk⟩ : ∃ z, z = zs.getD k (0, 0) := ⟨_, rfl⟩
    have hcx : k < len → wr.cell? ⟨b, off + k, none⟩ = some (.complex .f64 z.1 z.2) := fun _ => by rw [hzk]; exact (hnx.cell (by exact hb)).trans (hc k (by omega))
    have hal := unl_len zs k
    have hstep : unl zs (k + 1) = if hasc (unl zs k) z then unl zs k else unl zs k ++ [z] := by rw [hzk]; rfl
    clear hzk
    cases hh : hasc (unl zs k) z
    · rw [hh] at hstep
      go_wp2_with (first
        | (at_lookup; refine wpList_lookup_c _ rfl _ _ rfl w.heap.size (unl zs k) rfl hown z rfl ?_)
        | (at_mapUpdate; refine wpList_update_c _ rfl _ _ _ rfl w.heap.size (unl zs k) rfl (hown.alloc _) z hh rfl rfl ?_; intro w1 hown1 hgrow1)
        | (at_builtin; refine wpList_append_own _ rfl _ _ 30 rfl (w.heap.size + 1) 23 i0 (.complex .f64 0 0) 1 16 Try.underlying30 hi hz0 hz1 hz2 rfl (by decide) _ _ _ rfl (((hrow.alloc _).kept hgrow1 (Or.inr (row_apart hrow (Nat.lt_succ_self _)).symm)).alloc _) ⟨w1.heap.size, 0, none⟩ 1 1 [.complex .f64 z.1 z.2] rfl rfl (cell_one_new _ _ _) (by intro u hu; simp at hu; subst hu; rfl) (by unfold maxLen; omega) (by omega) (by have := hgrow1.size; simp at this ⊢; omega) ?_; intro v' w2 hown' hgrow2 hnil2)
        | go_in)
      · have hlt : k < len := by assumption
        have hr1 := (hrow.alloc (.cells #[] 53)).kept hgrow1 (Or.inr (row_apart hrow (Nat.lt_succ_self _)).symm)
        have s1 := hgrow1.size
        have s2 := hgrow2.size
        simp at s1 s2
        go_roundw
        case rel =>
          refine ⟨k + 1, by omega, by go_num, ?_, ?_, ?_, by omega⟩
          · rw [hstep, if_neg (by decide)]
            exact (hown1.alloc _).kept hgrow2 (row_apart hr1 (Nat.lt_succ_self _))
          · rw [hstep, if_neg (by decide)]
            rw [List.length_append, List.map_append]
            exact hown'
          · exact ((((hnx.alloc hnx.size _).grown hgrow1 (by simp; omega) (fun j hj => by cases hj; exact Nat.le_refl _)).alloc (by omega) _).grown hgrow2 (by simp; omega) (fun j hj => Nat.le_trans (Nat.le_succ _) (hr1.lt j hj).1))
        case measure => simp [intOf]; omega
      · have : k = len := by omega
        subst this
        go_ret
        exact ⟨_, rfl, hrow, hnx⟩
    · rw [hh] at hstep
      go_wp2_with (first
        | (at_lookup; refine wpList_lookup_c _ rfl _ _ rfl w.heap.size (unl zs k) rfl hown z rfl ?_)
        | go_in)
      · have hlt : k < len := by assumption
        go_roundw
        case rel =>
          refine ⟨k + 1, by omega, by go_num, ?_, ?_, hnx.alloc hnx.size _, by simp; omega⟩
          · rw [hstep, if_pos rfl]
            exact hown.alloc _
          · rw [hstep, if_pos rfl]
            exact hrow.alloc _
        case measure => simp [intOf]; omega
      · have : k = len := by omega
        subst this
        go_ret
        exact ⟨_, rfl, hrow, hnx⟩
end Go.Proofs.Ytmgdicpcljippac
