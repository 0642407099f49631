/- What quaverref25's DocRun answers; when two lists are alike. -/
import Derived.Test.YtlajalfdcfkmpaaNy
import Derived.Test.YtlajalfdcfkmpaaQr
import Derived.Deep.AppendLies
import Derived.Deep.QuietTactic
import Derived.BigQuiet
namespace Go.Proofs.Ytlajalfdcfkmpaa
open Go.RowKit Go.Maps

theorem rowL_app (Y : Nat → Int) (k : Nat) : rowL Y k k ++ [.int .i64 (Y k)] = rowL Y (k + 1) (k + 1) := by
  apply List.ext_getElem?
  intro j
  by_cases hj : j < k
  · rw [List.getElem?_append_left (by rw [rowL_len]; exact hj), rowL_at _ _ _ _ hj, rowL_at _ _ _ _ (by omega), if_pos hj, if_pos (by omega)]
  · rw [List.getElem?_append_right (by rw [rowL_len]; omega), rowL_len]
    by_cases hk : j = k
    · subst hk
      rw [Nat.sub_self, rowL_at _ _ _ _ (by omega), if_pos (by omega)]
      rfl
    · rw [List.getElem?_eq_none (by simp; omega), List.getElem?_eq_none (by rw [rowL_len]; omega)]
theorem one_i (n : Int) : ∀ u ∈ [Value.int .i64 n], u.oneCell' = true := by
  intro u hu
  simp at hu
  subst hu; rfl
theorem run_results_d {w : World} {tmps : Array Value} {y o : Value} {b : Nat} {c0 c1 c2 c3 : Value} (h6 : tmps.getD 6 undef = y) (h7 : tmps.getD 7 undef = .pointer (some ⟨b, 0, none⟩)) (h8 : tmps.getD 8 undef = o) (hr : Blk w b #[c0, c1, c2, c3] 40) :
    (results Try.f19 tmps).run Try.prog w = .ok (.tuple #[y, .agg #[c0, c1, c2, c3], o]) w := by
  have hl := run_loadVar_mid (P := Try.prog) w b 0 40 [c0, c1, c2, c3] _ hr.range Try.underlying40 rfl infoSt
  rw [Array.getD_eq_getD_getElem?] at h6 h7 h8
  simp [results, h6, h7, h8, asAddr, hl]
theorem own_slice {w : World} {base m : Nat} {v : Value} {l : List Value} (h : w.ownsRow base 2 1 v m l) : ∃ ad c, v = .slice ad m c := by
  rcases h.2 with ⟨rfl, h0⟩ | ⟨g, cap, cur, rfl, _⟩
  · exact ⟨none, 0, by rw [h0]⟩
  · exact ⟨_, _, rfl⟩
theorem InAt_own {w : World} {base q : Nat} {ad : Option Addr} {c : Nat} {X : Nat → Int} (h : w.ownsRow base 2 1 (.slice ad q c) q (rowL X q q)) : InAt w ad q X := fun j hj => by
  obtain ⟨g, cap, e⟩ := Joins.ownsRow_form h (by omega)
  simp only [Value.slice.injEq, true_and] at e
  obtain ⟨rfl, rfl⟩ := e
  exact ⟨g, 0, rfl, (h.lt g rfl).2, by rw [Nat.zero_add, h.cellAt j (by omega), rowL_at _ _ _ _ hj, if_pos hj]⟩

def DocPost (f : Fx) (s : St) (X : Nat → Int) (m : Nat) (w : World) (e : Ending) (w' : World) : Prop :=
  ∃ ad c, e = .returned (.tuple #[.slice ad m c, vS (sN f s X m), .int .i64 (cN f s X m)]) ∧ w'.ownsRow w.heap.size 2 1 (.slice ad m c) m (rowL (aN f s X) m m) ∧ Below w.heap.size w w'

theorem doc_k (f : Fx) (s : St) (X : Nat → Int) (k : Nat) (w : World) :
    Calls Try.prog 17 #[vF f, vS (sN f s X k), .int .i64 (X k)] w fun e w' => e = .returned (.tuple #[.int .i64 (aN f s X k), vS (sN f s X (k + 1)), .bool (outs f (sN f s X k) (X k))]) ∧ Below w.heap.size w w' := doc_any f (sN f s X k) (X k) w

set_option maxRecDepth 100000 in
set_option maxHeartbeats 4000000 in
theorem docRun_any (f : Fx) (s : St) (X : Nat → Int) (ad : Option Addr) (m c : Nat) (hm : m ≤ 17592186044416) (w : World) (hin : InAt w ad m X) :
    Calls Try.prog 19 #[vF f, vS s, .slice ad m c] w fun e w' => DocPost f s X m w e w' := by
  obtain ⟨i0, hi0, hz0, hz1, hz2⟩ := info_parts infoz_i64
  have Hs := hide (doc_k f s X)
  have Hin := hide hin
  have Hq := hide (QW.start w (aF f) (aS s) (aS ⟨0, 0, 0, 0⟩))
  clear hin
  unfold vF vS at *
  go_enter Try.func19, Try.ntmps19
  go_wp2_with fail
  go_loopw [9, 10, 18] (fun l cnt i wr => ∃ k T : Nat, i = .int .i64 k ∧ k ≤ m ∧ cnt = .int .i64 T ∧ Hid (T = cN f s X k) ∧ T ≤ k ∧ Hid (QW w (aF f) (aS (sN f s X k)) (aS ⟨0, 0, 0, 0⟩) wr) ∧ Hid (wr.ownsRow (w.heap.size + 3) 2 1 l k (rowL (aN f s X) k k))) (fun _ _ i _ => m - (intOf i).toNat)
  case atStart => exact ⟨0, 0, rfl, Nat.zero_le _, rfl, rfl, Nat.le_refl _, unhide Hq, World.ownsRow_nil _ _ _ _⟩
  case round =>
    obtain ⟨k, T, rfl, hk, rfl, hT, hTk, hQ, hown⟩ := hrel
    clear Hq
    by_cases hkm : (k : Int) < (m : Int)
    · obtain ⟨b, off, rfl, hbw, hcx⟩ := (unhide Hin) k (by omega)
      have hx : wr.cell? ⟨b, off + k, none⟩ = some (.int .i64 (X k)) := ((unhide hQ).low.cell (by exact hbw)).trans hcx
      obtain ⟨c0, c1, c2, c3, c4, c5⟩ := (unhide hQ).cellsF
      obtain ⟨d0, d1, d2, d3, d4, d5, d6, d7⟩ := (unhide hQ).cellsS
      have HsK := hide (unhide Hs k)
      obtain ⟨t, ht⟩ : ∃ t, sN f s X (k + 1) = t := ⟨_, rfl⟩
      obtain ⟨y, hy⟩ : ∃ y, aN f s X k = y := ⟨_, rfl⟩
      obtain ⟨o, ho⟩ : ∃ o, outs f (sN f s X k) (X k) = o := ⟨_, rfl⟩
      rw [ht, hy, ho] at HsK
      have HN := hide (And.intro ht (And.intro hy ho))
      clear hcx ht hy ho
      go_wp2_with fail
      refine (unhide HsK _).mono ?_
      rintro e w2 ⟨rfl, hb2⟩
      clear c0 c1 c2 c3 c4 c5 d0 d1 d2 d3 d4 d5 d6 d7 hx
      have hQ2 := (unhide hQ).later hb2
      have hown2 := (unhide hown).kept (below_grownBy hb2) (Classical.em _)
      clear hQ hown
      go_upto_region 7 with fail
      obtain ⟨A, hA⟩ : ∃ A, A = w2.heap.size := ⟨_, rfl⟩
      obtain ⟨W, hW⟩ : ∃ W, W = w2.alloc (Obj.cells #[.int .i64 t.x1, .int .i64 t.x2, .int .i64 t.y1, .int .i64 t.y2] 40) := ⟨_, rfl⟩
      rw [← hW, ← hA]
      have hQ3 := hQ2.later ((Below.refl _ w2).alloc (Nat.le_refl _) (Obj.cells #[.int .i64 t.x1, .int .i64 t.x2, .int .i64 t.y1, .int .i64 t.y2] 40))
      have hown3 := hown2.alloc (Obj.cells #[.int .i64 t.x1, .int .i64 t.x2, .int .i64 t.y1, .int .i64 t.y2] 40)
      rw [← hW] at hQ3 hown3
      have hBA : Blk W A #[.int .i64 t.x1, .int .i64 t.x2, .int .i64 t.y1, .int .i64 t.y2] 40 := by rw [hW, hA]; exact Blk.alloc
      have l0 := hBA.cell 0 rfl
      have l1 := hBA.cell 1 rfl
      have l2 := hBA.cell 2 rfl
      have l3 := hBA.cell 3 rfl
      obtain ⟨d0, d1, d2, d3, d4, d5, d6, d7⟩ := hQ3.cellsS
      have HQ4 := hide (hQ3.setS t)
      have HO4 := hide (ownsRow_setCell_below (ownsRow_setCell_below (ownsRow_setCell_below (ownsRow_setCell_below hown3 (a := ⟨w.heap.size + 1, 0, none⟩) (by show w.heap.size + 1 < _; omega) (.int .i64 t.x1)) (a := ⟨w.heap.size + 1, 1, none⟩) (by show w.heap.size + 1 < _; omega) (.int .i64 t.x2)) (a := ⟨w.heap.size + 1, 2, none⟩) (by show w.heap.size + 1 < _; omega) (.int .i64 t.y1)) (a := ⟨w.heap.size + 1, 3, none⟩) (by show w.heap.size + 1 < _; omega) (.int .i64 t.y2))
      clear hA hW hb2 hQ2 hown2 hQ3 hown3 hBA
      go_upto_region 8 with fail
      obtain ⟨W8, hW8⟩ : ∃ W8, W8 = (((W.setCell ⟨w.heap.size + 1, 0, none⟩ (.int .i64 t.x1)).setCell ⟨w.heap.size + 1, 1, none⟩ (.int .i64 t.x2)).setCell ⟨w.heap.size + 1, 2, none⟩ (.int .i64 t.y1)).setCell ⟨w.heap.size + 1, 3, none⟩ (.int .i64 t.y2) := ⟨_, rfl⟩
      rw [← hW8] at HQ4 HO4 ⊢
      clear hW8 l0 l1 l2 l3 d0 d1 d2 d3 d4 d5 d6 d7
      have o2 : Hid ((W8.alloc (Obj.cells #[.int .i64 y] 2)).ownsRow (w.heap.size + 3) 2 1 u9 k (rowL (aN f s X) k k)) := hide ((unhide HO4).alloc _)
      have hnews : Hid (∀ j u, [Value.int .i64 y][j]? = some u → (W8.alloc (Obj.cells #[.int .i64 y] 2)).cell? ((⟨W8.heap.size, 0, none⟩ : Addr).add j) = some u) := hide (by
        intro j u hu
        rw [Addr.add_mid, Nat.zero_add]
        exact (Blk.alloc (w := W8) (cs := #[.int .i64 y]) (t := 2)).cell j (by simpa using hu))
      have hbase : Hid (w.heap.size + 3 ≤ (W8.alloc (Obj.cells #[.int .i64 y] 2)).heap.size) := hide (by have := (unhide HQ4).res.lt; simp; omega)
      have hH : Hid ((W8.alloc (Obj.cells #[.int .i64 y] 2)).heap.size = W8.heap.size + 1) := hide (by simp)
      have Hap := hide (fun (kk : Nat) (e : u9.ownBlock = some kk) => ((unhide HO4).lt kk e))
      clear HO4
      cases o
      · go_wp2_with (first
          | (at_builtin; refine wpList_append_lies _ rfl (.tmp 31) (.tmp 33) 44 rfl (w.heap.size + 3) 2 i0 (.int .i64 0) 1 8 Try.underlying44 hi0 hz0 hz1 hz2 rfl Nat.one_pos u9 k (rowL (aN f s X) k k) rfl o2.out ⟨W8.heap.size, 0, none⟩ 1 1 [.int .i64 y] rfl rfl hnews.out (one_i _) Nat.one_pos (by unfold maxLen; omega) (by omega) hbase.out (W8.heap.size + 1) hH.out ?_; intro gg cap9 w9 hown9 hg9 hat9 hlt9)
          | fail)
        go_roundw
        case rel =>
          refine ⟨k + 1, T + 0, by go_num, by omega, by go_num, ?_, by omega, ?_, ?_⟩
          · show T + 0 = cN f s X (k + 1)
            rw [cN, (unhide HN).2.2, unhide hT]; rfl
          · rw [(unhide HN).1]
            exact ((unhide HQ4).later (Joins.below_alloc1 _ _)).grown hg9 (fun q e => by have := (unhide Hap q e).1; omega)
          · rw [← rowL_app, (unhide HN).2.1]; exact hown9
        case measure => simp [intOf]; omega
      · go_wp2_with (first
          | (at_builtin; refine wpList_append_lies _ rfl (.tmp 31) (.tmp 33) 44 rfl (w.heap.size + 3) 2 i0 (.int .i64 0) 1 8 Try.underlying44 hi0 hz0 hz1 hz2 rfl Nat.one_pos u9 k (rowL (aN f s X) k k) rfl o2.out ⟨W8.heap.size, 0, none⟩ 1 1 [.int .i64 y] rfl rfl hnews.out (one_i _) Nat.one_pos (by unfold maxLen; omega) (by omega) hbase.out (W8.heap.size + 1) hH.out ?_; intro gg cap9 w9 hown9 hg9 hat9 hlt9)
          | fail)
        go_roundw
        case rel =>
          refine ⟨k + 1, T + 1, by go_num, by omega, by go_num, ?_, by omega, ?_, ?_⟩
          · show T + 1 = cN f s X (k + 1)
            rw [cN, (unhide HN).2.2, unhide hT]; rfl
          · rw [(unhide HN).1]
            exact ((unhide HQ4).later (Joins.below_alloc1 _ _)).grown hg9 (fun q e => by have := (unhide Hap q e).1; omega)
          · rw [← rowL_app, (unhide HN).2.1]; exact hown9
        case measure => simp [intOf]; omega
    · obtain rfl : k = m := by omega
      obtain ⟨adl, cl, rfl⟩ := own_slice (unhide hown)
      obtain ⟨d0, d1, d2, d3, d4, d5, d6, d7⟩ := (unhide hQ).cellsS
      obtain ⟨e0, e1, e2, e3, e4, e5, e6, e7⟩ := (unhide hQ).cellsR
      go_wp2_with fail
      go_region_held3 (fun v => v.cell? ⟨w.heap.size + 1, 0, none⟩ = some (.int .i64 (sN f s X k).x1) ∧ v.cell? ⟨w.heap.size + 1, 1, none⟩ = some (.int .i64 (sN f s X k).x2) ∧ v.cell? ⟨w.heap.size + 1, 2, none⟩ = some (.int .i64 (sN f s X k).y1) ∧ v.cell? ⟨w.heap.size + 1, 3, none⟩ = some (.int .i64 (sN f s X k).y2)) (go_keep) (fail)
      go_wp2
      have hq3 := (unhide hQ).setR (sN f s X k)
      refine bodyPost_ret (run_results_d rfl rfl rfl hq3.res) rfl ?_
      refine ⟨adl, cl, by rw [← unhide hT]; rfl, ?_, hq3.low.drew⟩
      have := ownsRow_setCell_below (ownsRow_setCell_below (ownsRow_setCell_below (ownsRow_setCell_below (unhide hown) (a := ⟨w.heap.size + 1 + 1, 0, none⟩) (by show w.heap.size + 1 + 1 < _; omega) (.int .i64 (sN f s X k).x1)) (a := ⟨w.heap.size + 1 + 1, 1, none⟩) (by show w.heap.size + 1 + 1 < _; omega) (.int .i64 (sN f s X k).x2)) (a := ⟨w.heap.size + 1 + 1, 2, none⟩) (by show w.heap.size + 1 + 1 < _; omega) (.int .i64 (sN f s X k).y1)) (a := ⟨w.heap.size + 1 + 1, 3, none⟩) (by show w.heap.size + 1 + 1 < _; omega) (.int .i64 (sN f s X k).y2)
      exact (Joins.ownsRow_le this (by omega)).drew

set_option maxRecDepth 100000 in
set_option maxHeartbeats 1000000 in
theorem alike_any (ad1 ad2 : Option Addr) (m c1 c2 : Nat) (X : Nat → Int) (w : World) (hm : m ≤ 17592186044416) (h1 : InAt w ad1 m X) (h2 : InAt w ad2 m X) :
    Calls Try.prog 20 #[.slice ad1 m c1, .slice ad2 m c2] w fun e w' => e = .returned (.bool true) ∧ Below w.heap.size w w' := by
  have H1 := hide h1
  have H2 := hide h2
  clear h1 h2
  go_enter Try.func20, Try.ntmps20
  go_wp2_with fail
  go_loopw [13] (fun i wr => ∃ k : Nat, i = .int .i64 k ∧ k ≤ m ∧ Hid (Below w.heap.size w wr)) (fun i _ => m - (intOf i).toNat)
  case atStart => exact ⟨0, rfl, Nat.zero_le _, Below.refl _ _⟩
  case round =>
    obtain ⟨k, rfl, hk, hb⟩ := hrel
    by_cases hkm : (k : Int) < (m : Int)
    · obtain ⟨b1, o1, rfl, l1, hc1⟩ := (unhide H1) k (by omega)
      obtain ⟨b2, o2, rfl, l2, hc2⟩ := (unhide H2) k (by omega)
      have x1 : wr.cell? ⟨b1, o1 + k, none⟩ = some (.int .i64 (X k)) := ((unhide hb).cell (by exact l1)).trans hc1
      have x2 : wr.cell? ⟨b2, o2 + k, none⟩ = some (.int .i64 (X k)) := ((unhide hb).cell (by exact l2)).trans hc2
      clear hc1 hc2
      go_wp2_with fail
      go_quiet (fail)
      go_wp2
      go_roundw
      case rel => exact ⟨k + 1, by go_num, by omega, (unhide hb).trans (Joins.below_draws _ _ _)⟩
      case measure => simp [intOf]; omega
    · obtain rfl : k = m := by omega
      go_wp2
      go_ret
      exact ⟨rfl, unhide hb⟩
end Go.Proofs.Ytlajalfdcfkmpaa
