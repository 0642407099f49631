/- Dr, Ry, Mm, Mw, one behind the other. -/
import Derived.Test.YtlajalfdcfkmpabNy
import Derived.Test.YtlajalfdcfkmpabQr
import Derived.Deep.AppendLies
import Derived.Deep.QuietTactic
import Derived.BigQuiet
import Derived.Test.YtlajalfdcfkmpabQk
import Derived.Test.YtlajalfdcfkmpabRgj
import Derived.Laws.AppendOwnNone
import Derived.Maps.AppendAt
import Derived.Test.YtlajalfdcfkmpabQp
import Derived.Laws.CopyOwn
import Derived.Deep.OwnRows
import Derived.Test.YtlajalfdcfkmpabQw
/- What quaverref25's DocRun answers; when two lists are alike. -/
namespace Go.Proofs.Ytlajalfdcfkmpab
open Go.RowKit Go.Maps

theorem rowL_app (Y : Nat → Int) (k : Nat) : rowL Y k k ++ [.int .i64 (Y k)] = rowL Y (k + 1) (k + 1) := by
  apply List.ext_getElem?
  intro j
  by_cases hj : j < k
  · rw [List.getElem?_append_left (by rw [rowL_len]; exact hj), rowL_at _ _ _ _ hj, rowL_at _ _ _ _ (by omega), if_pos hj, if_pos (by omega)]
  · rw [List.getElem?_append_right (by rw [rowL_len]; omega), rowL_len]
    by_cases hk : j = k
    · subst hk
      rw [Nat.sub_self, rowL_at _ _ _ _ (by omega), if_pos (by omega)]
      rfl
    · rw [List.getElem?_eq_none (by simp; omega), List.getElem?_eq_none (by rw [rowL_len]; omega)]
theorem one_i (n : Int) : ∀ u ∈ [Value.int .i64 n], u.oneCell' = true := by
  intro u hu
  simp at hu
  subst hu; rfl
theorem run_results_d {w : World} {tmps : Array Value} {y o : Value} {b : Nat} {c0 c1 c2 c3 : Value} (h6 : tmps.getD 6 undef = y) (h7 : tmps.getD 7 undef = .pointer (some ⟨b, 0, none⟩)) (h8 : tmps.getD 8 undef = o) (hr : Blk w b #[c0, c1, c2, c3] 44) :
    (results Try.f16 tmps).run Try.prog w = .ok (.tuple #[y, .agg #[c0, c1, c2, c3], o]) w := by
  have hl := run_loadVar_mid (P := Try.prog) w b 0 44 [c0, c1, c2, c3] _ hr.range Try.underlying44 rfl infoSt
  rw [Array.getD_eq_getD_getElem?] at h6 h7 h8
  simp [results, h6, h7, h8, asAddr, hl]
theorem own_slice {w : World} {base m : Nat} {v : Value} {l : List Value} (h : w.ownsRow base 2 1 v m l) : ∃ ad c, v = .slice ad m c := by
  rcases h.2 with ⟨rfl, h0⟩ | ⟨g, cap, cur, rfl, _⟩
  · exact ⟨none, 0, by rw [h0]⟩
  · exact ⟨_, _, rfl⟩
theorem InAt_own {w : World} {base q : Nat} {ad : Option Addr} {c : Nat} {X : Nat → Int} (h : w.ownsRow base 2 1 (.slice ad q c) q (rowL X q q)) : InAt w ad q X := fun j hj => by
  obtain ⟨g, cap, e⟩ := Joins.ownsRow_form h (by omega)
  simp only [Value.slice.injEq, true_and] at e
  obtain ⟨rfl, rfl⟩ := e
  exact ⟨g, 0, rfl, (h.lt g rfl).2, by rw [Nat.zero_add, h.cellAt j (by omega), rowL_at _ _ _ _ hj, if_pos hj]⟩

def DocPost (f : Fx) (s : St) (X : Nat → Int) (m : Nat) (w : World) (e : Ending) (w' : World) : Prop :=
  ∃ ad c, e = .returned (.tuple #[.slice ad m c, vS (sN f s X m), .int .i64 (cN f s X m)]) ∧ w'.ownsRow w.heap.size 2 1 (.slice ad m c) m (rowL (aN f s X) m m) ∧ Below w.heap.size w w'

theorem doc_k (f : Fx) (s : St) (X : Nat → Int) (k : Nat) (w : World) :
    Calls Try.prog 35 #[vF f, vS (sN f s X k), .int .i64 (X k)] w fun e w' => e = .returned (.tuple #[.int .i64 (aN f s X k), vS (sN f s X (k + 1)), .bool (outs f (sN f s X k) (X k))]) ∧ Below w.heap.size w w' := doc_any f (sN f s X k) (X k) w

set_option maxRecDepth 100000 in
set_option maxHeartbeats 4000000 in
theorem docRun_any (f : Fx) (s : St) (X : Nat → Int) (ad : Option Addr) (m c : Nat) (hm : m ≤ 17592186044416) (w : World) (hin : InAt w ad m X) :
    Calls Try.prog 16 #[vF f, vS s, .slice ad m c] w fun e w' => DocPost f s X m w e w' := by
  obtain ⟨i0, hi0, hz0, hz1, hz2⟩ := info_parts infoz_i64
  have Hs := hide (doc_k f s X)
  have Hin := hide hin
  have Hq := hide (QW.start w (aF f) (aS s) (aS ⟨0, 0, 0, 0⟩))
  clear hin
  unfold vF vS at *
  go_enter Try.func16, Try.ntmps16
  go_wp2_with fail
  go_loopw [9, 10, 18] (fun l cnt i wr => ∃ k T : Nat, i = .int .i64 k ∧ k ≤ m ∧ cnt = .int .i64 T ∧ Hid (T = cN f s X k) ∧ T ≤ k ∧ Hid (QW w (aF f) (aS (sN f s X k)) (aS ⟨0, 0, 0, 0⟩) wr) ∧ Hid (wr.ownsRow (w.heap.size + 3) 2 1 l k (rowL (aN f s X) k k))) (fun _ _ i _ => m - (intOf i).toNat)
  case atStart => exact ⟨0, 0, rfl, Nat.zero_le _, rfl, rfl, Nat.le_refl _, unhide Hq, World.ownsRow_nil _ _ _ _⟩
  case round =>
    obtain ⟨k, T, rfl, hk, rfl, hT, hTk, hQ, hown⟩ := hrel
    clear Hq
    by_cases hkm : (k : Int) < (m : Int)
    · obtain ⟨b, off, rfl, hbw, hcx⟩ := (unhide Hin) k (by omega)
      have hx : wr.cell? ⟨b, off + k, none⟩ = some (.int .i64 (X k)) := ((unhide hQ).low.cell (by exact hbw)).trans hcx
      obtain ⟨c0, c1, c2, c3, c4, c5⟩ := (unhide hQ).cellsF
      obtain ⟨d0, d1, d2, d3, d4, d5, d6, d7⟩ := (unhide hQ).cellsS
      have HsK := hide (unhide Hs k)
      obtain ⟨t, ht⟩ : ∃ t, sN f s X (k + 1) = t := ⟨_, rfl⟩
      obtain ⟨y, hy⟩ : ∃ y, aN f s X k = y := ⟨_, rfl⟩
      obtain ⟨o, ho⟩ : ∃ o, outs f (sN f s X k) (X k) = o := ⟨_, rfl⟩
      rw [ht, hy, ho] at HsK
      have HN := hide (And.intro ht (And.intro hy ho))
      clear hcx ht hy ho
      go_wp2_with fail
      refine (unhide HsK _).mono ?_
      rintro e w2 ⟨rfl, hb2⟩
      clear c0 c1 c2 c3 c4 c5 d0 d1 d2 d3 d4 d5 d6 d7 hx
      have hQ2 := (unhide hQ).later hb2
      have hown2 := (unhide hown).kept (below_grownBy hb2) (Classical.em _)
      clear hQ hown
      go_upto_region 7 with fail
      obtain ⟨A, hA⟩ : ∃ A, A = w2.heap.size := ⟨_, rfl⟩
      obtain ⟨W, hW⟩ : ∃ W, W = w2.alloc (Obj.cells #[.int .i64 t.x1, .int .i64 t.x2, .int .i64 t.y1, .int .i64 t.y2] 44) := ⟨_, rfl⟩
      rw [← hW, ← hA]
      have hQ3 := hQ2.later ((Below.refl _ w2).alloc (Nat.le_refl _) (Obj.cells #[.int .i64 t.x1, .int .i64 t.x2, .int .i64 t.y1, .int .i64 t.y2] 44))
      have hown3 := hown2.alloc (Obj.cells #[.int .i64 t.x1, .int .i64 t.x2, .int .i64 t.y1, .int .i64 t.y2] 44)
      rw [← hW] at hQ3 hown3
      have hBA : Blk W A #[.int .i64 t.x1, .int .i64 t.x2, .int .i64 t.y1, .int .i64 t.y2] 44 := by rw [hW, hA]; exact Blk.alloc
      have l0 := hBA.cell 0 rfl
      have l1 := hBA.cell 1 rfl
      have l2 := hBA.cell 2 rfl
      have l3 := hBA.cell 3 rfl
      obtain ⟨d0, d1, d2, d3, d4, d5, d6, d7⟩ := hQ3.cellsS
      have HQ4 := hide (hQ3.setS t)
      have HO4 := hide (ownsRow_setCell_below (ownsRow_setCell_below (ownsRow_setCell_below (ownsRow_setCell_below hown3 (a := ⟨w.heap.size + 1, 0, none⟩) (by show w.heap.size + 1 < _; omega) (.int .i64 t.x1)) (a := ⟨w.heap.size + 1, 1, none⟩) (by show w.heap.size + 1 < _; omega) (.int .i64 t.x2)) (a := ⟨w.heap.size + 1, 2, none⟩) (by show w.heap.size + 1 < _; omega) (.int .i64 t.y1)) (a := ⟨w.heap.size + 1, 3, none⟩) (by show w.heap.size + 1 < _; omega) (.int .i64 t.y2))
      clear hA hW hb2 hQ2 hown2 hQ3 hown3 hBA
      go_upto_region 8 with fail
      obtain ⟨W8, hW8⟩ : ∃ W8, W8 = (((W.setCell ⟨w.heap.size + 1, 0, none⟩ (.int .i64 t.x1)).setCell ⟨w.heap.size + 1, 1, none⟩ (.int .i64 t.x2)).setCell ⟨w.heap.size + 1, 2, none⟩ (.int .i64 t.y1)).setCell ⟨w.heap.size + 1, 3, none⟩ (.int .i64 t.y2) := ⟨_, rfl⟩
      rw [← hW8] at HQ4 HO4 ⊢
      clear hW8 l0 l1 l2 l3 d0 d1 d2 d3 d4 d5 d6 d7
      have o2 : Hid ((W8.alloc (Obj.cells #[.int .i64 y] 2)).ownsRow (w.heap.size + 3) 2 1 u9 k (rowL (aN f s X) k k)) := hide ((unhide HO4).alloc _)
      have hnews : Hid (∀ j u, [Value.int .i64 y][j]? = some u → (W8.alloc (Obj.cells #[.int .i64 y] 2)).cell? ((⟨W8.heap.size, 0, none⟩ : Addr).add j) = some u) := hide (by
        intro j u hu
        rw [Addr.add_mid, Nat.zero_add]
        exact (Blk.alloc (w := W8) (cs := #[.int .i64 y]) (t := 2)).cell j (by simpa using hu))
      have hbase : Hid (w.heap.size + 3 ≤ (W8.alloc (Obj.cells #[.int .i64 y] 2)).heap.size) := hide (by have := (unhide HQ4).res.lt; simp; omega)
      have hH : Hid ((W8.alloc (Obj.cells #[.int .i64 y] 2)).heap.size = W8.heap.size + 1) := hide (by simp)
      have Hap := hide (fun (kk : Nat) (e : u9.ownBlock = some kk) => ((unhide HO4).lt kk e))
      clear HO4
      cases o
      · go_wp2_with (first
          | (at_builtin; refine wpList_append_lies _ rfl (.tmp 31) (.tmp 33) 25 rfl (w.heap.size + 3) 2 i0 (.int .i64 0) 1 8 Try.underlying25 hi0 hz0 hz1 hz2 rfl Nat.one_pos u9 k (rowL (aN f s X) k k) rfl o2.out ⟨W8.heap.size, 0, none⟩ 1 1 [.int .i64 y] rfl rfl hnews.out (one_i _) Nat.one_pos (by unfold maxLen; omega) (by omega) hbase.out (W8.heap.size + 1) hH.out ?_; intro gg cap9 w9 hown9 hg9 hat9 hlt9)
          | fail)
        go_roundw
        case rel =>
          refine ⟨k + 1, T + 0, by go_num, by omega, by go_num, ?_, by omega, ?_, ?_⟩
          · show T + 0 = cN f s X (k + 1)
            rw [cN, (unhide HN).2.2, unhide hT]; rfl
          · rw [(unhide HN).1]
            exact ((unhide HQ4).later (Joins.below_alloc1 _ _)).grown hg9 (fun q e => by have := (unhide Hap q e).1; omega)
          · rw [← rowL_app, (unhide HN).2.1]; exact hown9
        case measure => simp [intOf]; omega
      · go_wp2_with (first
          | (at_builtin; refine wpList_append_lies _ rfl (.tmp 31) (.tmp 33) 25 rfl (w.heap.size + 3) 2 i0 (.int .i64 0) 1 8 Try.underlying25 hi0 hz0 hz1 hz2 rfl Nat.one_pos u9 k (rowL (aN f s X) k k) rfl o2.out ⟨W8.heap.size, 0, none⟩ 1 1 [.int .i64 y] rfl rfl hnews.out (one_i _) Nat.one_pos (by unfold maxLen; omega) (by omega) hbase.out (W8.heap.size + 1) hH.out ?_; intro gg cap9 w9 hown9 hg9 hat9 hlt9)
          | fail)
        go_roundw
        case rel =>
          refine ⟨k + 1, T + 1, by go_num, by omega, by go_num, ?_, by omega, ?_, ?_⟩
          · show T + 1 = cN f s X (k + 1)
            rw [cN, (unhide HN).2.2, unhide hT]; rfl
          · rw [(unhide HN).1]
            exact ((unhide HQ4).later (Joins.below_alloc1 _ _)).grown hg9 (fun q e => by have := (unhide Hap q e).1; omega)
          · rw [← rowL_app, (unhide HN).2.1]; exact hown9
        case measure => simp [intOf]; omega
    · obtain rfl : k = m := by omega
      obtain ⟨adl, cl, rfl⟩ := own_slice (unhide hown)
      obtain ⟨d0, d1, d2, d3, d4, d5, d6, d7⟩ := (unhide hQ).cellsS
      obtain ⟨e0, e1, e2, e3, e4, e5, e6, e7⟩ := (unhide hQ).cellsR
      go_wp2_with fail
      go_region_held3 (fun v => v.cell? ⟨w.heap.size + 1, 0, none⟩ = some (.int .i64 (sN f s X k).x1) ∧ v.cell? ⟨w.heap.size + 1, 1, none⟩ = some (.int .i64 (sN f s X k).x2) ∧ v.cell? ⟨w.heap.size + 1, 2, none⟩ = some (.int .i64 (sN f s X k).y1) ∧ v.cell? ⟨w.heap.size + 1, 3, none⟩ = some (.int .i64 (sN f s X k).y2)) (go_keep) (fail)
      go_wp2
      have hq3 := (unhide hQ).setR (sN f s X k)
      refine bodyPost_ret (run_results_d rfl rfl rfl hq3.res) rfl ?_
      refine ⟨adl, cl, by rw [← unhide hT]; rfl, ?_, hq3.low.drew⟩
      have := ownsRow_setCell_below (ownsRow_setCell_below (ownsRow_setCell_below (ownsRow_setCell_below (unhide hown) (a := ⟨w.heap.size + 1 + 1, 0, none⟩) (by show w.heap.size + 1 + 1 < _; omega) (.int .i64 (sN f s X k).x1)) (a := ⟨w.heap.size + 1 + 1, 1, none⟩) (by show w.heap.size + 1 + 1 < _; omega) (.int .i64 (sN f s X k).x2)) (a := ⟨w.heap.size + 1 + 1, 2, none⟩) (by show w.heap.size + 1 + 1 < _; omega) (.int .i64 (sN f s X k).y1)) (a := ⟨w.heap.size + 1 + 1, 3, none⟩) (by show w.heap.size + 1 + 1 < _; omega) (.int .i64 (sN f s X k).y2)
      exact (Joins.ownsRow_le this (by omega)).drew

set_option maxRecDepth 100000 in
set_option maxHeartbeats 1000000 in
theorem alike_any (ad1 ad2 : Option Addr) (m c1 c2 : Nat) (X : Nat → Int) (w : World) (hm : m ≤ 17592186044416) (h1 : InAt w ad1 m X) (h2 : InAt w ad2 m X) :
    Calls Try.prog 15 #[.slice ad1 m c1, .slice ad2 m c2] w fun e w' => e = .returned (.bool true) ∧ Below w.heap.size w w' := by
  have H1 := hide h1
  have H2 := hide h2
  clear h1 h2
  go_enter Try.func15, Try.ntmps15
  go_wp2_with fail
  go_loopw [13] (fun i wr => ∃ k : Nat, i = .int .i64 k ∧ k ≤ m ∧ Hid (Below w.heap.size w wr)) (fun i _ => m - (intOf i).toNat)
  case atStart => exact ⟨0, rfl, Nat.zero_le _, Below.refl _ _⟩
  case round =>
    obtain ⟨k, rfl, hk, hb⟩ := hrel
    by_cases hkm : (k : Int) < (m : Int)
    · obtain ⟨b1, o1, rfl, l1, hc1⟩ := (unhide H1) k (by omega)
      obtain ⟨b2, o2, rfl, l2, hc2⟩ := (unhide H2) k (by omega)
      have x1 : wr.cell? ⟨b1, o1 + k, none⟩ = some (.int .i64 (X k)) := ((unhide hb).cell (by exact l1)).trans hc1
      have x2 : wr.cell? ⟨b2, o2 + k, none⟩ = some (.int .i64 (X k)) := ((unhide hb).cell (by exact l2)).trans hc2
      clear hc1 hc2
      go_wp2_with fail
      go_quiet (fail)
      go_wp2
      go_roundw
      case rel => exact ⟨k + 1, by go_num, by omega, (unhide hb).trans (Joins.below_draws _ _ _)⟩
      case measure => simp [intOf]; omega
    · obtain rfl : k = m := by omega
      go_wp2
      go_ret
      exact ⟨rfl, unhide hb⟩
end Go.Proofs.Ytlajalfdcfkmpab

/- A region that runs a section over a cut of a list that came in as an argument, whatever its order; rows appended to rows. -/
namespace Go.Proofs.Ytlajalfdcfkmpab
open Go.RowKit Go.Maps

theorem enter_run (xs : Array Value) (w : World) : (callFunc 14 xs).run Try.prog w = .ok (.enter 14 xs) w := by go_simp
def tup (g m : Nat) (s : St) (c : Int) : Value := .tuple #[.slice (some ⟨g, 0, none⟩) m m, vS s, .int .i64 c]
def rnC (d d5 d6 d7 d11 : Nat) (W : World) (s : St) (m : Nat) (Y : Nat → Int) (cnt : Int) (listed : Array Bool) (a : Act) (w : World) : Prop :=
  alC d 10 12 W s listed a w ∧ (listed.getD 5 false = true → ∃ g, a.eval (.tmp d5) = tup g m s cnt ∧ (listed.getD 6 false = true → a.eval (.tmp d6) = tup g m s cnt) ∧ (listed.getD 7 false = true → a.eval (.tmp d7) = .slice (some ⟨g, 0, none⟩) m m) ∧ (listed.getD 11 false = true → a.eval (.tmp d11) = .slice (some ⟨g, 0, none⟩) m m) ∧
    W.heap.size ≤ g ∧ w.ownsRow W.heap.size 2 1 (.slice (some ⟨g, 0, none⟩) m m) m (rowL Y m m) ∧ (listed.getD 10 false = true → a.eval (.tmp d) ≠ .pointer (some ⟨g, 0, none⟩)))
theorem getD_rep (n i : Nat) : (Array.replicate n false).getD i false = false := by
  rw [Array.getD_eq_getD_getElem?, Array.getElem?_replicate]
  split <;> rfl
section
variable {d d5 d6 d7 d11 m : Nat} {W w w' : World} {s : St} {Y : Nat → Int} {cnt : Int} {listed : Array Bool} {a : Act} {o : Oper}
theorem rnC.start {n : Nat} : rnC d d5 d6 d7 d11 W s m Y cnt (Array.replicate n false) a W.drew := ⟨alC.start, fun h => by rw [getD_rep] at h; cases h⟩
theorem rnC.same (h : rnC d d5 d6 d7 d11 W s m Y cnt listed a w) (i : Nat) {e : Nat} (hd : o.dst = some e) (hi : i ≠ 5 ∧ i ≠ 6 ∧ i ≠ 7 ∧ i ≠ 10 ∧ i ≠ 11 ∧ i ≠ 12) (he : d ≠ e ∧ d5 ≠ e ∧ d6 ≠ e ∧ d7 ≠ e ∧ d11 ≠ e) {u : Value} :
    rnC d d5 d6 d7 d11 W s m Y cnt (listed.setIfInBounds i true) (a.put o.dst u) w := by
  refine ⟨h.1.same i hd hi.2.2.2.1 hi.2.2.2.2.2 he.1 (Below.refl _ _), ?_⟩
  rw [hd, putOther he.1, putOther he.2.1, putOther he.2.2.1, putOther he.2.2.2.1, putOther he.2.2.2.2, getD_set_ne false hi.1, getD_set_ne false hi.2.1, getD_set_ne false hi.2.2.1, getD_set_ne false hi.2.2.2.1, getD_set_ne false hi.2.2.2.2.1]
  exact h.2
theorem rnC.call (h : rnC d d5 d6 d7 d11 W s m Y cnt listed a w) {n : Nat} (hn : a.tmps.size = n) (h5 : d5 < n) (hd : o.dst = some d5) (he : d ≠ d5) (hu : listed.getD 6 false = false ∧ listed.getD 7 false = false ∧ listed.getD 11 false = false) {g : Nat} (hb : Below w.heap.size w w') (hg : w.heap.size ≤ g) (hown : w'.ownsRow w.heap.size 2 1 (.slice (some ⟨g, 0, none⟩) m m) m (rowL Y m m)) :
    rnC d d5 d6 d7 d11 W s m Y cnt (listed.setIfInBounds 5 true) (a.put o.dst (tup g m s cnt)) w' := by
  refine ⟨h.1.same 5 hd (by omega) (by omega) he hb, fun _ => ⟨g, ?_, ?_, ?_, ?_, Nat.le_trans h.1.1.size hg, Joins.ownsRow_le hown h.1.1.size, ?_⟩⟩
  · rw [hd, putSame (by omega)]
  · rw [getD_set_ne false (by omega), hu.1]; intro e; cases e
  · rw [getD_set_ne false (by omega), hu.2.1]; intro e; cases e
  · rw [getD_set_ne false (by omega), hu.2.2]; intro e; cases e
  · rw [hd, putOther he, getD_set_ne false (by omega)]
    intro hl e
    obtain ⟨N, e1, _, e3⟩ := h.1.2 hl
    rw [e1] at e
    have : N = g := by simpa using e
    have := e3.lt
    omega
theorem rnC.mv (h : rnC d d5 d6 d7 d11 W s m Y cnt listed a w) {n : Nat} (hn : a.tmps.size = n) (h6 : d6 < n) (hd : o.dst = some d6) (he : d ≠ d6 ∧ d5 ≠ d6 ∧ d7 ≠ d6 ∧ d11 ≠ d6) (l5 : listed.getD 5 false = true) :
    rnC d d5 d6 d7 d11 W s m Y cnt (listed.setIfInBounds 6 true) (a.put o.dst (a.eval (.tmp d5))) w := by
  obtain ⟨g, e1, e2, e3, e4, e5, e6, e7⟩ := h.2 l5
  refine ⟨h.1.same 6 hd (by omega) (by omega) he.1 (Below.refl _ _), fun _ => ⟨g, ?_, ?_, ?_, ?_, e5, e6, ?_⟩⟩
  · rw [hd, putOther he.2.1]; exact e1
  · intro _; rw [hd, putSame (by omega)]; exact e1
  · rw [hd, putOther he.2.2.1, getD_set_ne false (by omega)]; exact e3
  · rw [hd, putOther he.2.2.2, getD_set_ne false (by omega)]; exact e4
  · rw [hd, putOther he.1, getD_set_ne false (by omega)]; exact e7
theorem rnC.ex (h : rnC d d5 d6 d7 d11 W s m Y cnt listed a w) {n : Nat} (hn : a.tmps.size = n) (h7 : d7 < n) (hd : o.dst = some d7) (he : d ≠ d7 ∧ d5 ≠ d7 ∧ d6 ≠ d7 ∧ d11 ≠ d7) {g : Nat} (l5 : listed.getD 5 false = true) (hg : a.eval (.tmp d5) = tup g m s cnt) :
    rnC d d5 d6 d7 d11 W s m Y cnt (listed.setIfInBounds 7 true) (a.put o.dst (.slice (some ⟨g, 0, none⟩) m m)) w := by
  obtain ⟨g', e1, e2, e3, e4, e5, e6, e7⟩ := h.2 l5
  have : g' = g := by rw [e1] at hg; simpa [tup] using hg
  subst this
  refine ⟨h.1.same 7 hd (by omega) (by omega) he.1 (Below.refl _ _), fun _ => ⟨g', ?_, ?_, ?_, ?_, e5, e6, ?_⟩⟩
  · rw [hd, putOther he.2.1]; exact e1
  · rw [hd, putOther he.2.2.1, getD_set_ne false (by omega)]; exact e2
  · intro _; rw [hd, putSame (by omega)]
  · rw [hd, putOther he.2.2.2, getD_set_ne false (by omega)]; exact e4
  · rw [hd, putOther he.1, getD_set_ne false (by omega)]; exact e7
theorem rnC.asg (h : rnC d d5 d6 d7 d11 W s m Y cnt listed a w) {n : Nat} (hn : a.tmps.size = n) (h7 : d11 < n) (hd : o.dst = some d11) (he : d ≠ d11 ∧ d5 ≠ d11 ∧ d6 ≠ d11 ∧ d7 ≠ d11) (l5 : listed.getD 5 false = true) (l7 : listed.getD 7 false = true) :
    rnC d d5 d6 d7 d11 W s m Y cnt (listed.setIfInBounds 11 true) (a.put o.dst (a.eval (.tmp d7))) w := by
  obtain ⟨g', e1, e2, e3, e4, e5, e6, e7⟩ := h.2 l5
  refine ⟨h.1.same 11 hd (by omega) (by omega) he.1 (Below.refl _ _), fun _ => ⟨g', ?_, ?_, ?_, ?_, e5, e6, ?_⟩⟩
  · rw [hd, putOther he.2.1]; exact e1
  · rw [hd, putOther he.2.2.1, getD_set_ne false (by omega)]; exact e2
  · rw [hd, putOther he.2.2.2, getD_set_ne false (by omega)]; exact e3
  · intro _; rw [hd, putSame (by omega)]; exact e3 l7
  · rw [hd, putOther he.1, getD_set_ne false (by omega)]; exact e7
theorem rnC.alloc (h : rnC d d5 d6 d7 d11 W s m Y cnt listed a w) {n : Nat} (hn : a.tmps.size = n) (hs : d < n) (hd : o.dst = some d) (he : d5 ≠ d ∧ d6 ≠ d ∧ d7 ≠ d ∧ d11 ≠ d) (hu : listed.getD 12 false = false) :
    rnC d d5 d6 d7 d11 W s m Y cnt (listed.setIfInBounds 10 true) (a.put o.dst (.pointer (some ⟨w.heap.size, 0, none⟩))) (w.alloc (.cells (aS zSt) 44)) := by
  refine ⟨h.1.alloc hn hs hd (by omega) hu, ?_⟩
  rw [hd, putOther he.1, putOther he.2.1, putOther he.2.2.1, putOther he.2.2.2, putSame (by omega), getD_set_ne false (by omega), getD_set_ne false (by omega), getD_set_ne false (by omega), getD_set_ne false (by omega)]
  intro l5
  obtain ⟨g', e1, e2, e3, e4, e5, e6, e7⟩ := h.2 l5
  refine ⟨g', e1, e2, e3, e4, e5, e6.alloc _, fun _ e => ?_⟩
  have h1 : w.heap.size = g' := by simpa using e
  have := (e6.lt g' rfl).2
  omega
theorem rnC.store (h : rnC d d5 d6 d7 d11 W s m Y cnt listed a w) {N : Nat} (hd : o.dst = none) (ha : listed.getD 10 false = true) (hN : a.eval (.tmp d) = .pointer (some ⟨N, 0, none⟩)) (hi : 12 < listed.size) :
    rnC d d5 d6 d7 d11 W s m Y cnt (listed.setIfInBounds 12 true) (a.put o.dst undef) (w.setCells N 0 (aS s).toList) := by
  refine ⟨h.1.store hd ha hN hi, ?_⟩
  have hev : ∀ t, (a.put o.dst undef).eval (.tmp t) = a.eval (.tmp t) := fun t => by rw [hd]; rfl
  rw [hev, hev, hev, hev, hev, getD_set_ne false (by omega), getD_set_ne false (by omega), getD_set_ne false (by omega), getD_set_ne false (by omega), getD_set_ne false (by omega)]
  intro l5
  obtain ⟨g', e1, e2, e3, e4, e5, e6, e7⟩ := h.2 l5
  refine ⟨g', e1, e2, e3, e4, e5, ?_, e7⟩
  refine e6.kept (row := some N) ⟨(Below.setCells (Below.refl 0 w) (Nat.zero_le N) 0 _).os, (Below.setCells (Below.refl 0 w) (Nat.zero_le N) 0 _).tape, (Below.setCells (Below.refl 0 w) (Nat.zero_le N) 0 _).output, by rw [size_setCells]; exact Nat.le_refl _, fun q _ hq => heap_setCells_other N (fun e => hq (by rw [e])) _ _ _⟩ (.inr ?_)
  intro e
  have h2 : g' = N := by simpa [Value.ownBlock] using e
  exact e7 ha (by rw [hN, h2])
end

/-- A list among the arguments: without room, or cells from a place on. -/
def XArg (v : Value) (q : Nat) : Prop := (q = 0 ∧ ∃ ad, v = .slice ad 0 0) ∨ ∃ b off c, v = .slice (some ⟨b, off, none⟩) q c ∧ q ≤ c
theorem step_head {o : Oper} {a : Act} {w : World} {R : Value → World → Prop} {x y q m : Nat} {v : Value} {X : Nat → Int} {W : World} (hop : o.op = .slice 25 (.tmp x) none (some (.tmp y)) none) (hx : a.eval (.tmp x) = v) (hv : XArg v q) (hy : a.eval (.tmp y) = .int .i64 (m : Nat)) (hm : m ≤ q)
    (hin : ∀ ad c, v = .slice ad q c → InAt W ad q X) (hR : ∀ ad c, InAt W ad m X → R (.slice ad m c) w) : StepOkR Try.prog o a w R := by
  rcases hv with ⟨rfl, ad, rfl⟩ | ⟨g, off, c, rfl, hc⟩
  · obtain rfl : m = 0 := by omega
    rw [Act.eval, Array.getD_eq_getD_getElem?] at hx hy
    have hR0 := hR ad 0 (fun j hj => absurd hj (Nat.not_lt_zero j))
    clear hR hin
    cases ad with
    | none =>
      refine .inl ⟨_, w, ?_, hR0⟩
      clear hR0
      simp only [execOp, hop]
      go_simp
    | some p =>
      refine .inl ⟨_, w, ?_, hR0⟩
      clear hR0
      simp only [execOp, hop]
      go_simp
  · refine .inl ⟨_, w, ?_, hR (some ⟨g, off, none⟩) c (fun j hj => hin _ _ rfl j (by omega))⟩
    have i1 : (m : Int) ≤ (c : Int) := by omega
    have i2 : (0 : Int) ≤ (m : Int) := by omega
    rw [Act.eval, Array.getD_eq_getD_getElem?] at hx hy
    clear hR hin
    simp only [execOp, hop]
    go_simp
theorem step_cut {o : Oper} {a : Act} {w : World} {R : Value → World → Prop} {x y q m : Nat} {v : Value} {X : Nat → Int} {W : World} (hop : o.op = .slice 25 (.tmp x) (some (.tmp y)) none none) (hx : a.eval (.tmp x) = v) (hv : XArg v q) (hy : a.eval (.tmp y) = .int .i64 (m : Nat)) (hm : m ≤ q)
    (hin : ∀ ad c, v = .slice ad q c → InAt W ad q X) (hR : ∀ ad c, InAt W ad (q - m) (fun j => X (m + j)) → R (.slice ad (q - m) c) w) : StepOkR Try.prog o a w R := by
  rcases hv with ⟨rfl, ad, rfl⟩ | ⟨g, off, c, rfl, hc⟩
  · obtain rfl : m = 0 := by omega
    rw [Act.eval, Array.getD_eq_getD_getElem?] at hx hy
    have hR0 := hR ad 0 (fun j hj => by omega)
    clear hR hin
    cases ad with
    | none =>
      refine .inl ⟨_, w, ?_, hR0⟩
      clear hR0
      simp only [execOp, hop]
      go_simp
    | some p =>
      refine .inl ⟨_, w, ?_, hR0⟩
      clear hR0
      simp only [execOp, hop]
      go_simp
  · have i1 : (m : Int) ≤ (c : Int) := by omega
    have i2 : (0 : Int) ≤ (m : Int) := by omega
    have i3 : (m : Int) ≤ (q : Int) := by omega
    rw [Act.eval, Array.getD_eq_getD_getElem?] at hx hy
    by_cases hcm : c = m
    · obtain rfl : q = m := by omega
      subst hcm
      refine .inl ⟨_, w, ?_, hR (some ⟨g, off, none⟩) 0 (fun j hj => by omega)⟩
      clear hR hin
      simp only [execOp, hop]
      go_simp
    · refine .inl ⟨.slice (some ⟨g, off + m, none⟩) (q - m) (c - m), w, ?_, hR _ _ (fun j hj => ?_)⟩
      · clear hR hin
        simp only [execOp, hop]
        go_simp
      · obtain ⟨b, off', e, h1, h2⟩ := hin _ _ rfl (m + j) (by omega)
        simp only [Option.some.injEq, Addr.mk.injEq, and_true] at e
        obtain ⟨rfl, rfl⟩ := e
        exact ⟨g, off + m, rfl, h1, by rw [← Nat.add_assoc] at h2; exact h2⟩
theorem zero_build (w : World) : (Instr.build 44 #[]).run Try.prog w = .ok (vS zSt) w := by unfold vS zSt; go_simp
theorem okR_zero {o : Oper} {a : Act} {w : World} {R : Value → World → Prop} (hop : o.op = .build 44 #[]) (h : R (vS zSt) w) : StepOkR Try.prog o a w R :=
  .inl ⟨_, w, by simp [execOp, hop, zero_build], h⟩
theorem sN_cut (f : Fx) (s : St) (X : Nat → Int) (m k : Nat) : sN f (sN f s X m) (fun j => X (m + j)) k = sN f s X (m + k) := by
  induction k with
  | zero => rfl
  | succ k ih => rw [sN, ih]; rfl
theorem aN_cut (f : Fx) (s : St) (X : Nat → Int) (m k : Nat) : aN f (sN f s X m) (fun j => X (m + j)) k = aN f s X (m + k) := by
  unfold aN; rw [sN_cut]
theorem cN_cut (f : Fx) (s : St) (X : Nat → Int) (m k : Nat) : cN f s X m + cN f (sN f s X m) (fun j => X (m + j)) k = cN f s X (m + k) := by
  induction k with
  | zero => rfl
  | succ k ih => rw [cN, ← Nat.add_assoc, ih, sN_cut]; rfl

def cutV (d0 d1 d2 d3 d4 d8 d9 d13 : Nat) (W : World) (f : Fx) (sA sB : St) (v2 : Value) (mm n : Nat) (Y : Nat → Int) (cnt : Int) (d : Nat) (v : Value) : Prop :=
  if d = d0 then v = vF f else if d = d1 then v = vS sA else if d = d2 then v = v2 else if d = d3 then v = .int .i64 (mm : Nat) else if d = d4 then (∃ ad c, v = .slice ad n c ∧ InAt W ad n Y) else if d = d8 then v = vS sB else if d = d9 ∨ d = d13 then v = .int .i64 cnt else True

def RunTo (f : Fx) (sA sB : St) (n : Nat) (Y Yl : Nat → Int) (cnt : Int) : Prop := ∀ ad c w, InAt w ad n Y → Calls Try.prog 14 #[vF f, vS sA, .slice ad n c] w fun e w' => ∃ g, e = .returned (tup g n sB cnt) ∧ w.heap.size ≤ g ∧ w'.ownsRow w.heap.size 2 1 (.slice (some ⟨g, 0, none⟩) n n) n (rowL Yl n n) ∧ Below w.heap.size w w'
theorem run_first (f : Fx) (s : St) (X : Nat → Int) (n : Nat) (hn : n ≤ 17592186044416) : RunTo f s (sN f s X n) n X (aN f s X) (cN f s X n : Nat) := fun ad c w hin => by
  refine (run_any f s X ad n c (by omega) w hin).mono ?_
  rintro e w' ⟨g, rfl, h1, h2, h3⟩
  exact ⟨g, rfl, h1, h2, h3⟩
theorem run_second (f : Fx) (s : St) (X : Nat → Int) (m q c2 : Nat) (hq : q ≤ 17592186044416) (hm : m ≤ q) (hc : c2 = cN f (sN f s X m) (fun j => X (m + j)) (q - m)) : RunTo f (sN f s X m) (sN f s X q) (q - m) (fun j => X (m + j)) (fun j => aN f s X (m + j)) (c2 : Nat) := fun ad c w hin => by
  refine (run_any f (sN f s X m) (fun j => X (m + j)) ad (q - m) c (by omega) w hin).mono ?_
  rintro e w' ⟨g, rfl, h1, h2, h3⟩
  rw [sN_cut, show m + (q - m) = q by omega, ← hc]
  rw [show aN f (sN f s X m) (fun j => X (m + j)) = fun j => aN f s X (m + j) from funext fun j => aN_cut f s X m j] at h2
  exact ⟨g, rfl, h1, h2, h3⟩
theorem wpList_append_row {P : Program} (w : World) {ops : Array Oper} {rest : List Oper} {o : Oper} {a : Act} {Q : Exit → Act → World → Prop} (hgd : o.guard = none) (s x : Operand) (t : TypeId)
    (ho : o.op = .call { callee := .builtin .append, args := #[s, x], argTypes := #[t, t] })
    (base : Nat) (e : TypeId) (i : TypeInfo) (z : Value) (size bytes : Nat) (ht : P.underlying t = some (.slice e)) (hi : P.info? e = some i) (hz : i.zero = some z)
    (hsize : i.size = size) (hby : i.bytes = bytes) (hzs : z.cells.size = size) (hsz : 0 < size)
    (v : Value) (n : Nat) (xs : List Value) (hs : a.eval s = v) (hown : w.ownsRow base e size v n xs)
    (base2 : Nat) (v2 : Value) (m : Nat) (ys : List Value) (hx : a.eval x = v2) (h2 : w.ownsRow base2 e size v2 m ys) (h1 : ∀ u ∈ ys, u.oneCell' = true)
    (h63 : n + m ≤ maxLen) (hbytes : (n + m) * bytes ≤ 140737488355328) (hbase : base ≤ w.heap.size)
    (h : ∀ v' w', w'.ownsRow base e size v' (n + m) (xs ++ ys) → w.grownBy w' v.ownBlock → wpList P ops Q rest (a.put o.dst v') w') :
    wpList P ops Q (o :: rest) a w := by
  rcases id h2.2 with ⟨rfl, rfl⟩ | ⟨g, cap, cur, rfl, _⟩
  · have hy : ys = [] := List.length_eq_zero_iff.1 (by simpa using h2.1)
    subst hy
    exact wpList_append_own_none hgd s x t ho base e i size ht hi v n xs hs hown hx (h v w (by simpa using hown) ⟨rfl, rfl, rfl, Nat.le_refl _, fun _ _ _ => rfl⟩)
  · exact wpList_append_own_at w hgd s x t ho base e i z size bytes ht hi hz hsize hby hzs hsz v n xs hs hown ⟨g, 0, none⟩ m cap ys hx h2.1 (h2.cells rfl) h1 h63 hbytes hbase (fun v' w' a1 a2 _ _ => h v' w' a1 a2)
theorem rowL_join (Y : Nat → Int) (n m : Nat) : rowL Y n n ++ rowL (fun j => Y (n + j)) m m = rowL Y (n + m) (n + m) := by
  apply List.ext_getElem?
  intro j
  by_cases hj : j < n
  · rw [List.getElem?_append_left (by rw [rowL_len]; exact hj), rowL_at _ _ _ _ hj, rowL_at _ _ _ _ (by omega), if_pos hj, if_pos (by omega)]
  · rw [List.getElem?_append_right (by rw [rowL_len]; omega), rowL_len]
    by_cases hk : j < n + m
    · rw [rowL_at _ _ _ _ (by omega), rowL_at _ _ _ _ hk, if_pos (by omega), if_pos hk, show n + (j - n) = j by omega]
    · rw [List.getElem?_eq_none (by rw [rowL_len]; omega), List.getElem?_eq_none (by rw [rowL_len]; omega)]
theorem rowL_ones (Y : Nat → Int) (m k : Nat) : ∀ u ∈ rowL Y m k, u.oneCell' = true := by
  intro u hu
  simp only [rowL, List.mem_map] at hu
  obtain ⟨j, _, rfl⟩ := hu
  rfl
end Go.Proofs.Ytlajalfdcfkmpab

/- QuantMemory: lists made with room behind them, copied into, written all over. -/
namespace Go.Proofs.Ytlajalfdcfkmpab
open Go.RowKit Go.Maps

theorem wpList_make_spare (w : World) {ops : Array Oper} {rest : List Oper} {o : Oper} {a : Act} {Q : Exit → Act → World → Prop}
    (hg : o.guard = none) (l c : Operand) (hop : o.op = Op.makeSlice 25 l c)
    (i : TypeInfo) (hi : Try.prog.info? 2 = some i) (hz : i.zero = some (.int .i64 0)) (hsize : i.size = 1) (hby : i.bytes = 8)
    (n k : Nat) (hl : a.eval l = .int .i64 (n : Int)) (hc : a.eval c = .int .i64 ((k : Nat) : Int)) (hnk : n ≤ k) (hk : k ≤ 17592186044418)
    (base : Nat) (hbase : base ≤ w.heap.size)
    (hK : ∀ w', w'.ownsRow base 2 1 (.slice (some ⟨w.heap.size, 0, none⟩) n k) n (rowL (fun _ => 0) n n) → w.grownBy w' none → wpList Try.prog ops Q rest (a.put o.dst (.slice (some ⟨w.heap.size, 0, none⟩) n k)) w') :
    wpList Try.prog ops Q (o :: rest) a w := by
  refine wpList_plain hg fun K hK' => ?_
  have hrun := run_make (P := Try.prog) w 25 2 i (.int .i64 0) Try.underlying25 hi hz .i64 .i64 (n : Int) (k : Int) (by omega) (by omega) (by rw [hby]; omega) (by omega)
  simp only [Int.toNat_natCast, hsize, Nat.mul_one] at hrun
  unfold Oper.wp
  simp [execOp, hop, hl, hc, hrun, Result.andThen]
  refine hK' _ _ (hK _ ?_ (below_grownBy (Joins.below_alloc1 _ _)))
  refine ⟨by rw [rowL_len, Nat.mul_one], .inr ⟨w.heap.size, k, _, rfl, hbase, heap_alloc_new w _, hnk, by unfold maxLen; omega, ?_, ?_⟩⟩
  · show (madeCells #[.int .i64 0] k).size = k * 1
    rw [← Array.length_toList, toList_madeCells_one]; simp
  · show (madeCells #[.int .i64 0] k).toList.take (n * 1) = _
    rw [toList_madeCells_one, Nat.mul_one, List.take_replicate, Nat.min_eq_left hnk, rowL_zero (fun _ => 0)]
    apply List.ext_getElem?
    intro j
    by_cases hj : j < n
    · rw [rowL_at _ _ _ _ hj, rowL_at _ _ _ _ hj, if_neg (by omega), if_pos hj]
    · rw [List.getElem?_eq_none (by rw [rowL_len]; omega), List.getElem?_eq_none (by rw [rowL_len]; omega)]

theorem size_i64 : (Try.prog.info? 2).map (·.size) = some 1 := by kernel_rfl
theorem wpList_copy_row (w : World) {ops : Array Oper} {rest : List Oper} {o : Oper} {a : Act} {Q : Exit → Act → World → Prop} (hgd : o.guard = none) (d s : Operand)
    (ho : o.op = .call { callee := .builtin .copy, args := #[d, s], argTypes := #[25, 25] }) (base g m c : Nat) (zs : List Value) (ad : Option Addr) (cap : Nat) (X : Nat → Int)
    (hd : a.eval d = .slice (some ⟨g, 0, none⟩) m c) (hs : a.eval s = .slice ad m cap) (hown : w.ownsRow base 2 1 (.slice (some ⟨g, 0, none⟩) m c) m zs) (hin : InAt w ad m X)
    (h : ∀ v w', w'.ownsRow base 2 1 (.slice (some ⟨g, 0, none⟩) m c) m (rowL X m m) → w.grownBy w' (some g) → wpList Try.prog ops Q rest (a.put o.dst v) w') : wpList Try.prog ops Q (o :: rest) a w := by
  by_cases hm : m = 0
  · subst hm
    refine wpList_copy_nothing hgd d s _ _ ho 2 Try.underlying25 size_i64 _ _ _ _ _ _ hd hs rfl (h _ _ ?_ (World.grownBy.refl _ _))
    have : zs = [] := List.length_eq_zero_iff.1 (by simpa using hown.1)
    subst this
    exact hown
  · obtain ⟨b, off, rfl, _, _⟩ := hin 0 (by omega)
    rcases id hown.2 with ⟨h', _⟩ | ⟨g', cap', cur, h', hb, hg, hnc, hcm, hcs, htake⟩
    · simp at h'
    · simp only [Value.slice.injEq, Option.some.injEq, Addr.mk.injEq, and_true, true_and] at h'
      obtain ⟨rfl, rfl⟩ := h'
      rw [Nat.mul_one] at hcs
      refine wpList_copy_own hgd d s _ _ ho 2 Try.underlying25 size_i64 g 0 m c ⟨b, off, none⟩ m cap hd hs cur 2 hg (rowL X m m) (by rw [rowL_len]; exact (Nat.min_self m).symm) ?_ (by rw [rowL_len]; omega) (rowL_ones _ _ _) (h _ _ ?_ ?_)
      · intro j v hv
        have hj : j < m := by have := (List.getElem?_eq_some_iff.1 hv).1; rwa [rowL_len] at this
        rw [rowL_at _ _ _ _ hj, if_pos hj] at hv
        obtain rfl := Option.some.inj hv
        obtain ⟨b', off', e, _, hc'⟩ := hin j hj
        simp only [Option.some.injEq, Addr.mk.injEq, and_true] at e
        obtain ⟨rfl, rfl⟩ := e
        rw [Addr.add_mid]
        exact hc'
      · refine ⟨by rw [rowL_len, Nat.mul_one], .inr ⟨g, c, _, rfl, hb, setRow_heap w g _ _ _ _ hg, hnc, hcm, ?_, ?_⟩⟩
        · simp [rowL_len]; omega
        · simp [rowL_len]
      · exact ⟨rfl, rfl, rfl, by simp, fun k _ hne => setRow_other w g k _ (fun e => hne (by rw [e]))⟩

/-- v at the first k places, F behind them. -/
def upl (v : Int) (k : Nat) (F : Nat → Int) (j : Nat) : Int := if j < k then v else F j
theorem upl_zero (v : Int) (F : Nat → Int) : upl v 0 F = F := by funext j; simp [upl]
theorem rowL_upl (v : Int) (k n : Nat) (F : Nat → Int) (hk : k < n) : (rowL (upl v k F) n n).set k (.int .i64 v) = rowL (upl v (k + 1) F) n n := by
  apply List.ext_getElem?
  intro j
  by_cases hj : j < n
  · rw [rowL_at _ _ _ _ hj, if_pos hj]
    by_cases hjk : j = k
    · subst hjk
      rw [List.getElem?_set_self (by rw [rowL_len]; exact hj)]
      simp [upl]
    · rw [List.getElem?_set_ne (by omega), rowL_at _ _ _ _ hj, if_pos hj]
      unfold upl
      by_cases h : j < k
      · rw [if_pos h, if_pos (by omega)]
      · rw [if_neg h, if_neg (by omega)]
  · rw [List.getElem?_eq_none (by rw [List.length_set, rowL_len]; omega), List.getElem?_eq_none (by rw [rowL_len]; omega)]
theorem rowL_congr {F G : Nat → Int} {n : Nat} (h : ∀ j, j < n → F j = G j) : rowL F n n = rowL G n n := by
  apply List.ext_getElem?
  intro j
  by_cases hj : j < n
  · rw [rowL_at _ _ _ _ hj, rowL_at _ _ _ _ hj, if_pos hj, if_pos hj, h j hj]
  · rw [List.getElem?_eq_none (by rw [rowL_len]; omega), List.getElem?_eq_none (by rw [rowL_len]; omega)]
def pad2 (X : Nat → Int) (m j : Nat) : Int := if j < m then X j else if j = m then 41 else 42
theorem rowL_pad2 (X : Nat → Int) (m : Nat) : rowL X m m ++ [.int .i64 41, .int .i64 42] = rowL (pad2 X m) (m + 2) (m + 2) := by
  have e1 : rowL X m m = rowL (pad2 X m) m m := rowL_congr (fun j hj => by unfold pad2; rw [if_pos hj])
  have e2 : [Value.int .i64 41, .int .i64 42] = rowL (fun j => pad2 X m (m + j)) 2 2 := by
    unfold rowL pad2
    simp [List.range_succ]
    intro h
    omega
  rw [e1, e2, rowL_join]
/-- What QuantMemory holds on to: its arguments' blocks, the list with room that it filled, and the two rows that Run answered. -/
structure MX (w0 : World) (gF gA gB m : Nat) (f : Fx) (s : St) (F A B : Nat → Int) (w : World) : Prop where
  pw : PW w0 (aF f) (aS s) w
  full : w.ownsRow (w0.heap.size + 2) 2 1 (.slice (some ⟨gF, 0, none⟩) (m + 2) (m + 2)) (m + 2) (rowL F (m + 2) (m + 2))
  a : w.ownsRow (w0.heap.size + 2) 2 1 (.slice (some ⟨gA, 0, none⟩) m m) m (rowL A m m)
  b : w.ownsRow (w0.heap.size + 2) 2 1 (.slice (some ⟨gB, 0, none⟩) m m) m (rowL B m m)
  ne : gF ≠ gA ∧ gF ≠ gB ∧ gA ≠ gB
section
variable {w0 w w' : World} {gF gA gB m : Nat} {f : Fx} {s : St} {F A B : Nat → Int}
theorem MX.later (h : MX w0 gF gA gB m f s F A B w) (hb : Below w.heap.size w w') : MX w0 gF gA gB m f s F A B w' :=
  ⟨h.pw.later hb, h.full.kept (below_grownBy hb) (Classical.em _), h.a.kept (below_grownBy hb) (Classical.em _), h.b.kept (below_grownBy hb) (Classical.em _), h.ne⟩
theorem PW.grownM {fs ss : Array Value} {row : Option Nat} (h : PW w0 fs ss w) (hg : w.grownBy w' row) (hr : ∀ k, row = some k → w0.heap.size + 2 ≤ k) : PW w0 fs ss w' :=
  ⟨h.low.grown hg h.low.size (fun k e => by have := hr k e; omega), (hg.block _ h.sec.lt (by intro e; have := hr _ e.symm; omega)).trans h.sec, (hg.block _ h.st.lt (by intro e; have := hr _ e.symm; omega)).trans h.st⟩
theorem MX.setF (h : MX w0 gF gA gB m f s F A B w) (v : Int) (k : Nat) (hk : k < m + 2) {G : Nat → Int} (hF : F = upl v k G) : MX w0 gF gA gB m f s (upl v (k + 1) G) A B (w.setCell ⟨gF, k, none⟩ (.int .i64 v)) := by
  have hs := h.full.stored k (.int .i64 v)
  have hl := (h.full.lt gF rfl).1
  rw [hF, rowL_upl v k _ G hk] at hs
  exact ⟨h.pw.grownM hs.2 (fun k e => by cases e; exact hl), hs.1, h.a.kept hs.2 (.inr (by simp [Value.ownBlock]; exact fun e => h.ne.1 e.symm)), h.b.kept hs.2 (.inr (by simp [Value.ownBlock]; exact fun e => h.ne.2.1 e.symm)), h.ne⟩
theorem MX.setA (h : MX w0 gF gA gB m f s F A B w) (v : Int) (k : Nat) (hk : k < m) {G : Nat → Int} (hF : A = upl v k G) : MX w0 gF gA gB m f s F (upl v (k + 1) G) B (w.setCell ⟨gA, k, none⟩ (.int .i64 v)) := by
  have hs := h.a.stored k (.int .i64 v)
  have hl := (h.a.lt gA rfl).1
  rw [hF, rowL_upl v k _ G hk] at hs
  exact ⟨h.pw.grownM hs.2 (fun k e => by cases e; exact hl), h.full.kept hs.2 (.inr (by simp [Value.ownBlock]; exact h.ne.1)), hs.1, h.b.kept hs.2 (.inr (by simp [Value.ownBlock]; exact fun e => h.ne.2.2 e.symm)), h.ne⟩
end
end Go.Proofs.Ytlajalfdcfkmpab

/- QuantMemory: its walk. -/
namespace Go.Proofs.Ytlajalfdcfkmpab
open Go.RowKit Go.Maps

theorem own_in {w : World} {base g m c n : Nat} {F X : Nat → Int} (h : w.ownsRow base 2 1 (.slice (some ⟨g, 0, none⟩) n c) n (rowL F n n)) (hm : m ≤ n) (hF : ∀ j, j < m → F j = X j) : InAt w (some ⟨g, 0, none⟩) m X := fun j hj =>
  ⟨g, 0, rfl, (h.lt g rfl).2, by rw [Nat.zero_add, h.cellAt j (by omega), rowL_at _ _ _ _ (by omega), if_pos (by omega), hF j hj]⟩
theorem ones3 (a b c : Int) : ∀ u ∈ [Value.int .i64 a, .int .i64 b, .int .i64 c], u.oneCell' = true := by
  intro u hu
  simp at hu
  rcases hu with rfl | rfl | rfl <;> rfl
theorem ones2 (a b : Int) : ∀ u ∈ [Value.int .i64 a, .int .i64 b], u.oneCell' = true := by
  intro u hu
  simp at hu
  rcases hu with rfl | rfl <;> rfl

set_option maxRecDepth 100000 in
set_option maxHeartbeats 8000000 in
theorem memory_any (f : Fx) (s : St) (X : Nat → Int) (adx : Option Addr) (m capx : Nat) (hm : m ≤ 17592186043904) (w : World) (hin : InAt w adx m X) :
    Calls Try.prog 4 #[vF f, vS s, .slice adx m capx] w fun e w' => e = .returned (.bool true) ∧ Below w.heap.size w w' := by
  obtain ⟨i0, hi0, hz0, hz1, hz2⟩ := info_parts infoz_i64
  have HR := hide (fun ad c => run_any f s X ad m c (by omega))
  have HD := hide (docRun_any f s X adx m capx (by omega))
  have Hin := hide hin
  clear hin
  unfold vF vS at *
  go_enter Try.func4, Try.ntmps4
  go_wp2_with fail
  refine (awake_any _).mono ?_
  rintro e w1 ⟨rfl, hb1⟩
  have P1 := hide ((PW.start w (aF f) (aS s)).later hb1)
  clear hb1
  have hbase1 : Hid (w.heap.size + 2 ≤ w1.heap.size) := hide (by have := (unhide P1).st.lt; omega)
  go_upto_region 4 with (first
    | (refine wpList_make_spare _ rfl (.tmp 25) (.tmp 28) rfl i0 hi0 hz0 hz1 hz2 m (m + 2) rfl rfl (by omega) (by omega) (w.heap.size + 2) (unhide hbase1) ?_; intro w2 hown2 hg2)
    | fail)
  obtain ⟨gF, hgF⟩ : ∃ gF, gF = w1.heap.size := ⟨_, rfl⟩
  rw [← hgF] at hown2 ⊢
  have P2 := hide ((unhide P1).grownM hg2 (fun k e => by cases e))
  have O2 := hide hown2
  have hlF : w.heap.size + 2 ≤ gF := by rw [hgF]; exact unhide hbase1
  clear hown2 hg2 P1 hgF hbase1
  have Hin2 := hide ((unhide Hin).below (unhide P2).low)
  go_upto_region 5 with (first
    | (refine wpList_copy_row _ rfl (.tmp 30) (.tmp 31) rfl (w.heap.size + 2) gF m (m + 2) _ adx capx X rfl rfl (unhide O2) (unhide Hin2) ?_; intro vc w3 hown3 hg3)
    | fail)
  have P3 := hide ((unhide P2).grownM hg3 (fun k e => by cases e; exact hlF))
  have hH3 : Hid (w.heap.size + 2 ≤ (w3.alloc (Obj.cells #[.int .i64 41, .int .i64 42] 2)).heap.size) := hide (by have := (unhide P3).st.lt; simp; omega)
  have O3 := hide (hown3.alloc (Obj.cells #[.int .i64 41, .int .i64 42] 2))
  have hnews : Hid (∀ j u, [Value.int .i64 41, .int .i64 42][j]? = some u → (w3.alloc (Obj.cells #[.int .i64 41, .int .i64 42] 2)).cell? ((⟨w3.heap.size, 0, none⟩ : Addr).add j) = some u) := hide (by
    intro j u hu
    rw [Addr.add_mid, Nat.zero_add]
    exact (Blk.alloc (w := w3) (cs := #[.int .i64 41, .int .i64 42]) (t := 2)).cell j (by simpa using hu))
  clear hown3 hg3 P2 O2 Hin2
  go_upto_region 6 with (first
    | (at_builtin; refine wpList_append_fits _ rfl (.tmp 33) (.tmp 34) 25 rfl (w.heap.size + 2) 2 i0 1 Try.underlying25 hi0 hz1 gF m (m + 2) (rowL X m m) rfl (unhide O3) ⟨w3.heap.size, 0, none⟩ 2 2 [.int .i64 41, .int .i64 42] rfl rfl (unhide hnews) (ones2 _ _) (Nat.le_refl _) ?_; intro w4 hown4 hg4)
    | fail)
  rw [rowL_pad2] at hown4
  have P4 := hide (((unhide P3).later (Joins.below_alloc1 _ _)).grownM hg4 (fun k e => by cases e; exact hlF))
  have O4 := hide hown4
  clear hown4 hg4 P3 O3 hnews hH3
  have hXF : ∀ j, j < m → pad2 X m j = X j := fun j hj => by unfold pad2; rw [if_pos hj]
  have HXF := hide hXF
  clear hXF
  obtain ⟨F, hF⟩ : ∃ F, F = pad2 X m := ⟨_, rfl⟩
  have HF41 : Hid (F m = 41 ∧ F (m + 1) = 42) := by
    show _ ∧ _
    rw [hF]; unfold pad2
    exact ⟨by rw [if_neg (by omega), if_pos rfl], by rw [if_neg (by omega), if_neg (by omega)]⟩
  rw [← hF] at O4 HXF
  clear hF
  obtain ⟨t, ht⟩ : ∃ t, sN f s X m = t := ⟨_, rfl⟩
  obtain ⟨n, hn⟩ : ∃ n, cN f s X m = n := ⟨_, rfl⟩
  obtain ⟨Y, hY⟩ : ∃ Y, aN f s X = Y := ⟨_, rfl⟩
  obtain ⟨c0, c1, c2, c3, c4, c5, d0, d1, d2, d3⟩ := (unhide P4).cells
  go_wp2_with fail
  refine (unhide HR _ _ _ (own_in (unhide O4) (by omega) (unhide HXF))).mono ?_
  rintro e w5 ⟨gA, rfl, hgA, hownA, hbA⟩
  clear c0 c1 c2 c3 c4 c5 d0 d1 d2 d3
  rw [ht, hn]
  rw [hY] at hownA
  unfold vS
  go_upto_region 7 with fail
  obtain ⟨W5, hW5⟩ : ∃ W, W = w5.alloc (Obj.cells #[.int .i64 t.x1, .int .i64 t.x2, .int .i64 t.y1, .int .i64 t.y2] 44) := ⟨_, rfl⟩
  rw [← hW5]
  have hB5 := Joins.below_alloc1 w5 (Obj.cells #[.int .i64 t.x1, .int .i64 t.x2, .int .i64 t.y1, .int .i64 t.y2] 44)
  rw [← hW5] at hB5
  have hb45 := hbA.trans (hB5.mono hbA.size)
  have P5 := hide ((unhide P4).later hb45)
  have O5 := hide ((unhide O4).kept (below_grownBy hb45) (Classical.em _))
  have OA := hide ((Joins.ownsRow_le hownA (by have := (unhide P4).st.lt; omega : w.heap.size + 2 ≤ w4.heap.size)).kept (below_grownBy hB5) (Classical.em _))
  have hFA : gF ≠ gA := by have := ((unhide O4).lt gF rfl).2; omega
  clear hgA hownA hbA hB5 hb45 hW5 P4 O4
  obtain ⟨c0, c1, c2, c3, c4, c5, d0, d1, d2, d3⟩ := (unhide P5).cells
  go_wp2_with fail
  refine (unhide HR _ _ _ (own_in (unhide O5) (by omega) (unhide HXF))).mono ?_
  rintro e w6 ⟨gB, rfl, hgB, hownB, hbB⟩
  clear c0 c1 c2 c3 c4 c5 d0 d1 d2 d3
  rw [ht, hn]
  rw [hY] at hownB
  unfold vS
  go_upto_region 8 with fail
  obtain ⟨W6, hW6⟩ : ∃ W, W = w6.alloc (Obj.cells #[.int .i64 t.x1, .int .i64 t.x2, .int .i64 t.y1, .int .i64 t.y2] 44) := ⟨_, rfl⟩
  rw [← hW6]
  have hB6 := Joins.below_alloc1 w6 (Obj.cells #[.int .i64 t.x1, .int .i64 t.x2, .int .i64 t.y1, .int .i64 t.y2] 44)
  rw [← hW6] at hB6
  have hb56 := hbB.trans (hB6.mono hbB.size)
  have M6 := hide (MX.mk ((unhide P5).later hb56) ((unhide O5).kept (below_grownBy hb56) (Classical.em _)) ((unhide OA).kept (below_grownBy hb56) (Classical.em _)) ((Joins.ownsRow_le hownB (by have := (unhide P5).st.lt; omega : w.heap.size + 2 ≤ W5.heap.size)).kept (below_grownBy hB6) (Classical.em _)) ⟨hFA, by have := ((unhide O5).lt gF rfl).2; omega, by have := ((unhide OA).lt gA rfl).2; omega⟩)
  clear hgB hownB hbB hB6 hb56 hW6 P5 O5 OA hFA HR
  go_wp2_with fail
  refine (alike_any _ _ m _ _ X _ (by omega) (own_in (unhide M6).full (by omega) (unhide HXF)) ((unhide Hin).below (unhide M6).pw.low)).mono ?_
  rintro e w7 ⟨rfl, hb7⟩
  have M7 := hide ((unhide M6).later hb7)
  have p41 : w7.cell? ⟨gF, m, none⟩ = some (.int .i64 41) := by
    rw [(unhide M7).full.cellAt m (by omega), rowL_at _ _ _ _ (by omega), if_pos (by omega), (unhide HF41).1]
  have p42 : w7.cell? ⟨gF, m + 1, none⟩ = some (.int .i64 42) := by
    rw [(unhide M7).full.cellAt (m + 1) (by omega), rowL_at _ _ _ _ (by omega), if_pos (by omega), (unhide HF41).2]
  clear hb7 M6 HXF HF41
  go_wp2_with fail
  clear p41 p42
  go_loopw [78] (fun i wr => ∃ k : Nat, i = .int .i64 k ∧ k ≤ m + 2 ∧ Hid (MX w gF gA gB m f s (upl (-9) k F) Y Y wr)) (fun i _ => m + 2 - (intOf i).toNat)
  case atStart => exact ⟨0, rfl, Nat.zero_le _, by rw [upl_zero]; exact M7⟩
  case round =>
    obtain ⟨k, rfl, hk, hM⟩ := hrel
    clear M7
    by_cases hkm : k < m + 2
    · have hkI : (k : Int) < (m : Int) + 2 := by omega
      have p0 : wr.cell? ⟨gF, k, none⟩ = some (.int .i64 (upl (-9) k F k)) := by
        rw [(unhide hM).full.cellAt k (by omega), rowL_at _ _ _ _ (by omega), if_pos (by omega)]
      have p1 : wr.frozen? ⟨gF, k, none⟩ = false := (unhide hM).full.frozenAt k
      go_wp2
      go_roundw
      case rel => exact ⟨k + 1, by go_num, by omega, (unhide hM).setF (-9) k hkm rfl⟩
      case measure => simp [intOf]; omega
    · obtain rfl : k = m + 2 := by omega
      go_wp2_with fail
      go_loopw [87] (fun i wr => ∃ k : Nat, i = .int .i64 k ∧ k ≤ m ∧ Hid (MX w gF gA gB m f s (upl (-9) (m + 2) F) (upl 5 k Y) Y wr)) (fun i _ => m - (intOf i).toNat)
      case atStart => exact ⟨0, rfl, Nat.zero_le _, by rw [upl_zero]; exact hM⟩
      case round =>
        obtain ⟨k, rfl, hk, hM2⟩ := hrel
        clear hM
        by_cases hkm : k < m
        · have hkI : (k : Int) < (m : Int) := by omega
          have p0 : wr.cell? ⟨gA, k, none⟩ = some (.int .i64 (upl 5 k Y k)) := by
            rw [(unhide hM2).a.cellAt k (by omega), rowL_at _ _ _ _ (by omega), if_pos (by omega)]
          have p1 : wr.frozen? ⟨gA, k, none⟩ = false := (unhide hM2).a.frozenAt k
          go_wp2
          go_roundw
          case rel => exact ⟨k + 1, by go_num, by omega, (unhide hM2).setA 5 k hkm rfl⟩
          case measure => simp [intOf]; omega
        · obtain rfl : k = m := by omega
          have M8 := hide (unhide hM2)
          clear hM2
          have oA : Hid ((wr.alloc (Obj.cells #[.int .i64 6, .int .i64 7, .int .i64 8] 2)).ownsRow (w.heap.size + 2) 2 1 (.slice (some ⟨gA, 0, none⟩) k k) k (rowL (upl 5 k Y) k k)) := hide ((unhide M8).a.alloc _)
          have hnews : Hid (∀ j u, [Value.int .i64 6, .int .i64 7, .int .i64 8][j]? = some u → (wr.alloc (Obj.cells #[.int .i64 6, .int .i64 7, .int .i64 8] 2)).cell? ((⟨wr.heap.size, 0, none⟩ : Addr).add j) = some u) := hide (by
            intro j u hu
            rw [Addr.add_mid, Nat.zero_add]
            exact (Blk.alloc (w := wr) (cs := #[.int .i64 6, .int .i64 7, .int .i64 8]) (t := 2)).cell j (by simpa using hu))
          have hbase : Hid (w.heap.size + 2 ≤ (wr.alloc (Obj.cells #[.int .i64 6, .int .i64 7, .int .i64 8] 2)).heap.size) := hide (by have := (unhide M8).pw.st.lt; simp; omega)
          have hH : Hid ((wr.alloc (Obj.cells #[.int .i64 6, .int .i64 7, .int .i64 8] 2)).heap.size = wr.heap.size + 1) := hide (by simp)
          go_upto_region 21 with (first
            | (at_builtin; refine wpList_append_lies _ rfl (.tmp 94) (.tmp 95) 25 rfl (w.heap.size + 2) 2 i0 (.int .i64 0) 1 8 Try.underlying25 hi0 hz0 hz1 hz2 rfl Nat.one_pos (.slice (some ⟨gA, 0, none⟩) k k) k (rowL (upl 5 k Y) k k) rfl oA.out ⟨wr.heap.size, 0, none⟩ 3 3 [.int .i64 6, .int .i64 7, .int .i64 8] rfl rfl hnews.out (ones3 _ _ _) (by decide) (by unfold maxLen; omega) (by omega) hbase.out (wr.heap.size + 1) hH.out ?_; intro gg cap9 w9 hown9 hg9 hat9 hlt9)
            | fail)
          have M8' := (unhide M8).later (Joins.below_alloc1 wr (Obj.cells #[.int .i64 6, .int .i64 7, .int .i64 8] 2))
          have P9 := hide (M8'.pw.grownM hg9 (fun q e => by have : gA = q := by simpa [Value.ownBlock] using e
                                                            subst this; exact ((unhide M8).a.lt gA rfl).1))
          have F9 := hide (M8'.full.kept hg9 (.inr (by simp [Value.ownBlock]; exact (unhide M8).ne.1)))
          have B9 := hide (M8'.b.kept hg9 (.inr (by simp [Value.ownBlock]; exact fun e => (unhide M8).ne.2.2 e.symm)))
          clear M8 M8' oA hnews hbase hH hown9 hg9 hat9 hlt9
          obtain ⟨c0, c1, c2, c3, c4, c5, d0, d1, d2, d3⟩ := (unhide P9).cells
          go_wp2_with fail
          refine (unhide HD _ ((unhide Hin).below (unhide P9).low)).mono ?_
          rintro e w10 ⟨ad2, cp2, rfl, hown10, hb10⟩
          clear c0 c1 c2 c3 c4 c5 d0 d1 d2 d3
          rw [ht, hn]
          rw [hY] at hown10
          unfold vS
          go_upto_region 22 with fail
          obtain ⟨W10, hW10⟩ : ∃ W, W = w10.alloc (Obj.cells #[.int .i64 t.x1, .int .i64 t.x2, .int .i64 t.y1, .int .i64 t.y2] 44) := ⟨_, rfl⟩
          rw [← hW10]
          have hB10 := Joins.below_alloc1 w10 (Obj.cells #[.int .i64 t.x1, .int .i64 t.x2, .int .i64 t.y1, .int .i64 t.y2] 44)
          rw [← hW10] at hB10
          have hb := hb10.trans (hB10.mono hb10.size)
          have P10 := hide ((unhide P9).later hb)
          have F10 := hide ((unhide F9).kept (below_grownBy hb) (Classical.em _))
          have B10 := hide ((unhide B9).kept (below_grownBy hb) (Classical.em _))
          have D10 := hide (hown10.kept (below_grownBy hB10) (Classical.em _))
          clear P9 F9 B9 hown10 hb10 hB10 hW10 hb
          go_wp2_with fail
          refine (alike_any _ _ k _ _ Y _ (by omega) (own_in (unhide B10) (Nat.le_refl _) (fun _ _ => rfl)) (InAt_own (unhide D10))).mono ?_
          rintro e w11 ⟨rfl, hb11⟩
          have P11 := hide ((unhide P10).later hb11).low
          have F11 := hide ((unhide F10).kept (below_grownBy hb11) (Classical.em _))
          clear hb11 P10 F10 B10 D10
          go_wp2_with fail
          go_loopw [119] (fun i wq => ∃ j : Nat, i = .int .i64 j ∧ j ≤ k + 2 ∧ wq = w11) (fun i _ => k + 2 - (intOf i).toNat)
          case atStart => exact ⟨0, rfl, Nat.zero_le _, rfl⟩
          case round =>
            obtain ⟨j, rfl, hj, hw⟩ := hrel
            subst hw
            by_cases hjm : j < k + 2
            · have hjI : (j : Int) < (k : Int) + 2 := by omega
              have p0 : wr.cell? ⟨gF, j, none⟩ = some (.int .i64 (-9)) := by
                rw [(unhide F11).cellAt j (by omega), rowL_at _ _ _ _ (by omega), if_pos (by omega)]
                unfold upl
                rw [if_pos hjm]
              go_wp2
              go_roundw
              case rel => exact ⟨j + 1, by go_num, by omega, trivial⟩
              case measure => simp [intOf]; omega
            · obtain rfl : j = k + 2 := by omega
              go_wp2
              go_ret
              exact ⟨rfl, unhide P11⟩
end Go.Proofs.Ytlajalfdcfkmpab
