/- Dr, Ry, Rw, one behind the other. -/
import Derived.Test.YtlajalfdcfkmpaaNy
import Derived.Test.YtlajalfdcfkmpaaQr
import Derived.Deep.AppendLies
import Derived.Deep.QuietTactic
import Derived.BigQuiet
import Derived.Test.YtlajalfdcfkmpaaQk
import Derived.Test.YtlajalfdcfkmpaaRgj
import Derived.Laws.AppendOwnNone
import Derived.Maps.AppendAt
import Derived.Test.YtlajalfdcfkmpaaQw
import Derived.Test.YtlajalfdcfkmpaaQp
/- What quaverref25's DocRun answers; when two lists are alike. -/
namespace Go.Proofs.Ytlajalfdcfkmpaa
open Go.RowKit Go.Maps

theorem rowL_app (Y : Nat → Int) (k : Nat) : rowL Y k k ++ [.int .i64 (Y k)] = rowL Y (k + 1) (k + 1) := by
  apply List.ext_getElem?
  intro j
  by_cases hj : j < k
  · rw [List.getElem?_append_left (by rw [rowL_len]; exact hj), rowL_at _ _ _ _ hj, rowL_at _ _ _ _ (by omega), if_pos hj, if_pos (by omega)]
  · rw [List.getElem?_append_right (by rw [rowL_len]; omega), rowL_len]
    by_cases hk : j = k
    · subst hk
      rw [Nat.sub_self, rowL_at _ _ _ _ (by omega), if_pos (by omega)]
      rfl
    · rw [List.getElem?_eq_none (by simp; omega), List.getElem?_eq_none (by rw [rowL_len]; omega)]
theorem one_i (n : Int) : ∀ u ∈ [Value.int .i64 n], u.oneCell' = true := by
  intro u hu
  simp at hu
  subst hu; rfl
theorem run_results_d {w : World} {tmps : Array Value} {y o : Value} {b : Nat} {c0 c1 c2 c3 : Value} (h6 : tmps.getD 6 undef = y) (h7 : tmps.getD 7 undef = .pointer (some ⟨b, 0, none⟩)) (h8 : tmps.getD 8 undef = o) (hr : Blk w b #[c0, c1, c2, c3] 40) :
    (results Try.f19 tmps).run Try.prog w = .ok (.tuple #[y, .agg #[c0, c1, c2, c3], o]) w := by
  have hl := run_loadVar_mid (P := Try.prog) w b 0 40 [c0, c1, c2, c3] _ hr.range Try.underlying40 rfl infoSt
  rw [Array.getD_eq_getD_getElem?] at h6 h7 h8
  simp [results, h6, h7, h8, asAddr, hl]
theorem own_slice {w : World} {base m : Nat} {v : Value} {l : List Value} (h : w.ownsRow base 2 1 v m l) : ∃ ad c, v = .slice ad m c := by
  rcases h.2 with ⟨rfl, h0⟩ | ⟨g, cap, cur, rfl, _⟩
  · exact ⟨none, 0, by rw [h0]⟩
  · exact ⟨_, _, rfl⟩
theorem InAt_own {w : World} {base q : Nat} {ad : Option Addr} {c : Nat} {X : Nat → Int} (h : w.ownsRow base 2 1 (.slice ad q c) q (rowL X q q)) : InAt w ad q X := fun j hj => by
  obtain ⟨g, cap, e⟩ := Joins.ownsRow_form h (by omega)
  simp only [Value.slice.injEq, true_and] at e
  obtain ⟨rfl, rfl⟩ := e
  exact ⟨g, 0, rfl, (h.lt g rfl).2, by rw [Nat.zero_add, h.cellAt j (by omega), rowL_at _ _ _ _ hj, if_pos hj]⟩

def DocPost (f : Fx) (s : St) (X : Nat → Int) (m : Nat) (w : World) (e : Ending) (w' : World) : Prop :=
  ∃ ad c, e = .returned (.tuple #[.slice ad m c, vS (sN f s X m), .int .i64 (cN f s X m)]) ∧ w'.ownsRow w.heap.size 2 1 (.slice ad m c) m (rowL (aN f s X) m m) ∧ Below w.heap.size w w'

theorem doc_k (f : Fx) (s : St) (X : Nat → Int) (k : Nat) (w : World) :
    Calls Try.prog 17 #[vF f, vS (sN f s X k), .int .i64 (X k)] w fun e w' => e = .returned (.tuple #[.int .i64 (aN f s X k), vS (sN f s X (k + 1)), .bool (outs f (sN f s X k) (X k))]) ∧ Below w.heap.size w w' := doc_any f (sN f s X k) (X k) w

set_option maxRecDepth 100000 in
set_option maxHeartbeats 4000000 in
theorem docRun_any (f : Fx) (s : St) (X : Nat → Int) (ad : Option Addr) (m c : Nat) (hm : m ≤ 17592186044416) (w : World) (hin : InAt w ad m X) :
    Calls Try.prog 19 #[vF f, vS s, .slice ad m c] w fun e w' => DocPost f s X m w e w' := by
  obtain ⟨i0, hi0, hz0, hz1, hz2⟩ := info_parts infoz_i64
  have Hs := hide (doc_k f s X)
  have Hin := hide hin
  have Hq := hide (QW.start w (aF f) (aS s) (aS ⟨0, 0, 0, 0⟩))
  clear hin
  unfold vF vS at *
  go_enter Try.func19, Try.ntmps19
  go_wp2_with fail
  go_loopw [9, 10, 18] (fun l cnt i wr => ∃ k T : Nat, i = .int .i64 k ∧ k ≤ m ∧ cnt = .int .i64 T ∧ Hid (T = cN f s X k) ∧ T ≤ k ∧ Hid (QW w (aF f) (aS (sN f s X k)) (aS ⟨0, 0, 0, 0⟩) wr) ∧ Hid (wr.ownsRow (w.heap.size + 3) 2 1 l k (rowL (aN f s X) k k))) (fun _ _ i _ => m - (intOf i).toNat)
  case atStart => exact ⟨0, 0, rfl, Nat.zero_le _, rfl, rfl, Nat.le_refl _, unhide Hq, World.ownsRow_nil _ _ _ _⟩
  case round =>
    obtain ⟨k, T, rfl, hk, rfl, hT, hTk, hQ, hown⟩ := hrel
    clear Hq
    by_cases hkm : (k : Int) < (m : Int)
    · obtain ⟨b, off, rfl, hbw, hcx⟩ := (unhide Hin) k (by omega)
      have hx : wr.cell? ⟨b, off + k, none⟩ = some (.int .i64 (X k)) := ((unhide hQ).low.cell (by exact hbw)).trans hcx
      obtain ⟨c0, c1, c2, c3, c4, c5⟩ := (unhide hQ).cellsF
      obtain ⟨d0, d1, d2, d3, d4, d5, d6, d7⟩ := (unhide hQ).cellsS
      have HsK := hide (unhide Hs k)
      obtain ⟨t, ht⟩ : ∃ t, sN f s X (k + 1) = t := ⟨_, rfl⟩
      obtain ⟨y, hy⟩ : ∃ y, aN f s X k = y := ⟨_, rfl⟩
      obtain ⟨o, ho⟩ : ∃ o, outs f (sN f s X k) (X k) = o := ⟨_, rfl⟩
      rw [ht, hy, ho] at HsK
      have HN := hide (And.intro ht (And.intro hy ho))
      clear hcx ht hy ho
      go_wp2_with fail
      refine (unhide HsK _).mono ?_
      rintro e w2 ⟨rfl, hb2⟩
      clear c0 c1 c2 c3 c4 c5 d0 d1 d2 d3 d4 d5 d6 d7 hx
      have hQ2 := (unhide hQ).later hb2
      have hown2 := (unhide hown).kept (below_grownBy hb2) (Classical.em _)
      clear hQ hown
      go_upto_region 7 with fail
      obtain ⟨A, hA⟩ : ∃ A, A = w2.heap.size := ⟨_, rfl⟩
      obtain ⟨W, hW⟩ : ∃ W, W = w2.alloc (Obj.cells #[.int .i64 t.x1, .int .i64 t.x2, .int .i64 t.y1, .int .i64 t.y2] 40) := ⟨_, rfl⟩
      rw [← hW, ← hA]
      have hQ3 := hQ2.later ((Below.refl _ w2).alloc (Nat.le_refl _) (Obj.cells #[.int .i64 t.x1, .int .i64 t.x2, .int .i64 t.y1, .int .i64 t.y2] 40))
      have hown3 := hown2.alloc (Obj.cells #[.int .i64 t.x1, .int .i64 t.x2, .int .i64 t.y1, .int .i64 t.y2] 40)
      rw [← hW] at hQ3 hown3
      have hBA : Blk W A #[.int .i64 t.x1, .int .i64 t.x2, .int .i64 t.y1, .int .i64 t.y2] 40 := by rw [hW, hA]; exact Blk.alloc
      have l0 := hBA.cell 0 rfl
      have l1 := hBA.cell 1 rfl
      have l2 := hBA.cell 2 rfl
      have l3 := hBA.cell 3 rfl
      obtain ⟨d0, d1, d2, d3, d4, d5, d6, d7⟩ := hQ3.cellsS
      have HQ4 := hide (hQ3.setS t)
      have HO4 := hide (ownsRow_setCell_below (ownsRow_setCell_below (ownsRow_setCell_below (ownsRow_setCell_below hown3 (a := ⟨w.heap.size + 1, 0, none⟩) (by show w.heap.size + 1 < _; omega) (.int .i64 t.x1)) (a := ⟨w.heap.size + 1, 1, none⟩) (by show w.heap.size + 1 < _; omega) (.int .i64 t.x2)) (a := ⟨w.heap.size + 1, 2, none⟩) (by show w.heap.size + 1 < _; omega) (.int .i64 t.y1)) (a := ⟨w.heap.size + 1, 3, none⟩) (by show w.heap.size + 1 < _; omega) (.int .i64 t.y2))
      clear hA hW hb2 hQ2 hown2 hQ3 hown3 hBA
      go_upto_region 8 with fail
      obtain ⟨W8, hW8⟩ : ∃ W8, W8 = (((W.setCell ⟨w.heap.size + 1, 0, none⟩ (.int .i64 t.x1)).setCell ⟨w.heap.size + 1, 1, none⟩ (.int .i64 t.x2)).setCell ⟨w.heap.size + 1, 2, none⟩ (.int .i64 t.y1)).setCell ⟨w.heap.size + 1, 3, none⟩ (.int .i64 t.y2) := ⟨_, rfl⟩
      rw [← hW8] at HQ4 HO4 ⊢
      clear hW8 l0 l1 l2 l3 d0 d1 d2 d3 d4 d5 d6 d7
      have o2 : Hid ((W8.alloc (Obj.cells #[.int .i64 y] 2)).ownsRow (w.heap.size + 3) 2 1 u9 k (rowL (aN f s X) k k)) := hide ((unhide HO4).alloc _)
      have hnews : Hid (∀ j u, [Value.int .i64 y][j]? = some u → (W8.alloc (Obj.cells #[.int .i64 y] 2)).cell? ((⟨W8.heap.size, 0, none⟩ : Addr).add j) = some u) := hide (by
        intro j u hu
        rw [Addr.add_mid, Nat.zero_add]
        exact (Blk.alloc (w := W8) (cs := #[.int .i64 y]) (t := 2)).cell j (by simpa using hu))
      have hbase : Hid (w.heap.size + 3 ≤ (W8.alloc (Obj.cells #[.int .i64 y] 2)).heap.size) := hide (by have := (unhide HQ4).res.lt; simp; omega)
      have hH : Hid ((W8.alloc (Obj.cells #[.int .i64 y] 2)).heap.size = W8.heap.size + 1) := hide (by simp)
      have Hap := hide (fun (kk : Nat) (e : u9.ownBlock = some kk) => ((unhide HO4).lt kk e))
      clear HO4
      cases o
      · go_wp2_with (first
          | (at_builtin; refine wpList_append_lies _ rfl (.tmp 31) (.tmp 33) 44 rfl (w.heap.size + 3) 2 i0 (.int .i64 0) 1 8 Try.underlying44 hi0 hz0 hz1 hz2 rfl Nat.one_pos u9 k (rowL (aN f s X) k k) rfl o2.out ⟨W8.heap.size, 0, none⟩ 1 1 [.int .i64 y] rfl rfl hnews.out (one_i _) Nat.one_pos (by unfold maxLen; omega) (by omega) hbase.out (W8.heap.size + 1) hH.out ?_; intro gg cap9 w9 hown9 hg9 hat9 hlt9)
          | fail)
        go_roundw
        case rel =>
          refine ⟨k + 1, T + 0, by go_num, by omega, by go_num, ?_, by omega, ?_, ?_⟩
          · show T + 0 = cN f s X (k + 1)
            rw [cN, (unhide HN).2.2, unhide hT]; rfl
          · rw [(unhide HN).1]
            exact ((unhide HQ4).later (Joins.below_alloc1 _ _)).grown hg9 (fun q e => by have := (unhide Hap q e).1; omega)
          · rw [← rowL_app, (unhide HN).2.1]; exact hown9
        case measure => simp [intOf]; omega
      · go_wp2_with (first
          | (at_builtin; refine wpList_append_lies _ rfl (.tmp 31) (.tmp 33) 44 rfl (w.heap.size + 3) 2 i0 (.int .i64 0) 1 8 Try.underlying44 hi0 hz0 hz1 hz2 rfl Nat.one_pos u9 k (rowL (aN f s X) k k) rfl o2.out ⟨W8.heap.size, 0, none⟩ 1 1 [.int .i64 y] rfl rfl hnews.out (one_i _) Nat.one_pos (by unfold maxLen; omega) (by omega) hbase.out (W8.heap.size + 1) hH.out ?_; intro gg cap9 w9 hown9 hg9 hat9 hlt9)
          | fail)
        go_roundw
        case rel =>
          refine ⟨k + 1, T + 1, by go_num, by omega, by go_num, ?_, by omega, ?_, ?_⟩
          · show T + 1 = cN f s X (k + 1)
            rw [cN, (unhide HN).2.2, unhide hT]; rfl
          · rw [(unhide HN).1]
            exact ((unhide HQ4).later (Joins.below_alloc1 _ _)).grown hg9 (fun q e => by have := (unhide Hap q e).1; omega)
          · rw [← rowL_app, (unhide HN).2.1]; exact hown9
        case measure => simp [intOf]; omega
    · obtain rfl : k = m := by omega
      obtain ⟨adl, cl, rfl⟩ := own_slice (unhide hown)
      obtain ⟨d0, d1, d2, d3, d4, d5, d6, d7⟩ := (unhide hQ).cellsS
      obtain ⟨e0, e1, e2, e3, e4, e5, e6, e7⟩ := (unhide hQ).cellsR
      go_wp2_with fail
      go_region_held3 (fun v => v.cell? ⟨w.heap.size + 1, 0, none⟩ = some (.int .i64 (sN f s X k).x1) ∧ v.cell? ⟨w.heap.size + 1, 1, none⟩ = some (.int .i64 (sN f s X k).x2) ∧ v.cell? ⟨w.heap.size + 1, 2, none⟩ = some (.int .i64 (sN f s X k).y1) ∧ v.cell? ⟨w.heap.size + 1, 3, none⟩ = some (.int .i64 (sN f s X k).y2)) (go_keep) (fail)
      go_wp2
      have hq3 := (unhide hQ).setR (sN f s X k)
      refine bodyPost_ret (run_results_d rfl rfl rfl hq3.res) rfl ?_
      refine ⟨adl, cl, by rw [← unhide hT]; rfl, ?_, hq3.low.drew⟩
      have := ownsRow_setCell_below (ownsRow_setCell_below (ownsRow_setCell_below (ownsRow_setCell_below (unhide hown) (a := ⟨w.heap.size + 1 + 1, 0, none⟩) (by show w.heap.size + 1 + 1 < _; omega) (.int .i64 (sN f s X k).x1)) (a := ⟨w.heap.size + 1 + 1, 1, none⟩) (by show w.heap.size + 1 + 1 < _; omega) (.int .i64 (sN f s X k).x2)) (a := ⟨w.heap.size + 1 + 1, 2, none⟩) (by show w.heap.size + 1 + 1 < _; omega) (.int .i64 (sN f s X k).y1)) (a := ⟨w.heap.size + 1 + 1, 3, none⟩) (by show w.heap.size + 1 + 1 < _; omega) (.int .i64 (sN f s X k).y2)
      exact (Joins.ownsRow_le this (by omega)).drew

set_option maxRecDepth 100000 in
set_option maxHeartbeats 1000000 in
theorem alike_any (ad1 ad2 : Option Addr) (m c1 c2 : Nat) (X : Nat → Int) (w : World) (hm : m ≤ 17592186044416) (h1 : InAt w ad1 m X) (h2 : InAt w ad2 m X) :
    Calls Try.prog 20 #[.slice ad1 m c1, .slice ad2 m c2] w fun e w' => e = .returned (.bool true) ∧ Below w.heap.size w w' := by
  have H1 := hide h1
  have H2 := hide h2
  clear h1 h2
  go_enter Try.func20, Try.ntmps20
  go_wp2_with fail
  go_loopw [13] (fun i wr => ∃ k : Nat, i = .int .i64 k ∧ k ≤ m ∧ Hid (Below w.heap.size w wr)) (fun i _ => m - (intOf i).toNat)
  case atStart => exact ⟨0, rfl, Nat.zero_le _, Below.refl _ _⟩
  case round =>
    obtain ⟨k, rfl, hk, hb⟩ := hrel
    by_cases hkm : (k : Int) < (m : Int)
    · obtain ⟨b1, o1, rfl, l1, hc1⟩ := (unhide H1) k (by omega)
      obtain ⟨b2, o2, rfl, l2, hc2⟩ := (unhide H2) k (by omega)
      have x1 : wr.cell? ⟨b1, o1 + k, none⟩ = some (.int .i64 (X k)) := ((unhide hb).cell (by exact l1)).trans hc1
      have x2 : wr.cell? ⟨b2, o2 + k, none⟩ = some (.int .i64 (X k)) := ((unhide hb).cell (by exact l2)).trans hc2
      clear hc1 hc2
      go_wp2_with fail
      go_quiet (fail)
      go_wp2
      go_roundw
      case rel => exact ⟨k + 1, by go_num, by omega, (unhide hb).trans (Joins.below_draws _ _ _)⟩
      case measure => simp [intOf]; omega
    · obtain rfl : k = m := by omega
      go_wp2
      go_ret
      exact ⟨rfl, unhide hb⟩
end Go.Proofs.Ytlajalfdcfkmpaa

/- A region that runs a section over a cut of a list that came in as an argument, whatever its order; rows appended to rows. -/
namespace Go.Proofs.Ytlajalfdcfkmpaa
open Go.RowKit Go.Maps

theorem enter_run (xs : Array Value) (w : World) : (callFunc 18 xs).run Try.prog w = .ok (.enter 18 xs) w := by go_simp
def tup (g m : Nat) (s : St) (c : Int) : Value := .tuple #[.slice (some ⟨g, 0, none⟩) m m, vS s, .int .i64 c]
def rnC (d d5 d6 d7 d11 : Nat) (W : World) (s : St) (m : Nat) (Y : Nat → Int) (cnt : Int) (listed : Array Bool) (a : Act) (w : World) : Prop :=
  alC d 10 12 W s listed a w ∧ (listed.getD 5 false = true → ∃ g, a.eval (.tmp d5) = tup g m s cnt ∧ (listed.getD 6 false = true → a.eval (.tmp d6) = tup g m s cnt) ∧ (listed.getD 7 false = true → a.eval (.tmp d7) = .slice (some ⟨g, 0, none⟩) m m) ∧ (listed.getD 11 false = true → a.eval (.tmp d11) = .slice (some ⟨g, 0, none⟩) m m) ∧
    W.heap.size ≤ g ∧ w.ownsRow W.heap.size 2 1 (.slice (some ⟨g, 0, none⟩) m m) m (rowL Y m m) ∧ (listed.getD 10 false = true → a.eval (.tmp d) ≠ .pointer (some ⟨g, 0, none⟩)))
theorem getD_rep (n i : Nat) : (Array.replicate n false).getD i false = false := by
  rw [Array.getD_eq_getD_getElem?, Array.getElem?_replicate]
  split <;> rfl
section
variable {d d5 d6 d7 d11 m : Nat} {W w w' : World} {s : St} {Y : Nat → Int} {cnt : Int} {listed : Array Bool} {a : Act} {o : Oper}
theorem rnC.start {n : Nat} : rnC d d5 d6 d7 d11 W s m Y cnt (Array.replicate n false) a W.drew := ⟨alC.start, fun h => by rw [getD_rep] at h; cases h⟩
theorem rnC.same (h : rnC d d5 d6 d7 d11 W s m Y cnt listed a w) (i : Nat) {e : Nat} (hd : o.dst = some e) (hi : i ≠ 5 ∧ i ≠ 6 ∧ i ≠ 7 ∧ i ≠ 10 ∧ i ≠ 11 ∧ i ≠ 12) (he : d ≠ e ∧ d5 ≠ e ∧ d6 ≠ e ∧ d7 ≠ e ∧ d11 ≠ e) {u : Value} :
    rnC d d5 d6 d7 d11 W s m Y cnt (listed.setIfInBounds i true) (a.put o.dst u) w := by
  refine ⟨h.1.same i hd hi.2.2.2.1 hi.2.2.2.2.2 he.1 (Below.refl _ _), ?_⟩
  rw [hd, putOther he.1, putOther he.2.1, putOther he.2.2.1, putOther he.2.2.2.1, putOther he.2.2.2.2, getD_set_ne false hi.1, getD_set_ne false hi.2.1, getD_set_ne false hi.2.2.1, getD_set_ne false hi.2.2.2.1, getD_set_ne false hi.2.2.2.2.1]
  exact h.2
theorem rnC.call (h : rnC d d5 d6 d7 d11 W s m Y cnt listed a w) {n : Nat} (hn : a.tmps.size = n) (h5 : d5 < n) (hd : o.dst = some d5) (he : d ≠ d5) (hu : listed.getD 6 false = false ∧ listed.getD 7 false = false ∧ listed.getD 11 false = false) {g : Nat} (hb : Below w.heap.size w w') (hg : w.heap.size ≤ g) (hown : w'.ownsRow w.heap.size 2 1 (.slice (some ⟨g, 0, none⟩) m m) m (rowL Y m m)) :
    rnC d d5 d6 d7 d11 W s m Y cnt (listed.setIfInBounds 5 true) (a.put o.dst (tup g m s cnt)) w' := by
  refine ⟨h.1.same 5 hd (by omega) (by omega) he hb, fun _ => ⟨g, ?_, ?_, ?_, ?_, Nat.le_trans h.1.1.size hg, Joins.ownsRow_le hown h.1.1.size, ?_⟩⟩
  · rw [hd, putSame (by omega)]
  · rw [getD_set_ne false (by omega), hu.1]; intro e; cases e
  · rw [getD_set_ne false (by omega), hu.2.1]; intro e; cases e
  · rw [getD_set_ne false (by omega), hu.2.2]; intro e; cases e
  · rw [hd, putOther he, getD_set_ne false (by omega)]
    intro hl e
    obtain ⟨N, e1, _, e3⟩ := h.1.2 hl
    rw [e1] at e
    have : N = g := by simpa using e
    have := e3.lt
    omega
theorem rnC.mv (h : rnC d d5 d6 d7 d11 W s m Y cnt listed a w) {n : Nat} (hn : a.tmps.size = n) (h6 : d6 < n) (hd : o.dst = some d6) (he : d ≠ d6 ∧ d5 ≠ d6 ∧ d7 ≠ d6 ∧ d11 ≠ d6) (l5 : listed.getD 5 false = true) :
    rnC d d5 d6 d7 d11 W s m Y cnt (listed.setIfInBounds 6 true) (a.put o.dst (a.eval (.tmp d5))) w := by
  obtain ⟨g, e1, e2, e3, e4, e5, e6, e7⟩ := h.2 l5
  refine ⟨h.1.same 6 hd (by omega) (by omega) he.1 (Below.refl _ _), fun _ => ⟨g, ?_, ?_, ?_, ?_, e5, e6, ?_⟩⟩
  · rw [hd, putOther he.2.1]; exact e1
  · intro _; rw [hd, putSame (by omega)]; exact e1
  · rw [hd, putOther he.2.2.1, getD_set_ne false (by omega)]; exact e3
  · rw [hd, putOther he.2.2.2, getD_set_ne false (by omega)]; exact e4
  · rw [hd, putOther he.1, getD_set_ne false (by omega)]; exact e7
theorem rnC.ex (h : rnC d d5 d6 d7 d11 W s m Y cnt listed a w) {n : Nat} (hn : a.tmps.size = n) (h7 : d7 < n) (hd : o.dst = some d7) (he : d ≠ d7 ∧ d5 ≠ d7 ∧ d6 ≠ d7 ∧ d11 ≠ d7) {g : Nat} (l5 : listed.getD 5 false = true) (hg : a.eval (.tmp d5) = tup g m s cnt) :
    rnC d d5 d6 d7 d11 W s m Y cnt (listed.setIfInBounds 7 true) (a.put o.dst (.slice (some ⟨g, 0, none⟩) m m)) w := by
  obtain ⟨g', e1, e2, e3, e4, e5, e6, e7⟩ := h.2 l5
  have : g' = g := by rw [e1] at hg; simpa [tup] using hg
  subst this
  refine ⟨h.1.same 7 hd (by omega) (by omega) he.1 (Below.refl _ _), fun _ => ⟨g', ?_, ?_, ?_, ?_, e5, e6, ?_⟩⟩
  · rw [hd, putOther he.2.1]; exact e1
  · rw [hd, putOther he.2.2.1, getD_set_ne false (by omega)]; exact e2
  · intro _; rw [hd, putSame (by omega)]
  · rw [hd, putOther he.2.2.2, getD_set_ne false (by omega)]; exact e4
  · rw [hd, putOther he.1, getD_set_ne false (by omega)]; exact e7
theorem rnC.asg (h : rnC d d5 d6 d7 d11 W s m Y cnt listed a w) {n : Nat} (hn : a.tmps.size = n) (h7 : d11 < n) (hd : o.dst = some d11) (he : d ≠ d11 ∧ d5 ≠ d11 ∧ d6 ≠ d11 ∧ d7 ≠ d11) (l5 : listed.getD 5 false = true) (l7 : listed.getD 7 false = true) :
    rnC d d5 d6 d7 d11 W s m Y cnt (listed.setIfInBounds 11 true) (a.put o.dst (a.eval (.tmp d7))) w := by
  obtain ⟨g', e1, e2, e3, e4, e5, e6, e7⟩ := h.2 l5
  refine ⟨h.1.same 11 hd (by omega) (by omega) he.1 (Below.refl _ _), fun _ => ⟨g', ?_, ?_, ?_, ?_, e5, e6, ?_⟩⟩
  · rw [hd, putOther he.2.1]; exact e1
  · rw [hd, putOther he.2.2.1, getD_set_ne false (by omega)]; exact e2
  · rw [hd, putOther he.2.2.2, getD_set_ne false (by omega)]; exact e3
  · intro _; rw [hd, putSame (by omega)]; exact e3 l7
  · rw [hd, putOther he.1, getD_set_ne false (by omega)]; exact e7
theorem rnC.alloc (h : rnC d d5 d6 d7 d11 W s m Y cnt listed a w) {n : Nat} (hn : a.tmps.size = n) (hs : d < n) (hd : o.dst = some d) (he : d5 ≠ d ∧ d6 ≠ d ∧ d7 ≠ d ∧ d11 ≠ d) (hu : listed.getD 12 false = false) :
    rnC d d5 d6 d7 d11 W s m Y cnt (listed.setIfInBounds 10 true) (a.put o.dst (.pointer (some ⟨w.heap.size, 0, none⟩))) (w.alloc (.cells (aS zSt) 40)) := by
  refine ⟨h.1.alloc hn hs hd (by omega) hu, ?_⟩
  rw [hd, putOther he.1, putOther he.2.1, putOther he.2.2.1, putOther he.2.2.2, putSame (by omega), getD_set_ne false (by omega), getD_set_ne false (by omega), getD_set_ne false (by omega), getD_set_ne false (by omega)]
  intro l5
  obtain ⟨g', e1, e2, e3, e4, e5, e6, e7⟩ := h.2 l5
  refine ⟨g', e1, e2, e3, e4, e5, e6.alloc _, fun _ e => ?_⟩
  have h1 : w.heap.size = g' := by simpa using e
  have := (e6.lt g' rfl).2
  omega
theorem rnC.store (h : rnC d d5 d6 d7 d11 W s m Y cnt listed a w) {N : Nat} (hd : o.dst = none) (ha : listed.getD 10 false = true) (hN : a.eval (.tmp d) = .pointer (some ⟨N, 0, none⟩)) (hi : 12 < listed.size) :
    rnC d d5 d6 d7 d11 W s m Y cnt (listed.setIfInBounds 12 true) (a.put o.dst undef) (w.setCells N 0 (aS s).toList) := by
  refine ⟨h.1.store hd ha hN hi, ?_⟩
  have hev : ∀ t, (a.put o.dst undef).eval (.tmp t) = a.eval (.tmp t) := fun t => by rw [hd]; rfl
  rw [hev, hev, hev, hev, hev, getD_set_ne false (by omega), getD_set_ne false (by omega), getD_set_ne false (by omega), getD_set_ne false (by omega), getD_set_ne false (by omega)]
  intro l5
  obtain ⟨g', e1, e2, e3, e4, e5, e6, e7⟩ := h.2 l5
  refine ⟨g', e1, e2, e3, e4, e5, ?_, e7⟩
  refine e6.kept (row := some N) ⟨(Below.setCells (Below.refl 0 w) (Nat.zero_le N) 0 _).os, (Below.setCells (Below.refl 0 w) (Nat.zero_le N) 0 _).tape, (Below.setCells (Below.refl 0 w) (Nat.zero_le N) 0 _).output, by rw [size_setCells]; exact Nat.le_refl _, fun q _ hq => heap_setCells_other N (fun e => hq (by rw [e])) _ _ _⟩ (.inr ?_)
  intro e
  have h2 : g' = N := by simpa [Value.ownBlock] using e
  exact e7 ha (by rw [hN, h2])
end

/-- A list among the arguments: without room, or cells from a place on. -/
def XArg (v : Value) (q : Nat) : Prop := (q = 0 ∧ ∃ ad, v = .slice ad 0 0) ∨ ∃ b off c, v = .slice (some ⟨b, off, none⟩) q c ∧ q ≤ c
theorem step_head {o : Oper} {a : Act} {w : World} {R : Value → World → Prop} {x y q m : Nat} {v : Value} {X : Nat → Int} {W : World} (hop : o.op = .slice 44 (.tmp x) none (some (.tmp y)) none) (hx : a.eval (.tmp x) = v) (hv : XArg v q) (hy : a.eval (.tmp y) = .int .i64 (m : Nat)) (hm : m ≤ q)
    (hin : ∀ ad c, v = .slice ad q c → InAt W ad q X) (hR : ∀ ad c, InAt W ad m X → R (.slice ad m c) w) : StepOkR Try.prog o a w R := by
  rcases hv with ⟨rfl, ad, rfl⟩ | ⟨g, off, c, rfl, hc⟩
  · obtain rfl : m = 0 := by omega
    rw [Act.eval, Array.getD_eq_getD_getElem?] at hx hy
    have hR0 := hR ad 0 (fun j hj => absurd hj (Nat.not_lt_zero j))
    clear hR hin
    cases ad with
    | none =>
      refine .inl ⟨_, w, ?_, hR0⟩
      clear hR0
      simp only [execOp, hop]
      go_simp
    | some p =>
      refine .inl ⟨_, w, ?_, hR0⟩
      clear hR0
      simp only [execOp, hop]
      go_simp
  · refine .inl ⟨_, w, ?_, hR (some ⟨g, off, none⟩) c (fun j hj => hin _ _ rfl j (by omega))⟩
    have i1 : (m : Int) ≤ (c : Int) := by omega
    have i2 : (0 : Int) ≤ (m : Int) := by omega
    rw [Act.eval, Array.getD_eq_getD_getElem?] at hx hy
    clear hR hin
    simp only [execOp, hop]
    go_simp
theorem step_cut {o : Oper} {a : Act} {w : World} {R : Value → World → Prop} {x y q m : Nat} {v : Value} {X : Nat → Int} {W : World} (hop : o.op = .slice 44 (.tmp x) (some (.tmp y)) none none) (hx : a.eval (.tmp x) = v) (hv : XArg v q) (hy : a.eval (.tmp y) = .int .i64 (m : Nat)) (hm : m ≤ q)
    (hin : ∀ ad c, v = .slice ad q c → InAt W ad q X) (hR : ∀ ad c, InAt W ad (q - m) (fun j => X (m + j)) → R (.slice ad (q - m) c) w) : StepOkR Try.prog o a w R := by
  rcases hv with ⟨rfl, ad, rfl⟩ | ⟨g, off, c, rfl, hc⟩
  · obtain rfl : m = 0 := by omega
    rw [Act.eval, Array.getD_eq_getD_getElem?] at hx hy
    have hR0 := hR ad 0 (fun j hj => by omega)
    clear hR hin
    cases ad with
    | none =>
      refine .inl ⟨_, w, ?_, hR0⟩
      clear hR0
      simp only [execOp, hop]
      go_simp
    | some p =>
      refine .inl ⟨_, w, ?_, hR0⟩
      clear hR0
      simp only [execOp, hop]
      go_simp
  · have i1 : (m : Int) ≤ (c : Int) := by omega
    have i2 : (0 : Int) ≤ (m : Int) := by omega
    have i3 : (m : Int) ≤ (q : Int) := by omega
    rw [Act.eval, Array.getD_eq_getD_getElem?] at hx hy
    by_cases hcm : c = m
    · obtain rfl : q = m := by omega
      subst hcm
      refine .inl ⟨_, w, ?_, hR (some ⟨g, off, none⟩) 0 (fun j hj => by omega)⟩
      clear hR hin
      simp only [execOp, hop]
      go_simp
    · refine .inl ⟨.slice (some ⟨g, off + m, none⟩) (q - m) (c - m), w, ?_, hR _ _ (fun j hj => ?_)⟩
      · clear hR hin
        simp only [execOp, hop]
        go_simp
      · obtain ⟨b, off', e, h1, h2⟩ := hin _ _ rfl (m + j) (by omega)
        simp only [Option.some.injEq, Addr.mk.injEq, and_true] at e
        obtain ⟨rfl, rfl⟩ := e
        exact ⟨g, off + m, rfl, h1, by rw [← Nat.add_assoc] at h2; exact h2⟩
theorem zero_build (w : World) : (Instr.build 40 #[]).run Try.prog w = .ok (vS zSt) w := by unfold vS zSt; go_simp
theorem okR_zero {o : Oper} {a : Act} {w : World} {R : Value → World → Prop} (hop : o.op = .build 40 #[]) (h : R (vS zSt) w) : StepOkR Try.prog o a w R :=
  .inl ⟨_, w, by simp [execOp, hop, zero_build], h⟩
theorem sN_cut (f : Fx) (s : St) (X : Nat → Int) (m k : Nat) : sN f (sN f s X m) (fun j => X (m + j)) k = sN f s X (m + k) := by
  induction k with
  | zero => rfl
  | succ k ih => rw [sN, ih]; rfl
theorem aN_cut (f : Fx) (s : St) (X : Nat → Int) (m k : Nat) : aN f (sN f s X m) (fun j => X (m + j)) k = aN f s X (m + k) := by
  unfold aN; rw [sN_cut]
theorem cN_cut (f : Fx) (s : St) (X : Nat → Int) (m k : Nat) : cN f s X m + cN f (sN f s X m) (fun j => X (m + j)) k = cN f s X (m + k) := by
  induction k with
  | zero => rfl
  | succ k ih => rw [cN, ← Nat.add_assoc, ih, sN_cut]; rfl

def cutV (d0 d1 d2 d3 d4 d8 d9 d13 : Nat) (W : World) (f : Fx) (sA sB : St) (v2 : Value) (mm n : Nat) (Y : Nat → Int) (cnt : Int) (d : Nat) (v : Value) : Prop :=
  if d = d0 then v = vF f else if d = d1 then v = vS sA else if d = d2 then v = v2 else if d = d3 then v = .int .i64 (mm : Nat) else if d = d4 then (∃ ad c, v = .slice ad n c ∧ InAt W ad n Y) else if d = d8 then v = vS sB else if d = d9 ∨ d = d13 then v = .int .i64 cnt else True

def RunTo (f : Fx) (sA sB : St) (n : Nat) (Y Yl : Nat → Int) (cnt : Int) : Prop := ∀ ad c w, InAt w ad n Y → Calls Try.prog 18 #[vF f, vS sA, .slice ad n c] w fun e w' => ∃ g, e = .returned (tup g n sB cnt) ∧ w.heap.size ≤ g ∧ w'.ownsRow w.heap.size 2 1 (.slice (some ⟨g, 0, none⟩) n n) n (rowL Yl n n) ∧ Below w.heap.size w w'
theorem run_first (f : Fx) (s : St) (X : Nat → Int) (n : Nat) (hn : n ≤ 17592186044416) : RunTo f s (sN f s X n) n X (aN f s X) (cN f s X n : Nat) := fun ad c w hin => by
  refine (run_any f s X ad n c (by omega) w hin).mono ?_
  rintro e w' ⟨g, rfl, h1, h2, h3⟩
  exact ⟨g, rfl, h1, h2, h3⟩
theorem run_second (f : Fx) (s : St) (X : Nat → Int) (m q c2 : Nat) (hq : q ≤ 17592186044416) (hm : m ≤ q) (hc : c2 = cN f (sN f s X m) (fun j => X (m + j)) (q - m)) : RunTo f (sN f s X m) (sN f s X q) (q - m) (fun j => X (m + j)) (fun j => aN f s X (m + j)) (c2 : Nat) := fun ad c w hin => by
  refine (run_any f (sN f s X m) (fun j => X (m + j)) ad (q - m) c (by omega) w hin).mono ?_
  rintro e w' ⟨g, rfl, h1, h2, h3⟩
  rw [sN_cut, show m + (q - m) = q by omega, ← hc]
  rw [show aN f (sN f s X m) (fun j => X (m + j)) = fun j => aN f s X (m + j) from funext fun j => aN_cut f s X m j] at h2
  exact ⟨g, rfl, h1, h2, h3⟩
theorem wpList_append_row {P : Program} (w : World) {ops : Array Oper} {rest : List Oper} {o : Oper} {a : Act} {Q : Exit → Act → World → Prop} (hgd : o.guard = none) (s x : Operand) (t : TypeId)
    (ho : o.op = .call { callee := .builtin .append, args := #[s, x], argTypes := #[t, t] })
    (base : Nat) (e : TypeId) (i : TypeInfo) (z : Value) (size bytes : Nat) (ht : P.underlying t = some (.slice e)) (hi : P.info? e = some i) (hz : i.zero = some z)
    (hsize : i.size = size) (hby : i.bytes = bytes) (hzs : z.cells.size = size) (hsz : 0 < size)
    (v : Value) (n : Nat) (xs : List Value) (hs : a.eval s = v) (hown : w.ownsRow base e size v n xs)
    (base2 : Nat) (v2 : Value) (m : Nat) (ys : List Value) (hx : a.eval x = v2) (h2 : w.ownsRow base2 e size v2 m ys) (h1 : ∀ u ∈ ys, u.oneCell' = true)
    (h63 : n + m ≤ maxLen) (hbytes : (n + m) * bytes ≤ 140737488355328) (hbase : base ≤ w.heap.size)
    (h : ∀ v' w', w'.ownsRow base e size v' (n + m) (xs ++ ys) → w.grownBy w' v.ownBlock → wpList P ops Q rest (a.put o.dst v') w') :
    wpList P ops Q (o :: rest) a w := by
  rcases id h2.2 with ⟨rfl, rfl⟩ | ⟨g, cap, cur, rfl, _⟩
  · have hy : ys = [] := List.length_eq_zero_iff.1 (by simpa using h2.1)
    subst hy
    exact wpList_append_own_none hgd s x t ho base e i size ht hi v n xs hs hown hx (h v w (by simpa using hown) ⟨rfl, rfl, rfl, Nat.le_refl _, fun _ _ _ => rfl⟩)
  · exact wpList_append_own_at w hgd s x t ho base e i z size bytes ht hi hz hsize hby hzs hsz v n xs hs hown ⟨g, 0, none⟩ m cap ys hx h2.1 (h2.cells rfl) h1 h63 hbytes hbase (fun v' w' a1 a2 _ _ => h v' w' a1 a2)
theorem rowL_join (Y : Nat → Int) (n m : Nat) : rowL Y n n ++ rowL (fun j => Y (n + j)) m m = rowL Y (n + m) (n + m) := by
  apply List.ext_getElem?
  intro j
  by_cases hj : j < n
  · rw [List.getElem?_append_left (by rw [rowL_len]; exact hj), rowL_at _ _ _ _ hj, rowL_at _ _ _ _ (by omega), if_pos hj, if_pos (by omega)]
  · rw [List.getElem?_append_right (by rw [rowL_len]; omega), rowL_len]
    by_cases hk : j < n + m
    · rw [rowL_at _ _ _ _ (by omega), rowL_at _ _ _ _ hk, if_pos (by omega), if_pos hk, show n + (j - n) = j by omega]
    · rw [List.getElem?_eq_none (by rw [rowL_len]; omega), List.getElem?_eq_none (by rw [rowL_len]; omega)]
theorem rowL_ones (Y : Nat → Int) (m k : Nat) : ∀ u ∈ rowL Y m k, u.oneCell' = true := by
  intro u hu
  simp only [rowL, List.mem_map] at hu
  obtain ⟨j, _, rfl⟩ := hu
  rfl
end Go.Proofs.Ytlajalfdcfkmpaa

/- QuantRuns: its walk. -/
namespace Go.Proofs.Ytlajalfdcfkmpaa
open Go.RowKit Go.Maps

/-- What QuantRuns holds on to: its arguments' blocks, the state and the row that Run answered. -/
structure RX (w0 : World) (A gL m : Nat) (f : Fx) (s t : St) (Y : Nat → Int) (w : World) : Prop where
  pw : PW w0 (aF f) (aS s) w
  a : Blk w A (aS t) 40
  l : w.ownsRow w0.heap.size 2 1 (.slice (some ⟨gL, 0, none⟩) m m) m (rowL Y m m)
theorem RX.later {w0 a b : World} {A gL m : Nat} {f : Fx} {s t : St} {Y : Nat → Int} (h : RX w0 A gL m f s t Y a) (hb : Below a.heap.size a b) : RX w0 A gL m f s t Y b :=
  ⟨h.pw.later hb, h.a.below hb h.a.lt, h.l.kept (below_grownBy hb) (Classical.em _)⟩
theorem own_later {a b : World} {base m : Nat} {v : Value} {l : List Value} (h : a.ownsRow base 2 1 v m l) (hb : Below a.heap.size a b) : b.ownsRow base 2 1 v m l := h.kept (below_grownBy hb) (Classical.em _)

set_option maxRecDepth 100000 in
set_option maxHeartbeats 8000000 in
theorem runs_any (f : Fx) (s : St) (X : Nat → Int) (adx : Option Addr) (m capx : Nat) (cut : Int) (hm : m ≤ 17592186044416) (w : World) (hin : InAt w adx m X) (hxa : XArg (.slice adx m capx) m) :
    Calls Try.prog 5 #[vF f, vS s, .slice adx m capx, .int .i64 cut] w fun e w' => e = .returned (.bool true) ∧ Below w.heap.size w w' := by
  obtain ⟨i0, hi0, hz0, hz1, hz2⟩ := info_parts infoz_i64
  have HR := hide (run_any f s X adx m capx hm)
  have HD := hide (docRun_any f s X adx m capx hm)
  have Hin := hide hin
  have HXA := hide hxa
  clear hin hxa
  unfold vF vS at *
  go_enter Try.func5, Try.ntmps5
  go_wp2_with fail
  refine (awake_any _).mono ?_
  rintro e w1 ⟨rfl, hb1⟩
  have P1 := hide ((PW.start w (aF f) (aS s)).later hb1)
  clear hb1
  obtain ⟨c0, c1, c2, c3, c4, c5, d0, d1, d2, d3⟩ := (unhide P1).cells
  go_wp2_with fail
  refine (unhide HR _ ((unhide Hin).below (unhide P1).low)).mono ?_
  rintro e w2 ⟨gL, rfl, hgL, hown, hb2⟩
  clear c0 c1 c2 c3 c4 c5 d0 d1 d2 d3 hgL
  obtain ⟨t, ht⟩ : ∃ t, sN f s X m = t := ⟨_, rfl⟩
  obtain ⟨n, hn⟩ : ∃ n, cN f s X m = n := ⟨_, rfl⟩
  obtain ⟨Y, hY⟩ : ∃ Y, aN f s X = Y := ⟨_, rfl⟩
  rw [ht, hn]
  rw [hY] at hown
  unfold vS
  go_upto_region 4 with fail
  obtain ⟨A, hA⟩ : ∃ A, A = w2.heap.size := ⟨_, rfl⟩
  obtain ⟨W, hW⟩ : ∃ W, W = w2.alloc (Obj.cells #[.int .i64 t.x1, .int .i64 t.x2, .int .i64 t.y1, .int .i64 t.y2] 40) := ⟨_, rfl⟩
  rw [← hW, ← hA]
  have hB2 := Joins.below_alloc1 w2 (Obj.cells #[.int .i64 t.x1, .int .i64 t.x2, .int .i64 t.y1, .int .i64 t.y2] 40)
  rw [← hW] at hB2
  have hBA : Blk W A #[.int .i64 t.x1, .int .i64 t.x2, .int .i64 t.y1, .int .i64 t.y2] 40 := by rw [hW, hA]; exact Blk.alloc
  have R2 := hide (RX.mk (A := A) (t := t) ((unhide P1).later (hb2.trans (hB2.mono hb2.size))) hBA (own_later (Joins.ownsRow_le hown (unhide P1).low.size) hB2))
  clear hA hW hb2 P1 hown hB2 hBA
  obtain ⟨c0, c1, c2, c3, c4, c5, d0, d1, d2, d3⟩ := (unhide R2).pw.cells
  go_wp2_with fail
  refine (unhide HD _ ((unhide Hin).below (unhide R2).pw.low)).mono ?_
  rintro e w3 ⟨ad2, cp2, rfl, hown3, hb3⟩
  clear c0 c1 c2 c3 c4 c5 d0 d1 d2 d3
  rw [ht, hn]
  rw [hY] at hown3
  unfold vS
  go_upto_region 5 with fail
  obtain ⟨B, hB⟩ : ∃ B, B = w3.heap.size := ⟨_, rfl⟩
  obtain ⟨W3, hW3⟩ : ∃ W, W = w3.alloc (Obj.cells #[.int .i64 t.x1, .int .i64 t.x2, .int .i64 t.y1, .int .i64 t.y2] 40) := ⟨_, rfl⟩
  rw [← hW3, ← hB]
  have hB3 := Joins.below_alloc1 w3 (Obj.cells #[.int .i64 t.x1, .int .i64 t.x2, .int .i64 t.y1, .int .i64 t.y2] 40)
  rw [← hW3] at hB3
  have hBB : Blk W3 B #[.int .i64 t.x1, .int .i64 t.x2, .int .i64 t.y1, .int .i64 t.y2] 40 := by rw [hW3, hB]; exact Blk.alloc
  have R3 := hide ((unhide R2).later (hb3.trans (hB3.mono hb3.size)))
  have O3 := hide (own_later hown3 hB3)
  have B3 := hide hBB
  clear hB hW3 hb3 R2 hown3 hB3 hBB
  go_wp2_with fail
  refine (alike_any _ _ m _ _ Y _ hm (InAt_own (unhide R3).l) (InAt_own (unhide O3))).mono ?_
  rintro e w4 ⟨rfl, hb4⟩
  have R4 := hide ((unhide R3).later hb4)
  have hBB := (unhide B3).below hb4 (unhide B3).lt
  clear hb4 R3 O3 B3
  have k0 : w4.cell? ⟨A, 0, none⟩ = some (.int .i64 t.x1) := (unhide R4).a.cell 0 rfl
  have k1 : w4.cell? ⟨A, 1, none⟩ = some (.int .i64 t.x2) := (unhide R4).a.cell 1 rfl
  have k2 : w4.cell? ⟨A, 2, none⟩ = some (.int .i64 t.y1) := (unhide R4).a.cell 2 rfl
  have k3 : w4.cell? ⟨A, 3, none⟩ = some (.int .i64 t.y2) := (unhide R4).a.cell 3 rfl
  have l0 := hBB.cell 0 rfl
  have l1 := hBB.cell 1 rfl
  have l2 := hBB.cell 2 rfl
  have l3 := hBB.cell 3 rfl
  clear hBB HR HD
  by_cases hc0 : cut < 0
  · go_wp2
    go_ret
    exact ⟨rfl, (unhide R4).pw.low⟩
  by_cases hc1 : (m : Int) < cut
  · go_wp2
    go_ret
    exact ⟨rfl, (unhide R4).pw.low⟩
  obtain ⟨q, rfl⟩ := Int.eq_ofNat_of_zero_le (by omega : 0 ≤ cut)
  have hq : q ≤ m := by omega
  have HR1 := hide (run_first f s X q (by omega))
  obtain ⟨t1, ht1⟩ : ∃ t1, sN f s X q = t1 := ⟨_, rfl⟩
  obtain ⟨nA, hn1⟩ : ∃ nA, cN f s X q = nA := ⟨_, rfl⟩
  obtain ⟨nB, hn2⟩ : ∃ nB, cN f (sN f s X q) (fun j => X (q + j)) (m - q) = nB := ⟨_, rfl⟩
  have HR2 := hide (run_second f s X q m nB hm hq hn2.symm)
  have HN : Hid (nA + nB = n) := by
    show nA + nB = n
    rw [← hn1, ← hn2, cN_cut, ← hn, show q + (m - q) = m by omega]
  rw [ht1, hn1, hY] at HR1
  rw [ht1, ht, hY] at HR2
  have bn1 : nA ≤ 17592186044416 := by rw [← hn1]; exact Nat.le_trans (cN_le f s X q) (by omega)
  have bn2 : nB ≤ 17592186044416 := by rw [← hn2]; exact Nat.le_trans (cN_le f _ _ _) (by omega)
  clear ht hn hY ht1 hn1 hn2
  go_wp2_with fail
  clear k0 k1 k2 k3 l0 l1 l2 l3
  rename_i K hK
  have HK := hide hK
  clear hK
  refine region_slotsA (cutV 63 64 65 66 67 70 71 17 w4 f s t1 (.slice adx m capx) q q X (nA : Nat)) (rnC 16 68 62 69 15 w4 t1 q Y (nA : Nat)) (by kernel_rfl) (by kernel_rfl) (by kernel_rfl) 103 (by kernel_rfl) rfl rnC.start ?_ ?_
  · as_aux_lemma =>
    intro listed a w1 i o hI ho hsz hl hd
    have hi : i < 14 := by simpa using (Array.getElem?_eq_some_iff.1 ho).1
    have hsz' : listed.size = 14 := by simpa using hsz
    have ef : a.eval (.tmp 4) = .pointer (some ⟨w.heap.size, 0, none⟩) := (hI.base 4 (by kernel_rfl)).trans rfl
    have es : a.eval (.tmp 5) = .pointer (some ⟨w.heap.size + 1, 0, none⟩) := (hI.base 5 (by kernel_rfl)).trans rfl
    have el : a.eval (.tmp 2) = .slice adx m capx := (hI.base 2 (by kernel_rfl)).trans rfl
    have eq : a.eval (.tmp 3) = .int .i64 (q : Nat) := (hI.base 3 (by kernel_rfl)).trans rfl
    have hc : rnC 16 68 62 69 15 w4 t1 q Y (nA : Nat) listed a w1 := hI.world
    rcases (by omega : i = 0 ∨ i = 1 ∨ i = 2 ∨ i = 3 ∨ i = 4 ∨ i = 5 ∨ i = 6 ∨ i = 7 ∨ i = 8 ∨ i = 9 ∨ i = 10 ∨ i = 11 ∨ i = 12 ∨ i = 13) with rfl | rfl | rfl | rfl | rfl | rfl | rfl | rfl | rfl | rfl | rfl | rfl | rfl | rfl
    all_goals obtain rfl := Option.some.inj ho
    · exact okR_load rfl ef (loadFx _ _ _ _ _ _ _ _ ((unhide R4).later hc.1.1).pw.sec) ⟨slotR rfl rfl, hc.same 0 (e := 63) rfl (by omega) (by omega)⟩
    · exact okR_load rfl es (loadSt _ _ _ _ _ _ ((unhide R4).pw.st.below hc.1.1 (unhide R4).pw.st.lt)) ⟨slotR rfl rfl, hc.same 1 (e := 64) rfl (by omega) (by omega)⟩
    · exact okR_move rfl el ⟨slotR rfl rfl, hc.same 2 (e := 65) rfl (by omega) (by omega)⟩
    · exact okR_move rfl eq ⟨slotR rfl rfl, hc.same 3 (e := 66) rfl (by omega) (by omega)⟩
    · have k1 := hI.slot 2 _ 65 rfl rfl (hd ⟨2, .data⟩ (by simp) rfl)
      have k2 := hI.slot 3 _ 66 rfl rfl (hd ⟨3, .data⟩ (by simp) rfl)
      exact step_head rfl k1 (unhide HXA) k2 (by omega) (fun ad c e => by cases e; exact (unhide Hin).below (unhide R4).pw.low) (fun ad c h => ⟨slotR rfl ⟨ad, c, rfl, h⟩, hc.same 4 (e := 67) rfl (by omega) (by omega)⟩)
    · have k1 := hI.slot 0 _ 63 rfl rfl (hd ⟨0, .data⟩ (by simp) rfl)
      have k2 := hI.slot 1 _ 64 rfl rfl (hd ⟨1, .data⟩ (by simp) rfl)
      obtain ⟨ad, c, k3, hin⟩ := hI.slot 4 _ 67 rfl rfl (hd ⟨4, .data⟩ (by simp) rfl)
      have u6 : listed.getD 6 false = false := by
        cases h6 : listed.getD 6 false with
        | false => rfl
        | true =>
          exfalso
          have := hI.closed 6 _ rfl h6 ⟨5, .data⟩ (by simp) rfl
          rw [unl hl hsz' (by omega)] at this
          cases this
      have u7 : listed.getD 7 false = false := by
        cases h6 : listed.getD 7 false with
        | false => rfl
        | true =>
          exfalso
          have h8 := hI.closed 7 _ rfl h6 ⟨6, .data⟩ (by simp) rfl
          rw [u6] at h8
          cases h8
      have u11 : listed.getD 11 false = false := by
        cases h6 : listed.getD 11 false with
        | false => rfl
        | true =>
          exfalso
          have := hI.closed 11 _ rfl h6 ⟨5, .chain⟩ (by simp) rfl
          rw [unl hl hsz' (by omega)] at this
          cases this
      refine okR_call3 enter_run rfl k1 k2 k3 ((unhide HR1 ad c w1 (hin.below hc.1.1)).mono ?_)
      rintro e w' ⟨g', rfl, hg', hown', hb'⟩
      exact ⟨_, rfl, slotR rfl trivial, hc.call hI.size (show 68 < 103 by omega) rfl (by omega) ⟨u6, u7, u11⟩ hb' hg' hown'⟩
    · have l5 := hd ⟨5, .data⟩ (by simp) rfl
      exact okR_move rfl rfl ⟨slotR rfl trivial, hc.mv hI.size (show 62 < 103 by omega) rfl (by omega) l5⟩
    · have l6 := hd ⟨6, .data⟩ (by simp) rfl
      have l5 : listed.getD 5 false = true := hI.closed 6 _ rfl l6 ⟨5, .data⟩ (by simp) rfl
      obtain ⟨g', f1, f2, f3, f4, f5, f6, f7⟩ := hc.2 l5
      exact okR_extract rfl (f2 l6) rfl ⟨slotR rfl trivial, hc.ex hI.size (show 69 < 103 by omega) rfl (by omega) l5 f1⟩
    · have l6 := hd ⟨6, .data⟩ (by simp) rfl
      have l5 : listed.getD 5 false = true := hI.closed 6 _ rfl l6 ⟨5, .data⟩ (by simp) rfl
      obtain ⟨g', f1, f2, f3, f4, f5, f6, f7⟩ := hc.2 l5
      exact okR_extract rfl (f2 l6) rfl ⟨slotR rfl rfl, hc.same 8 (e := 70) rfl (by omega) (by omega)⟩
    · have l6 := hd ⟨6, .data⟩ (by simp) rfl
      have l5 : listed.getD 5 false = true := hI.closed 6 _ rfl l6 ⟨5, .data⟩ (by simp) rfl
      obtain ⟨g', f1, f2, f3, f4, f5, f6, f7⟩ := hc.2 l5
      exact okR_extract rfl (f2 l6) rfl ⟨slotR rfl rfl, hc.same 9 (e := 71) rfl (by omega) (by omega)⟩
    · have u12 : listed.getD 12 false = false := by
        cases h6 : listed.getD 12 false with
        | false => rfl
        | true =>
          exfalso
          have := hI.closed 12 _ rfl h6 ⟨10, .phase⟩ (by simp) rfl
          rw [unl hl hsz' (by omega)] at this
          cases this
      exact okR_allocSt rfl ⟨slotR rfl trivial, hc.alloc hI.size (show 16 < 103 by omega) rfl (by omega) u12⟩
    · have l7 := hd ⟨7, .data⟩ (by simp) rfl
      have l6 : listed.getD 6 false = true := hI.closed 7 _ rfl l7 ⟨6, .data⟩ (by simp) rfl
      have l5 : listed.getD 5 false = true := hI.closed 6 _ rfl l6 ⟨5, .data⟩ (by simp) rfl
      exact okR_assign rfl rfl ⟨slotR rfl trivial, hc.asg hI.size (show 15 < 103 by omega) rfl (by omega) l5 l7⟩
    · have k1 := hI.slot 8 _ 70 rfl rfl (hd ⟨8, .data⟩ (by simp) rfl)
      have l10 := hd ⟨10, .data⟩ (by simp) rfl
      obtain ⟨N, n1, n2, n3⟩ := hc.1.2 l10
      refine okR_store rfl n1 k1 (run_storeAt_mid w1 N 0 40 (aS (t1)) n3.there infoSt (by simp [aS, Value.oneCell'])) ⟨slotN rfl, hc.store rfl l10 n1 (by omega)⟩
    · have k1 := hI.slot 9 _ 71 rfl rfl (hd ⟨9, .data⟩ (by simp) rfl)
      exact okR_assign rfl k1 ⟨slotR rfl rfl, hc.same 13 (e := 17) rfl (by omega) (by omega)⟩
  · intro listed a' w5 hI hall
    have hc : rnC 16 68 62 69 15 w4 t1 q Y (nA : Nat) listed a' w5 := hI.world
    obtain ⟨⟨hbw5, hN⟩, hR⟩ := hc
    obtain ⟨NM, n1, n2, n3w5⟩ := hN (hall 10 (by decide))
    rw [hall 12 (by decide), if_pos rfl] at n3w5
    obtain ⟨gP, _, _, _, p4, p5, p6w5, p7⟩ := hR (hall 5 (by decide))
    have p4' := p4 (hall 11 (by decide))
    have p13 : a'.eval (.tmp 17) = .int .i64 (nA : Nat) := hI.slot 13 _ 17 rfl rfl (hall 13 (by decide))
    have E := hI.frame [15, 16, 17, 62, 63, 64, 65, 66, 67, 68, 69, 70, 71] (by kernel_rfl)
    simp only [putAll] at E
    generalize a'.eval (.tmp 62) = y62 at E
    generalize a'.eval (.tmp 63) = y63 at E
    generalize a'.eval (.tmp 64) = y64 at E
    generalize a'.eval (.tmp 65) = y65 at E
    generalize a'.eval (.tmp 66) = y66 at E
    generalize a'.eval (.tmp 67) = y67 at E
    generalize a'.eval (.tmp 68) = y68 at E
    generalize a'.eval (.tmp 69) = y69 at E
    generalize a'.eval (.tmp 70) = y70 at E
    generalize a'.eval (.tmp 71) = y71 at E
    rw [n1, p4', p13] at E
    clear hI hall n1 p4 p4' p13 p7 hN hR n2 p5
    simp only [Act.put, List.setIfInBounds_toArray, List.set_cons_zero, List.set_cons_succ] at E
    subst E
    refine unhide HK _ _ ?_
    clear HK
    have R5 := hide ((unhide R4).later hbw5)
    have BM := hide n3w5
    have OP := hide p6w5
    clear hbw5 n3w5 p6w5 R4
    go_wp2_with fail
    rename_i K hK
    have HK := hide hK
    clear hK
    refine region_slotsA (cutV 73 74 75 76 77 80 81 20 w5 f t1 t (.slice adx m capx) q (m - q) (fun j => X (q + j)) (nB : Nat)) (rnC 19 78 72 79 18 w5 t (m - q) (fun j => Y (q + j)) (nB : Nat)) (by kernel_rfl) (by kernel_rfl) (by kernel_rfl) 103 (by kernel_rfl) rfl rnC.start ?_ ?_
    · as_aux_lemma =>
      intro listed a w1 i o hI ho hsz hl hd
      have hi : i < 14 := by simpa using (Array.getElem?_eq_some_iff.1 ho).1
      have hsz' : listed.size = 14 := by simpa using hsz
      have ef : a.eval (.tmp 4) = .pointer (some ⟨w.heap.size, 0, none⟩) := (hI.base 4 (by kernel_rfl)).trans rfl
      have es : a.eval (.tmp 16) = .pointer (some ⟨NM, 0, none⟩) := (hI.base 16 (by kernel_rfl)).trans rfl
      have el : a.eval (.tmp 2) = .slice adx m capx := (hI.base 2 (by kernel_rfl)).trans rfl
      have eq : a.eval (.tmp 3) = .int .i64 (q : Nat) := (hI.base 3 (by kernel_rfl)).trans rfl
      have hc : rnC 19 78 72 79 18 w5 t (m - q) (fun j => Y (q + j)) (nB : Nat) listed a w1 := hI.world
      rcases (by omega : i = 0 ∨ i = 1 ∨ i = 2 ∨ i = 3 ∨ i = 4 ∨ i = 5 ∨ i = 6 ∨ i = 7 ∨ i = 8 ∨ i = 9 ∨ i = 10 ∨ i = 11 ∨ i = 12 ∨ i = 13) with rfl | rfl | rfl | rfl | rfl | rfl | rfl | rfl | rfl | rfl | rfl | rfl | rfl | rfl
      all_goals obtain rfl := Option.some.inj ho
      · exact okR_load rfl ef (loadFx _ _ _ _ _ _ _ _ ((unhide R5).later hc.1.1).pw.sec) ⟨slotR rfl rfl, hc.same 0 (e := 73) rfl (by omega) (by omega)⟩
      · exact okR_load rfl es (loadSt _ _ _ _ _ _ ((unhide BM).below hc.1.1 (unhide BM).lt)) ⟨slotR rfl rfl, hc.same 1 (e := 74) rfl (by omega) (by omega)⟩
      · exact okR_move rfl el ⟨slotR rfl rfl, hc.same 2 (e := 75) rfl (by omega) (by omega)⟩
      · exact okR_move rfl eq ⟨slotR rfl rfl, hc.same 3 (e := 76) rfl (by omega) (by omega)⟩
      · have k1 := hI.slot 2 _ 75 rfl rfl (hd ⟨2, .data⟩ (by simp) rfl)
        have k2 := hI.slot 3 _ 76 rfl rfl (hd ⟨3, .data⟩ (by simp) rfl)
        exact step_cut rfl k1 (unhide HXA) k2 (by omega) (fun ad c e => by cases e; exact (unhide Hin).below (unhide R5).pw.low) (fun ad c h => ⟨slotR rfl ⟨ad, c, rfl, h⟩, hc.same 4 (e := 77) rfl (by omega) (by omega)⟩)
      · have k1 := hI.slot 0 _ 73 rfl rfl (hd ⟨0, .data⟩ (by simp) rfl)
        have k2 := hI.slot 1 _ 74 rfl rfl (hd ⟨1, .data⟩ (by simp) rfl)
        obtain ⟨ad, c, k3, hin⟩ := hI.slot 4 _ 77 rfl rfl (hd ⟨4, .data⟩ (by simp) rfl)
        have u6 : listed.getD 6 false = false := by
          cases h6 : listed.getD 6 false with
          | false => rfl
          | true =>
            exfalso
            have := hI.closed 6 _ rfl h6 ⟨5, .data⟩ (by simp) rfl
            rw [unl hl hsz' (by omega)] at this
            cases this
        have u7 : listed.getD 7 false = false := by
          cases h6 : listed.getD 7 false with
          | false => rfl
          | true =>
            exfalso
            have h8 := hI.closed 7 _ rfl h6 ⟨6, .data⟩ (by simp) rfl
            rw [u6] at h8
            cases h8
        have u11 : listed.getD 11 false = false := by
          cases h6 : listed.getD 11 false with
          | false => rfl
          | true =>
            exfalso
            have := hI.closed 11 _ rfl h6 ⟨5, .chain⟩ (by simp) rfl
            rw [unl hl hsz' (by omega)] at this
            cases this
        refine okR_call3 enter_run rfl k1 k2 k3 ((unhide HR2 ad c w1 (hin.below hc.1.1)).mono ?_)
        rintro e w' ⟨g', rfl, hg', hown', hb'⟩
        exact ⟨_, rfl, slotR rfl trivial, hc.call hI.size (show 78 < 103 by omega) rfl (by omega) ⟨u6, u7, u11⟩ hb' hg' hown'⟩
      · have l5 := hd ⟨5, .data⟩ (by simp) rfl
        exact okR_move rfl rfl ⟨slotR rfl trivial, hc.mv hI.size (show 72 < 103 by omega) rfl (by omega) l5⟩
      · have l6 := hd ⟨6, .data⟩ (by simp) rfl
        have l5 : listed.getD 5 false = true := hI.closed 6 _ rfl l6 ⟨5, .data⟩ (by simp) rfl
        obtain ⟨g', f1, f2, f3, f4, f5, f6, f7⟩ := hc.2 l5
        exact okR_extract rfl (f2 l6) rfl ⟨slotR rfl trivial, hc.ex hI.size (show 79 < 103 by omega) rfl (by omega) l5 f1⟩
      · have l6 := hd ⟨6, .data⟩ (by simp) rfl
        have l5 : listed.getD 5 false = true := hI.closed 6 _ rfl l6 ⟨5, .data⟩ (by simp) rfl
        obtain ⟨g', f1, f2, f3, f4, f5, f6, f7⟩ := hc.2 l5
        exact okR_extract rfl (f2 l6) rfl ⟨slotR rfl rfl, hc.same 8 (e := 80) rfl (by omega) (by omega)⟩
      · have l6 := hd ⟨6, .data⟩ (by simp) rfl
        have l5 : listed.getD 5 false = true := hI.closed 6 _ rfl l6 ⟨5, .data⟩ (by simp) rfl
        obtain ⟨g', f1, f2, f3, f4, f5, f6, f7⟩ := hc.2 l5
        exact okR_extract rfl (f2 l6) rfl ⟨slotR rfl rfl, hc.same 9 (e := 81) rfl (by omega) (by omega)⟩
      · have u12 : listed.getD 12 false = false := by
          cases h6 : listed.getD 12 false with
          | false => rfl
          | true =>
            exfalso
            have := hI.closed 12 _ rfl h6 ⟨10, .phase⟩ (by simp) rfl
            rw [unl hl hsz' (by omega)] at this
            cases this
        exact okR_allocSt rfl ⟨slotR rfl trivial, hc.alloc hI.size (show 19 < 103 by omega) rfl (by omega) u12⟩
      · have l7 := hd ⟨7, .data⟩ (by simp) rfl
        have l6 : listed.getD 6 false = true := hI.closed 7 _ rfl l7 ⟨6, .data⟩ (by simp) rfl
        have l5 : listed.getD 5 false = true := hI.closed 6 _ rfl l6 ⟨5, .data⟩ (by simp) rfl
        exact okR_assign rfl rfl ⟨slotR rfl trivial, hc.asg hI.size (show 18 < 103 by omega) rfl (by omega) l5 l7⟩
      · have k1 := hI.slot 8 _ 80 rfl rfl (hd ⟨8, .data⟩ (by simp) rfl)
        have l10 := hd ⟨10, .data⟩ (by simp) rfl
        obtain ⟨N, n1, n2, n3⟩ := hc.1.2 l10
        refine okR_store rfl n1 k1 (run_storeAt_mid w1 N 0 40 (aS (t)) n3.there infoSt (by simp [aS, Value.oneCell'])) ⟨slotN rfl, hc.store rfl l10 n1 (by omega)⟩
      · have k1 := hI.slot 9 _ 81 rfl rfl (hd ⟨9, .data⟩ (by simp) rfl)
        exact okR_assign rfl k1 ⟨slotR rfl rfl, hc.same 13 (e := 20) rfl (by omega) (by omega)⟩
    · intro listed a' w6 hI hall
      have hc : rnC 19 78 72 79 18 w5 t (m - q) (fun j => Y (q + j)) (nB : Nat) listed a' w6 := hI.world
      obtain ⟨⟨hbw6, hN⟩, hR⟩ := hc
      obtain ⟨NE, n1, n2, n3w6⟩ := hN (hall 10 (by decide))
      rw [hall 12 (by decide), if_pos rfl] at n3w6
      obtain ⟨gQ, _, _, _, p4, p5, p6w6, p7⟩ := hR (hall 5 (by decide))
      have p4' := p4 (hall 11 (by decide))
      have p13 : a'.eval (.tmp 20) = .int .i64 (nB : Nat) := hI.slot 13 _ 20 rfl rfl (hall 13 (by decide))
      have E := hI.frame [18, 19, 20, 72, 73, 74, 75, 76, 77, 78, 79, 80, 81] (by kernel_rfl)
      simp only [putAll] at E
      generalize a'.eval (.tmp 72) = y72 at E
      generalize a'.eval (.tmp 73) = y73 at E
      generalize a'.eval (.tmp 74) = y74 at E
      generalize a'.eval (.tmp 75) = y75 at E
      generalize a'.eval (.tmp 76) = y76 at E
      generalize a'.eval (.tmp 77) = y77 at E
      generalize a'.eval (.tmp 78) = y78 at E
      generalize a'.eval (.tmp 79) = y79 at E
      generalize a'.eval (.tmp 80) = y80 at E
      generalize a'.eval (.tmp 81) = y81 at E
      rw [n1, p4', p13] at E
      clear hI hall n1 p4 p4' p13 p7 hN hR n2 p5
      simp only [Act.put, List.setIfInBounds_toArray, List.set_cons_zero, List.set_cons_succ] at E
      subst E
      refine unhide HK _ _ ?_
      clear HK
      have R6 := hide ((unhide R5).later hbw6)
      have BE := hide n3w6
      have OP6 := hide (own_later (unhide OP) hbw6)
      have OQ := hide p6w6
      clear hbw6 n3w6 p6w6 R5 BM OP
      go_upto_region 13 with (first
        | (at_builtin; refine wpList_append_row _ rfl (.tmp 82) (.tmp 83) 44 rfl w6.heap.size 2 i0 (.int .i64 0) 1 8 Try.underlying44 hi0 hz0 hz1 hz2 rfl Nat.one_pos (.slice none 0 0) 0 [] rfl (World.ownsRow_nil _ _ _ _) _ _ q _ rfl (unhide OP6) (rowL_ones _ _ _) (by unfold maxLen; omega) (by omega) (Nat.le_refl _) ?_; intro v7 w7 hown7 hg7)
        | fail)
      have HB7 := hide ((Below.refl _ _).grown hg7 (Nat.le_refl _) (fun kk e => by cases e) : Below w6.heap.size w6 w7)
      have OQ7 := hide (own_later (unhide OQ) (unhide HB7))
      have Hl7 := hide (fun g e => (hown7.lt g e).1)
      have O7 := hide hown7
      have hs7 := (unhide HB7).size
      clear OQ OP6 hown7 hg7
      go_upto_region 14 with (first
        | (at_builtin; refine wpList_append_row _ rfl (.tmp 85) (.tmp 86) 44 rfl w6.heap.size 2 i0 (.int .i64 0) 1 8 Try.underlying44 hi0 hz0 hz1 hz2 rfl Nat.one_pos v7 (0 + q) _ rfl (unhide O7) _ _ (m - q) _ rfl (unhide OQ7) (rowL_ones _ _ _) (by unfold maxLen; omega) (by omega) (by omega) ?_; intro v8 w8 hown8 hg8)
        | fail)
      have hb8 := (unhide HB7).trans ((Below.refl _ _).grown hg8 hs7 (fun kk e => unhide Hl7 kk e))
      rw [List.nil_append, rowL_join, Nat.zero_add, show q + (m - q) = m by omega] at hown8
      obtain ⟨adb, cb, rfl⟩ := own_slice hown8
      have R8 := hide ((unhide R6).later hb8)
      have BE8 := hide ((unhide BE).below hb8 (unhide BE).lt)
      have O8 := hide hown8
      clear hb8 hg8 HB7 R6 BE OQ7 Hl7 O7 hown8 hs7
      go_wp2_with fail
      refine (alike_any _ _ m _ _ Y _ hm (InAt_own (unhide O8)) (InAt_own (unhide R8).l)).mono ?_
      rintro e w9 ⟨rfl, hb9⟩
      have R9 := hide ((unhide R8).later hb9)
      have BE9 := (unhide BE8).below hb9 (unhide BE8).lt
      have k0 : w9.cell? ⟨A, 0, none⟩ = some (.int .i64 t.x1) := (unhide R9).a.cell 0 rfl
      have k1 : w9.cell? ⟨A, 1, none⟩ = some (.int .i64 t.x2) := (unhide R9).a.cell 1 rfl
      have k2 : w9.cell? ⟨A, 2, none⟩ = some (.int .i64 t.y1) := (unhide R9).a.cell 2 rfl
      have k3 : w9.cell? ⟨A, 3, none⟩ = some (.int .i64 t.y2) := (unhide R9).a.cell 3 rfl
      have l0 : w9.cell? ⟨NE, 0, none⟩ = some (.int .i64 t.x1) := BE9.cell 0 rfl
      have l1 : w9.cell? ⟨NE, 1, none⟩ = some (.int .i64 t.x2) := BE9.cell 1 rfl
      have l2 : w9.cell? ⟨NE, 2, none⟩ = some (.int .i64 t.y1) := BE9.cell 2 rfl
      have l3 : w9.cell? ⟨NE, 3, none⟩ = some (.int .i64 t.y2) := BE9.cell 3 rfl
      have hsum : (nA : Int) + (nB : Int) = (n : Int) := by have := unhide HN; omega
      clear hb9 R8 BE8 BE9 O8 HN
      go_wp2
      go_ret
      exact ⟨rfl, (unhide R9).pw.low⟩
end Go.Proofs.Ytlajalfdcfkmpaa
