/- What package quant's Run answers. -/
import Derived.Test.YtlajalfdcfkmpabQd
import Derived.Laws.OwnMore
import Derived.OwnWalk
namespace Go.Proofs.Ytlajalfdcfkmpab
open Go.RowKit Go.Maps

/-- The state behind k samples, the answer to sample k, how many answers of the first k had to be kept within. -/
def sN (f : Fx) (s : St) (X : Nat → Int) : Nat → St
  | 0 => s
  | k + 1 => nxt f (sN f s X k) (X k)
def aN (f : Fx) (s : St) (X : Nat → Int) (k : Nat) : Int := ans f (sN f s X k) (X k)
def cN (f : Fx) (s : St) (X : Nat → Int) : Nat → Nat
  | 0 => 0
  | k + 1 => cN f s X k + (if outs f (sN f s X k) (X k) then 1 else 0)
theorem cN_le (f : Fx) (s : St) (X : Nat → Int) (k : Nat) : cN f s X k ≤ k := by
  induction k with
  | zero => exact Nat.le_refl _
  | succ k ih => rw [cN]; split <;> omega
def rowL (Y : Nat → Int) (m k : Nat) : List Value := (List.range m).map fun j => .int .i64 (if j < k then Y j else 0)
theorem rowL_len (Y : Nat → Int) (m k : Nat) : (rowL Y m k).length = m := by simp [rowL]
theorem rowL_at (Y : Nat → Int) (m k j : Nat) (hj : j < m) : (rowL Y m k)[j]? = some (.int .i64 (if j < k then Y j else 0)) := by
  simp [rowL, hj]
theorem rowL_set (Y : Nat → Int) (m k : Nat) (hk : k < m) : (rowL Y m k).set k (.int .i64 (Y k)) = rowL Y m (k + 1) := by
  apply List.ext_getElem?
  intro j
  by_cases hj : j < m
  · rw [rowL_at Y m (k + 1) j hj]
    by_cases hjk : j = k
    · subst hjk
      rw [List.getElem?_set_self (by rw [rowL_len]; exact hk)]
      simp
    · rw [List.getElem?_set_ne (by omega), rowL_at Y m k j hj]
      by_cases h : j < k
      · rw [if_pos h, if_pos (by omega)]
      · rw [if_neg h, if_neg (by omega)]
  · rw [List.getElem?_eq_none (by rw [List.length_set, rowL_len]; omega), List.getElem?_eq_none (by rw [rowL_len]; omega)]
theorem rowL_zero (Y : Nat → Int) (m : Nat) : List.replicate m (Value.int .i64 0) = rowL Y m 0 := by
  apply List.ext_getElem?
  intro j
  by_cases hj : j < m
  · rw [rowL_at Y m 0 j hj, List.getElem?_replicate, if_pos hj]; simp
  · rw [List.getElem?_eq_none (by simp; omega), List.getElem?_eq_none (by rw [rowL_len]; omega)]

/-- A list of samples that lies in memory. -/
def InAt (w : World) (ad : Option Addr) (m : Nat) (X : Nat → Int) : Prop := ∀ j, j < m → ∃ b off, ad = some ⟨b, off, none⟩ ∧ b < w.heap.size ∧ w.cell? ⟨b, off + j, none⟩ = some (.int .i64 (X j))
theorem InAt.below {w w' : World} {ad : Option Addr} {m : Nat} {X : Nat → Int} (h : InAt w ad m X) (hb : Below w.heap.size w w') : InAt w' ad m X := fun j hj => by
  obtain ⟨b, off, e, hlt, hc⟩ := h j hj
  exact ⟨b, off, e, Nat.lt_of_lt_of_le hlt hb.size, (hb.cell (by exact hlt)).trans hc⟩

theorem QW.grown {w a b : World} {fs ss rs : Array Value} {row : Option Nat} (h : QW w fs ss rs a) (hg : a.grownBy b row) (hr : ∀ k, row = some k → w.heap.size + 2 < k) : QW w fs ss rs b :=
  ⟨h.low.grown hg h.low.size (fun k e => by have := hr k e; omega), (hg.block _ h.sec.lt (by intro e; have := hr _ e.symm; omega)).trans h.sec, (hg.block _ h.st.lt (by intro e; have := hr _ e.symm; omega)).trans h.st, (hg.block _ h.res.lt (by intro e; have := hr _ e.symm; omega)).trans h.res⟩
theorem below_grownBy {w w' : World} (hb : Below w.heap.size w w') : w.grownBy w' none := ⟨hb.os, hb.tape, hb.output, hb.size, fun k hk _ => hb.block k hk⟩
theorem infoz_i64 : (Try.prog.info? 2).map (fun i => (i.zero, i.size, i.bytes)) = some (some (.int .i64 0), 1, 8) := by kernel_rfl

def RunPost (f : Fx) (s : St) (X : Nat → Int) (m : Nat) (w : World) (e : Ending) (w' : World) : Prop :=
  ∃ g, e = .returned (.tuple #[.slice (some ⟨g, 0, none⟩) m m, vS (sN f s X m), .int .i64 (cN f s X m)]) ∧ w.heap.size ≤ g ∧ w'.ownsRow w.heap.size 2 1 (.slice (some ⟨g, 0, none⟩) m m) m (rowL (aN f s X) m m) ∧ Below w.heap.size w w'

theorem run_results_r {w : World} {tmps : Array Value} {y o : Value} {b : Nat} {c0 c1 c2 c3 : Value} (h6 : tmps.getD 6 undef = y) (h7 : tmps.getD 7 undef = .pointer (some ⟨b, 0, none⟩)) (h8 : tmps.getD 8 undef = o) (hr : Blk w b #[c0, c1, c2, c3] 44) :
    (results Try.f14 tmps).run Try.prog w = .ok (.tuple #[y, .agg #[c0, c1, c2, c3], o]) w := by
  have hl := run_loadVar_mid (P := Try.prog) w b 0 44 [c0, c1, c2, c3] _ hr.range Try.underlying44 rfl infoSt
  rw [Array.getD_eq_getD_getElem?] at h6 h7 h8
  simp [results, h6, h7, h8, asAddr, hl]

set_option maxRecDepth 100000 in
set_option maxHeartbeats 4000000 in
theorem run_any (f : Fx) (s : St) (X : Nat → Int) (ad : Option Addr) (m c : Nat) (hm : m ≤ 17592186044416) (w : World) (hin : InAt w ad m X) :
    Calls Try.prog 14 #[vF f, vS s, .slice ad m c] w fun e w' => RunPost f s X m w e w' := by
  obtain ⟨i0, hi0, hz0, hz1, hz2⟩ := info_parts infoz_i64
  have Hs := hide (fun k => qstep_any f (sN f s X k) (X k))
  have Hin := hide hin
  have Hq := hide (QW.start w (aF f) (aS s) (aS ⟨0, 0, 0, 0⟩))
  clear hin
  unfold vF vS at *
  go_enter Try.func14, Try.ntmps14
  go_wp2_with (first
    | (refine wpList_make_full _ rfl _ _ 25 rfl (w.heap.size + 3) 2 i0 (.int .i64 0) 1 Try.underlying25 hi0 hz0 hz1 .i64 .i64 _ _ m rfl rfl rfl rfl (by rw [hz2]; omega) (by unfold maxLen; omega) (by simp) ?_; intro w1 hown hgr)
    | fail)
  obtain ⟨g, hg⟩ : ∃ g, g = w.heap.size + 1 + 1 + 1 := ⟨_, rfl⟩
  have hq1 := (unhide Hq).grown hgr (fun k e => by cases e)
  rw [show (madeCells (Value.int IntKind.i64 0).cells (m * 1)).toList = rowL (aN f s X) m 0 by rw [← rowL_zero, Nat.mul_one]; exact toList_madeCells_one _ _] at hown
  simp only [World.size_alloc] at hown ⊢
  rw [← hg] at hown ⊢
  have H1 := hide (And.intro hq1 hown)
  have Hg := hide hg
  clear hq1 hown hgr Hq hg
  go_wp2_with fail
  go_loopw [10, 19] (fun cnt i wr => ∃ k T : Nat, i = .int .i64 k ∧ k ≤ m ∧ cnt = .int .i64 T ∧ Hid (T = cN f s X k) ∧ T ≤ k ∧ Hid (QW w (aF f) (aS (sN f s X k)) (aS ⟨0, 0, 0, 0⟩) wr) ∧ Hid (wr.ownsRow g 2 1 (.slice (some ⟨g, 0, none⟩) m m) m (rowL (aN f s X) m k))) (fun _ i _ => m - (intOf i).toNat)
  case atStart => exact ⟨0, 0, rfl, Nat.zero_le _, rfl, rfl, Nat.le_refl _, (unhide H1).1, (unhide H1).2⟩
  case round =>
    obtain ⟨k, T, rfl, hk, rfl, hT, hTk, hQ, hown⟩ := hrel
    clear H1
    by_cases hkm : (k : Int) < (m : Int)
    · obtain ⟨b, off, rfl, hbw, hcx⟩ := (unhide Hin) k (by omega)
      have hx : wr.cell? ⟨b, off + k, none⟩ = some (.int .i64 (X k)) := ((unhide hQ).low.cell (by exact hbw)).trans hcx
      obtain ⟨c0, c1, c2, c3, c4, c5⟩ := (unhide hQ).cellsF
      obtain ⟨d0, d1, d2, d3, d4, d5, d6, d7⟩ := (unhide hQ).cellsS
      clear hcx
      go_wp2_with fail
      refine (unhide Hs k _).mono ?_
      rintro e w2 ⟨rfl, hb2⟩
      clear c0 c1 c2 c3 c4 c5 d0 d1 d2 d3 d4 d5 d6 d7 hx
      have hQ2 := (unhide hQ).later hb2
      have hown2 := (unhide hown).kept (below_grownBy hb2) (.inr (by simp [Value.ownBlock]))
      obtain ⟨d0, d1, d2, d3, d4, d5, d6, d7⟩ := hQ2.cellsS
      have p0 : w2.cell? ⟨g, k, none⟩ = some (.int .i64 0) := by
        rw [hown2.cellAt k (by omega), rowL_at _ _ _ _ (by omega), if_neg (by omega)]
      have p1 : w2.frozen? ⟨g, k, none⟩ = false := hown2.frozenAt k
      have HO2 := hide (hown2.stored k (.int .i64 (aN f s X k)))
      have HQ2 := hide hQ2
      have hg1 : ¬ w.heap.size + 1 = g := by have := unhide Hg; omega
      have hg2 : ¬ g = w.heap.size + 1 := by have := unhide Hg; omega
      clear hb2 hQ hown hQ2 hown2
      obtain ⟨o, ho⟩ : ∃ o, outs f (sN f s X k) (X k) = o := ⟨_, rfl⟩
      have Ho := hide ho
      rw [ho]
      clear ho
      cases o
      · go_wp2
        go_roundw
        case rel =>
          have hq3 := (((unhide HQ2).grown (unhide HO2).2 (fun q e => by cases e; have := unhide Hg; omega)).setS (nxt f (sN f s X k) (X k)))
          refine ⟨k + 1, T + 0, by go_num, by omega, by go_num, ?_, by omega, hq3, ?_⟩
          · show T + 0 = cN f s X (k + 1)
            rw [cN, unhide Ho, unhide hT]; rfl
          · have := (unhide HO2).1
            rw [rowL_set _ _ _ (by omega)] at this
            exact ownsRow_setCell_below (ownsRow_setCell_below (ownsRow_setCell_below (ownsRow_setCell_below this (by have := unhide Hg; show w.heap.size + 1 < g; omega) _) (by have := unhide Hg; show w.heap.size + 1 < g; omega) _) (by have := unhide Hg; show w.heap.size + 1 < g; omega) _) (by have := unhide Hg; show w.heap.size + 1 < g; omega) _
        case measure => simp [intOf]; omega
      · go_wp2
        go_roundw
        case rel =>
          have hq3 := (((unhide HQ2).grown (unhide HO2).2 (fun q e => by cases e; have := unhide Hg; omega)).setS (nxt f (sN f s X k) (X k)))
          refine ⟨k + 1, T + 1, by go_num, by omega, by go_num, ?_, by omega, hq3, ?_⟩
          · show T + 1 = cN f s X (k + 1)
            rw [cN, unhide Ho, unhide hT]; rfl
          · have := (unhide HO2).1
            rw [rowL_set _ _ _ (by omega)] at this
            exact ownsRow_setCell_below (ownsRow_setCell_below (ownsRow_setCell_below (ownsRow_setCell_below this (by have := unhide Hg; show w.heap.size + 1 < g; omega) _) (by have := unhide Hg; show w.heap.size + 1 < g; omega) _) (by have := unhide Hg; show w.heap.size + 1 < g; omega) _) (by have := unhide Hg; show w.heap.size + 1 < g; omega) _
        case measure => simp [intOf]; omega
    · obtain rfl : k = m := by omega
      obtain ⟨d0, d1, d2, d3, d4, d5, d6, d7⟩ := (unhide hQ).cellsS
      obtain ⟨e0, e1, e2, e3, e4, e5, e6, e7⟩ := (unhide hQ).cellsR
      go_wp2_with fail
      go_region_held3 (fun v => v.cell? ⟨w.heap.size + 1, 0, none⟩ = some (.int .i64 (sN f s X k).x1) ∧ v.cell? ⟨w.heap.size + 1, 1, none⟩ = some (.int .i64 (sN f s X k).x2) ∧ v.cell? ⟨w.heap.size + 1, 2, none⟩ = some (.int .i64 (sN f s X k).y1) ∧ v.cell? ⟨w.heap.size + 1, 3, none⟩ = some (.int .i64 (sN f s X k).y2)) (go_keep) (fail)
      go_wp2
      have hq3 := (unhide hQ).setR (sN f s X k)
      refine bodyPost_ret (run_results_r rfl rfl rfl hq3.res) rfl ?_
      have hgw : w.heap.size + 2 < g := by have := unhide Hg; omega
      refine ⟨g, by rw [← unhide hT]; rfl, by omega, ?_, hq3.low.drew⟩
      have := ownsRow_setCell_below (ownsRow_setCell_below (ownsRow_setCell_below (ownsRow_setCell_below (unhide hown) (a := ⟨w.heap.size + 1 + 1, 0, none⟩) (by show w.heap.size + 1 + 1 < g; omega) (.int .i64 (sN f s X k).x1)) (a := ⟨w.heap.size + 1 + 1, 1, none⟩) (by show w.heap.size + 1 + 1 < g; omega) (.int .i64 (sN f s X k).x2)) (a := ⟨w.heap.size + 1 + 1, 2, none⟩) (by show w.heap.size + 1 + 1 < g; omega) (.int .i64 (sN f s X k).y1)) (a := ⟨w.heap.size + 1 + 1, 3, none⟩) (by show w.heap.size + 1 + 1 < g; omega) (.int .i64 (sN f s X k).y2)
      exact (Joins.ownsRow_le this (by omega)).drew
end Go.Proofs.Ytlajalfdcfkmpab
