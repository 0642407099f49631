/- What Section answers at QuantFixed's numbers; what Cycle and Step answer there. -/
import Derived.Test.YtlajalfdcfkmpabFa
namespace Go.Proofs.Ytlajalfdcfkmpab
open Go.RowKit

theorem run_results_s {w : World} {tmps : Array Value} {y o : Value} {b : Nat} {c0 c1 c2 c3 c4 c5 : Value} (h4 : tmps.getD 4 undef = .pointer (some ⟨b, 0, none⟩)) (h5 : tmps.getD 5 undef = y) (h6 : tmps.getD 6 undef = o) (hr : Blk w b #[c0, c1, c2, c3, c4, c5] 34) :
    (results Try.f10 tmps).run Try.prog w = .ok (.tuple #[.agg #[c0, c1, c2, c3, c4, c5], y, o]) w := by
  have hl := run_loadVar_mid (P := Try.prog) w b 0 34 [c0, c1, c2, c3, c4, c5] _ hr.range Try.underlying34 rfl infoFx
  rw [Array.getD_eq_getD_getElem?] at h4 h5 h6
  simp [results, h4, h5, h6, asAddr, hl]
/-- The blocks of a call of Section: its argument's and its answer's. -/
structure SW (w : World) (cs rs : Array Value) (w' : World) : Prop where
  low : Below w.heap.size w w'
  sec : Blk w' w.heap.size cs 40
  res : Blk w' (w.heap.size + 1) rs 34
theorem SW.later {w a b : World} {cs rs : Array Value} (h : SW w cs rs a) (hb : Below a.heap.size a b) : SW w cs rs b :=
  ⟨h.low.trans (hb.mono h.low.size), h.sec.below hb h.sec.lt, h.res.below hb h.res.lt⟩
theorem SW.start (w : World) (cs rs : Array Value) : SW w cs rs ((w.alloc (Obj.cells cs 40)).alloc (Obj.cells rs 34)) := by
  refine ⟨Joins.below_alloc2 _ _ _, ?_, ?_⟩
  · exact Blk.alloc.below (Joins.below_alloc1 _ _) (by simp)
  · have := Blk.alloc (w := w.alloc (Obj.cells cs 40)) (cs := rs) (t := 34)
    simpa using this
theorem SW.cells {w w' : World} {cs : Array Value} (h : SW w cs #[.int .i64 0, .int .i64 0, .int .i64 0, .int .i64 0, .int .i64 0, .int .i64 0] w') :
    w'.cell? ⟨w.heap.size + 1, 0, none⟩ = some (.int .i64 0) ∧ w'.cell? ⟨w.heap.size + 1, 1, none⟩ = some (.int .i64 0) ∧ w'.cell? ⟨w.heap.size + 1, 2, none⟩ = some (.int .i64 0) ∧ w'.cell? ⟨w.heap.size + 1, 3, none⟩ = some (.int .i64 0) ∧ w'.cell? ⟨w.heap.size + 1, 4, none⟩ = some (.int .i64 0) ∧ w'.cell? ⟨w.heap.size + 1, 5, none⟩ = some (.int .i64 0) ∧
    w'.frozen? ⟨w.heap.size + 1, 0, none⟩ = false ∧ w'.frozen? ⟨w.heap.size + 1, 1, none⟩ = false ∧ w'.frozen? ⟨w.heap.size + 1, 2, none⟩ = false ∧ w'.frozen? ⟨w.heap.size + 1, 3, none⟩ = false ∧ w'.frozen? ⟨w.heap.size + 1, 4, none⟩ = false ∧ w'.frozen? ⟨w.heap.size + 1, 5, none⟩ = false :=
  ⟨h.res.cell 0 rfl, h.res.cell 1 rfl, h.res.cell 2 rfl, h.res.cell 3 rfl, h.res.cell 4 rfl, h.res.cell 5 rfl, h.res.unfrozen 0, h.res.unfrozen 1, h.res.unfrozen 2, h.res.unfrozen 3, h.res.unfrozen 4, h.res.unfrozen 5⟩
theorem SW.set {w a : World} {cs : Array Value} (h : SW w cs #[.int .i64 0, .int .i64 0, .int .i64 0, .int .i64 0, .int .i64 0, .int .i64 0] a) (n b0 b1 b2 a1 a2 : Int) :
    SW w cs #[.int .i64 n, .int .i64 b0, .int .i64 b1, .int .i64 b2, .int .i64 a1, .int .i64 a2] ((((((a.setCell ⟨w.heap.size + 1, 0, none⟩ (.int .i64 n)).setCell ⟨w.heap.size + 1, 1, none⟩ (.int .i64 b0)).setCell ⟨w.heap.size + 1, 2, none⟩ (.int .i64 b1)).setCell ⟨w.heap.size + 1, 3, none⟩ (.int .i64 b2)).setCell ⟨w.heap.size + 1, 4, none⟩ (.int .i64 a1)).setCell ⟨w.heap.size + 1, 5, none⟩ (.int .i64 a2)) :=
  ⟨Below.setCells (b := w.heap.size + 1) h.low (by omega) 0 [.int .i64 n, .int .i64 b0, .int .i64 b1, .int .i64 b2, .int .i64 a1, .int .i64 a2], h.sec.other (c := w.heap.size + 1) (by omega) [.int .i64 n, .int .i64 b0, .int .i64 b1, .int .i64 b2, .int .i64 a1, .int .i64 a2] 0, h.res.all (ds := #[.int .i64 n, .int .i64 b0, .int .i64 b1, .int .i64 b2, .int .i64 a1, .int .i64 a2]) rfl⟩
set_option maxRecDepth 100000 in
set_option maxHeartbeats 2000000 in
theorem section_arg (w : World) : Calls Try.prog 10 #[.agg #[.complex .f64 0 4607182418800017408, .complex .f64 0 0, .complex .f64 0 0, .complex .f64 0 0, .complex .f64 0 0], .int .i64 0] w fun e w' => e = .returned (.tuple #[.agg #[.int .i64 0, .int .i64 0, .int .i64 0, .int .i64 0, .int .i64 0, .int .i64 0], .int .i64 0, .int .i64 1]) ∧ Below w.heap.size w w' := by
  have Hf := hide (fits_any 0)
  rw [show fitsB 0 = false by decide] at Hf
  have Hc := hide (coeff_any 0 4607182418800017408 0 0 0 0 0 0 0 0)
  have HS := hide (SW.start w #[.complex .f64 0 4607182418800017408, .complex .f64 0 0, .complex .f64 0 0, .complex .f64 0 0, .complex .f64 0 0] #[.int .i64 0, .int .i64 0, .int .i64 0, .int .i64 0, .int .i64 0, .int .i64 0])
  go_enter Try.func10, Try.ntmps10
  go_wp2_with fail
  refine (unhide Hc _).mono ?_
  rintro e w1 ⟨A, rfl, hr, hb1, hA⟩
  have hS1 := (unhide HS).later hb1
  have Hr := hide hr
  clear HS hb1 hr hA
  obtain ⟨c0, c1, c2, c3, c4, c5, d0, d1, d2, d3, d4, d5⟩ := hS1.cells
  have HS1 := hide hS1
  clear hS1
  go_wp2_with fail
  refine (unhide Hf _).mono ?_
  rintro e w' ⟨rfl, hw'⟩
  obtain rfl := hw'.symm
  go_wp2
  refine bodyPost_ret (run_results_s rfl rfl rfl ((unhide HS1).set 0 0 0 0 0 0).res) rfl ?_
  exact ⟨rfl, ((unhide HS1).set 0 0 0 0 0 0).low⟩
set_option maxRecDepth 100000 in
set_option maxHeartbeats 2000000 in
theorem section_nan (w : World) : Calls Try.prog 10 #[.agg #[.complex .f64 0 4607182418800017408, .complex .f64 0 0, .complex .f64 0 0, .complex .f64 0 9221120237041090561, .complex .f64 0 0], .int .i64 31] w fun e w' => e = .returned (.tuple #[.agg #[.int .i64 0, .int .i64 0, .int .i64 0, .int .i64 0, .int .i64 0, .int .i64 0], .int .i64 0, .int .i64 5]) ∧ Below w.heap.size w w' := by
  have Hf := hide (fits_any 31)
  rw [show fitsB 31 = true by decide] at Hf
  have Hc := hide (coeff_any 0 4607182418800017408 0 0 0 0 0 9221120237041090561 0 0)
  have HS := hide (SW.start w #[.complex .f64 0 4607182418800017408, .complex .f64 0 0, .complex .f64 0 0, .complex .f64 0 9221120237041090561, .complex .f64 0 0] #[.int .i64 0, .int .i64 0, .int .i64 0, .int .i64 0, .int .i64 0, .int .i64 0])
  go_enter Try.func10, Try.ntmps10
  go_wp2_with fail
  refine (unhide Hc _).mono ?_
  rintro e w1 ⟨A, rfl, hr, hb1, hA⟩
  have hS1 := (unhide HS).later hb1
  have Hr := hide hr
  clear HS hb1 hr hA
  obtain ⟨c0, c1, c2, c3, c4, c5, d0, d1, d2, d3, d4, d5⟩ := hS1.cells
  have HS1 := hide hS1
  clear hS1
  go_wp2_with fail
  refine (unhide Hf _).mono ?_
  rintro e w' ⟨rfl, hw'⟩
  obtain rfl := hw'.symm
  have Hn := hide (nfinite_no A 5 5 3 (by omega) (by omega) w1 (by
    intro j hj
    rcases (by omega : j = 0 ∨ j = 1 ∨ j = 2) with rfl | rfl | rfl
    · exact ⟨_, unhide Hr 0 (.complex .f64 0 4607182418800017408) rfl, 0, 4607182418800017408, rfl, by decide, by decide, by decide⟩
    · exact ⟨_, unhide Hr 1 (.complex .f64 0 0) rfl, 0, 0, rfl, by decide, by decide, by decide⟩
    · exact ⟨_, unhide Hr 2 (.complex .f64 0 0) rfl, 0, 0, rfl, by decide, by decide, by decide⟩) ⟨_, unhide Hr 3 (.complex .f64 0 9221120237041090561) rfl, 0, 9221120237041090561, rfl, by decide, by decide, by decide⟩)
  go_wp2_with fail
  refine (unhide Hn).mono ?_
  rintro e w' ⟨rfl, hw'⟩
  obtain rfl := hw'.symm
  go_wp2
  refine bodyPost_ret (run_results_s rfl rfl rfl ((unhide HS1).set 0 0 0 0 0 0).res) rfl ?_
  exact ⟨rfl, ((unhide HS1).set 0 0 0 0 0 0).low⟩
set_option maxRecDepth 100000 in
set_option maxHeartbeats 2000000 in
theorem section_pair (w : World) : Calls Try.prog 10 #[.agg #[.complex .f64 0 4607182418800017408, .complex .f64 0 0, .complex .f64 0 0, .complex .f64 0 0, .complex .f64 0 0], .int .i64 31] w fun e w' => e = .returned (.tuple #[.agg #[.int .i64 0, .int .i64 0, .int .i64 0, .int .i64 0, .int .i64 0, .int .i64 0], .int .i64 0, .int .i64 8]) ∧ Below w.heap.size w w' := by
  have Hf := hide (fits_any 31)
  rw [show fitsB 31 = true by decide] at Hf
  have Hc := hide (coeff_any 0 4607182418800017408 0 0 0 0 0 0 0 0)
  have HS := hide (SW.start w #[.complex .f64 0 4607182418800017408, .complex .f64 0 0, .complex .f64 0 0, .complex .f64 0 0, .complex .f64 0 0] #[.int .i64 0, .int .i64 0, .int .i64 0, .int .i64 0, .int .i64 0, .int .i64 0])
  go_enter Try.func10, Try.ntmps10
  go_wp2_with fail
  refine (unhide Hc _).mono ?_
  rintro e w1 ⟨A, rfl, hr, hb1, hA⟩
  have hS1 := (unhide HS).later hb1
  have Hr := hide hr
  clear HS hb1 hr hA
  obtain ⟨c0, c1, c2, c3, c4, c5, d0, d1, d2, d3, d4, d5⟩ := hS1.cells
  have HS1 := hide hS1
  clear hS1
  go_wp2_with fail
  refine (unhide Hf _).mono ?_
  rintro e w' ⟨rfl, hw'⟩
  obtain rfl := hw'.symm
  have Hn := hide (nfinite_any A 0 5 5 (by omega) w1 (by
    intro j hj
    rcases (by omega : j = 0 ∨ j = 1 ∨ j = 2 ∨ j = 3 ∨ j = 4) with rfl | rfl | rfl | rfl | rfl
    · exact ⟨_, unhide Hr 0 (.complex .f64 0 4607182418800017408) rfl, 0, 4607182418800017408, rfl, by decide, by decide, by decide⟩
    · exact ⟨_, unhide Hr 1 (.complex .f64 0 0) rfl, 0, 0, rfl, by decide, by decide, by decide⟩
    · exact ⟨_, unhide Hr 2 (.complex .f64 0 0) rfl, 0, 0, rfl, by decide, by decide, by decide⟩
    · exact ⟨_, unhide Hr 3 (.complex .f64 0 0) rfl, 0, 0, rfl, by decide, by decide, by decide⟩
    · exact ⟨_, unhide Hr 4 (.complex .f64 0 0) rfl, 0, 0, rfl, by decide, by decide, by decide⟩))
  go_wp2_with fail
  refine (unhide Hn).mono ?_
  rintro e w' ⟨rfl, hw'⟩
  obtain rfl := hw'.symm
  have ho : (FloatKind.f64.format.order 4607182418800017408 0 == some .eq) = false := by kernel_rfl
  clear c0 c1 c2 c3 c4 c5 d0 d1 d2 d3 d4 d5
  go_upto_region 7 with fail
  obtain ⟨W, hW⟩ : ∃ W, W = w1.alloc (Obj.cells #[.int .i64 0, .int .i64 0, .int .i64 0, .int .i64 0, .int .i64 0] 63) := ⟨_, rfl⟩
  rw [← hW]
  have hBW := Joins.below_alloc1 w1 (Obj.cells #[.int .i64 0, .int .i64 0, .int .i64 0, .int .i64 0, .int .i64 0] 63)
  rw [← hW] at hBW
  have hA1 : A < w1.heap.size := World.block_lt_of_cell? w1 ⟨A, 0, none⟩ (unhide Hr 0 _ rfl)
  have r0 : W.cell? ⟨A, 0, none⟩ = some (.complex .f64 0 4607182418800017408) := (hBW.cell (by exact hA1)).trans (unhide Hr 0 _ rfl)
  have hS2 := (unhide HS1).later hBW
  obtain ⟨c0, c1, c2, c3, c4, c5, d0, d1, d2, d3, d4, d5⟩ := hS2.cells
  have HS2 := hide hS2
  clear hS2 hBW hW hA1
  go_wp2_with fail
  go_loopw [29] (fun i wr => i = .int .i64 0 ∧ wr = W) (fun _ _ => 0)
  case atStart => exact ⟨rfl, rfl⟩
  case round =>
    obtain ⟨rfl, rfl⟩ := hrel
    go_wp2
    refine bodyPost_ret (run_results_s rfl rfl rfl ((unhide HS2).set 0 0 0 0 0 0).res) rfl ?_
    exact ⟨rfl, ((unhide HS2).set 0 0 0 0 0 0).low⟩
def cS : Nat → Int
  | 0 => 0
  | 1 => 1
  | 2 => 1
  | 3 => 1
  | _ => 2
def arS : Nat → Array Value
  | 0 => #[.int .i64 0, .int .i64 0, .int .i64 0, .int .i64 0, .int .i64 0]
  | 1 => #[.int .i64 2147483647, .int .i64 0, .int .i64 0, .int .i64 0, .int .i64 0]
  | 2 => #[.int .i64 2147483647, .int .i64 0, .int .i64 0, .int .i64 0, .int .i64 0]
  | 3 => #[.int .i64 2147483647, .int .i64 0, .int .i64 0, .int .i64 0, .int .i64 0]
  | 4 => #[.int .i64 2147483647, .int .i64 0, .int .i64 0, .int .i64 2147483647, .int .i64 0]
  | _ => #[.int .i64 2147483647, .int .i64 0, .int .i64 0, .int .i64 2147483647, .int .i64 0]
structure SX (w : World) (A N k : Nat) (wr : World) : Prop where
  sw : SW w #[.complex .f64 4607182418800017408 9223372036854775808, .complex .f64 0 0, .complex .f64 0 0, .complex .f64 4611686018427387904 0, .complex .f64 0 0] #[.int .i64 0, .int .i64 0, .int .i64 0, .int .i64 0, .int .i64 0, .int .i64 0] wr
  list : ∀ j v, [.complex .f64 4607182418800017408 9223372036854775808, .complex .f64 0 0, .complex .f64 0 0, .complex .f64 4611686018427387904 0, .complex .f64 0 0][j]? = some v → wr.cell? ⟨A, j, none⟩ = some v
  arr : Blk wr N (arS k) 63
  lt : w.heap.size + 1 < A ∧ A < N
theorem SX.put {w : World} {A N k : Nat} {wr : World} (h : SX w A N k wr) (u : Value) (he : (arS k).setIfInBounds k u = arS (k + 1)) : SX w A N (k + 1) (wr.setCell ⟨N, k, none⟩ u) := by
  have hN := h.lt
  refine ⟨⟨Below.setCells (b := N) h.sw.low (by omega) k [u], h.sw.sec.other (c := N) (by omega) [u] k, h.sw.res.other (c := N) (by omega) [u] k⟩, fun j v hv => ?_, ?_, h.lt⟩
  · rw [World.cell?_setCell_other _ _ _ _ (by intro e; have := congrArg Addr.block e; simp at this; omega)]
    exact h.list j v hv
  · rw [← he]
    exact h.arr.put k u
set_option maxRecDepth 100000 in
set_option maxHeartbeats 4000000 in
theorem section_ok (w : World) : Calls Try.prog 10 #[.agg #[.complex .f64 4607182418800017408 9223372036854775808, .complex .f64 0 0, .complex .f64 0 0, .complex .f64 4611686018427387904 0, .complex .f64 0 0], .int .i64 31] w fun e w' => e = .returned (.tuple #[.agg #[.int .i64 31, .int .i64 2147483647, .int .i64 0, .int .i64 0, .int .i64 2147483647, .int .i64 0], .int .i64 2, .int .i64 0]) ∧ Below w.heap.size w w' := by
  have Hf := hide (fits_any 31)
  rw [show fitsB 31 = true by decide] at Hf
  have Hc := hide (coeff_any 4607182418800017408 9223372036854775808 0 0 0 0 4611686018427387904 0 0 0)
  have HS := hide (SW.start w #[.complex .f64 4607182418800017408 9223372036854775808, .complex .f64 0 0, .complex .f64 0 0, .complex .f64 4611686018427387904 0, .complex .f64 0 0] #[.int .i64 0, .int .i64 0, .int .i64 0, .int .i64 0, .int .i64 0, .int .i64 0])
  go_enter Try.func10, Try.ntmps10
  go_wp2_with fail
  refine (unhide Hc _).mono ?_
  rintro e w1 ⟨A, rfl, hr, hb1, hA⟩
  have HS1 := hide ((unhide HS).later hb1)
  have Hr := hide hr
  have hA0 : w.heap.size + 1 < A := by simp at hA; omega
  clear HS hb1 hr hA
  go_wp2_with fail
  refine (unhide Hf _).mono ?_
  rintro e w' ⟨rfl, hw'⟩
  obtain rfl := hw'.symm
  have Hn := hide (nfinite_any A 0 5 5 (by omega) w1 (by
    intro j hj
    rcases (by omega : j = 0 ∨ j = 1 ∨ j = 2 ∨ j = 3 ∨ j = 4) with rfl | rfl | rfl | rfl | rfl
    · exact ⟨_, unhide Hr 0 (.complex .f64 4607182418800017408 9223372036854775808) rfl, 4607182418800017408, 9223372036854775808, rfl, by decide, by decide, by decide⟩
    · exact ⟨_, unhide Hr 1 (.complex .f64 0 0) rfl, 0, 0, rfl, by decide, by decide, by decide⟩
    · exact ⟨_, unhide Hr 2 (.complex .f64 0 0) rfl, 0, 0, rfl, by decide, by decide, by decide⟩
    · exact ⟨_, unhide Hr 3 (.complex .f64 4611686018427387904 0) rfl, 4611686018427387904, 0, rfl, by decide, by decide, by decide⟩
    · exact ⟨_, unhide Hr 4 (.complex .f64 0 0) rfl, 0, 0, rfl, by decide, by decide, by decide⟩))
  go_wp2_with fail
  refine (unhide Hn).mono ?_
  rintro e w' ⟨rfl, hw'⟩
  obtain rfl := hw'.symm
  have ho0 : (FloatKind.f64.format.order 0 0 == some .eq) = true := by kernel_rfl
  have ho1 : (FloatKind.f64.format.order 9223372036854775808 0 == some .eq) = true := by kernel_rfl
  go_upto_region 7 with fail
  obtain ⟨N, hN⟩ : ∃ N, N = w1.heap.size := ⟨_, rfl⟩
  obtain ⟨W, hW⟩ : ∃ W, W = w1.alloc (Obj.cells #[.int .i64 0, .int .i64 0, .int .i64 0, .int .i64 0, .int .i64 0] 63) := ⟨_, rfl⟩
  rw [← hW, ← hN]
  have hBW := Joins.below_alloc1 w1 (Obj.cells #[.int .i64 0, .int .i64 0, .int .i64 0, .int .i64 0, .int .i64 0] 63)
  rw [← hW] at hBW
  have hA1 : A < w1.heap.size := World.block_lt_of_cell? w1 ⟨A, 0, none⟩ (unhide Hr 0 _ rfl)
  have HX := hide (SX.mk (N := N) (k := 0) ((unhide HS1).later hBW) (fun j v hv => (hBW.cell (by exact hA1)).trans (by have := unhide Hr j v hv; rwa [Nat.zero_add] at this)) (by rw [hW, hN]; exact Blk.alloc) ⟨hA0, by omega⟩)
  clear HS1 hBW hW hN hA1 hA0 Hr Hn
  go_wp2_with fail
  go_loopw [9, 29] (fun cnt i wr => ∃ (k : Nat) (c : Int), i = .int .i64 k ∧ k ≤ 5 ∧ cnt = .int .i64 c ∧ 0 ≤ c ∧ c ≤ 5 ∧ Hid (c = cS k) ∧ Hid (SX w A N k wr)) (fun _ i _ => 5 - (intOf i).toNat)
  case atStart => exact ⟨0, 0, rfl, by omega, rfl, by omega, by omega, rfl, HX⟩
  case round =>
    obtain ⟨k, c, rfl, hk, rfl, hc0, hc5, hc, hX⟩ := hrel
    clear HX
    rcases (by omega : k = 0 ∨ k = 1 ∨ k = 2 ∨ k = 3 ∨ k = 4 ∨ k = 5) with rfl | rfl | rfl | rfl | rfl | rfl
    · have hl : wr.cell? ⟨A, 0, none⟩ = some (.complex .f64 4607182418800017408 9223372036854775808) := (unhide hX).list 0 _ rfl
      have p0 : wr.cell? ⟨N, 0, none⟩ = some (.int .i64 0) := (unhide hX).arr.cell 0 rfl
      have p1 : wr.frozen? ⟨N, 0, none⟩ = false := (unhide hX).arr.unfrozen 0
      go_wp2_with fail
      refine (fix_one31 _).mono ?_
      rintro e w' ⟨rfl, hw'⟩
      obtain rfl := hw'.symm
      go_wp2
      go_roundw
      case rel => exact ⟨1, c + 1, rfl, by omega, rfl, by omega, by have := unhide hc; have e0 : cS 0 = 0 := rfl; omega, by have := unhide hc; have e0 : cS 0 = 0 := rfl; have e1 : cS 1 = 1 := rfl; show _ = _; omega, (unhide hX).put _ rfl⟩
      case measure => simp [intOf]
    · have hl : wr.cell? ⟨A, 1, none⟩ = some (.complex .f64 0 0) := (unhide hX).list 1 _ rfl
      have p0 : wr.cell? ⟨N, 1, none⟩ = some (.int .i64 0) := (unhide hX).arr.cell 1 rfl
      have p1 : wr.frozen? ⟨N, 1, none⟩ = false := (unhide hX).arr.unfrozen 1
      go_wp2_with fail
      refine (fix_nought31 _).mono ?_
      rintro e w' ⟨rfl, hw'⟩
      obtain rfl := hw'.symm
      go_wp2
      go_roundw
      case rel => exact ⟨2, c, rfl, by omega, rfl, by omega, by have := unhide hc; have e0 : cS 1 = 1 := rfl; omega, by have := unhide hc; have e0 : cS 1 = 1 := rfl; have e1 : cS 2 = 1 := rfl; show _ = _; omega, (unhide hX).put _ rfl⟩
      case measure => simp [intOf]
    · have hl : wr.cell? ⟨A, 2, none⟩ = some (.complex .f64 0 0) := (unhide hX).list 2 _ rfl
      have p0 : wr.cell? ⟨N, 2, none⟩ = some (.int .i64 0) := (unhide hX).arr.cell 2 rfl
      have p1 : wr.frozen? ⟨N, 2, none⟩ = false := (unhide hX).arr.unfrozen 2
      go_wp2_with fail
      refine (fix_nought31 _).mono ?_
      rintro e w' ⟨rfl, hw'⟩
      obtain rfl := hw'.symm
      go_wp2
      go_roundw
      case rel => exact ⟨3, c, rfl, by omega, rfl, by omega, by have := unhide hc; have e0 : cS 2 = 1 := rfl; omega, by have := unhide hc; have e0 : cS 2 = 1 := rfl; have e1 : cS 3 = 1 := rfl; show _ = _; omega, (unhide hX).put _ rfl⟩
      case measure => simp [intOf]
    · have hl : wr.cell? ⟨A, 3, none⟩ = some (.complex .f64 4611686018427387904 0) := (unhide hX).list 3 _ rfl
      have p0 : wr.cell? ⟨N, 3, none⟩ = some (.int .i64 0) := (unhide hX).arr.cell 3 rfl
      have p1 : wr.frozen? ⟨N, 3, none⟩ = false := (unhide hX).arr.unfrozen 3
      go_wp2_with fail
      refine (fix_two31 _).mono ?_
      rintro e w' ⟨rfl, hw'⟩
      obtain rfl := hw'.symm
      go_wp2
      go_roundw
      case rel => exact ⟨4, c + 1, rfl, by omega, rfl, by omega, by have := unhide hc; have e0 : cS 3 = 1 := rfl; omega, by have := unhide hc; have e0 : cS 3 = 1 := rfl; have e1 : cS 4 = 2 := rfl; show _ = _; omega, (unhide hX).put _ rfl⟩
      case measure => simp [intOf]
    · have hl : wr.cell? ⟨A, 4, none⟩ = some (.complex .f64 0 0) := (unhide hX).list 4 _ rfl
      have p0 : wr.cell? ⟨N, 4, none⟩ = some (.int .i64 0) := (unhide hX).arr.cell 4 rfl
      have p1 : wr.frozen? ⟨N, 4, none⟩ = false := (unhide hX).arr.unfrozen 4
      go_wp2_with fail
      refine (fix_nought31 _).mono ?_
      rintro e w' ⟨rfl, hw'⟩
      obtain rfl := hw'.symm
      go_wp2
      go_roundw
      case rel => exact ⟨5, c, rfl, by omega, rfl, by omega, by have := unhide hc; have e0 : cS 4 = 2 := rfl; omega, by have := unhide hc; have e0 : cS 4 = 2 := rfl; have e1 : cS 5 = 2 := rfl; show _ = _; omega, (unhide hX).put _ rfl⟩
      case measure => simp [intOf]
    · have hS := (unhide hX).sw
      obtain ⟨c0, c1, c2, c3, c4, c5, d0, d1, d2, d3, d4, d5⟩ := hS.cells
      have p0 : wr.cell? ⟨N, 0, none⟩ = some (.int .i64 2147483647) := (unhide hX).arr.cell 0 rfl
      have p1 : wr.cell? ⟨N, 1, none⟩ = some (.int .i64 0) := (unhide hX).arr.cell 1 rfl
      have p2 : wr.cell? ⟨N, 2, none⟩ = some (.int .i64 0) := (unhide hX).arr.cell 2 rfl
      have p3 : wr.cell? ⟨N, 3, none⟩ = some (.int .i64 2147483647) := (unhide hX).arr.cell 3 rfl
      have p4 : wr.cell? ⟨N, 4, none⟩ = some (.int .i64 0) := (unhide hX).arr.cell 4 rfl
      have HS := hide hS
      clear hS
      go_wp2
      have hF := (unhide HS).set 31 2147483647 0 0 2147483647 0
      refine bodyPost_ret (run_results_s rfl rfl rfl hF.res) rfl ?_
      have hc2 : c = 2 := unhide hc
      rw [hc2]
      exact ⟨rfl, hF.low⟩
end Go.Proofs.Ytlajalfdcfkmpab
