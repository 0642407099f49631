/- What package quant's next answers. -/
import Derived.Test.YtmddclgidccnhabQs
import Derived.Test.YtmddclgidccnhabQc
namespace Go.Proofs.Ytmddclgidccnhab
open Go.RowKit

def aF (f : Fx) : Array Value := #[.int .i64 f.bits, .int .i64 f.b0, .int .i64 f.b1, .int .i64 f.b2, .int .i64 f.a1, .int .i64 f.a2]
def aS (s : St) : Array Value := #[.int .i64 s.x1, .int .i64 s.x2, .int .i64 s.y1, .int .i64 s.y2]

theorem QW.cellsF {w w' : World} {f : Fx} {ss rs : Array Value} (h : QW w (aF f) ss rs w') :
    w'.cell? ⟨w.heap.size, 0, none⟩ = some (.int .i64 f.bits) ∧ w'.cell? ⟨w.heap.size, 1, none⟩ = some (.int .i64 f.b0) ∧ w'.cell? ⟨w.heap.size, 2, none⟩ = some (.int .i64 f.b1) ∧ w'.cell? ⟨w.heap.size, 3, none⟩ = some (.int .i64 f.b2) ∧ w'.cell? ⟨w.heap.size, 4, none⟩ = some (.int .i64 f.a1) ∧ w'.cell? ⟨w.heap.size, 5, none⟩ = some (.int .i64 f.a2) :=
  ⟨h.sec.cell 0 rfl, h.sec.cell 1 rfl, h.sec.cell 2 rfl, h.sec.cell 3 rfl, h.sec.cell 4 rfl, h.sec.cell 5 rfl⟩
theorem QW.cellsS {w w' : World} {s : St} {fs rs : Array Value} (h : QW w fs (aS s) rs w') :
    w'.cell? ⟨w.heap.size + 1, 0, none⟩ = some (.int .i64 s.x1) ∧ w'.cell? ⟨w.heap.size + 1, 1, none⟩ = some (.int .i64 s.x2) ∧ w'.cell? ⟨w.heap.size + 1, 2, none⟩ = some (.int .i64 s.y1) ∧ w'.cell? ⟨w.heap.size + 1, 3, none⟩ = some (.int .i64 s.y2) ∧
    w'.frozen? ⟨w.heap.size + 1, 0, none⟩ = false ∧ w'.frozen? ⟨w.heap.size + 1, 1, none⟩ = false ∧ w'.frozen? ⟨w.heap.size + 1, 2, none⟩ = false ∧ w'.frozen? ⟨w.heap.size + 1, 3, none⟩ = false :=
  ⟨h.st.cell 0 rfl, h.st.cell 1 rfl, h.st.cell 2 rfl, h.st.cell 3 rfl, h.st.unfrozen 0, h.st.unfrozen 1, h.st.unfrozen 2, h.st.unfrozen 3⟩
theorem QW.cellsR {w w' : World} {s : St} {fs ss : Array Value} (h : QW w fs ss (aS s) w') :
    w'.cell? ⟨w.heap.size + 1 + 1, 0, none⟩ = some (.int .i64 s.x1) ∧ w'.cell? ⟨w.heap.size + 1 + 1, 1, none⟩ = some (.int .i64 s.x2) ∧ w'.cell? ⟨w.heap.size + 1 + 1, 2, none⟩ = some (.int .i64 s.y1) ∧ w'.cell? ⟨w.heap.size + 1 + 1, 3, none⟩ = some (.int .i64 s.y2) ∧
    w'.frozen? ⟨w.heap.size + 1 + 1, 0, none⟩ = false ∧ w'.frozen? ⟨w.heap.size + 1 + 1, 1, none⟩ = false ∧ w'.frozen? ⟨w.heap.size + 1 + 1, 2, none⟩ = false ∧ w'.frozen? ⟨w.heap.size + 1 + 1, 3, none⟩ = false :=
  ⟨h.res.cell 0 rfl, h.res.cell 1 rfl, h.res.cell 2 rfl, h.res.cell 3 rfl, h.res.unfrozen 0, h.res.unfrozen 1, h.res.unfrozen 2, h.res.unfrozen 3⟩
theorem QW.setS {w a : World} {fs rs : Array Value} {s : St} (h : QW w fs (aS s) rs a) (t : St) :
    QW w fs (aS t) rs ((((a.setCell ⟨w.heap.size + 1, 0, none⟩ (.int .i64 t.x1)).setCell ⟨w.heap.size + 1, 1, none⟩ (.int .i64 t.x2)).setCell ⟨w.heap.size + 1, 2, none⟩ (.int .i64 t.y1)).setCell ⟨w.heap.size + 1, 3, none⟩ (.int .i64 t.y2)) :=
  ⟨Below.setCells (b := w.heap.size + 1) h.low (by omega) 0 (aS t).toList, h.sec.other (c := w.heap.size + 1) (by omega) (aS t).toList 0, h.st.all (ds := aS t) rfl, h.res.other (c := w.heap.size + 1) (by omega) (aS t).toList 0⟩
theorem QW.setR {w a : World} {fs ss : Array Value} {s : St} (h : QW w fs ss (aS s) a) (t : St) :
    QW w fs ss (aS t) ((((a.setCell ⟨w.heap.size + 1 + 1, 0, none⟩ (.int .i64 t.x1)).setCell ⟨w.heap.size + 1 + 1, 1, none⟩ (.int .i64 t.x2)).setCell ⟨w.heap.size + 1 + 1, 2, none⟩ (.int .i64 t.y1)).setCell ⟨w.heap.size + 1 + 1, 3, none⟩ (.int .i64 t.y2)) :=
  ⟨Below.setCells (b := w.heap.size + 2) h.low (by omega) 0 (aS t).toList, h.sec.other (c := w.heap.size + 2) (by omega) (aS t).toList 0, h.st.other (c := w.heap.size + 2) (by omega) (aS t).toList 0, h.res.all (ds := aS t) rfl⟩
theorem QW.start (w : World) (fs ss rs : Array Value) : QW w fs ss rs (((w.alloc (Obj.cells fs 23)).alloc (Obj.cells ss 25)).alloc (Obj.cells rs 25)) := by
  refine ⟨Joins.below_alloc3 _ _ _ _, ?_, ?_, ?_⟩
  · exact Blk.alloc.below (Joins.below_alloc2 _ _ _) (by simp)
  · have := (Blk.alloc (w := w.alloc (Obj.cells fs 23)) (cs := ss) (t := 25)).below (Joins.below_alloc1 _ (Obj.cells rs 25)) (by simp)
    simpa using this
  · have := Blk.alloc (w := (w.alloc (Obj.cells fs 23)).alloc (Obj.cells ss 25)) (cs := rs) (t := 25)
    simpa using this

theorem run_results_n {w : World} {tmps : Array Value} {b : Nat} {c0 c1 c2 c3 : Value} (h7 : tmps.getD 4 undef = .pointer (some ⟨b, 0, none⟩)) (hr : Blk w b #[c0, c1, c2, c3] 25) :
    (results Try.f41 tmps).run Try.prog w = .ok (.agg #[c0, c1, c2, c3]) w := by
  have hl := run_loadVar_mid (P := Try.prog) w b 0 25 [c0, c1, c2, c3] _ hr.range Try.underlying25 rfl infoSt
  rw [Array.getD_eq_getD_getElem?] at h7
  simp [results, h7, asAddr, hl]

set_option maxRecDepth 100000 in
set_option maxHeartbeats 1000000 in
theorem next_any (f : Fx) (s : St) (w : World) :
    Calls Try.prog 41 #[vF f, vS s] w fun e w' => e = .returned (vS (nxt f s 0)) ∧ Below w.heap.size w w' := by
  have Hs := hide (qstep_any f s 0)
  unfold vF vS at *
  generalize nxt f s 0 = t at *
  generalize ans f s 0 = y at *
  generalize outs f s 0 = o at *
  go_enter Try.func41, Try.ntmps41
  go_wp2_with fail
  refine (unhide Hs _).mono ?_
  rintro e w2 ⟨rfl, hb⟩
  have hQ := (QW.start w (aF f) (aS s) (aS ⟨0, 0, 0, 0⟩)).later hb
  obtain ⟨d0, d1, d2, d3, d4, d5, d6, d7⟩ := hQ.cellsS
  obtain ⟨e0, e1, e2, e3, e4, e5, e6, e7⟩ := hQ.cellsR
  have HQ := hide hQ
  clear hQ hb
  go_wp2
  have hF := (((unhide HQ).setS t).setR t)
  refine bodyPost_ret (run_results_n rfl hF.res) rfl ?_
  exact ⟨rfl, hF.low⟩
end Go.Proofs.Ytmddclgidccnhab
