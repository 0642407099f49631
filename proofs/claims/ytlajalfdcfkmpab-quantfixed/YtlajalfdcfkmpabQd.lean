/- What package quant's next answers. -/
import Derived.Test.YtlajalfdcfkmpabQs
import Derived.Test.YtlajalfdcfkmpabQc
namespace Go.Proofs.Ytlajalfdcfkmpab
open Go.RowKit

def aF (f : Fx) : Array Value := #[.int .i64 f.bits, .int .i64 f.b0, .int .i64 f.b1, .int .i64 f.b2, .int .i64 f.a1, .int .i64 f.a2]
def aS (s : St) : Array Value := #[.int .i64 s.x1, .int .i64 s.x2, .int .i64 s.y1, .int .i64 s.y2]

theorem St.ne_cases {u v : St} (h : u ≠ v) : ((u.x1 == v.x1) = false) ∨ ((u.x1 == v.x1) = true ∧ (u.x2 == v.x2) = false) ∨ ((u.x1 == v.x1) = true ∧ (u.x2 == v.x2) = true ∧ (u.y1 == v.y1) = false) ∨ ((u.x1 == v.x1) = true ∧ (u.x2 == v.x2) = true ∧ (u.y1 == v.y1) = true ∧ (u.y2 == v.y2) = false) := by
  obtain ⟨a, b, c, d⟩ := u
  obtain ⟨a', b', c', d'⟩ := v
  simp only [beq_iff_eq, beq_eq_false_iff_ne, ne_eq]
  by_cases h1 : a = a'
  · by_cases h2 : b = b'
    · by_cases h3 : c = c'
      · by_cases h4 : d = d'
        · exact absurd (by rw [h1, h2, h3, h4]) h
        · exact .inr (.inr (.inr ⟨h1, h2, h3, h4⟩))
      · exact .inr (.inr (.inl ⟨h1, h2, h3⟩))
    · exact .inr (.inl ⟨h1, h2⟩)
  · exact .inl h1
theorem QW.cellsF {w w' : World} {f : Fx} {ss rs : Array Value} (h : QW w (aF f) ss rs w') :
    w'.cell? ⟨w.heap.size, 0, none⟩ = some (.int .i64 f.bits) ∧ w'.cell? ⟨w.heap.size, 1, none⟩ = some (.int .i64 f.b0) ∧ w'.cell? ⟨w.heap.size, 2, none⟩ = some (.int .i64 f.b1) ∧ w'.cell? ⟨w.heap.size, 3, none⟩ = some (.int .i64 f.b2) ∧ w'.cell? ⟨w.heap.size, 4, none⟩ = some (.int .i64 f.a1) ∧ w'.cell? ⟨w.heap.size, 5, none⟩ = some (.int .i64 f.a2) :=
  ⟨h.sec.cell 0 rfl, h.sec.cell 1 rfl, h.sec.cell 2 rfl, h.sec.cell 3 rfl, h.sec.cell 4 rfl, h.sec.cell 5 rfl⟩
theorem QW.cellsS {w w' : World} {s : St} {fs rs : Array Value} (h : QW w fs (aS s) rs w') :
    w'.cell? ⟨w.heap.size + 1, 0, none⟩ = some (.int .i64 s.x1) ∧ w'.cell? ⟨w.heap.size + 1, 1, none⟩ = some (.int .i64 s.x2) ∧ w'.cell? ⟨w.heap.size + 1, 2, none⟩ = some (.int .i64 s.y1) ∧ w'.cell? ⟨w.heap.size + 1, 3, none⟩ = some (.int .i64 s.y2) ∧
    w'.frozen? ⟨w.heap.size + 1, 0, none⟩ = false ∧ w'.frozen? ⟨w.heap.size + 1, 1, none⟩ = false ∧ w'.frozen? ⟨w.heap.size + 1, 2, none⟩ = false ∧ w'.frozen? ⟨w.heap.size + 1, 3, none⟩ = false :=
  ⟨h.st.cell 0 rfl, h.st.cell 1 rfl, h.st.cell 2 rfl, h.st.cell 3 rfl, h.st.unfrozen 0, h.st.unfrozen 1, h.st.unfrozen 2, h.st.unfrozen 3⟩
theorem QW.cellsR {w w' : World} {s : St} {fs ss : Array Value} (h : QW w fs ss (aS s) w') :
    w'.cell? ⟨w.heap.size + 1 + 1, 0, none⟩ = some (.int .i64 s.x1) ∧ w'.cell? ⟨w.heap.size + 1 + 1, 1, none⟩ = some (.int .i64 s.x2) ∧ w'.cell? ⟨w.heap.size + 1 + 1, 2, none⟩ = some (.int .i64 s.y1) ∧ w'.cell? ⟨w.heap.size + 1 + 1, 3, none⟩ = some (.int .i64 s.y2) ∧
    w'.frozen? ⟨w.heap.size + 1 + 1, 0, none⟩ = false ∧ w'.frozen? ⟨w.heap.size + 1 + 1, 1, none⟩ = false ∧ w'.frozen? ⟨w.heap.size + 1 + 1, 2, none⟩ = false ∧ w'.frozen? ⟨w.heap.size + 1 + 1, 3, none⟩ = false :=
  ⟨h.res.cell 0 rfl, h.res.cell 1 rfl, h.res.cell 2 rfl, h.res.cell 3 rfl, h.res.unfrozen 0, h.res.unfrozen 1, h.res.unfrozen 2, h.res.unfrozen 3⟩
theorem QW.setS {w a : World} {fs rs : Array Value} {s : St} (h : QW w fs (aS s) rs a) (t : St) :
    QW w fs (aS t) rs ((((a.setCell ⟨w.heap.size + 1, 0, none⟩ (.int .i64 t.x1)).setCell ⟨w.heap.size + 1, 1, none⟩ (.int .i64 t.x2)).setCell ⟨w.heap.size + 1, 2, none⟩ (.int .i64 t.y1)).setCell ⟨w.heap.size + 1, 3, none⟩ (.int .i64 t.y2)) :=
  ⟨Below.setCells (b := w.heap.size + 1) h.low (by omega) 0 (aS t).toList, h.sec.other (c := w.heap.size + 1) (by omega) (aS t).toList 0, h.st.all (ds := aS t) rfl, h.res.other (c := w.heap.size + 1) (by omega) (aS t).toList 0⟩
theorem QW.setR {w a : World} {fs ss : Array Value} {s : St} (h : QW w fs ss (aS s) a) (t : St) :
    QW w fs ss (aS t) ((((a.setCell ⟨w.heap.size + 1 + 1, 0, none⟩ (.int .i64 t.x1)).setCell ⟨w.heap.size + 1 + 1, 1, none⟩ (.int .i64 t.x2)).setCell ⟨w.heap.size + 1 + 1, 2, none⟩ (.int .i64 t.y1)).setCell ⟨w.heap.size + 1 + 1, 3, none⟩ (.int .i64 t.y2)) :=
  ⟨Below.setCells (b := w.heap.size + 2) h.low (by omega) 0 (aS t).toList, h.sec.other (c := w.heap.size + 2) (by omega) (aS t).toList 0, h.st.other (c := w.heap.size + 2) (by omega) (aS t).toList 0, h.res.all (ds := aS t) rfl⟩
theorem QW.start (w : World) (fs ss rs : Array Value) : QW w fs ss rs (((w.alloc (Obj.cells fs 34)).alloc (Obj.cells ss 44)).alloc (Obj.cells rs 44)) := by
  refine ⟨Joins.below_alloc3 _ _ _ _, ?_, ?_, ?_⟩
  · exact Blk.alloc.below (Joins.below_alloc2 _ _ _) (by simp)
  · have := (Blk.alloc (w := w.alloc (Obj.cells fs 34)) (cs := ss) (t := 44)).below (Joins.below_alloc1 _ (Obj.cells rs 44)) (by simp)
    simpa using this
  · have := Blk.alloc (w := (w.alloc (Obj.cells fs 34)).alloc (Obj.cells ss 44)) (cs := rs) (t := 44)
    simpa using this

theorem run_results_n {w : World} {tmps : Array Value} {b : Nat} {c0 c1 c2 c3 : Value} (h7 : tmps.getD 4 undef = .pointer (some ⟨b, 0, none⟩)) (hr : Blk w b #[c0, c1, c2, c3] 44) :
    (results Try.f45 tmps).run Try.prog w = .ok (.agg #[c0, c1, c2, c3]) w := by
  have hl := run_loadVar_mid (P := Try.prog) w b 0 44 [c0, c1, c2, c3] _ hr.range Try.underlying44 rfl infoSt
  rw [Array.getD_eq_getD_getElem?] at h7
  simp [results, h7, asAddr, hl]

set_option maxRecDepth 100000 in
set_option maxHeartbeats 1000000 in
theorem next_any (f : Fx) (s : St) (w : World) :
    Calls Try.prog 45 #[vF f, vS s] w fun e w' => e = .returned (vS (nxt f s 0)) ∧ Below w.heap.size w w' := by
  have Hs := hide (qstep_any f s 0)
  unfold vF vS at *
  generalize nxt f s 0 = t at *
  generalize ans f s 0 = y at *
  generalize outs f s 0 = o at *
  go_enter Try.func45, Try.ntmps45
  go_wp2_with fail
  refine (unhide Hs _).mono ?_
  rintro e w2 ⟨rfl, hb⟩
  have hQ := (QW.start w (aF f) (aS s) (aS ⟨0, 0, 0, 0⟩)).later hb
  obtain ⟨d0, d1, d2, d3, d4, d5, d6, d7⟩ := hQ.cellsS
  obtain ⟨e0, e1, e2, e3, e4, e5, e6, e7⟩ := hQ.cellsR
  have HQ := hide hQ
  clear hQ hb
  go_wp2
  have hF := (((unhide HQ).setS t).setR t)
  refine bodyPost_ret (run_results_n rfl hF.res) rfl ?_
  exact ⟨rfl, hF.low⟩
end Go.Proofs.Ytlajalfdcfkmpab
