/- The blocks of a section and a state that came in as arguments. -/
import Derived.Test.YtmddclgidccnhaaQw
namespace Go.Proofs.Ytmddclgidccnhaa
open Go.RowKit

/-- The blocks of two arguments: a section's and a state's. -/
structure PW (w : World) (fs ss : Array Value) (w' : World) : Prop where
  low : Below w.heap.size w w'
  sec : Blk w' w.heap.size fs 38
  st : Blk w' (w.heap.size + 1) ss 40
theorem PW.later {w a b : World} {fs ss : Array Value} (h : PW w fs ss a) (hb : Below a.heap.size a b) : PW w fs ss b :=
  ⟨h.low.trans (hb.mono h.low.size), h.sec.below hb h.sec.lt, h.st.below hb h.st.lt⟩
theorem PW.start (w : World) (fs ss : Array Value) : PW w fs ss ((w.alloc (Obj.cells fs 38)).alloc (Obj.cells ss 40)) := by
  refine ⟨Joins.below_alloc2 _ _ _, ?_, ?_⟩
  · exact Blk.alloc.below (Joins.below_alloc1 _ _) (by simp)
  · have := Blk.alloc (w := w.alloc (Obj.cells fs 38)) (cs := ss) (t := 40)
    simpa using this
theorem PW.cells {w w' : World} {n b0 b1 b2 a1 a2 x1 x2 y1 y2 : Int} (h : PW w #[.int .i64 n, .int .i64 b0, .int .i64 b1, .int .i64 b2, .int .i64 a1, .int .i64 a2] #[.int .i64 x1, .int .i64 x2, .int .i64 y1, .int .i64 y2] w') :
    w'.cell? ⟨w.heap.size, 0, none⟩ = some (.int .i64 n) ∧ w'.cell? ⟨w.heap.size, 1, none⟩ = some (.int .i64 b0) ∧ w'.cell? ⟨w.heap.size, 2, none⟩ = some (.int .i64 b1) ∧ w'.cell? ⟨w.heap.size, 3, none⟩ = some (.int .i64 b2) ∧ w'.cell? ⟨w.heap.size, 4, none⟩ = some (.int .i64 a1) ∧ w'.cell? ⟨w.heap.size, 5, none⟩ = some (.int .i64 a2) ∧
    w'.cell? ⟨w.heap.size + 1, 0, none⟩ = some (.int .i64 x1) ∧ w'.cell? ⟨w.heap.size + 1, 1, none⟩ = some (.int .i64 x2) ∧ w'.cell? ⟨w.heap.size + 1, 2, none⟩ = some (.int .i64 y1) ∧ w'.cell? ⟨w.heap.size + 1, 3, none⟩ = some (.int .i64 y2) :=
  ⟨h.sec.cell 0 rfl, h.sec.cell 1 rfl, h.sec.cell 2 rfl, h.sec.cell 3 rfl, h.sec.cell 4 rfl, h.sec.cell 5 rfl, h.st.cell 0 rfl, h.st.cell 1 rfl, h.st.cell 2 rfl, h.st.cell 3 rfl⟩

end Go.Proofs.Ytmddclgidccnhaa
