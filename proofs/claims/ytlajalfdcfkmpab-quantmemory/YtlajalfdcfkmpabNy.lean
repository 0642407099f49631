/- DocStep of all whole numbers. -/
import Derived.Test.YtlajalfdcfkmpabNx
namespace Go.Proofs.Ytlajalfdcfkmpab
open Go.RowKit

set_option maxRecDepth 100000 in
set_option maxHeartbeats 1000000 in
theorem doc_none (f : Fx) (st : St) (x : Int) (hf : fitsB f.bits = false) (w : World) :
    Calls Try.prog 35 #[vF f, vS st, .int .i64 x] w fun e w' => e = .returned (.tuple #[.int .i64 0, .agg #[.int .i64 0, .int .i64 0, .int .i64 0, .int .i64 0], .bool false]) ∧ Below w.heap.size w w' := by
  have HFi := hide (fits25_any f.bits)
  rw [hf] at HFi
  unfold vF vS
  obtain ⟨_, _, hBZ, hlw⟩ := boxes w #[.int .i64 f.bits, .int .i64 f.b0, .int .i64 f.b1, .int .i64 f.b2, .int .i64 f.a1, .int .i64 f.a2] #[.int .i64 st.x1, .int .i64 st.x2, .int .i64 st.y1, .int .i64 st.y2] #[.int .i64 0, .int .i64 0, .int .i64 0, .int .i64 0] 34 44
  have HB := hide (And.intro hBZ hlw)
  clear hBZ hlw
  go_enter Try.func35, Try.ntmps35
  go_wp2_with fail
  refine (unhide HFi _).mono ?_
  rintro e w' ⟨rfl, hw'⟩
  obtain rfl := hw'
  go_wp2_with fail
  refine bodyPost_ret (res_doc rfl rfl rfl (unhide HB).1) rfl ?_
  exact ⟨rfl, (unhide HB).2⟩
theorem doc_any (f : Fx) (st : St) (x : Int) (w : World) :
    Calls Try.prog 35 #[vF f, vS st, .int .i64 x] w fun e w' => e = .returned (.tuple #[.int .i64 (ans f st x), vS (nxt f st x), .bool (outs f st x)]) ∧ Below w.heap.size w w' := by
  cases h : fitsB f.bits with
  | true =>
    have hfit : f.fits := by unfold Fx.fits; simpa [fitsB] using h
    refine (doc_step f st x h w).mono ?_
    rintro e w' ⟨rfl, hB⟩
    refine ⟨?_, hB⟩
    unfold nxt vS
    rw [if_pos hfit]
  | false =>
    have hfit : ¬ f.fits := by unfold Fx.fits; simpa [fitsB] using h
    refine (doc_none f st x h w).mono ?_
    rintro e w' ⟨rfl, hB⟩
    refine ⟨?_, hB⟩
    unfold nxt ans outs vS
    rw [if_neg hfit, if_neg hfit, decide_eq_false hfit]
    rfl
end Go.Proofs.Ytlajalfdcfkmpab
