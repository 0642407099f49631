/- For every section, state and sample, of any whole numbers, QuantSteps is true: Step answers what the document says. No condition. -/
import Derived.Test.YtlajalfdcfkmpaaNx
import Derived.Test.YtlajalfdcfkmpaaQw
import Derived.Test.YtlajalfdcfkmpaaQp
import Derived.Test.YtlajalfdcfkmpaaQv
import Derived.Test.YtlajalfdcfkmpaaView
namespace Go.Proofs.Ytlajalfdcfkmpaa
open Go.ChangeShapes Go.WideShapes Go.ChangeAt Go.RowKit

set_option maxRecDepth 100000 in
set_option maxHeartbeats 1000000 in
theorem doc_none (f : Fx) (st : St) (x : Int) (hf : fitsB f.bits = false) (w : World) :
    Calls Try.prog 17 #[vF f, vS st, .int .i64 x] w fun e w' => e = .returned (.tuple #[.int .i64 0, .agg #[.int .i64 0, .int .i64 0, .int .i64 0, .int .i64 0], .bool false]) ∧ Below w.heap.size w w' := by
  have HFi := hide (fits25_any f.bits)
  rw [hf] at HFi
  unfold vF vS
  obtain ⟨_, _, hBZ, hlw⟩ := boxes w #[.int .i64 f.bits, .int .i64 f.b0, .int .i64 f.b1, .int .i64 f.b2, .int .i64 f.a1, .int .i64 f.a2] #[.int .i64 st.x1, .int .i64 st.x2, .int .i64 st.y1, .int .i64 st.y2] #[.int .i64 0, .int .i64 0, .int .i64 0, .int .i64 0] 38 40
  have HB := hide (And.intro hBZ hlw)
  clear hBZ hlw
  go_enter Try.func17, Try.ntmps17
  go_wp2_with fail
  refine (unhide HFi _).mono ?_
  rintro e w' ⟨rfl, hw'⟩
  obtain rfl := hw'
  go_wp2_with fail
  refine bodyPost_ret (res_doc rfl rfl rfl (unhide HB).1) rfl ?_
  exact ⟨rfl, (unhide HB).2⟩
theorem doc_any (f : Fx) (st : St) (x : Int) (w : World) :
    Calls Try.prog 17 #[vF f, vS st, .int .i64 x] w fun e w' => e = .returned (.tuple #[.int .i64 (ans f st x), vS (nxt f st x), .bool (outs f st x)]) ∧ Below w.heap.size w w' := by
  cases h : fitsB f.bits with
  | true =>
    have hfit : f.fits := by unfold Fx.fits; simpa [fitsB] using h
    refine (doc_step f st x h w).mono ?_
    rintro e w' ⟨rfl, hB⟩
    refine ⟨?_, hB⟩
    unfold nxt vS
    rw [if_pos hfit]
  | false =>
    have hfit : ¬ f.fits := by unfold Fx.fits; simpa [fitsB] using h
    refine (doc_none f st x h w).mono ?_
    rintro e w' ⟨rfl, hB⟩
    refine ⟨?_, hB⟩
    unfold nxt ans outs vS
    rw [if_neg hfit, if_neg hfit, decide_eq_false hfit]
    rfl

set_option maxRecDepth 100000 in
set_option maxHeartbeats 2000000 in
theorem qsteps_walk (n b0 b1 b2 a1 a2 x1 x2 y1 y2 x y p q r s : Int) (o : Bool)
    (Hs : Hid (∀ w, Calls Try.prog 16 #[.agg #[.int .i64 n, .int .i64 b0, .int .i64 b1, .int .i64 b2, .int .i64 a1, .int .i64 a2], .agg #[.int .i64 x1, .int .i64 x2, .int .i64 y1, .int .i64 y2], .int .i64 x] w fun e w' => e = .returned (.tuple #[.int .i64 y, .agg #[.int .i64 p, .int .i64 q, .int .i64 r, .int .i64 s], .bool o]) ∧ Below w.heap.size w w'))
    (Hd : Hid (∀ w, Calls Try.prog 17 #[.agg #[.int .i64 n, .int .i64 b0, .int .i64 b1, .int .i64 b2, .int .i64 a1, .int .i64 a2], .agg #[.int .i64 x1, .int .i64 x2, .int .i64 y1, .int .i64 y2], .int .i64 x] w fun e w' => e = .returned (.tuple #[.int .i64 y, .agg #[.int .i64 p, .int .i64 q, .int .i64 r, .int .i64 s], .bool o]) ∧ Below w.heap.size w w')) (w : World) :
    Calls Try.prog 4 #[.agg #[.int .i64 n, .int .i64 b0, .int .i64 b1, .int .i64 b2, .int .i64 a1, .int .i64 a2], .agg #[.int .i64 x1, .int .i64 x2, .int .i64 y1, .int .i64 y2], .int .i64 x] w fun e w' => e = .returned (.bool true) ∧ Below w.heap.size w w' := by
  go_enter Try.func4, Try.ntmps4
  go_wp2_with fail
  refine (awake_any _).mono ?_
  rintro e w1 ⟨rfl, hb1⟩
  have P1 := hide ((PW.start w #[.int .i64 n, .int .i64 b0, .int .i64 b1, .int .i64 b2, .int .i64 a1, .int .i64 a2] #[.int .i64 x1, .int .i64 x2, .int .i64 y1, .int .i64 y2]).later hb1)
  clear hb1
  obtain ⟨c0, c1, c2, c3, c4, c5, d0, d1, d2, d3⟩ := (unhide P1).cells
  go_wp2_with fail
  refine (unhide Hs _).mono ?_
  rintro e w2 ⟨rfl, hb2⟩
  clear c0 c1 c2 c3 c4 c5 d0 d1 d2 d3
  go_upto_region 4 with fail
  obtain ⟨A, hA⟩ : ∃ A, A = w2.heap.size := ⟨_, rfl⟩
  obtain ⟨W, hW⟩ : ∃ W, W = w2.alloc (Obj.cells #[.int .i64 p, .int .i64 q, .int .i64 r, .int .i64 s] 40) := ⟨_, rfl⟩
  rw [← hW, ← hA]
  have hP2 := (unhide P1).later (hb2.trans ((Below.refl _ w2).alloc hb2.size (Obj.cells #[.int .i64 p, .int .i64 q, .int .i64 r, .int .i64 s] 40)))
  rw [← hW] at hP2
  have hBA : Blk W A #[.int .i64 p, .int .i64 q, .int .i64 r, .int .i64 s] 40 := by rw [hW, hA]; exact Blk.alloc
  clear hA hW hb2 P1
  obtain ⟨c0, c1, c2, c3, c4, c5, d0, d1, d2, d3⟩ := hP2.cells
  have P2 := hide hP2
  have BA := hide hBA
  clear hP2 hBA
  go_wp2_with fail
  refine (unhide Hd _).mono ?_
  rintro e w3 ⟨rfl, hb3⟩
  clear c0 c1 c2 c3 c4 c5 d0 d1 d2 d3
  go_upto_region 5 with fail
  obtain ⟨A2, hA2⟩ : ∃ A, A = w3.heap.size := ⟨_, rfl⟩
  obtain ⟨W3, hW3⟩ : ∃ W, W = w3.alloc (Obj.cells #[.int .i64 p, .int .i64 q, .int .i64 r, .int .i64 s] 40) := ⟨_, rfl⟩
  rw [← hW3, ← hA2]
  have hall : Below W.heap.size W W3 := by rw [hW3]; exact hb3.trans ((Below.refl _ w3).alloc hb3.size (Obj.cells #[.int .i64 p, .int .i64 q, .int .i64 r, .int .i64 s] 40))
  have hBA2 : Blk W3 A2 #[.int .i64 p, .int .i64 q, .int .i64 r, .int .i64 s] 40 := by rw [hW3, hA2]; exact Blk.alloc
  have hBA1 := (unhide BA).below hall (unhide BA).lt
  have k0 := hBA1.cell 0 rfl
  have k1 := hBA1.cell 1 rfl
  have k2 := hBA1.cell 2 rfl
  have k3 := hBA1.cell 3 rfl
  have l0 := hBA2.cell 0 rfl
  have l1 := hBA2.cell 1 rfl
  have l2 := hBA2.cell 2 rfl
  have l3 := hBA2.cell 3 rfl
  have HL := hide ((unhide P2).low.trans (hall.mono (unhide P2).low.size))
  clear hA2 hW3 hb3 hall hBA1 hBA2 P2 BA
  cases o
  all_goals
    go_wp2
    go_ret
    exact ⟨rfl, unhide HL⟩
theorem quantSteps_any (f : Fx) (st : St) (x : Int) (w : World) :
    Calls Try.prog 4 #[vF f, vS st, .int .i64 x] w fun e w' => e = .returned (.bool true) ∧ Below w.heap.size w w' :=
  qsteps_walk f.bits f.b0 f.b1 f.b2 f.a1 f.a2 st.x1 st.x2 st.y1 st.y2 x _ _ _ _ _ _ (qstep_any f st x) (doc_any f st x) w

set_option maxRecDepth 100000 in
theorem quantSteps_lifted (os : Os) (started : os.Started) (H : Type) (enc : TypeId × Value → H) :
    ReturnsInHanded {} Try.checked os 4 .any (Rows.quantStepsSpec.pre6 enc Try.prog Try.f4 Rows.quantStepsRow.domain false) (Rows.quantStepsSpec.post enc Try.prog Try.f4 false true false false) := by
  refine returnsInHanded_of_change (C := Try.checked) (by kernel_rfl) started (by kernel_rfl) Try.func4
    (ChangeSpec.witness6 (enc := enc) (C := Try.checked) false ⟨#[], #[.agg #[.int .i64 0, .int .i64 0, .int .i64 0, .int .i64 0, .int .i64 0, .int .i64 0], .agg #[.int .i64 0, .int .i64 0, .int .i64 0, .int .i64 0], .int .i64 0], []⟩ 8 (by kernel_rfl) (by kernel_rfl) (by kernel_rfl) (by kernel_rfl)) ?_
  intro W base args ds gs before hval0 hW hcnd _
  have hval : ∀ (j : Nat) t v, Try.f4.params[j]? = some t → args[j]? = some v → Value.okWide Try.prog W .any base t v := hval0
  have hW' := hW
  obtain ⟨p, q, hA0, hV, rfl, _, _⟩ := hW
  have hA : DataW.TrodAll enc Try.prog W 0 (fun _ => true) true Try.f4.params.toList args.toList ds p := hA0
  rw [Try.params4] at hA hval
  obtain ⟨v0, v1, v2, d0, d1, d2, p0, p1, p2, rfl, rfl, rfl, h0, h1, h2⟩ := trodAll_three hA
  obtain ⟨rfl, rfl⟩ := trodVars_none hV
  have h0k := h0
  have h1k := h1
  have h2k := h2
  obtain ⟨x, rfl, rfl, rfl, w2⟩ := open_int Try.underlying2 (hval 2 2 v2 rfl rfl) h2
  obtain ⟨f, rfl, _⟩ := viewFx (hval 0 38 v0 rfl rfl) h0
  obtain ⟨st, rfl, _⟩ := viewSt (hval 1 40 v1 rfl rfl) h1
  clear hA0 hval0
  simp only [List.append_nil] at hW'
  have hlt : ∀ x ∈ p0 ++ p1, x.block < W.heap.size := fun x hx => by simpa using hW'.lt x (by simpa using hx)
  refine (quantSteps_any f st x W).mono ?_
  rintro e W' ⟨rfl, hnx⟩
  exact ⟨_, rfl, _, _, _, [], _, [], hW', trodAll_mk1 (shut_bool Try.underlying4 true), trodAll_mk3 (Below.trod Try.laidOut (by kernel_rfl) (of_decide_eq_true (by kernel_rfl)) h0k hnx (fun x hx => hlt x (by simp [hx]))) (Below.trod Try.laidOut (by kernel_rfl) (of_decide_eq_true (by kernel_rfl)) h1k hnx (fun x hx => hlt x (by simp [hx]))) (Below.trod Try.laidOut (by kernel_rfl) (of_decide_eq_true (by kernel_rfl)) h2k hnx (fun x hx => by cases hx)), rfl, hnx.frame _, fun h => by cases h⟩

theorem quantSteps_holds : Rows.QuantStepsSaid :=
  OpenClaim.holds_of_wide 4 Try.f4 rfl rfl rfl rfl rfl rfl rfl ⟨rfl, rfl, rfl, rfl, rfl⟩ rfl rfl rfl rfl rfl (by kernel_rfl) Try.func4 (by kernel_rfl)
    (of_decide_eq_true (by kernel_rfl)) (by unfold Func.isWrapper; first | (rw [if_pos (by decide +kernel)]; kernel_rfl) | (rw [if_neg (by decide +kernel)]; exact ⟨rfl, rfl⟩))
    (fun os started H enc _ => quantSteps_lifted os started H enc)
#print axioms quantSteps_holds
end Go.Proofs.Ytlajalfdcfkmpaa
