/- For every section, state and sample QuantWithin is true: answers and states are within 32 bits, a section of noughts answers 0, and what is kept is what went in and came out. No condition. -/
import Derived.Test.YtmddclgidccnhaaQwA
import Derived.Test.YtmddclgidccnhaaQv
import Derived.Test.YtmddclgidccnhaaView
namespace Go.Proofs.Ytmddclgidccnhaa
open Go.ChangeShapes Go.WideShapes Go.ChangeAt Go.RowKit

set_option maxRecDepth 100000 in
set_option maxHeartbeats 4000000 in
theorem qwithin_out (n b0 b1 b2 a1 a2 x1 x2 y1 y2 x : Int) (hf : fitsB n = false) (w : World) :
    Calls Try.prog 6 #[.agg #[.int .i64 n, .int .i64 b0, .int .i64 b1, .int .i64 b2, .int .i64 a1, .int .i64 a2], .agg #[.int .i64 x1, .int .i64 x2, .int .i64 y1, .int .i64 y2], .int .i64 x] w
      fun e w' => e = .returned (.bool true) ∧ Below w.heap.size w w' := by
  have hn : n < 1 ∨ 31 < n := by
    have h : ¬ (1 ≤ n ∧ n ≤ 31) := by simpa [fitsB] using hf
    omega
  have Hs := hide (qstep_out n b0 b1 b2 a1 a2 x1 x2 y1 y2 x hf)
  have L0 := hide (lawWithin_any 0)
  rw [show lowB 0 = true by decide] at L0
  clear hf
  rcases hn with hn | hn
  · go_enter Try.func6, Try.ntmps6
    go_wp2_with fail
    refine (awake_any _).mono ?_
    rintro e w1 ⟨rfl, hb1⟩
    have P1 := hide ((PW.start w #[.int .i64 n, .int .i64 b0, .int .i64 b1, .int .i64 b2, .int .i64 a1, .int .i64 a2] #[.int .i64 x1, .int .i64 x2, .int .i64 y1, .int .i64 y2]).later hb1)
    clear hb1
    obtain ⟨c0, c1, c2, c3, c4, c5, d0, d1, d2, d3⟩ := (unhide P1).cells
    go_wp2_with fail
    refine (unhide Hs _).mono ?_
    rintro e w2 ⟨rfl, hb2⟩
    clear c0 c1 c2 c3 c4 c5 d0 d1 d2 d3
    go_wp2_with fail
    obtain ⟨A, hA⟩ : ∃ A, A = w2.heap.size := ⟨_, rfl⟩
    obtain ⟨W, hW⟩ : ∃ W, W = w2.alloc (Obj.cells #[.int .i64 0, .int .i64 0, .int .i64 0, .int .i64 0] 40) := ⟨_, rfl⟩
    rw [← hW, ← hA]
    have hP2 := (unhide P1).later (hb2.trans ((Below.refl _ w2).alloc hb2.size (Obj.cells #[.int .i64 0, .int .i64 0, .int .i64 0, .int .i64 0] 40)))
    rw [← hW] at hP2
    have hBA : Blk W A #[.int .i64 0, .int .i64 0, .int .i64 0, .int .i64 0] 40 := by rw [hW, hA]; exact Blk.alloc
    clear hA hW hb2 P1
    have k0 : W.cell? ⟨A, 0, none⟩ = some (.int .i64 0) := hBA.cell 0 rfl
    have k1 : W.cell? ⟨A, 1, none⟩ = some (.int .i64 0) := hBA.cell 1 rfl
    have k2 : W.cell? ⟨A, 2, none⟩ = some (.int .i64 0) := hBA.cell 2 rfl
    have k3 : W.cell? ⟨A, 3, none⟩ = some (.int .i64 0) := hBA.cell 3 rfl
    obtain ⟨c0, c1, c2, c3, c4, c5, d0, d1, d2, d3⟩ := hP2.cells
    have HL := hide hP2.low
    clear hP2 hBA
    refine (unhide L0 _).mono ?_
    rintro e w' ⟨rfl, rfl⟩
    go_wp2_with fail
    refine (unhide L0 _).mono ?_
    rintro e w' ⟨rfl, rfl⟩
    go_wp2_with fail
    refine (unhide L0 _).mono ?_
    rintro e w' ⟨rfl, rfl⟩
    go_wp2_with fail
    refine (unhide L0 _).mono ?_
    rintro e w' ⟨rfl, rfl⟩
    go_wp2_with fail
    refine (unhide L0 _).mono ?_
    rintro e w' ⟨rfl, rfl⟩
    go_wp2
    go_ret
    exact ⟨rfl, unhide HL⟩
  · go_enter Try.func6, Try.ntmps6
    go_wp2_with fail
    refine (awake_any _).mono ?_
    rintro e w1 ⟨rfl, hb1⟩
    have P1 := hide ((PW.start w #[.int .i64 n, .int .i64 b0, .int .i64 b1, .int .i64 b2, .int .i64 a1, .int .i64 a2] #[.int .i64 x1, .int .i64 x2, .int .i64 y1, .int .i64 y2]).later hb1)
    clear hb1
    obtain ⟨c0, c1, c2, c3, c4, c5, d0, d1, d2, d3⟩ := (unhide P1).cells
    go_wp2_with fail
    refine (unhide Hs _).mono ?_
    rintro e w2 ⟨rfl, hb2⟩
    clear c0 c1 c2 c3 c4 c5 d0 d1 d2 d3
    go_wp2_with fail
    obtain ⟨A, hA⟩ : ∃ A, A = w2.heap.size := ⟨_, rfl⟩
    obtain ⟨W, hW⟩ : ∃ W, W = w2.alloc (Obj.cells #[.int .i64 0, .int .i64 0, .int .i64 0, .int .i64 0] 40) := ⟨_, rfl⟩
    rw [← hW, ← hA]
    have hP2 := (unhide P1).later (hb2.trans ((Below.refl _ w2).alloc hb2.size (Obj.cells #[.int .i64 0, .int .i64 0, .int .i64 0, .int .i64 0] 40)))
    rw [← hW] at hP2
    have hBA : Blk W A #[.int .i64 0, .int .i64 0, .int .i64 0, .int .i64 0] 40 := by rw [hW, hA]; exact Blk.alloc
    clear hA hW hb2 P1
    have k0 : W.cell? ⟨A, 0, none⟩ = some (.int .i64 0) := hBA.cell 0 rfl
    have k1 : W.cell? ⟨A, 1, none⟩ = some (.int .i64 0) := hBA.cell 1 rfl
    have k2 : W.cell? ⟨A, 2, none⟩ = some (.int .i64 0) := hBA.cell 2 rfl
    have k3 : W.cell? ⟨A, 3, none⟩ = some (.int .i64 0) := hBA.cell 3 rfl
    obtain ⟨c0, c1, c2, c3, c4, c5, d0, d1, d2, d3⟩ := hP2.cells
    have HL := hide hP2.low
    clear hP2 hBA
    refine (unhide L0 _).mono ?_
    rintro e w' ⟨rfl, rfl⟩
    go_wp2_with fail
    refine (unhide L0 _).mono ?_
    rintro e w' ⟨rfl, rfl⟩
    go_wp2_with fail
    refine (unhide L0 _).mono ?_
    rintro e w' ⟨rfl, rfl⟩
    go_wp2_with fail
    refine (unhide L0 _).mono ?_
    rintro e w' ⟨rfl, rfl⟩
    go_wp2_with fail
    refine (unhide L0 _).mono ?_
    rintro e w' ⟨rfl, rfl⟩
    go_wp2
    go_ret
    exact ⟨rfl, unhide HL⟩

theorem rnd_zero (s : Nat) : rnd 0 s = 0 := by
  have := pow_pos s
  rw [rnd_down]
  · exact Int.zero_ediv _
  · rw [Int.zero_emod, Int.zero_ediv]; omega
theorem zero_ans {n x : Int} {s : St} : ans ⟨n, 0, 0, 0, 0, 0⟩ s x = 0 ∧ outs ⟨n, 0, 0, 0, 0, 0⟩ s x = false := by
  have ht : tot ⟨n, 0, 0, 0, 0, 0⟩ s x = 0 := by
    unfold tot
    simp [show kp 0 = 0 by decide]
  have hr : ansRaw ⟨n, 0, 0, 0, 0, 0⟩ s x = 0 := by unfold ansRaw; rw [ht, rnd_zero]
  unfold ans outs
  rw [hr, show kp 0 = 0 by decide]
  exact ⟨by split <;> rfl, by simp⟩
theorem outs_end {f : Fx} {s : St} {x : Int} (h : outs f s x = true) : ans f s x = -2147483648 ∨ ans f s x = 2147483647 := by
  unfold outs at h
  simp at h
  unfold ans
  rw [if_pos h.1]
  have := h.2
  unfold kp at this ⊢
  omega

theorem quantWithin_any (f : Fx) (st : St) (x : Int) (w : World) :
    Calls Try.prog 6 #[vF f, vS st, .int .i64 x] w fun e w' => e = .returned (.bool true) ∧ Below w.heap.size w w' := by
  cases h : fitsB f.bits with
  | false => exact qwithin_out f.bits f.b0 f.b1 f.b2 f.a1 f.a2 st.x1 st.x2 st.y1 st.y2 x h w
  | true =>
    have hf := fits_of h
    obtain ⟨l1, l2, l3, l4⟩ := nxt_low f st x
    refine qwithin_in f.bits f.b0 f.b1 f.b2 f.a1 f.a2 st.x1 st.x2 st.y1 st.y2 x (ans f st x) (nxt f st x).x1 (nxt f st x).x2 (nxt f st x).y1 (nxt f st x).y2 (outs f st x) hf
      (lowB_of (ans_low f st x)) (lowB_of l1) (lowB_of l2) (lowB_of l3) (lowB_of l4) outs_end ?_ (hide (fun w => qstep_any f st x w)) (hide (fun w => ?_)) w
    · intro h1 h2 h3
      have g1 : i32 x := by simpa [lowB, i32] using h1
      have g2 : i32 st.x1 := by simpa [lowB, i32] using h2
      have g3 : i32 st.y1 := by simpa [lowB, i32] using h3
      unfold nxt
      rw [if_pos hf]
      exact ⟨kp_same _ g1, kp_same _ g2, rfl, kp_same _ g3⟩
    · have := qstep_any ⟨f.bits, 0, 0, 0, 0, 0⟩ st x w
      rw [zero_ans.1, zero_ans.2] at this
      exact ⟨_, _, _, _, this⟩

set_option maxRecDepth 100000 in
theorem quantWithin_lifted (os : Os) (started : os.Started) (H : Type) (enc : TypeId × Value → H) :
    ReturnsInHanded {} Try.checked os 6 .any (Rows.quantWithinSpec.pre6 enc Try.prog Try.f6 Rows.quantWithinRow.domain false) (Rows.quantWithinSpec.post enc Try.prog Try.f6 false true false false) := by
  refine returnsInHanded_of_change (C := Try.checked) (by kernel_rfl) started (by kernel_rfl) Try.func6
    (ChangeSpec.witness6 (enc := enc) (C := Try.checked) false ⟨#[], #[.agg #[.int .i64 0, .int .i64 0, .int .i64 0, .int .i64 0, .int .i64 0, .int .i64 0], .agg #[.int .i64 0, .int .i64 0, .int .i64 0, .int .i64 0], .int .i64 0], []⟩ 8 (by kernel_rfl) (by kernel_rfl) (by kernel_rfl) (by kernel_rfl)) ?_
  intro W base args ds gs before hval0 hW hcnd _
  have hval : ∀ (j : Nat) t v, Try.f6.params[j]? = some t → args[j]? = some v → Value.okWide Try.prog W .any base t v := hval0
  have hW' := hW
  obtain ⟨p, q, hA0, hV, rfl, _, _⟩ := hW
  have hA : DataW.TrodAll enc Try.prog W 0 (fun _ => true) true Try.f6.params.toList args.toList ds p := hA0
  rw [Try.params6] at hA hval
  obtain ⟨v0, v1, v2, d0, d1, d2, p0, p1, p2, rfl, rfl, rfl, h0, h1, h2⟩ := trodAll_three hA
  obtain ⟨rfl, rfl⟩ := trodVars_none hV
  have h0k := h0
  have h1k := h1
  have h2k := h2
  obtain ⟨x, rfl, rfl, rfl, w2⟩ := open_int Try.underlying2 (hval 2 2 v2 rfl rfl) h2
  obtain ⟨f, rfl, _⟩ := viewFx (hval 0 38 v0 rfl rfl) h0
  obtain ⟨st, rfl, _⟩ := viewSt (hval 1 40 v1 rfl rfl) h1
  clear hA0 hval0
  simp only [List.append_nil] at hW'
  have hlt : ∀ x ∈ p0 ++ p1, x.block < W.heap.size := fun x hx => by simpa using hW'.lt x (by simpa using hx)
  refine (quantWithin_any f st x W).mono ?_
  rintro e W' ⟨rfl, hnx⟩
  exact ⟨_, rfl, _, _, _, [], _, [], hW', trodAll_mk1 (shut_bool Try.underlying4 true), trodAll_mk3 (Below.trod Try.laidOut (by kernel_rfl) (of_decide_eq_true (by kernel_rfl)) h0k hnx (fun x hx => hlt x (by simp [hx]))) (Below.trod Try.laidOut (by kernel_rfl) (of_decide_eq_true (by kernel_rfl)) h1k hnx (fun x hx => hlt x (by simp [hx]))) (Below.trod Try.laidOut (by kernel_rfl) (of_decide_eq_true (by kernel_rfl)) h2k hnx (fun x hx => by cases hx)), rfl, hnx.frame _, fun h => by cases h⟩

theorem quantWithin_holds : Rows.QuantWithinSaid :=
  OpenClaim.holds_of_wide 6 Try.f6 rfl rfl rfl rfl rfl rfl rfl ⟨rfl, rfl, rfl, rfl, rfl⟩ rfl rfl rfl rfl rfl (by kernel_rfl) Try.func6 (by kernel_rfl)
    (of_decide_eq_true (by kernel_rfl)) (by unfold Func.isWrapper; first | (rw [if_pos (by decide +kernel)]; kernel_rfl) | (rw [if_neg (by decide +kernel)]; exact ⟨rfl, rfl⟩))
    (fun os started H enc _ => quantWithin_lifted os started H enc)
#print axioms quantWithin_holds
end Go.Proofs.Ytmddclgidccnhaa
