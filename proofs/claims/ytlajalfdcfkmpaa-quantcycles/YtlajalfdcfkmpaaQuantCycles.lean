/- For every section, state and number of steps, of any whole numbers, QuantCycles is true: Cycle answers what the document says. No condition. -/
import Derived.Test.YtlajalfdcfkmpaaDcc
import Derived.Test.YtlajalfdcfkmpaaQw
import Derived.Test.YtlajalfdcfkmpaaQp
import Derived.Test.YtlajalfdcfkmpaaQv
import Derived.Test.YtlajalfdcfkmpaaView
namespace Go.Proofs.Ytlajalfdcfkmpaa
open Go.ChangeShapes Go.WideShapes Go.ChangeAt Go.RowKit

set_option maxRecDepth 100000 in
set_option maxHeartbeats 2000000 in
theorem quantCycles_any (f : Fx) (s : St) (n : Int) (w : World) :
    Calls Try.prog 7 #[vF f, vS s, .int .i64 n] w fun e w' => e = .returned (.bool true) ∧ Below w.heap.size w w' := by
  obtain ⟨N, hN⟩ : ∃ N : Int, N = if 300 < n ∧ n ≤ 1048576 then n % 301 else n := ⟨_, rfl⟩
  have Hc := hide (cycle_any f s N)
  have Hd := hide (docCycle_any f s N)
  have HN := hide hN
  clear hN
  unfold vF vS at *
  go_enter Try.func7, Try.ntmps7
  go_wp2_with fail
  refine (awake_any _).mono ?_
  rintro e w1 ⟨rfl, hb1⟩
  have P1 := hide ((PW.start w (aF f) (aS s)).later hb1)
  clear hb1
  obtain ⟨B, hB⟩ : ∃ B : Bool, B = (decide (300 < n) && decide (n ≤ 1048576)) := ⟨_, rfl⟩
  have HB := hide hB
  clear hB
  go_upto_region 3 with fail
  go_cut [20] (fun v wx => v = .bool B ∧ w1 = wx)
  case first =>
    by_cases h1 : 300 < n
    · have h3 : B = decide (n ≤ 1048576) := by rw [unhide HB, decide_eq_true h1, Bool.true_and]
      go_wp2_with fail
      go_meet
      exact ⟨by rw [h3], rfl⟩
    · have h3 : B = false := by rw [unhide HB, decide_eq_false h1, Bool.false_and]
      go_wp2_with fail
      go_meet
      exact ⟨by rw [h3], rfl⟩
  case rest =>
  obtain ⟨rfl, rfl⟩ := hcut
  go_upto_if 20 with fail
  go_cut [2] (fun v wx => v = .int .i64 N ∧ w1 = wx)
  case first =>
    cases B with
    | true =>
      have h0 : 300 < n ∧ n ≤ 1048576 := by simpa using (unhide HB).symm
      have h3 : N = n % 301 := by rw [unhide HN, if_pos h0]
      have h4 : n.tmod 301 = N := by rw [h3, Int.tmod_eq_emod_of_nonneg (by omega)]
      have h5 : n % 301 = N := h3.symm
      obtain ⟨h1, h2⟩ := h0
      clear h3
      go_wp2_with fail
      go_meet
      exact ⟨rfl, rfl⟩
    | false =>
      have h0 : ¬ (300 < n ∧ n ≤ 1048576) := by simpa using (unhide HB).symm
      have h3 : N = n := by rw [unhide HN, if_neg h0]
      clear h0
      go_wp2_with fail
      go_meet
      exact ⟨by rw [h3], rfl⟩
  case rest =>
    obtain ⟨rfl, rfl⟩ := hcut
    obtain ⟨c0, c1, c2, c3, c4, c5, d0, d1, d2, d3⟩ := (unhide P1).cells
    go_wp2_with fail
    refine (unhide Hc _).mono ?_
    rintro e w2 ⟨⟨a, b, c, rfl, hcy⟩, hb2⟩
    clear c0 c1 c2 c3 c4 c5 d0 d1 d2 d3
    have P2 := hide ((unhide P1).later hb2)
    have H1 := hide hcy
    clear hb2 hcy P1
    obtain ⟨c0, c1, c2, c3, c4, c5, d0, d1, d2, d3⟩ := (unhide P2).cells
    go_wp2_with fail
    refine (unhide Hd _).mono ?_
    rintro e w3 ⟨⟨a', b', c', rfl, hcy⟩, hb3⟩
    clear c0 c1 c2 c3 c4 c5 d0 d1 d2 d3
    obtain ⟨rfl, rfl, rfl⟩ := (unhide H1).unique hcy
    have P3 := hide ((unhide P2).later hb3)
    clear hb3 hcy P2
    go_wp2
    go_ret
    exact ⟨rfl, (unhide P3).low⟩
set_option maxRecDepth 100000 in
theorem quantCycles_lifted (os : Os) (started : os.Started) (H : Type) (enc : TypeId × Value → H) :
    ReturnsInHanded {} Try.checked os 7 .any (Rows.quantCyclesSpec.pre6 enc Try.prog Try.f7 Rows.quantCyclesRow.domain false) (Rows.quantCyclesSpec.post enc Try.prog Try.f7 false true false false) := by
  refine returnsInHanded_of_change (C := Try.checked) (by kernel_rfl) started (by kernel_rfl) Try.func7
    (ChangeSpec.witness6 (enc := enc) (C := Try.checked) false ⟨#[], #[.agg #[.int .i64 0, .int .i64 0, .int .i64 0, .int .i64 0, .int .i64 0, .int .i64 0], .agg #[.int .i64 0, .int .i64 0, .int .i64 0, .int .i64 0], .int .i64 0], []⟩ 8 (by kernel_rfl) (by kernel_rfl) (by kernel_rfl) (by kernel_rfl)) ?_
  intro W base args ds gs before hval0 hW hcnd _
  have hval : ∀ (j : Nat) t v, Try.f7.params[j]? = some t → args[j]? = some v → Value.okWide Try.prog W .any base t v := hval0
  have hW' := hW
  obtain ⟨p, q, hA0, hV, rfl, _, _⟩ := hW
  have hA : DataW.TrodAll enc Try.prog W 0 (fun _ => true) true Try.f7.params.toList args.toList ds p := hA0
  rw [Try.params7] at hA hval
  obtain ⟨v0, v1, v2, d0, d1, d2, p0, p1, p2, rfl, rfl, rfl, h0, h1, h2⟩ := trodAll_three hA
  obtain ⟨rfl, rfl⟩ := trodVars_none hV
  have h0k := h0
  have h1k := h1
  have h2k := h2
  obtain ⟨x, rfl, rfl, rfl, w2⟩ := open_int Try.underlying3 (hval 2 3 v2 rfl rfl) h2
  obtain ⟨f, rfl, _⟩ := viewFx (hval 0 38 v0 rfl rfl) h0
  obtain ⟨st, rfl, _⟩ := viewSt (hval 1 40 v1 rfl rfl) h1
  clear hA0 hval0
  simp only [List.append_nil] at hW'
  have hlt : ∀ x ∈ p0 ++ p1, x.block < W.heap.size := fun x hx => by simpa using hW'.lt x (by simpa using hx)
  refine (quantCycles_any f st x W).mono ?_
  rintro e W' ⟨rfl, hnx⟩
  exact ⟨_, rfl, _, _, _, [], _, [], hW', trodAll_mk1 (shut_bool Try.underlying4 true), trodAll_mk3 (Below.trod Try.laidOut (by kernel_rfl) (of_decide_eq_true (by kernel_rfl)) h0k hnx (fun x hx => hlt x (by simp [hx]))) (Below.trod Try.laidOut (by kernel_rfl) (of_decide_eq_true (by kernel_rfl)) h1k hnx (fun x hx => hlt x (by simp [hx]))) (Below.trod Try.laidOut (by kernel_rfl) (of_decide_eq_true (by kernel_rfl)) h2k hnx (fun x hx => by cases hx)), rfl, hnx.frame _, fun h => by cases h⟩

theorem quantCycles_holds : Rows.QuantCyclesSaid :=
  OpenClaim.holds_of_wide 7 Try.f7 rfl rfl rfl rfl rfl rfl rfl ⟨rfl, rfl, rfl, rfl, rfl⟩ rfl rfl rfl rfl rfl (by kernel_rfl) Try.func7 (by kernel_rfl)
    (of_decide_eq_true (by kernel_rfl)) (by unfold Func.isWrapper; first | (rw [if_pos (by decide +kernel)]; kernel_rfl) | (rw [if_neg (by decide +kernel)]; exact ⟨rfl, rfl⟩))
    (fun os started H enc _ => quantCycles_lifted os started H enc)
#print axioms quantCycles_holds
end Go.Proofs.Ytlajalfdcfkmpaa
