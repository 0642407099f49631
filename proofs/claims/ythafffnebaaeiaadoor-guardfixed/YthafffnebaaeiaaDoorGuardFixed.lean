/- GuardFixed: the document's examples, the errors, a nil one; the variable that the statement lists is tied to the program's text (a tied card). No condition. -/
import Derived.Test.YthafffnebaaeiaaDoorGfw
import Derived.Test.YthafffnebaaeiaaDoorCards
import Derived.Test.YthafffnebaaeiaaDoorTie
import Derived.ProofKit
import Derived.LaidMore
import Derived.OpenShut
import Derived.Stop.Joined
import Derived.SevenTiedAt
import Derived.Deep.Strs
namespace Go.Proofs.YthafffnebaaeiaaDoor
open Go.ChangeShapes Go.WideShapes Go.ChangeAt Go.RowKit Go.Deep

theorem own : ownKnob Tryd.prog.godebug = none := by kernel_rfl
theorem gAllVar : Tryd.prog.globalNamed "quaver/quaverlaw19.all" = some 0 := by kernel_rfl
theorem tAllVar : (Tryd.prog.globals[0]?).map (·.type) = some 30 := by kernel_rfl
theorem Tryd.cells_bool : Tryd.prog.cellsOf 4 = 1 := by kernel_rfl
theorem Tryd.cells_guard : Tryd.prog.cellsOf 30 = 3 := by kernel_rfl

theorem door_met (os : Os) (args : Array Value) : laidMetH Tryd.prog [("quaver/quaverlaw19.all", Rows.laid_quaver_quaverlaw19_all)] ((World.doorLaid Tryd.prog 400 os).forCall (fun _ _ => 0) ⟨#[], args, []⟩).memory :=
  laidMetH_of_parts3 (fuel := 8) (laidMet_of_run' 8 (by kernel_rfl) (by kernel_rfl)) (by kernel_rfl) (by kernel_rfl)

theorem of_laid {W : World} (h : laidMetH Tryd.prog [("quaver/quaverlaw19.all", Rows.laid_quaver_quaverlaw19_all)] W) : AllAt W := by
  rw [MakeChecks.laidMetH_plain _ _ _ (by kernel_rfl)] at h
  obtain ⟨ps, ⟨g0, t0, cs0, f0, p0, q0, hg0, ht0, hv0, hd0, _, _⟩, _, _⟩ := h
  obtain rfl := Option.some.inj (gAllVar.symm.trans hg0)
  obtain rfl := Option.some.inj (tAllVar.symm.trans ht0)
  obtain ⟨y0, y1, y2, n, hx, hlen, t0, t1, t2⟩ := trod_struct3 Tryd.underlying30 hd0
  rw [Tryd.cells_guard] at hlen
  obtain ⟨l⟩ := cs0
  have hl : l.length = 3 := by simpa using hlen
  obtain ⟨a, b, c, rfl⟩ : ∃ a b c, l = [a, b, c] := by
    match l, hl with
    | [a, b, c], _ => exact ⟨a, b, c, rfl⟩
  obtain ⟨x0, e0, e0'⟩ := DataW.trod_bool Tryd.underlying4 t0
  obtain ⟨x1, e1, e1'⟩ := DataW.trod_bool Tryd.underlying4 t1
  obtain ⟨x2, e2, e2'⟩ := DataW.trod_bool Tryd.underlying4 t2
  subst e0' e1' e2'
  simp only [Tryd.cells_bool] at e0 e1 e2
  simp at e0 e1 e2
  simp only [Prod.mk.injEq] at hx
  obtain ⟨hx, _⟩ := hx
  simp [Rows.laid_quaver_quaverlaw19_all] at hx
  obtain ⟨h0, h1, h2⟩ := hx
  subst e0 e1 e2
  have k0 := World.var?_cell hg0 hv0 0
  have k1 := World.var?_cell hg0 hv0 1
  have k2 := World.var?_cell hg0 hv0 2
  refine ⟨?_, ?_, ?_⟩
  · rw [k0]; simp [← h0]
  · rw [k1]; simp [← h1]
  · rw [k2]; simp [← h2]

set_option maxRecDepth 100000 in
theorem guardFixed_lifted (os : Os) (started : os.Started) (H : Type) (enc : TypeId × Value → H) :
    ReturnsInHanded {} Tryd.checked os 3 .any (fun w args => (Rows.guardFixedSpec.pre enc Tryd.prog Tryd.f3 [] false w args ∧ laidMetH Tryd.prog [("quaver/quaverlaw19.all", Rows.laid_quaver_quaverlaw19_all)] w) ∧ sizedMet enc Tryd.prog Tryd.f3 (OpenSpec.ofChange Rows.guardFixedSpec) false w args)
      (Rows.guardFixedSpec.post enc Tryd.prog Tryd.f3 false true false false) := by
  refine returnsInHanded_of_change_and (C := Tryd.checked) (X := fun w _ => laidMetH Tryd.prog [("quaver/quaverlaw19.all", Rows.laid_quaver_quaverlaw19_all)] w) (fun _ _ _ hh h => h.of_heap hh) own started (by kernel_rfl) Tryd.func3
    (ChangeSpec.witness_shaped (enc := enc) (C := Tryd.checked) (os := os) (X := fun w _ => laidMetH Tryd.prog [("quaver/quaverlaw19.all", Rows.laid_quaver_quaverlaw19_all)] w) false (World.doorLaid Tryd.prog 400 os) #[] 8 rfl (World.shaped_of_RefB (by kernel_rfl) (by kernel_rfl)) (by kernel_rfl) (by kernel_rfl) (by kernel_rfl) (door_met os _)) ?_
  intro W base args ds gs before hval0 hW _ _ hL _
  have hW' := hW
  obtain ⟨p, q, hA0, hV0, rfl, hfz, hnd⟩ := hW
  have hA : DataW.TrodAll enc Tryd.prog W 0 (fun _ => true) true Tryd.f3.params.toList args.toList ds p := hA0
  rw [Tryd.params3] at hA
  obtain ⟨hargs, rfl, rfl⟩ := trodAll_nil hA
  obtain rfl : args = #[] := by cases args; simp_all
  obtain ⟨rfl, rfl⟩ := trodVars_none hV0
  clear hA0
  simp only [List.append_nil] at hW'
  refine (fixed_any W (of_laid hL)).mono ?_
  rintro e W' ⟨rfl, hnx⟩
  exact ⟨_, rfl, _, _, _, [], _, [], hW', trodAll_mk1 (shut_bool Tryd.underlying4 true), trodAll_mk0, rfl, hnx.frame _, fun h => by cases h⟩

theorem guardFixed_holds : Rows.GuardFixedSaid :=
  OpenClaim.holds_of_wide 3 Tryd.f3 rfl rfl rfl rfl rfl rfl rfl ⟨rfl, rfl, rfl, rfl, rfl⟩ rfl rfl rfl rfl rfl (by kernel_rfl) Tryd.func3 (by kernel_rfl)
    (of_decide_eq_true (by kernel_rfl)) (by unfold Func.isWrapper; first | (rw [if_pos (by decide +kernel)]; kernel_rfl) | (rw [if_neg (by decide +kernel)]; exact ⟨rfl, rfl⟩))
    (fun os started H enc _ => guardFixed_lifted os started H enc)

theorem guardFixed_card : Rows.GuardFixedCardSaid :=
  Claim7.holds_tied_plain_at .later [] [.data] true Rows.guardFixedCard.stood.harness false
    guardFixed_holds (fun _ h => by cases h) (by kernel_rfl) (fun _ h => by cases h) guardFixed_row_tie rfl ⟨rfl, rfl⟩ (by kernel_rfl) rfl
    (fun f fn hf hfn => by
      obtain rfl : f = 3 := Option.some.inj ((show Tryd.prog.funcNamed "quaver/quaverlaw19.GuardFixed" = some 3 by kernel_rfl).symm.trans hf) |>.symm
      obtain rfl : fn = Tryd.f3 := (Option.some.inj (Tryd.func3.symm.trans hfn)).symm
      exact ⟨by kernel_rfl, fun j t ht => by
        rw [Tryd.params3] at ht
        simp at ht⟩)
    (by kernel_rfl)
#print axioms guardFixed_card
end Go.Proofs.YthafffnebaaeiaaDoor
