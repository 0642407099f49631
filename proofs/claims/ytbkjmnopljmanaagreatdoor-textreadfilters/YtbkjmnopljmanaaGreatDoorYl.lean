/- What the listed variables hold, for the statements of layer 27 with a laid list of five. -/
import Derived.Test.YtbkjmnopljmanaaGreatDoorTf
import Derived.Test.YtbkjmnopljmanaaGreatDoorRows
import Derived.ProofKit
import Derived.LaidMore
import Derived.OpenShut
import Derived.Stop.Joined
import Derived.SevenTiedAt
import Derived.Deep.Strs
import Derived.Lib.LaidTab
namespace Go.Proofs.YtbkjmnopljmanaaGreatDoor
open Go.ChangeShapes Go.WideShapes Go.ChangeAt Go.RowKit Go.Deep
open Go.ChangeMaps (open_string shut_string)

abbrev laid5 : List (String × DataW Unit) := [("math/bits.deBruijn32tab", Rows.laid_math_bits_deBruijn32tab), ("math/bits.deBruijn64tab", Rows.laid_math_bits_deBruijn64tab), ("internal/strconv.uint64pow10", Rows.laid_internal_strconv_uint64pow10), ("strconv.ErrRange", Rows.laid_strconv_ErrRange), ("strconv.ErrSyntax", Rows.laid_strconv_ErrSyntax)]
theorem own : ownKnob Tryz.prog.godebug = none := by kernel_rfl
theorem door_met (os : Os) (args : Array Value) : laidMetH Tryz.prog laid5 ((World.doorLaid Tryz.prog 400 os).forCall (fun _ _ => 0) ⟨#[], args, []⟩).memory :=
  laidMetH_of_parts3 (fuel := 8) (laidMet_of_run' 8 (by kernel_rfl) (by kernel_rfl)) (by kernel_rfl) (by kernel_rfl)

theorem gTab : Tryz.prog.globalNamed "math/bits.deBruijn64tab" = some (Tryz.lays29_ren.g 1) := by kernel_rfl
theorem tTab : (Tryz.prog.globals[Tryz.lays29_ren.g 1]?).map (·.type) = some 133 := by kernel_rfl
theorem tPow : (Tryz.prog.globalNamed "internal/strconv.uint64pow10").bind (fun g => (Tryz.prog.globals[g]?).map (·.type)) = some 145 := by kernel_rfl
theorem gErr : Tryz.prog.globalNamed "strconv.ErrRange" = some (Tryz.laysC172_ren.g 16) := by kernel_rfl
theorem tErr : (Tryz.prog.globals[Tryz.laysC172_ren.g 16]?).map (·.type) = some 121 := by kernel_rfl
theorem uTab : Tryz.prog.underlying 133 = some (.array 64 5) := by kernel_rfl
theorem uPow : Tryz.prog.underlying 145 = some (.array 20 92) := by kernel_rfl
theorem uErr : ∃ ms, Tryz.prog.underlying 121 = some (.interface ms) := ⟨_, Tryz.underlying121⟩
theorem cU8 : Tryz.prog.cellsOf 5 = 1 := by kernel_rfl
theorem cU64 : Tryz.prog.cellsOf 92 = 1 := by kernel_rfl
theorem cTab : Tryz.prog.cellsOf 133 = 64 := by kernel_rfl
theorem cPow : Tryz.prog.cellsOf 145 = 20 := by kernel_rfl
theorem dTab : (Rows.laid_math_bits_deBruijn64tab : DataW Unit) = Lib.tabData .u8 (Lib.deBruijn64tab.map fun (n : Nat) => (n : Int)) := by rfl
theorem dPow : (Rows.laid_internal_strconv_uint64pow10 : DataW Unit) = Lib.tabData .u64 Lib.pow10Tab := by kernel_rfl

theorem iface_cell {H : Type} {enc : TypeId × Value → H} {P : Program} {W : World} {base : Nat} {sp : Nat → Bool} {fuel : Nat} {t : TypeId} {cs : List Value} {ms : Array (String × TypeId)} {name : String} {d : DataW H} {p : List MemPlace}
    (ht : P.underlying t = some (.interface ms)) (h : DataW.trod enc P W base sp false fuel t cs = some (.iface name d, p)) : ∃ u v, cs = [.iface u v] := by
  cases fuel with
  | zero => simp [DataW.trod] at h
  | succ fuel =>
    simp only [DataW.trod, ht] at h
    split at h <;> simp_all

theorem of_laid {W : World} (h : laidMetH Tryz.prog laid5 W) : Gl W.heap.size W := by
  rw [MakeChecks.laidMetH_plain _ _ _ (by kernel_rfl)] at h
  obtain ⟨ps, ⟨g0, t0, cs0, f0, p0, q0, hg0, ht0, hv0, hd0, ⟨g1, t1, cs1, f1, p1, q1, hg1, ht1, hv1, hd1, ⟨g2, t2, cs2, f2, p2, q2, hg2, ht2, hv2, hd2, ⟨g3, t3, cs3, f3, p3, q3, hg3, ht3, hv3, hd3, _, _⟩, _⟩, _⟩, _⟩, _, _⟩ := h
  obtain rfl := Option.some.inj (gTab.symm.trans hg1)
  obtain rfl := Option.some.inj (tTab.symm.trans ht1)
  obtain rfl := Option.some.inj (gErr.symm.trans hg3)
  obtain rfl := Option.some.inj (tErr.symm.trans ht3)
  have e2 : t2 = 145 := by
    have := tPow
    rw [hg2] at this
    exact Option.some.inj (ht2.symm.trans this)
  subst e2
  rw [dTab] at hd1
  rw [dPow] at hd2
  have k1 := Lib.cells_of_tab uTab Tryz.underlying5 cU8 cTab hd1
  have k2 := Lib.cells_of_tab uPow Tryz.underlying92 cU64 cPow hd2
  obtain ⟨ms, hms⟩ := uErr
  obtain ⟨u, v, k3⟩ := iface_cell hms hd3
  have T1 : Lib.TabIs Tryz.prog W "math/bits.deBruijn64tab" .u8 (Lib.deBruijn64tab.map fun (n : Nat) => (n : Int)) := by
    unfold Lib.TabIs; rw [hv1, ← k1]
  have T2 : Lib.TabIs Tryz.prog W "internal/strconv.uint64pow10" .u64 Lib.pow10Tab := by
    unfold Lib.TabIs; rw [hv2, ← k2]
  have hE : W.cell? ⟨Tryz.laysC172_ren.g 16, 0, none⟩ = some (.iface u v) := by
    have := World.var?_cell hg3 hv3 0
    rw [this]
    obtain ⟨l⟩ := cs3
    simp at k3
    subst k3
    rfl
  have hZ : TabAt (Tryz.lays29_ren.g 1) Lib.deBruijn64tab W := fun j hj => by
    have := T1.cell gTab j (by simpa using hj)
    rw [this]
    simp [List.getD, hj]
  exact ⟨⟨u, v, hE⟩, hZ, Lib.tabBelow_of_tabIs T2, World.block_lt_of_cell? _ _ hE, World.block_lt_of_cell? _ _ (hZ 0 (by decide))⟩

end Go.Proofs.YtbkjmnopljmanaaGreatDoor
