/- number, Write of package text. -/
import Derived.Test.YtbkjmnopljmanaaGreatDoorTg
namespace Go.Proofs.YtbkjmnopljmanaaGreatDoor
open Go.RowKit

/-- A number's text. -/
def numL (x y : Nat) : List UInt8 := [40] ++ flt x ++ [44] ++ flt y ++ [41]

set_option maxRecDepth 100000 in
theorem number_any (B : Nat) (x y : Nat) (hx : x < 18446744073709551616) (hy : y < 18446744073709551616) (sv : Value) (l : List UInt8) (w : World) (hown : Ow B w sv l) (hBw : B ≤ w.heap.size) (hlim : l.length ≤ 90000) (hG : Gl B w) :
    Calls Tryz.prog 28 #[sv, .complex .f64 x y] w fun e w' => ∃ v', e = .returned v' ∧ Ow B w' v' (l ++ numL x y) ∧ Below B w w' := by
  have hx1 := flt_len x
  have hy1 := flt_len y
  have HO := hide hown
  have HG := hide hG
  clear hown hG
  go_enter Tryz.func28, Tryz.ntmps28
  go_wp2_with (at_builtin; refine Ow.app_row rfl _ _ rfl sv _ rfl ((unhide HO).low ((Below.refl _ _).alloc (Nat.le_refl _) _)) w.heap.size 0 1 1 [40] rfl rfl (alloc_one w 40) (by omega) (by decide) (Nat.le_trans hBw ((Below.refl w.heap.size w).alloc (Nat.le_refl _) _).size) ?_; intro v0 w0 ho hb; have HO0 := hide ho; have HB0 := hide (((Below.refl B w).alloc hBw _).trans hb); clear ho hb; refine Hid.out ?_)
  refine hide ?_
  have G0 := hide ((unhide HG).on (unhide HB0))
  have S0 : B ≤ w0.heap.size := Nat.le_trans hBw (unhide HB0).size
  have L0 : (l ++ [40]).length ≤ 90001 := by simp; omega
  go_wp2_with (go_at_call 49; refine (flt_any B x hx v0 _ w0 (unhide HO0) S0 (by omega) (unhide G0)).mono ?_; rintro e w1 ⟨v1, rfl, ho, hb⟩; have HO1 := hide ho; have HB1 := hide hb; clear ho hb; refine Hid.out ?_)
  refine hide ?_
  have G1 := hide ((unhide G0).on (unhide HB1))
  have S1 : B ≤ w1.heap.size := Nat.le_trans S0 (unhide HB1).size
  have L1 : (l ++ [40] ++ flt x).length ≤ 90101 := by simp; omega
  go_wp2_with (at_builtin; refine Ow.app_row rfl _ _ rfl v1 _ rfl ((unhide HO1).low ((Below.refl _ _).alloc (Nat.le_refl _) _)) w1.heap.size 0 1 1 [44] rfl rfl (alloc_one w1 44) (by omega) (by decide) (Nat.le_trans S1 ((Below.refl w1.heap.size w1).alloc (Nat.le_refl _) _).size) ?_; intro v2 w2 ho hb; have HO2 := hide ho; have HB2 := hide (((Below.refl B w1).alloc S1 _).trans hb); clear ho hb; refine Hid.out ?_)
  refine hide ?_
  have G2 := hide ((unhide G1).on (unhide HB2))
  have S2 : B ≤ w2.heap.size := Nat.le_trans S1 (unhide HB2).size
  have L2 : (l ++ [40] ++ flt x ++ [44]).length ≤ 90102 := by simp; omega
  go_wp2_with (go_at_call 49; refine (flt_any B y hy v2 _ w2 (unhide HO2) S2 (by omega) (unhide G2)).mono ?_; rintro e w3 ⟨v3, rfl, ho, hb⟩; have HO3 := hide ho; have HB3 := hide hb; clear ho hb; refine Hid.out ?_)
  refine hide ?_
  have S3 : B ≤ w3.heap.size := Nat.le_trans S2 (unhide HB3).size
  have L3 : (l ++ [40] ++ flt x ++ [44] ++ flt y).length ≤ 90202 := by simp; omega
  go_wp2_with (at_builtin; refine Ow.app_row rfl _ _ rfl v3 _ rfl ((unhide HO3).low ((Below.refl _ _).alloc (Nat.le_refl _) _)) w3.heap.size 0 1 1 [41] rfl rfl (alloc_one w3 41) (by omega) (by decide) (Nat.le_trans S3 ((Below.refl w3.heap.size w3).alloc (Nat.le_refl _) _).size) ?_; intro v4 w4 ho hb; have HO4 := hide ho; have HB4 := hide (((Below.refl B w3).alloc S3 _).trans hb); clear ho hb)
  go_ret
  refine ⟨_, rfl, ?_, (unhide HB0).trans ((unhide HB1).trans ((unhide HB2).trans ((unhide HB3).trans (unhide HB4))))⟩
  have e : l ++ numL x y = l ++ [40] ++ flt x ++ [44] ++ flt y ++ [41] := by simp [numL]
  rw [e]
  exact unhide HO4

theorem numL_ne (x y : Nat) : numL x y ≠ [] := by unfold numL; simp
theorem write_any (x y : Nat) (hx : x < 18446744073709551616) (hy : y < 18446744073709551616) (w : World) (hG : Gl w.heap.size w) :
    Calls Tryz.prog 25 #[.complex .f64 x y] w fun e w' => e = .returned (.string ⟨(numL x y).toArray⟩) ∧ Below w.heap.size w w' := by
  have HN := hide (number_any w.heap.size x y hx hy (.slice none 0 0) [] w (Ow.none _ _) (Nat.le_refl _) (by simp) hG)
  have hne := numL_ne x y
  rw [List.nil_append] at HN
  generalize numL x y = l at *
  have Hne := hide hne
  clear hG hx hy hne
  go_enter Tryz.func25, Tryz.ntmps25
  go_wp2_with (go_at_call 28; refine (unhide HN).mono ?_; rintro e w' ⟨v', rfl, ho, hb⟩; have hcv := ho.str (unhide Hne); have HB := hide hb; clear ho hb)
  go_ret
  exact ⟨rfl, unhide HB⟩
end Go.Proofs.YtbkjmnopljmanaaGreatDoor
