/- TextReads' walk. -/
import Derived.Test.YtgcghncblhmmmaaDoorVj
namespace Go.Proofs.YtgcghncblhmmmaaDoor
open Go.RowKit

theorem same1_any (x : Nat) (w : World) : Calls Tryd.prog 14 #[.float .f64 x, .float .f64 x] w fun e w' => e = .returned (.bool true) ∧ w' = w := by
  have hx := run_bits
  have hb : ((x : Int) == (x : Int)) = true := by simp
  go_enter Tryd.func14, Tryd.ntmps14
  go_wp2
  go_ret
  exact ⟨rfl, rfl⟩
set_option maxRecDepth 100000 in
theorem same2_any (x y : Nat) (w : World) : Calls Tryd.prog 7 #[.complex .f64 x y, .complex .f64 x y] w fun e w' => e = .returned (.bool true) ∧ w' = w := by
  go_enter Tryd.func7, Tryd.ntmps7
  go_wp2_with (go_at_call 14; refine (same1_any _ _).mono ?_; rintro e w' ⟨rfl, hw'⟩; obtain rfl := hw'.symm)
  go_ret
  exact ⟨rfl, rfl⟩
set_option maxRecDepth 100000 in
theorem reads_any (s : ByteArray) (w : World) (hG : Gl w.heap.size w) : Calls Tryd.prog 3 #[.string s] w fun e w' => e = .returned (.bool true) ∧ Below w.heap.size w w' := by
  obtain ⟨x, y, a, f, R⟩ := read_both s
  have G0 := hide hG
  have HR := hide R.prog
  have HD := hide R.doc
  have HT := hide R.told
  have hx := hide R.hx
  have hy := hide R.hy
  have n1 : ((a : Int) != (a : Int)) = false := by simp
  have n2 : ((f : Int) != (f : Int)) = false := by simp
  have n3 : ((a : Int) == (a : Int)) = true := by simp
  have n4 : ((f : Int) == (f : Int)) = true := by simp
  clear hG R
  go_enter Tryd.func3, Tryd.ntmps3
  go_wp2_with (go_at_call 4; refine (unhide HR _ (unhide G0)).mono ?_; rintro e w1 ⟨rfl, hb⟩; have B1 := hide hb; have G1 := hide ((unhide G0).next hb); clear hb; refine Hid.out ?_)
  refine hide ?_
  go_wp2_with (go_at_call 5; refine (unhide HD _).mono ?_; rintro e w2 ⟨rfl, hb⟩; have B2 := hide (below_next (unhide B1) hb); have G2 := hide ((unhide G1).next hb); clear hb; refine Hid.out ?_)
  refine hide ?_
  by_cases hf : f = 0
  · subst hf
    have ht := (unhide HT rfl).1
    have hq : (numL x y == s.toList) = true := by rw [ht]; simp
    clear ht
    go_wp2_with (first
      | (go_at_call 6; refine (awake_any _ (unhide G2)).mono ?_; rintro e w3 ⟨rfl, hb⟩; have B3 := hide (below_next (unhide B2) hb); have G3 := hide ((unhide G2).next hb); clear hb)
      | (go_at_call 7; refine (same2_any _ _ _).mono ?_; rintro e w' ⟨rfl, hw'⟩; obtain rfl := hw'.symm)
      | (go_at_call 8; refine (write_any x y (unhide hx) (unhide hy) _ (unhide G3)).mono ?_; rintro e w4 ⟨rfl, hb⟩; have B4 := hide (below_next (unhide B3) hb); clear hb))
    go_ret
    exact ⟨rfl, unhide B4⟩
  · have n5 : ((f : Int) != 0) = true := by simp; omega
    have n6 : ((f : Int) == 0) = false := by rw [beq_eq_false_iff_ne]; omega
    go_wp2_with (first
      | (go_at_call 6; refine (awake_any _ (unhide G2)).mono ?_; rintro e w3 ⟨rfl, hb⟩; have B3 := hide (below_next (unhide B2) hb); have G3 := hide ((unhide G2).next hb); clear hb)
      | (go_at_call 7; refine (same2_any _ _ _).mono ?_; rintro e w' ⟨rfl, hw'⟩; obtain rfl := hw'.symm))
    go_ret
    exact ⟨rfl, unhide B3⟩
end Go.Proofs.YtgcghncblhmmmaaDoor
