/- Floats and numbers as texts: float, number, Write of package text. -/
import Derived.Test.YtbkjmnopljmanaaGreatDoorTf
import Derived.Laws.IdiomStrings
namespace Go.Proofs.YtbkjmnopljmanaaGreatDoor
open Go.RowKit

theorem alloc_one (w : World) (c : UInt8) (j : Nat) (hj : j < [c].length) : (w.alloc (Obj.cells #[Value.int IntKind.u8 (c.toNat : Nat)] 5)).cell? ⟨w.heap.size, 0 + j, none⟩ = some (.int .u8 ([c][j]'hj).toNat) := by
  obtain rfl : j = 0 := by simpa using hj
  exact Blk.cell Blk.alloc 0 rfl

theorem fltW_nan (B : Nat) (b : Nat) (hb : b < 18446744073709551616) (sv : Value) (l : List UInt8) (w : World) (hown : Ow B w sv l) (hBw : B ≤ w.heap.size) (hlim : l.length ≤ 100000) (hn : isnan b = true) :
    Calls Tryz.prog 49 #[sv, .float .f64 b] w fun e w' => ∃ v', e = .returned v' ∧ Ow B w' v' (l ++ [110, 97, 110]) ∧ Below B w w' := by
  have H1 := hide (isnan_run b hb w)
  rw [hn] at H1
  have HO := hide hown
  clear hown hn
  go_enter Tryz.func49, Tryz.ntmps49
  go_wp2_with (first
    | (go_at_call 58; refine (unhide H1).mono ?_; rintro e w' ⟨rfl, hw'⟩; obtain rfl := hw'.symm)
    | (at_builtin; refine Ow.app_str rfl _ _ rfl sv l rfl (unhide HO) ⟨#[110, 97, 110]⟩ rfl (by omega) (by decide) hBw ?_; intro v1 w1 ho1 hb1; have HO1 : Hid (Ow B w1 v1 (l ++ [110, 97, 110])) := ho1; have HB1 := hide hb1; clear ho1 hb1))
  go_ret
  exact ⟨_, rfl, unhide HO1, unhide HB1⟩
theorem fltW_inf (B : Nat) (b : Nat) (hb : b < 18446744073709551616) (sv : Value) (l : List UInt8) (w : World) (hown : Ow B w sv l) (hBw : B ≤ w.heap.size) (hlim : l.length ≤ 100000) (hn : isnan b = false) (hi : pw b = 2047) (hs : ng b = false) :
    Calls Tryz.prog 49 #[sv, .float .f64 b] w fun e w' => ∃ v', e = .returned v' ∧ Ow B w' v' (l ++ [105, 110, 102]) ∧ Below B w w' := by
  have H1 := hide (isnan_run b hb w)
  have H2 := hide (signbit_any b hb w)
  have H3 := hide (fun w => isinf_any b hb hn w)
  rw [hn] at H1
  rw [hs] at H2
  rw [decide_eq_true hi] at H3
  have HO := hide hown
  clear hown hn hs hi
  go_enter Tryz.func49, Tryz.ntmps49
  go_wp2_with (first
    | (go_at_call 58; refine (unhide H1).mono ?_; rintro e w' ⟨rfl, hw'⟩; obtain rfl := hw'.symm)
    | (go_at_call 59; refine (unhide H2).mono ?_; rintro e w' ⟨rfl, hw'⟩; obtain rfl := hw'.symm)
    | (go_at_call 60; refine (unhide H3 _).mono ?_; rintro e w' ⟨rfl, hw'⟩; obtain rfl := hw'.symm)
    | (at_builtin; refine Ow.app_str rfl _ _ rfl sv l rfl (unhide HO) ⟨#[105, 110, 102]⟩ rfl (by omega) (by decide) hBw ?_; intro v1 w1 ho1 hb1; have HO1 : Hid (Ow B w1 v1 (l ++ [105, 110, 102])) := ho1; have HB1 := hide hb1; clear ho1 hb1))
  go_ret
  exact ⟨_, rfl, unhide HO1, unhide HB1⟩
theorem fltW_ninf (B : Nat) (b : Nat) (hb : b < 18446744073709551616) (sv : Value) (l : List UInt8) (w : World) (hown : Ow B w sv l) (hBw : B ≤ w.heap.size) (hlim : l.length ≤ 100000) (hn : isnan b = false) (hi : pw b = 2047) (hs : ng b = true) :
    Calls Tryz.prog 49 #[sv, .float .f64 b] w fun e w' => ∃ v', e = .returned v' ∧ Ow B w' v' (l ++ [45] ++ [105, 110, 102]) ∧ Below B w w' := by
  have H1 := hide (isnan_run b hb w)
  have H2 := hide (signbit_any b hb w)
  have H3 := hide (fun w => isinf_any b hb hn w)
  rw [hn] at H1
  rw [hs] at H2
  rw [decide_eq_true hi] at H3
  have HO := hide hown
  clear hown hn hs hi
  go_enter Tryz.func49, Tryz.ntmps49
  go_wp2_with (first
    | (go_at_call 58; refine (unhide H1).mono ?_; rintro e w' ⟨rfl, hw'⟩; obtain rfl := hw'.symm)
    | (go_at_call 59; refine (unhide H2).mono ?_; rintro e w' ⟨rfl, hw'⟩; obtain rfl := hw'.symm)
    | (at_builtin; refine Ow.app_row rfl _ _ rfl sv l rfl ((unhide HO).low ((Below.refl _ _).alloc (Nat.le_refl _) _)) w.heap.size 0 1 1 [45] rfl rfl (alloc_one w 45) (by omega) (by decide) (Nat.le_trans hBw ((Below.refl w.heap.size w).alloc (Nat.le_refl _) _).size) ?_; intro v0 w0 ho0 hb0; have HO0 := hide ho0; have HB0 := hide (((Below.refl B w).alloc hBw _).trans hb0); clear ho0 hb0; refine Hid.out ?_))
  refine hide ?_
  have S0 : B ≤ w0.heap.size := Nat.le_trans hBw (unhide HB0).size
  have L0 : (l ++ [45]).length ≤ 200000 := by simp; omega
  go_wp2_with (first
    | (go_at_call 60; refine (unhide H3 _).mono ?_; rintro e w' ⟨rfl, hw'⟩; obtain rfl := hw'.symm)
    | (at_builtin; refine Ow.app_str rfl _ _ rfl v0 _ rfl (unhide HO0) ⟨#[105, 110, 102]⟩ rfl (by omega) (by decide) S0 ?_; intro v1 w1 ho1 hb1; have HO1 : Hid (Ow B w1 v1 (l ++ [45] ++ [105, 110, 102])) := ho1; have HB1 := hide hb1; clear ho1 hb1))
  go_ret
  exact ⟨_, rfl, unhide HO1, (unhide HB0).trans (unhide HB1)⟩

theorem flt_len (b : Nat) : (flt b).length ≤ 100 := by
  unfold flt
  split
  · decide
  · rw [List.length_append]
    have h1 : (if ng b = true then [45] else ([] : List UInt8)).length ≤ 1 := by split <;> decide
    have h2 : (if pw b = 2047 then [105, 110, 102] else fltN b).length ≤ 90 := by
      split
      · decide
      · unfold fltN
        have := hexL_len (om (mant b)) (om_lt b)
        have := oe_in b
        have := Lib.itoa_length_le (oe (mant b) (expo b)) (by omega) (by omega)
        simp; omega
    omega
theorem flt_any (B : Nat) (b : Nat) (hb : b < 18446744073709551616) (sv : Value) (l : List UInt8) (w : World) (hown : Ow B w sv l) (hBw : B ≤ w.heap.size) (hlim : l.length ≤ 100000) (hG : Gl B w) :
    Calls Tryz.prog 49 #[sv, .float .f64 b] w fun e w' => ∃ v', e = .returned v' ∧ Ow B w' v' (l ++ flt b) ∧ Below B w w' := by
  unfold flt
  cases hn : isnan b
  · rw [if_neg (by simp)]
    by_cases hi : pw b = 2047
    · rw [if_pos hi]
      cases hs : ng b
      · rw [if_neg (by simp), List.nil_append]; exact fltW_inf B b hb sv l w hown hBw hlim hn hi hs
      · rw [if_pos rfl, ← List.append_assoc]; exact fltW_ninf B b hb sv l w hown hBw hlim hn hi hs
    · rw [if_neg hi]
      cases hs : ng b
      · rw [if_neg (by simp), List.nil_append]; exact fltW_num B b hb sv l w hown hBw hlim hG hn hi hs
      · rw [if_pos rfl, ← List.append_assoc]; exact fltW_neg B b hb sv l w hown hBw hlim hG hn hi hs
  · rw [if_pos rfl]; exact fltW_nan B b hb sv l w hown hBw hlim hn

/-- The bytes of a row of one's own as a string. -/
theorem Ow.str {B : Nat} {w : World} {v : Value} {l : List UInt8} (h : Ow B w v l) (hl : l ≠ []) : (convert 45 9 v).run Tryz.prog w = .ok (.string ⟨l.toArray⟩) w := by
  rcases h.2 with ⟨-, h0⟩ | ⟨g, cap, cur, rfl, _⟩
  · exact absurd (List.length_eq_zero_iff.1 h0) hl
  · exact run_convert_bytes_back (P := Tryz.prog) w 45 9 5 ⟨g, 0, Option.none⟩ cap l Tryz.underlying45 Tryz.underlying5 Tryz.underlying9 (fun j hj => World.ownsRow.cells h (g := g) rfl j _ (by simp [Lib.byteCells, hj]))
end Go.Proofs.YtbkjmnopljmanaaGreatDoor
