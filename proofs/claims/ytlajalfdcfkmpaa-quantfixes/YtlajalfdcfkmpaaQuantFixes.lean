/- For every float by its bits, every whole number and every count of bits QuantFixes is true: Fix and Back answer what the document says. No condition. -/
import Derived.Test.YtlajalfdcfkmpaaBak
import Derived.Test.YtlajalfdcfkmpaaQw
import Derived.Test.YtlajalfdcfkmpaaView
namespace Go.Proofs.Ytlajalfdcfkmpaa
open Go.ChangeShapes Go.WideShapes Go.ChangeAt Go.RowKit

set_option maxRecDepth 100000 in
set_option maxHeartbeats 2000000 in
theorem qfixes_walk (b : Nat) (n k A E1 E2 : Int) (O : Bool) (R : Nat)
    (H1 : Hid (∀ w, Calls Try.prog 11 #[.float .f64 b, .int .i64 k] w fun e w' => e = .returned (.tuple #[.int .i64 A, .bool O, .int .i64 E1]) ∧ w' = w))
    (H2 : Hid (∀ w, Calls Try.prog 12 #[.float .f64 b, .int .i64 k] w fun e w' => e = .returned (.tuple #[.int .i64 A, .bool O, .int .i64 E1]) ∧ Below w.heap.size w w'))
    (H3 : Hid (∀ w, Calls Try.prog 13 #[.int .i64 n, .int .i64 k] w fun e w' => e = .returned (.tuple #[.float .f64 R, .int .i64 E2]) ∧ w' = w))
    (H4 : Hid (∀ w, Calls Try.prog 14 #[.int .i64 n, .int .i64 k] w fun e w' => e = .returned (.tuple #[.float .f64 R, .int .i64 E2]) ∧ Below w.heap.size w w')) (w : World) :
    Calls Try.prog 3 #[.int .u64 (b : Nat), .int .i64 n, .int .i64 k] w fun e w' => e = .returned (.bool true) ∧ Below w.heap.size w w' := by
  have hx := run_bits
  have hy := run_frombits
  have hb : ((b : Nat) : Int).toNat = b := Int.toNat_natCast b
  go_enter Try.func3, Try.ntmps3
  go_wp2_with fail
  refine (awake_any _).mono ?_
  rintro e w1 ⟨rfl, hb1⟩
  have HB1 := hide hb1
  clear hb1
  go_wp2_with fail
  refine (unhide H1 _).mono ?_
  rintro e w' ⟨rfl, hw'⟩
  obtain rfl := hw'.symm
  go_wp2_with fail
  refine (unhide H2 _).mono ?_
  rintro e w2 ⟨rfl, hb2⟩
  have HB2 := hide ((unhide HB1).trans (hb2.mono (unhide HB1).size))
  clear hb2 HB1
  go_wp2_with fail
  refine (unhide H3 _).mono ?_
  rintro e w' ⟨rfl, hw'⟩
  obtain rfl := hw'.symm
  go_wp2_with fail
  refine (unhide H4 _).mono ?_
  rintro e w3 ⟨rfl, hb3⟩
  have HB3 := hide ((unhide HB2).trans (hb3.mono (unhide HB2).size))
  clear hb3 HB2
  cases O
  all_goals
    go_wp2
    go_ret
    exact ⟨rfl, unhide HB3⟩
theorem quantFixes_any (b : Nat) (hb : b < 18446744073709551616) (n k : Int) (hn : i64 n) (w : World) :
    Calls Try.prog 3 #[.int .u64 (b : Nat), .int .i64 n, .int .i64 k] w fun e w' => e = .returned (.bool true) ∧ Below w.heap.size w w' := by
  cases hk : fitsB k with
  | false => exact qfixes_walk b n k _ _ _ _ _ (fix_out b k hk) (docFix_out b k hk) (back_out n k hk) (docBack_out n k hk) w
  | true =>
    by_cases h : pw b = 2047
    · exact qfixes_walk b n k _ _ _ _ _ (fix_none b hb h k hk) (docFix_none b hb h k hk) (back_any n k hn hk) (docBack_any n k hn hk) w
    · exact qfixes_walk b n k _ _ _ _ _ (fix_fin b hb h k hk) (docFix_fin b hb h k hk) (back_any n k hn hk) (docBack_any n k hn hk) w

set_option maxRecDepth 100000 in
theorem quantFixes_lifted (os : Os) (started : os.Started) (H : Type) (enc : TypeId × Value → H) :
    ReturnsInHanded {} Try.checked os 3 .any (Rows.quantFixesSpec.pre6 enc Try.prog Try.f3 Rows.quantFixesRow.domain false) (Rows.quantFixesSpec.post enc Try.prog Try.f3 false true false false) := by
  refine returnsInHanded_of_change (C := Try.checked) (by kernel_rfl) started (by kernel_rfl) Try.func3
    (ChangeSpec.witness6 (enc := enc) (C := Try.checked) false ⟨#[], #[.int .u64 0, .int .i64 0, .int .i64 0], []⟩ 8 (by kernel_rfl) (by kernel_rfl) (by kernel_rfl) (by kernel_rfl)) ?_
  intro W base args ds gs before hval0 hW hcnd _
  have hval : ∀ (j : Nat) t v, Try.f3.params[j]? = some t → args[j]? = some v → Value.okWide Try.prog W .any base t v := hval0
  have hW' := hW
  obtain ⟨p, q, hA0, hV, rfl, _, _⟩ := hW
  have hA : DataW.TrodAll enc Try.prog W 0 (fun _ => true) true Try.f3.params.toList args.toList ds p := hA0
  rw [Try.params3] at hA hval
  obtain ⟨v0, v1, v2, d0, d1, d2, p0, p1, p2, rfl, rfl, rfl, h0, h1, h2⟩ := trodAll_three hA
  obtain ⟨rfl, rfl⟩ := trodVars_none hV
  have h0k := h0
  have h1k := h1
  have h2k := h2
  obtain ⟨x, rfl, rfl, rfl, wx⟩ := open_int Try.underlying22 (hval 0 22 v0 rfl rfl) h0
  obtain ⟨n, rfl, rfl, rfl, wn⟩ := open_int Try.underlying2 (hval 1 2 v1 rfl rfl) h1
  obtain ⟨k, rfl, rfl, rfl, _⟩ := open_int Try.underlying3 (hval 2 3 v2 rfl rfl) h2
  clear hA0 hval0
  simp only [List.append_nil] at hW'
  obtain ⟨x0, x1⟩ := wf_u64 x wx
  obtain ⟨b, rfl⟩ := Int.eq_ofNat_of_zero_le x0
  refine (quantFixes_any b (by omega) n k (bounds_i64 wn) W).mono ?_
  rintro e W' ⟨rfl, hnx⟩
  exact ⟨_, rfl, _, _, _, [], _, [], hW', trodAll_mk1 (shut_bool Try.underlying4 true), trodAll_mk3 (Below.trod Try.laidOut (by kernel_rfl) (of_decide_eq_true (by kernel_rfl)) h0k hnx (fun x hx => by cases hx)) (Below.trod Try.laidOut (by kernel_rfl) (of_decide_eq_true (by kernel_rfl)) h1k hnx (fun x hx => by cases hx)) (Below.trod Try.laidOut (by kernel_rfl) (of_decide_eq_true (by kernel_rfl)) h2k hnx (fun x hx => by cases hx)), rfl, hnx.frame _, fun h => by cases h⟩

theorem quantFixes_holds : Rows.QuantFixesSaid :=
  OpenClaim.holds_of_wide 3 Try.f3 rfl rfl rfl rfl rfl rfl rfl ⟨rfl, rfl, rfl, rfl, rfl⟩ rfl rfl rfl rfl rfl (by kernel_rfl) Try.func3 (by kernel_rfl)
    (of_decide_eq_true (by kernel_rfl)) (by unfold Func.isWrapper; first | (rw [if_pos (by decide +kernel)]; kernel_rfl) | (rw [if_neg (by decide +kernel)]; exact ⟨rfl, rfl⟩))
    (fun os started H enc _ => quantFixes_lifted os started H enc)
#print axioms quantFixes_holds
end Go.Proofs.Ytlajalfdcfkmpaa
