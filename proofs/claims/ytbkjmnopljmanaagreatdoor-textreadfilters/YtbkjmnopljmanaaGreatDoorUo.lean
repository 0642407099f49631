/- The reference's reader: float, a number. -/
import Derived.Test.YtbkjmnopljmanaaGreatDoorUn
namespace Go.Proofs.YtbkjmnopljmanaaGreatDoor
open Go.RowKit

set_option maxRecDepth 100000 in
theorem rdfloat_num1 {w : World} {b a pl : Nat} {s : ByteArray} (h : QdAt w b s a 0 pl) (hm : bt s a ≠ 45) (hn : bt s a ≠ 110) (hi : bt s a ≠ 105) (h0 : bt s a = 48) (hx : bt s (a + 1) = 120) (p3 : Nat) (hM : MD (bt s) isHexB (a + 2) p3) (h6 : bt s p3 = 112) (h7 : bt s (p3 + 1) = 48) (x : Nat) (ok : Bool) (HV : ∀ w', Below w.heap.size w w' ∨ But (fun k => k = b) w w' → Calls Tryz.prog 71 #[.bool false, .string (s.extract (a + 2) p3), .bool false, .string (s.extract (p3 + 1) (p3 + 1 + 1))] w' fun e w'' => e = .returned (.tuple #[.float .f64 x, .bool ok]) ∧ Below w'.heap.size w' w'') :
    Calls Tryz.prog 56 #[.pointer (some ⟨b, 0, none⟩)] w fun e w' => e = .returned (.tuple #[.float .f64 x, .bool ok]) ∧ QdAt w' b s (p3 + 1 + 1) 0 pl ∧ But (fun k => k = b) w w' := by
  have R0 := hide h
  have B0 := hide (But.refl (fun k => k = b) w)
  have KV := hide HV
  clear h HV
  go_enter Tryz.func56, Tryz.ntmps56
  go_wp2_with (go_at_call 32; refine (is_no (c := 45) (by decide) (unhide R0) hm).mono ?_; rintro e w1 ⟨rfl, hr, hb⟩; have R1 := hide hr; have B1 := hide ((unhide B0).trans hb); clear hr hb; refine Hid.out ?_)
  refine hide ?_
  go_wp2_with (go_at_call 32; refine (is_no (c := 110) (by decide) (unhide R1) hn).mono ?_; rintro e w2 ⟨rfl, hr, hb⟩; have R2 := hide hr; have B2 := hide ((unhide B1).trans hb); clear hr hb; refine Hid.out ?_)
  refine hide ?_
  go_wp2_with (go_at_call 32; refine (is_no (c := 105) (by decide) (unhide R2) hi).mono ?_; rintro e w3 ⟨rfl, hr, hb⟩; have R3 := hide hr; have B3 := hide ((unhide B2).trans hb); clear hr hb; refine Hid.out ?_)
  refine hide ?_
  go_wp2_with (go_at_call 21; refine (want_ok (t := ⟨#[48, 120]⟩) (unhide R3) (by change 2 ≤ 100; omega) (stand2 (c := 48) (d := 120) h0 hx)).mono ?_; rintro e w4 ⟨rfl, hr, hb⟩; have R4 := hide hr; have B4 := hide ((unhide B3).trans hb); clear hr hb; refine Hid.out ?_)
  refine hide ?_
  go_wp2_with (go_at_call 70; refine (rrun_m (unhide R4) hM).mono ?_; rintro e w5 ⟨rfl, hr, hb⟩; have R5 := hide hr; have B5 := hide ((unhide B4).trans hb); clear hr hb; refine Hid.out ?_)
  refine hide ?_
  go_wp2_with (go_at_call 21; refine (want_ok (t := ⟨#[112]⟩) (unhide R5) (by decide) (stand1 h6)).mono ?_; rintro e w6 ⟨rfl, hr, hb⟩; have R6 := hide hr; have B6 := hide ((unhide B5).trans hb); clear hr hb; refine Hid.out ?_)
  refine hide ?_
  go_wp2_with (go_at_call 32; refine (is_no (c := 45) (by decide) (unhide R6) (show bt s (p3 + 1) ≠ 45 by rw [h7]; decide)).mono ?_; rintro e w7 ⟨rfl, hr, hb⟩; have R7 := hide hr; have B7 := hide ((unhide B6).trans hb); clear hr hb; refine Hid.out ?_)
  refine hide ?_
  go_wp2_with (go_at_call 70; refine (run_nought false (unhide R7) h7).mono ?_; rintro e w8 ⟨rfl, hr, hb⟩; have R8 := hide hr; have B8 := hide ((unhide B7).trans hb); clear hr hb; refine Hid.out ?_)
  refine hide ?_
  obtain ⟨d0, d1, d2, d3⟩ := (unhide R8).cells
  go_wp2_with (go_at_call 71; refine (unhide KV _ (.inr (unhide B8))).mono ?_; rintro e w9 ⟨rfl, hb⟩; have R9 := hide ((unhide R8).low hb); have B9 := hide ((unhide B8).trans (But.low hb)); clear hb)
  go_ret2
  exact ⟨rfl, unhide R9, unhide B9⟩
set_option maxRecDepth 100000 in
theorem rdfloat_num3 {w : World} {b a pl : Nat} {s : ByteArray} (h : QdAt w b s a 0 pl) (hm : bt s a ≠ 45) (hn : bt s a ≠ 110) (hi : bt s a ≠ 105) (h0 : bt s a = 48) (hx : bt s (a + 1) = 120) (p3 : Nat) (hM : MD (bt s) isHexB (a + 2) p3) (h6 : bt s p3 = 112) (p6 : Nat) (h7 : bt s (p3 + 1) ≠ 48) (h8 : bt s (p3 + 1) ≠ 45) (h9 : Run (bt s) isDecB (p3 + 1) p6) (x : Nat) (ok : Bool) (HV : ∀ w', Below w.heap.size w w' ∨ But (fun k => k = b) w w' → Calls Tryz.prog 71 #[.bool false, .string (s.extract (a + 2) p3), .bool false, .string (s.extract (p3 + 1) p6)] w' fun e w'' => e = .returned (.tuple #[.float .f64 x, .bool ok]) ∧ Below w'.heap.size w' w'') :
    Calls Tryz.prog 56 #[.pointer (some ⟨b, 0, none⟩)] w fun e w' => e = .returned (.tuple #[.float .f64 x, .bool ok]) ∧ QdAt w' b s p6 0 pl ∧ But (fun k => k = b) w w' := by
  have R0 := hide h
  have B0 := hide (But.refl (fun k => k = b) w)
  have KV := hide HV
  clear h HV
  go_enter Tryz.func56, Tryz.ntmps56
  go_wp2_with (go_at_call 32; refine (is_no (c := 45) (by decide) (unhide R0) hm).mono ?_; rintro e w1 ⟨rfl, hr, hb⟩; have R1 := hide hr; have B1 := hide ((unhide B0).trans hb); clear hr hb; refine Hid.out ?_)
  refine hide ?_
  go_wp2_with (go_at_call 32; refine (is_no (c := 110) (by decide) (unhide R1) hn).mono ?_; rintro e w2 ⟨rfl, hr, hb⟩; have R2 := hide hr; have B2 := hide ((unhide B1).trans hb); clear hr hb; refine Hid.out ?_)
  refine hide ?_
  go_wp2_with (go_at_call 32; refine (is_no (c := 105) (by decide) (unhide R2) hi).mono ?_; rintro e w3 ⟨rfl, hr, hb⟩; have R3 := hide hr; have B3 := hide ((unhide B2).trans hb); clear hr hb; refine Hid.out ?_)
  refine hide ?_
  go_wp2_with (go_at_call 21; refine (want_ok (t := ⟨#[48, 120]⟩) (unhide R3) (by change 2 ≤ 100; omega) (stand2 (c := 48) (d := 120) h0 hx)).mono ?_; rintro e w4 ⟨rfl, hr, hb⟩; have R4 := hide hr; have B4 := hide ((unhide B3).trans hb); clear hr hb; refine Hid.out ?_)
  refine hide ?_
  go_wp2_with (go_at_call 70; refine (rrun_m (unhide R4) hM).mono ?_; rintro e w5 ⟨rfl, hr, hb⟩; have R5 := hide hr; have B5 := hide ((unhide B4).trans hb); clear hr hb; refine Hid.out ?_)
  refine hide ?_
  go_wp2_with (go_at_call 21; refine (want_ok (t := ⟨#[112]⟩) (unhide R5) (by decide) (stand1 h6)).mono ?_; rintro e w6 ⟨rfl, hr, hb⟩; have R6 := hide hr; have B6 := hide ((unhide B5).trans hb); clear hr hb; refine Hid.out ?_)
  refine hide ?_
  go_wp2_with (go_at_call 32; refine (is_no (c := 45) (by decide) (unhide R6) h8).mono ?_; rintro e w7 ⟨rfl, hr, hb⟩; have R7 := hide hr; have B7 := hide ((unhide B6).trans hb); clear hr hb; refine Hid.out ?_)
  refine hide ?_
  go_wp2_with (go_at_call 70; refine (run_go false false (unhide R7) h7 h9).mono ?_; rintro e w8 ⟨rfl, hr, hb⟩; have R8 := hide hr; have B8 := hide ((unhide B7).trans hb); clear hr hb; refine Hid.out ?_)
  refine hide ?_
  obtain ⟨d0, d1, d2, d3⟩ := (unhide R8).cells
  go_wp2_with (go_at_call 71; refine (unhide KV _ (.inr (unhide B8))).mono ?_; rintro e w9 ⟨rfl, hb⟩; have R9 := hide ((unhide R8).low hb); have B9 := hide ((unhide B8).trans (But.low hb)); clear hb)
  go_ret2
  exact ⟨rfl, unhide R9, unhide B9⟩
set_option maxRecDepth 100000 in
theorem rdfloat_num2 {w : World} {b a pl : Nat} {s : ByteArray} (h : QdAt w b s a 0 pl) (hm : bt s a ≠ 45) (hn : bt s a ≠ 110) (hi : bt s a ≠ 105) (h0 : bt s a = 48) (hx : bt s (a + 1) = 120) (p3 : Nat) (hM : MD (bt s) isHexB (a + 2) p3) (h6 : bt s p3 = 112) (p6 : Nat) (h7 : bt s (p3 + 1) = 45) (h8 : bt s (p3 + 1 + 1) ≠ 48) (h10 : Run (bt s) isDecB (p3 + 1 + 1) p6) (x : Nat) (ok : Bool) (HV : ∀ w', Below w.heap.size w w' ∨ But (fun k => k = b) w w' → Calls Tryz.prog 71 #[.bool false, .string (s.extract (a + 2) p3), .bool true, .string (s.extract (p3 + 1 + 1) p6)] w' fun e w'' => e = .returned (.tuple #[.float .f64 x, .bool ok]) ∧ Below w'.heap.size w' w'') :
    Calls Tryz.prog 56 #[.pointer (some ⟨b, 0, none⟩)] w fun e w' => e = .returned (.tuple #[.float .f64 x, .bool ok]) ∧ QdAt w' b s p6 0 pl ∧ But (fun k => k = b) w w' := by
  have R0 := hide h
  have B0 := hide (But.refl (fun k => k = b) w)
  have KV := hide HV
  clear h HV
  go_enter Tryz.func56, Tryz.ntmps56
  go_wp2_with (go_at_call 32; refine (is_no (c := 45) (by decide) (unhide R0) hm).mono ?_; rintro e w1 ⟨rfl, hr, hb⟩; have R1 := hide hr; have B1 := hide ((unhide B0).trans hb); clear hr hb; refine Hid.out ?_)
  refine hide ?_
  go_wp2_with (go_at_call 32; refine (is_no (c := 110) (by decide) (unhide R1) hn).mono ?_; rintro e w2 ⟨rfl, hr, hb⟩; have R2 := hide hr; have B2 := hide ((unhide B1).trans hb); clear hr hb; refine Hid.out ?_)
  refine hide ?_
  go_wp2_with (go_at_call 32; refine (is_no (c := 105) (by decide) (unhide R2) hi).mono ?_; rintro e w3 ⟨rfl, hr, hb⟩; have R3 := hide hr; have B3 := hide ((unhide B2).trans hb); clear hr hb; refine Hid.out ?_)
  refine hide ?_
  go_wp2_with (go_at_call 21; refine (want_ok (t := ⟨#[48, 120]⟩) (unhide R3) (by change 2 ≤ 100; omega) (stand2 (c := 48) (d := 120) h0 hx)).mono ?_; rintro e w4 ⟨rfl, hr, hb⟩; have R4 := hide hr; have B4 := hide ((unhide B3).trans hb); clear hr hb; refine Hid.out ?_)
  refine hide ?_
  go_wp2_with (go_at_call 70; refine (rrun_m (unhide R4) hM).mono ?_; rintro e w5 ⟨rfl, hr, hb⟩; have R5 := hide hr; have B5 := hide ((unhide B4).trans hb); clear hr hb; refine Hid.out ?_)
  refine hide ?_
  go_wp2_with (go_at_call 21; refine (want_ok (t := ⟨#[112]⟩) (unhide R5) (by decide) (stand1 h6)).mono ?_; rintro e w6 ⟨rfl, hr, hb⟩; have R6 := hide hr; have B6 := hide ((unhide B5).trans hb); clear hr hb; refine Hid.out ?_)
  refine hide ?_
  go_wp2_with (go_at_call 32; refine (is_yes (c := 45) (by decide) (unhide R6) h7).mono ?_; rintro e w7 ⟨rfl, hr, hb⟩; have R7 := hide hr; have B7 := hide ((unhide B6).trans hb); clear hr hb; refine Hid.out ?_)
  refine hide ?_
  have f7 := (unhide R7).1.unfrozen 1
  have c7 := (unhide R7).cells.2.1
  have hlt : p3 + 1 < s.size := bt_lt.1 (by rw [h7]; decide)
  have h9 := (unhide R7).2.2
  obtain ⟨p4, hp4⟩ : ∃ p4, p4 = p3 + 1 := ⟨_, rfl⟩
  have E7 : p3 + (ByteArray.mk #[112]).size = p4 := hp4.symm
  rw [E7] at R7 c7
  have hw1 : IntKind.i64.wrap ((p4 : Int) + 1) = (p4 : Int) + 1 := by simp [IntKind.wrap_i64]; omega
  have R7' := hide ((unhide R7).step (by omega))
  have B7' := hide ((unhide B7).trans (But.setCell (fun k => k = b) w7 ⟨b, 1, none⟩ (.int .i64 ((p4 : Int) + 1)) rfl))
  rw [← hp4] at h8 h10 KV
  have HP4 := hide hp4
  clear hp4 E7
  go_wp2_with (go_at_call 70; refine (run_go false true (unhide R7') h8 h10).mono ?_; rintro e w8 ⟨rfl, hr, hb⟩; have R8 := hide hr; have B8 := hide ((unhide B7').trans hb); clear hr hb; refine Hid.out ?_)
  refine hide ?_
  obtain ⟨d0, d1, d2, d3⟩ := (unhide R8).cells
  go_wp2_with (go_at_call 71; refine (unhide KV _ (.inr (unhide B8))).mono ?_; rintro e w9 ⟨rfl, hb⟩; have R9 := hide ((unhide R8).low hb); have B9 := hide ((unhide B8).trans (But.low hb)); clear hb)
  go_ret2
  exact ⟨rfl, unhide R9, unhide B9⟩
end Go.Proofs.YtbkjmnopljmanaaGreatDoor
