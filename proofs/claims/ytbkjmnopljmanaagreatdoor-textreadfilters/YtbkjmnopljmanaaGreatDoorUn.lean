/- The reference's reader: float, at fault in the exponent. -/
import Derived.Test.YtbkjmnopljmanaaGreatDoorUm
namespace Go.Proofs.YtbkjmnopljmanaaGreatDoor
open Go.RowKit

set_option maxRecDepth 100000 in
theorem rdfloat_e_bad1 {w : World} {b a pl : Nat} {s : ByteArray} (h : QdAt w b s a 0 pl) (hm : bt s a ≠ 45) (hn : bt s a ≠ 110) (hi : bt s a ≠ 105) (h0 : bt s a = 48) (hx : bt s (a + 1) = 120) (p3 : Nat) (hM : MD (bt s) isHexB (a + 2) p3) (h6 : bt s p3 = 112) (h7 : bt s (p3 + 1) ≠ 45) (h8 : isDecB (bt s (p3 + 1)) = false) :
    Calls Tryz.prog 56 #[.pointer (some ⟨b, 0, none⟩)] w fun e w' => ∃ x ok a', e = .returned (.tuple #[.float .f64 x, .bool ok]) ∧ QdAt w' b s a' 12 (p3 + 1) ∧ But (fun k => k = b) w w' := by
  have R0 := hide h
  have B0 := hide (But.refl (fun k => k = b) w)
  clear h
  go_enter Tryz.func56, Tryz.ntmps56
  go_wp2_with (go_at_call 32; refine (is_no (c := 45) (by decide) (unhide R0) hm).mono ?_; rintro e w1 ⟨rfl, hr, hb⟩; have R1 := hide hr; have B1 := hide ((unhide B0).trans hb); clear hr hb; refine Hid.out ?_)
  refine hide ?_
  go_wp2_with (go_at_call 32; refine (is_no (c := 110) (by decide) (unhide R1) hn).mono ?_; rintro e w2 ⟨rfl, hr, hb⟩; have R2 := hide hr; have B2 := hide ((unhide B1).trans hb); clear hr hb; refine Hid.out ?_)
  refine hide ?_
  go_wp2_with (go_at_call 32; refine (is_no (c := 105) (by decide) (unhide R2) hi).mono ?_; rintro e w3 ⟨rfl, hr, hb⟩; have R3 := hide hr; have B3 := hide ((unhide B2).trans hb); clear hr hb; refine Hid.out ?_)
  refine hide ?_
  go_wp2_with (go_at_call 21; refine (want_ok (t := ⟨#[48, 120]⟩) (unhide R3) (by change 2 ≤ 100; omega) (stand2 (c := 48) (d := 120) h0 hx)).mono ?_; rintro e w4 ⟨rfl, hr, hb⟩; have R4 := hide hr; have B4 := hide ((unhide B3).trans hb); clear hr hb; refine Hid.out ?_)
  refine hide ?_
  go_wp2_with (go_at_call 70; refine (rrun_m (unhide R4) hM).mono ?_; rintro e w5 ⟨rfl, hr, hb⟩; have R5 := hide hr; have B5 := hide ((unhide B4).trans hb); clear hr hb; refine Hid.out ?_)
  refine hide ?_
  go_wp2_with (go_at_call 21; refine (want_ok (t := ⟨#[112]⟩) (unhide R5) (by decide) (stand1 h6)).mono ?_; rintro e w6 ⟨rfl, hr, hb⟩; have R6 := hide hr; have B6 := hide ((unhide B5).trans hb); clear hr hb; refine Hid.out ?_)
  refine hide ?_
  go_wp2_with (go_at_call 32; refine (is_no (c := 45) (by decide) (unhide R6) h7).mono ?_; rintro e w7 ⟨rfl, hr, hb⟩; have R7 := hide hr; have B7 := hide ((unhide B6).trans hb); clear hr hb; refine Hid.out ?_)
  refine hide ?_
  go_wp2_with (go_at_call 70; refine (run_none false false (unhide R7) h8).mono ?_; rintro e w8 ⟨⟨t8, rfl⟩, hr, hb⟩; have R8 := hide hr; have B8 := hide ((unhide B7).trans hb); clear hr hb; refine Hid.out ?_)
  refine hide ?_
  obtain ⟨d0, d1, d2, d3⟩ := (unhide R8).cells
  go_wp2_with fail
  go_ret2
  exact ⟨_, _, _, rfl, unhide R8, unhide B8⟩
set_option maxRecDepth 100000 in
theorem rdfloat_e_bad2 {w : World} {b a pl : Nat} {s : ByteArray} (h : QdAt w b s a 0 pl) (hm : bt s a ≠ 45) (hn : bt s a ≠ 110) (hi : bt s a ≠ 105) (h0 : bt s a = 48) (hx : bt s (a + 1) = 120) (p3 : Nat) (hM : MD (bt s) isHexB (a + 2) p3) (h6 : bt s p3 = 112) (h7 : bt s (p3 + 1) = 45) (h8 : isDecB (bt s (p3 + 1 + 1)) = false) :
    Calls Tryz.prog 56 #[.pointer (some ⟨b, 0, none⟩)] w fun e w' => ∃ x ok a', e = .returned (.tuple #[.float .f64 x, .bool ok]) ∧ QdAt w' b s a' 12 (p3 + 1 + 1) ∧ But (fun k => k = b) w w' := by
  have R0 := hide h
  have B0 := hide (But.refl (fun k => k = b) w)
  clear h
  go_enter Tryz.func56, Tryz.ntmps56
  go_wp2_with (go_at_call 32; refine (is_no (c := 45) (by decide) (unhide R0) hm).mono ?_; rintro e w1 ⟨rfl, hr, hb⟩; have R1 := hide hr; have B1 := hide ((unhide B0).trans hb); clear hr hb; refine Hid.out ?_)
  refine hide ?_
  go_wp2_with (go_at_call 32; refine (is_no (c := 110) (by decide) (unhide R1) hn).mono ?_; rintro e w2 ⟨rfl, hr, hb⟩; have R2 := hide hr; have B2 := hide ((unhide B1).trans hb); clear hr hb; refine Hid.out ?_)
  refine hide ?_
  go_wp2_with (go_at_call 32; refine (is_no (c := 105) (by decide) (unhide R2) hi).mono ?_; rintro e w3 ⟨rfl, hr, hb⟩; have R3 := hide hr; have B3 := hide ((unhide B2).trans hb); clear hr hb; refine Hid.out ?_)
  refine hide ?_
  go_wp2_with (go_at_call 21; refine (want_ok (t := ⟨#[48, 120]⟩) (unhide R3) (by change 2 ≤ 100; omega) (stand2 (c := 48) (d := 120) h0 hx)).mono ?_; rintro e w4 ⟨rfl, hr, hb⟩; have R4 := hide hr; have B4 := hide ((unhide B3).trans hb); clear hr hb; refine Hid.out ?_)
  refine hide ?_
  go_wp2_with (go_at_call 70; refine (rrun_m (unhide R4) hM).mono ?_; rintro e w5 ⟨rfl, hr, hb⟩; have R5 := hide hr; have B5 := hide ((unhide B4).trans hb); clear hr hb; refine Hid.out ?_)
  refine hide ?_
  go_wp2_with (go_at_call 21; refine (want_ok (t := ⟨#[112]⟩) (unhide R5) (by decide) (stand1 h6)).mono ?_; rintro e w6 ⟨rfl, hr, hb⟩; have R6 := hide hr; have B6 := hide ((unhide B5).trans hb); clear hr hb; refine Hid.out ?_)
  refine hide ?_
  go_wp2_with (go_at_call 32; refine (is_yes (c := 45) (by decide) (unhide R6) h7).mono ?_; rintro e w7 ⟨rfl, hr, hb⟩; have R7 := hide hr; have B7 := hide ((unhide B6).trans hb); clear hr hb; refine Hid.out ?_)
  refine hide ?_
  have f7 := (unhide R7).1.unfrozen 1
  have c7 := (unhide R7).cells.2.1
  have hlt : p3 + 1 < s.size := bt_lt.1 (by rw [h7]; decide)
  have h9 := (unhide R7).2.2
  obtain ⟨p4, hp4⟩ : ∃ p4, p4 = p3 + 1 := ⟨_, rfl⟩
  have E7 : p3 + (ByteArray.mk #[112]).size = p4 := hp4.symm
  rw [E7] at R7 c7
  have hw1 : IntKind.i64.wrap ((p4 : Int) + 1) = (p4 : Int) + 1 := by simp [IntKind.wrap_i64]; omega
  have R7' := hide ((unhide R7).step (by omega))
  have B7' := hide ((unhide B7).trans (But.setCell (fun k => k = b) w7 ⟨b, 1, none⟩ (.int .i64 ((p4 : Int) + 1)) rfl))
  rw [← hp4] at h8
  have HP4 := hide hp4
  clear hp4 E7
  go_wp2_with (go_at_call 70; refine (run_none false true (unhide R7') h8).mono ?_; rintro e w8 ⟨⟨t8, rfl⟩, hr, hb⟩; have R8 := hide hr; have B8 := hide ((unhide B7').trans hb); clear hr hb; refine Hid.out ?_)
  refine hide ?_
  obtain ⟨d0, d1, d2, d3⟩ := (unhide R8).cells
  go_wp2_with fail
  go_ret2
  rw [← unhide HP4]
  exact ⟨_, _, _, rfl, unhide R8, unhide B8⟩
set_option maxRecDepth 100000 in
theorem rdfloat_e_bad3 {w : World} {b a pl : Nat} {s : ByteArray} (h : QdAt w b s a 0 pl) (hm : bt s a ≠ 45) (hn : bt s a ≠ 110) (hi : bt s a ≠ 105) (h0 : bt s a = 48) (hx : bt s (a + 1) = 120) (p3 : Nat) (hM : MD (bt s) isHexB (a + 2) p3) (h6 : bt s p3 = 112) (h7 : bt s (p3 + 1) = 45) (h8 : bt s (p3 + 1 + 1) = 48) :
    Calls Tryz.prog 56 #[.pointer (some ⟨b, 0, none⟩)] w fun e w' => ∃ x ok a', e = .returned (.tuple #[.float .f64 x, .bool ok]) ∧ QdAt w' b s a' 12 (p3 + 1 + 1) ∧ But (fun k => k = b) w w' := by
  have R0 := hide h
  have B0 := hide (But.refl (fun k => k = b) w)
  clear h
  go_enter Tryz.func56, Tryz.ntmps56
  go_wp2_with (go_at_call 32; refine (is_no (c := 45) (by decide) (unhide R0) hm).mono ?_; rintro e w1 ⟨rfl, hr, hb⟩; have R1 := hide hr; have B1 := hide ((unhide B0).trans hb); clear hr hb; refine Hid.out ?_)
  refine hide ?_
  go_wp2_with (go_at_call 32; refine (is_no (c := 110) (by decide) (unhide R1) hn).mono ?_; rintro e w2 ⟨rfl, hr, hb⟩; have R2 := hide hr; have B2 := hide ((unhide B1).trans hb); clear hr hb; refine Hid.out ?_)
  refine hide ?_
  go_wp2_with (go_at_call 32; refine (is_no (c := 105) (by decide) (unhide R2) hi).mono ?_; rintro e w3 ⟨rfl, hr, hb⟩; have R3 := hide hr; have B3 := hide ((unhide B2).trans hb); clear hr hb; refine Hid.out ?_)
  refine hide ?_
  go_wp2_with (go_at_call 21; refine (want_ok (t := ⟨#[48, 120]⟩) (unhide R3) (by change 2 ≤ 100; omega) (stand2 (c := 48) (d := 120) h0 hx)).mono ?_; rintro e w4 ⟨rfl, hr, hb⟩; have R4 := hide hr; have B4 := hide ((unhide B3).trans hb); clear hr hb; refine Hid.out ?_)
  refine hide ?_
  go_wp2_with (go_at_call 70; refine (rrun_m (unhide R4) hM).mono ?_; rintro e w5 ⟨rfl, hr, hb⟩; have R5 := hide hr; have B5 := hide ((unhide B4).trans hb); clear hr hb; refine Hid.out ?_)
  refine hide ?_
  go_wp2_with (go_at_call 21; refine (want_ok (t := ⟨#[112]⟩) (unhide R5) (by decide) (stand1 h6)).mono ?_; rintro e w6 ⟨rfl, hr, hb⟩; have R6 := hide hr; have B6 := hide ((unhide B5).trans hb); clear hr hb; refine Hid.out ?_)
  refine hide ?_
  go_wp2_with (go_at_call 32; refine (is_yes (c := 45) (by decide) (unhide R6) h7).mono ?_; rintro e w7 ⟨rfl, hr, hb⟩; have R7 := hide hr; have B7 := hide ((unhide B6).trans hb); clear hr hb; refine Hid.out ?_)
  refine hide ?_
  have f7 := (unhide R7).1.unfrozen 1
  have c7 := (unhide R7).cells.2.1
  have hlt : p3 + 1 < s.size := bt_lt.1 (by rw [h7]; decide)
  have h9 := (unhide R7).2.2
  obtain ⟨p4, hp4⟩ : ∃ p4, p4 = p3 + 1 := ⟨_, rfl⟩
  have E7 : p3 + (ByteArray.mk #[112]).size = p4 := hp4.symm
  rw [E7] at R7 c7
  have hw1 : IntKind.i64.wrap ((p4 : Int) + 1) = (p4 : Int) + 1 := by simp [IntKind.wrap_i64]; omega
  have R7' := hide ((unhide R7).step (by omega))
  have B7' := hide ((unhide B7).trans (But.setCell (fun k => k = b) w7 ⟨b, 1, none⟩ (.int .i64 ((p4 : Int) + 1)) rfl))
  rw [← hp4] at h8
  have HP4 := hide hp4
  clear hp4 E7
  go_wp2_with (go_at_call 70; refine (run_zero false (unhide R7') h8).mono ?_; rintro e w8 ⟨⟨t8, rfl⟩, hr, hb⟩; have R8 := hide hr; have B8 := hide ((unhide B7').trans hb); clear hr hb; refine Hid.out ?_)
  refine hide ?_
  obtain ⟨d0, d1, d2, d3⟩ := (unhide R8).cells
  go_wp2_with fail
  go_ret2
  rw [← unhide HP4]
  exact ⟨_, _, _, rfl, unhide R8, unhide B8⟩
end Go.Proofs.YtbkjmnopljmanaaGreatDoor
