/- value of a text's reader: numbers. -/
import Derived.Test.YtbkjmnopljmanaaGreatDoorTv
import Derived.Deep.DeepCutAuto
import Derived.Deep.CutBlock
namespace Go.Proofs.YtbkjmnopljmanaaGreatDoor
open Go.RowKit

/-- A nought alone, or digits without one in front. -/
def MD (f : Nat → Nat) (D : Nat → Bool) (p q : Nat) : Prop := (f p = 48 ∧ q = p + 1) ∨ (f p ≠ 48 ∧ Run f D p q)
/-- The exponent's text, and where its digits begin. -/
def ED (f : Nat → Nat) (p q : Nat) : Prop := (f p = 48 ∧ q = p + 1) ∨ (f p = 45 ∧ f (p + 1) ≠ 48 ∧ Run f isDecB (p + 1) q) ∨ (f p ≠ 48 ∧ f p ≠ 45 ∧ Run f isDecB p q)
def EBad (f : Nat → Nat) (p q : Nat) : Prop := (f p = 45 ∧ (isDecB (f (p + 1)) = false ∨ f (p + 1) = 48) ∧ q = p + 1) ∨ (f p ≠ 45 ∧ isDecB (f p) = false ∧ q = p)
theorem may_one {w : World} {b p : Nat} {s : ByteArray} (c : UInt8) (h : RdAt w b s p) (z : Bool) (hz : z = among ⟨#[c]⟩ (bt s p)) :
    Calls Tryz.prog 45 #[.pointer (some ⟨b, 0, none⟩), .string ⟨#[c]⟩] w fun e w' => e = .returned (.bool z) ∧ RdAt w' b s (if z then p + 1 else p) ∧ But (fun k => k = b) w w' := by
  cases z
  · exact may_no h hz.symm
  · exact may_yes h hz.symm
theorem RdAt.low {w w' : World} {b p : Nat} {s : ByteArray} (h : RdAt w b s p) (hb : Below w.heap.size w w') : RdAt w' b s p := ⟨h.1.below hb h.1.lt, h.2⟩
set_option maxHeartbeats 2000000 in
set_option maxRecDepth 100000 in
theorem value_p_bad {w : World} {b p : Nat} {s : ByteArray} (h : RdAt w b s p) (hm : bt s p ≠ 45) (hn : bt s p ≠ 110) (hi : bt s p ≠ 105) (h0 : bt s p = 48) (hx : bt s (p + 1) = 120) (p2 p3 : Nat) (hp2 : p2 = p + 2) (hM : MD (bt s) isHexB p2 p3) (hle : p2 ≤ p3) (h6 : bt s p3 ≠ 112) :
    Calls Tryz.prog 67 #[.pointer (some ⟨b, 0, none⟩)] w fun e w' => e = .panicked (pan p3 12) ∧ But (fun k => k = b) w w' := by
  have R0 := hide h
  have B0 := hide (But.refl (fun k => k = b) w)
  clear h
  go_enter Tryz.func67, Tryz.ntmps67
  go_wp2_with (go_at_call 45; refine (may_no (t := ⟨#[45]⟩) (unhide R0) (no1 (c := 45) hm)).mono ?_; rintro e w1 ⟨rfl, hr, hb⟩; have R1 := hide hr; have B1 := hide ((unhide B0).trans hb); clear hr hb; refine Hid.out ?_)
  refine hide ?_
  go_wp2_with (go_at_call 45; refine (may_no (t := ⟨#[110]⟩) (unhide R1) (no1 (c := 110) hn)).mono ?_; rintro e w2 ⟨rfl, hr, hb⟩; have R2 := hide hr; have B2 := hide ((unhide B1).trans hb); clear hr hb; refine Hid.out ?_)
  refine hide ?_
  go_wp2_with (go_at_call 45; refine (may_no (t := ⟨#[105]⟩) (unhide R2) (no1 (c := 105) hi)).mono ?_; rintro e w3 ⟨rfl, hr, hb⟩; have R3 := hide hr; have B3 := hide ((unhide B2).trans hb); clear hr hb; refine Hid.out ?_)
  refine hide ?_
  go_wp2_with (go_at_call 43; refine (must2_ok 48 120 (unhide R3) h0 hx).mono ?_; rintro e w4 ⟨rfl, hr, hb⟩; have R4 := hide hr; have B4 := hide ((unhide B3).trans hb); clear hr hb; refine Hid.out ?_)
  refine hide ?_
  rw [← hp2] at R4
  have HP2 := hide hp2
  clear hp2
  have c1 := (unhide R4).1.cell 1 (v := .int .i64 (p2 : Int)) rfl
  obtain ⟨z, hz⟩ : ∃ z, z = among ⟨#[48]⟩ (bt s p2) := ⟨_, rfl⟩
  have Hz := hide hz
  clear hz
  go_upto_if 40 with (go_at_call 45; refine (may_one 48 (unhide R4) z (unhide Hz)).mono ?_; rintro e w5 ⟨rfl, hr, hb⟩; have R5 := hide hr; have B5 := hide ((unhide B4).trans hb); clear hr hb)
  go_cut [40] (fun _ wx => Hid (RdAt wx b s p3 ∧ But (fun k => k = b) w wx))
  case first =>
    rcases hM with ⟨h4, h5⟩ | ⟨h4, h5⟩
    · obtain rfl : z = true := by rw [unhide Hz]; exact yes1 h4
      subst h5
      go_wp2_with fail
      go_meet
      exact ⟨unhide R5, unhide B5⟩
    · obtain rfl : z = false := by rw [unhide Hz]; exact no1 h4
      go_wp2_with (go_at_call 82; refine (hex_ok (unhide R5) h4 h5).mono ?_; rintro e w6 ⟨rfl, hr, hb⟩; have R6 := hide hr; have B6 := hide ((unhide B5).trans hb); clear hr hb)
      go_meet
      exact ⟨unhide R6, unhide B6⟩
  case rest =>
  clear R5 B5 Hz hM c1
  have R6 := hide (unhide hcut).1
  have B6 := hide (unhide hcut).2
  clear hcut
  have c0 := (unhide R6).1.cell 0 (v := .string s) rfl
  have c1 := (unhide R6).1.cell 1 (v := .int .i64 (p3 : Int)) rfl
  have l1 : (p2 : Int) ≤ (p3 : Int) := by have := hle; omega
  have l2 : (p3 : Int) ≤ (s.size : Int) := by have := (unhide R6).2.1; omega
  go_wp2_with fail
  go_quiet (fail)
  have R7 := hide ((unhide R6).drew nq)
  have B7 := hide ((unhide B6).trans (But.still (still_drewN _ nq)))
  clear c0 c1
  go_wp2_with (go_at_call 43; refine (must1_bad 112 (unhide R7) h6).mono ?_; rintro e w8 ⟨rfl, hb⟩; have B8 := hide ((unhide B7).trans hb); clear hb)
  exact ⟨rfl, rfl, unhide B8⟩
set_option maxHeartbeats 2000000 in
set_option maxRecDepth 100000 in
theorem value_e_bad {w : World} {b p : Nat} {s : ByteArray} (h : RdAt w b s p) (hm : bt s p ≠ 45) (hn : bt s p ≠ 110) (hi : bt s p ≠ 105) (h0 : bt s p = 48) (hx : bt s (p + 1) = 120) (p2 p3 : Nat) (hp2 : p2 = p + 2) (hM : MD (bt s) isHexB p2 p3) (hle : p2 ≤ p3) (h6 : bt s p3 = 112) (p4 : Nat) (hp4 : p4 = p3 + 1) (q : Nat) (hE : EBad (bt s) p4 q) :
    Calls Tryz.prog 67 #[.pointer (some ⟨b, 0, none⟩)] w fun e w' => e = .panicked (pan q 12) ∧ But (fun k => k = b) w w' := by
  have R0 := hide h
  have B0 := hide (But.refl (fun k => k = b) w)
  clear h
  go_enter Tryz.func67, Tryz.ntmps67
  go_wp2_with (go_at_call 45; refine (may_no (t := ⟨#[45]⟩) (unhide R0) (no1 (c := 45) hm)).mono ?_; rintro e w1 ⟨rfl, hr, hb⟩; have R1 := hide hr; have B1 := hide ((unhide B0).trans hb); clear hr hb; refine Hid.out ?_)
  refine hide ?_
  go_wp2_with (go_at_call 45; refine (may_no (t := ⟨#[110]⟩) (unhide R1) (no1 (c := 110) hn)).mono ?_; rintro e w2 ⟨rfl, hr, hb⟩; have R2 := hide hr; have B2 := hide ((unhide B1).trans hb); clear hr hb; refine Hid.out ?_)
  refine hide ?_
  go_wp2_with (go_at_call 45; refine (may_no (t := ⟨#[105]⟩) (unhide R2) (no1 (c := 105) hi)).mono ?_; rintro e w3 ⟨rfl, hr, hb⟩; have R3 := hide hr; have B3 := hide ((unhide B2).trans hb); clear hr hb; refine Hid.out ?_)
  refine hide ?_
  go_wp2_with (go_at_call 43; refine (must2_ok 48 120 (unhide R3) h0 hx).mono ?_; rintro e w4 ⟨rfl, hr, hb⟩; have R4 := hide hr; have B4 := hide ((unhide B3).trans hb); clear hr hb; refine Hid.out ?_)
  refine hide ?_
  rw [← hp2] at R4
  have HP2 := hide hp2
  clear hp2
  have c1 := (unhide R4).1.cell 1 (v := .int .i64 (p2 : Int)) rfl
  obtain ⟨z, hz⟩ : ∃ z, z = among ⟨#[48]⟩ (bt s p2) := ⟨_, rfl⟩
  have Hz := hide hz
  clear hz
  go_upto_if 40 with (go_at_call 45; refine (may_one 48 (unhide R4) z (unhide Hz)).mono ?_; rintro e w5 ⟨rfl, hr, hb⟩; have R5 := hide hr; have B5 := hide ((unhide B4).trans hb); clear hr hb)
  go_cut [40] (fun _ wx => Hid (RdAt wx b s p3 ∧ But (fun k => k = b) w wx))
  case first =>
    rcases hM with ⟨h4, h5⟩ | ⟨h4, h5⟩
    · obtain rfl : z = true := by rw [unhide Hz]; exact yes1 h4
      subst h5
      go_wp2_with fail
      go_meet
      exact ⟨unhide R5, unhide B5⟩
    · obtain rfl : z = false := by rw [unhide Hz]; exact no1 h4
      go_wp2_with (go_at_call 82; refine (hex_ok (unhide R5) h4 h5).mono ?_; rintro e w6 ⟨rfl, hr, hb⟩; have R6 := hide hr; have B6 := hide ((unhide B5).trans hb); clear hr hb)
      go_meet
      exact ⟨unhide R6, unhide B6⟩
  case rest =>
  clear R5 B5 Hz hM c1
  have R6 := hide (unhide hcut).1
  have B6 := hide (unhide hcut).2
  clear hcut
  have c0 := (unhide R6).1.cell 0 (v := .string s) rfl
  have c1 := (unhide R6).1.cell 1 (v := .int .i64 (p3 : Int)) rfl
  have l1 : (p2 : Int) ≤ (p3 : Int) := by have := hle; omega
  have l2 : (p3 : Int) ≤ (s.size : Int) := by have := (unhide R6).2.1; omega
  go_wp2_with fail
  go_quiet (fail)
  have R7 := hide ((unhide R6).drew nq)
  have B7 := hide ((unhide B6).trans (But.still (still_drewN _ nq)))
  clear c0 c1
  go_wp2_with (go_at_call 43; refine (must1_ok 112 (unhide R7) h6).mono ?_; rintro e w8 ⟨rfl, hr, hb⟩; have R8 := hide hr; have B8 := hide ((unhide B7).trans hb); clear hr hb; refine Hid.out ?_)
  refine hide ?_
  rw [← hp4] at R8
  have HP4 := hide hp4
  clear hp4
  have c1 := (unhide R8).1.cell 1 (v := .int .i64 (p4 : Int)) rfl
  rcases hE with ⟨h7, h8, h9⟩ | ⟨h7, h8, h9⟩
  · have HQ := hide h9
    clear h9
    go_wp2_with (go_at_call 45; refine (may_no (t := ⟨#[48]⟩) (unhide R8) (no1 (c := 48) (by rw [h7]; decide))).mono ?_; rintro e w9 ⟨rfl, hr, hb⟩; have R9 := hide hr; have B9 := hide ((unhide B8).trans hb); clear hr hb; refine Hid.out ?_)
    refine hide ?_
    go_wp2_with (go_at_call 45; refine (may_yes (t := ⟨#[45]⟩) (unhide R9) (yes1 (c := 45) h7)).mono ?_; rintro e w10 ⟨rfl, hr, hb⟩; have R10 := hide hr; have B10 := hide ((unhide B9).trans hb); clear hr hb; refine Hid.out ?_)
    refine hide ?_
    go_wp2_with (go_at_call 82; refine (dec_bad (unhide R10) h8).mono ?_; rintro e w11 ⟨rfl, hb⟩; have B11 := hide ((unhide B10).trans hb); clear hb)
    exact ⟨rfl, by rw [unhide HQ], unhide B11⟩
  · have HQ := hide h9
    clear h9
    go_wp2_with (go_at_call 45; refine (may_no (t := ⟨#[48]⟩) (unhide R8) (no1 (c := 48) (fun e => by rw [e] at h8; cases h8))).mono ?_; rintro e w9 ⟨rfl, hr, hb⟩; have R9 := hide hr; have B9 := hide ((unhide B8).trans hb); clear hr hb; refine Hid.out ?_)
    refine hide ?_
    go_wp2_with (go_at_call 45; refine (may_no (t := ⟨#[45]⟩) (unhide R9) (no1 (c := 45) h7)).mono ?_; rintro e w10 ⟨rfl, hr, hb⟩; have R10 := hide hr; have B10 := hide ((unhide B9).trans hb); clear hr hb; refine Hid.out ?_)
    refine hide ?_
    go_wp2_with (go_at_call 82; refine (dec_bad (unhide R10) (.inl h8)).mono ?_; rintro e w11 ⟨rfl, hb⟩; have B11 := hide ((unhide B10).trans hb); clear hb)
    exact ⟨rfl, by rw [unhide HQ], unhide B11⟩
set_option maxHeartbeats 2000000 in
set_option maxRecDepth 100000 in
theorem value_num {w : World} {b p : Nat} {s : ByteArray} (h : RdAt w b s p) (hm : bt s p ≠ 45) (hn : bt s p ≠ 110) (hi : bt s p ≠ 105) (h0 : bt s p = 48) (hx : bt s (p + 1) = 120) (p2 p3 : Nat) (hp2 : p2 = p + 2) (hM : MD (bt s) isHexB p2 p3) (hle : p2 ≤ p3) (h6 : bt s p3 = 112) (p4 : Nat) (hp4 : p4 = p3 + 1) (p6 : Nat) (hE : ED (bt s) p4 p6) (hle2 : p4 ≤ p6) (much : Nat) (power : Int) (hmu : much < 18446744073709551616) (B : Nat) (hB : B ≤ b) (hG : Gl B w) (HPU : ∀ w', Gl B w' → B ≤ w'.heap.size → Calls Tryz.prog 83 #[.string (s.extract p2 p3), .int .i64 16, .int .i64 64] w' fun e w'' => ∃ ev, e = .returned (.tuple #[.int .u64 (much : Nat), ev]) ∧ Below w'.heap.size w' w'') (HAT : ∀ w', Gl B w' → B ≤ w'.heap.size → Calls Tryz.prog 84 #[.string (s.extract p4 p6)] w' fun e w'' => ∃ ev, e = .returned (.tuple #[.int .i64 power, ev]) ∧ Below w'.heap.size w' w'') :
    Calls Tryz.prog 67 #[.pointer (some ⟨b, 0, none⟩)] w fun e w' => e = .returned (.float .f64 (putBits false (joinRung much power))) ∧ RdAt w' b s p6 ∧ But (fun k => k = b) w w' := by
  have R0 := hide h
  have B0 := hide (But.refl (fun k => k = b) w)
  clear h
  go_enter Tryz.func67, Tryz.ntmps67
  have KPU := hide HPU
  have KAT := hide HAT
  have HG := hide hG
  clear HPU HAT hG
  go_wp2_with (go_at_call 45; refine (may_no (t := ⟨#[45]⟩) (unhide R0) (no1 (c := 45) hm)).mono ?_; rintro e w1 ⟨rfl, hr, hb⟩; have R1 := hide hr; have B1 := hide ((unhide B0).trans hb); clear hr hb; refine Hid.out ?_)
  refine hide ?_
  go_wp2_with (go_at_call 45; refine (may_no (t := ⟨#[110]⟩) (unhide R1) (no1 (c := 110) hn)).mono ?_; rintro e w2 ⟨rfl, hr, hb⟩; have R2 := hide hr; have B2 := hide ((unhide B1).trans hb); clear hr hb; refine Hid.out ?_)
  refine hide ?_
  go_wp2_with (go_at_call 45; refine (may_no (t := ⟨#[105]⟩) (unhide R2) (no1 (c := 105) hi)).mono ?_; rintro e w3 ⟨rfl, hr, hb⟩; have R3 := hide hr; have B3 := hide ((unhide B2).trans hb); clear hr hb; refine Hid.out ?_)
  refine hide ?_
  go_wp2_with (go_at_call 43; refine (must2_ok 48 120 (unhide R3) h0 hx).mono ?_; rintro e w4 ⟨rfl, hr, hb⟩; have R4 := hide hr; have B4 := hide ((unhide B3).trans hb); clear hr hb; refine Hid.out ?_)
  refine hide ?_
  rw [← hp2] at R4
  have HP2 := hide hp2
  clear hp2
  have c1 := (unhide R4).1.cell 1 (v := .int .i64 (p2 : Int)) rfl
  obtain ⟨z, hz⟩ : ∃ z, z = among ⟨#[48]⟩ (bt s p2) := ⟨_, rfl⟩
  have Hz := hide hz
  clear hz
  go_upto_if 40 with (go_at_call 45; refine (may_one 48 (unhide R4) z (unhide Hz)).mono ?_; rintro e w5 ⟨rfl, hr, hb⟩; have R5 := hide hr; have B5 := hide ((unhide B4).trans hb); clear hr hb)
  go_cut [40] (fun _ wx => Hid (RdAt wx b s p3 ∧ But (fun k => k = b) w wx))
  case first =>
    rcases hM with ⟨h4, h5⟩ | ⟨h4, h5⟩
    · obtain rfl : z = true := by rw [unhide Hz]; exact yes1 h4
      subst h5
      go_wp2_with fail
      go_meet
      exact ⟨unhide R5, unhide B5⟩
    · obtain rfl : z = false := by rw [unhide Hz]; exact no1 h4
      go_wp2_with (go_at_call 82; refine (hex_ok (unhide R5) h4 h5).mono ?_; rintro e w6 ⟨rfl, hr, hb⟩; have R6 := hide hr; have B6 := hide ((unhide B5).trans hb); clear hr hb)
      go_meet
      exact ⟨unhide R6, unhide B6⟩
  case rest =>
  clear R5 B5 Hz hM c1
  have R6 := hide (unhide hcut).1
  have B6 := hide (unhide hcut).2
  clear hcut
  have c0 := (unhide R6).1.cell 0 (v := .string s) rfl
  have c1 := (unhide R6).1.cell 1 (v := .int .i64 (p3 : Int)) rfl
  have l1 : (p2 : Int) ≤ (p3 : Int) := by have := hle; omega
  have l2 : (p3 : Int) ≤ (s.size : Int) := by have := (unhide R6).2.1; omega
  go_wp2_with fail
  go_quiet (fail)
  have R7 := hide ((unhide R6).drew nq)
  have B7 := hide ((unhide B6).trans (But.still (still_drewN _ nq)))
  clear c0 c1
  go_wp2_with (go_at_call 43; refine (must1_ok 112 (unhide R7) h6).mono ?_; rintro e w8 ⟨rfl, hr, hb⟩; have R8 := hide hr; have B8 := hide ((unhide B7).trans hb); clear hr hb; refine Hid.out ?_)
  refine hide ?_
  rw [← hp4] at R8
  have HP4 := hide hp4
  clear hp4
  have c1 := (unhide R8).1.cell 1 (v := .int .i64 (p4 : Int)) rfl
  obtain ⟨z, hz⟩ : ∃ z, z = among ⟨#[48]⟩ (bt s p4) := ⟨_, rfl⟩
  have Hz := hide hz
  clear hz
  go_upto_if 61 with (go_at_call 45; refine (may_one 48 (unhide R8) z (unhide Hz)).mono ?_; rintro e w9 ⟨rfl, hr, hb⟩; have R9 := hide hr; have B9 := hide ((unhide B8).trans hb); clear hr hb)
  go_cut [61] (fun _ wx => Hid (RdAt wx b s p6 ∧ But (fun k => k = b) w wx))
  case first =>
    rcases hE with ⟨h7, h8⟩ | ⟨h7, h8, h9⟩ | ⟨h7, h8, h9⟩
    · obtain rfl : z = true := by rw [unhide Hz]; exact yes1 h7
      subst h8
      go_wp2_with fail
      go_meet
      exact ⟨unhide R9, unhide B9⟩
    · obtain rfl : z = false := by rw [unhide Hz]; exact no1 (by rw [h7]; decide)
      go_wp2_with (first
        | (go_at_call 45; refine (may_yes (t := ⟨#[45]⟩) (unhide R9) (yes1 (c := 45) h7)).mono ?_; rintro e w10 ⟨rfl, hr, hb⟩; have R10 := hide hr; have B10 := hide ((unhide B9).trans hb); clear hr hb)
        | (go_at_call 82; refine (dec_ok (unhide R10) h8 h9).mono ?_; rintro e w11 ⟨rfl, hr, hb⟩; have R11 := hide hr; have B11 := hide ((unhide B10).trans hb); clear hr hb))
      go_meet
      exact ⟨unhide R11, unhide B11⟩
    · obtain rfl : z = false := by rw [unhide Hz]; exact no1 h7
      go_wp2_with (first
        | (go_at_call 45; refine (may_no (t := ⟨#[45]⟩) (unhide R9) (no1 (c := 45) h8)).mono ?_; rintro e w10 ⟨rfl, hr, hb⟩; have R10 := hide hr; have B10 := hide ((unhide B9).trans hb); clear hr hb)
        | (go_at_call 82; refine (dec_ok (unhide R10) h7 h9).mono ?_; rintro e w11 ⟨rfl, hr, hb⟩; have R11 := hide hr; have B11 := hide ((unhide B10).trans hb); clear hr hb))
      go_meet
      exact ⟨unhide R11, unhide B11⟩
  case rest =>
  clear R9 B9 Hz hE c1
  have R10 := hide (unhide hcut).1
  have B10 := hide (unhide hcut).2
  clear hcut
  have c0 := (unhide R10).1.cell 0 (v := .string s) rfl
  have c1 := (unhide R10).1.cell 1 (v := .int .i64 (p6 : Int)) rfl
  have l3 : (p4 : Int) ≤ (p6 : Int) := by omega
  have l4 : (p6 : Int) ≤ (s.size : Int) := by have := (unhide R10).2.1; omega
  go_wp2_with fail
  go_quiet (fail)
  have hs0 : B ≤ w.heap.size := Nat.le_trans hB (Nat.le_of_lt (unhide R0).1.lt)
  have RA := hide ((unhide R10).drew nq)
  have BA := hide ((unhide B10).trans (But.still (still_drewN _ nq)))
  generalize wc.drewN nq = wa at *
  have BB := hide ((unhide BA).below (Below.refl B w) hs0 (fun k e => by rw [e]; exact hB))
  have GA := hide ((unhide HG).on (unhide BB))
  have sa : B ≤ wa.heap.size := Nat.le_trans hs0 (unhide BB).size
  clear c0 c1
  go_wp2_with (go_at_call 83; refine (unhide KPU wa (unhide GA) sa).mono ?_; rintro e wb ⟨ev, rfl, hb⟩; have HW1 := hide hb; clear hb; refine Hid.out ?_)
  refine hide ?_
  have GB := hide ((unhide GA).on ((unhide HW1).mono sa))
  have sb : B ≤ wb.heap.size := Nat.le_trans sa (unhide HW1).size
  go_wp2_with (go_at_call 84; refine (unhide KAT wb (unhide GB) sb).mono ?_; rintro e wd ⟨ev2, rfl, hb⟩; have HW2 := hide hb; clear hb; refine Hid.out ?_)
  refine hide ?_
  go_wp2_with (go_at_call 85; refine (join_any _ (much : Int) power (by omega) (by omega) wd).mono ?_; rintro e wj ⟨rfl, hw'⟩; obtain rfl := hw'.symm)
  go_ret
  exact ⟨rfl, ((unhide RA).low (unhide HW1)).low (unhide HW2), ((unhide BA).trans (But.low (unhide HW1))).trans (But.low (unhide HW2))⟩
set_option maxHeartbeats 2000000 in
set_option maxRecDepth 100000 in
theorem value_p_badN {w : World} {b p : Nat} {s : ByteArray} (h : RdAt w b s p) (hm : bt s p = 45) (hi : bt s (p + 1) ≠ 105) (h0 : bt s (p + 1) = 48) (hx : bt s ((p + 1) + 1) = 120) (p2 p3 : Nat) (hp2 : p2 = (p + 1) + 2) (hM : MD (bt s) isHexB p2 p3) (hle : p2 ≤ p3) (h6 : bt s p3 ≠ 112) :
    Calls Tryz.prog 67 #[.pointer (some ⟨b, 0, none⟩)] w fun e w' => e = .panicked (pan p3 12) ∧ But (fun k => k = b) w w' := by
  have R0 := hide h
  have B0 := hide (But.refl (fun k => k = b) w)
  clear h
  go_enter Tryz.func67, Tryz.ntmps67
  go_wp2_with (go_at_call 45; refine (may_yes (t := ⟨#[45]⟩) (unhide R0) (yes1 (c := 45) hm)).mono ?_; rintro e w1 ⟨rfl, hr, hb⟩; have R1 := hide hr; have B1 := hide ((unhide B0).trans hb); clear hr hb; refine Hid.out ?_)
  refine hide ?_
  go_wp2_with (go_at_call 45; refine (may_no (t := ⟨#[105]⟩) (unhide R1) (no1 (c := 105) hi)).mono ?_; rintro e w2 ⟨rfl, hr, hb⟩; have R2 := hide hr; have B2 := hide ((unhide B1).trans hb); clear hr hb; refine Hid.out ?_)
  refine hide ?_
  go_wp2_with (go_at_call 43; refine (must2_ok 48 120 (unhide R2) h0 hx).mono ?_; rintro e w3 ⟨rfl, hr, hb⟩; have R3 := hide hr; have B3 := hide ((unhide B2).trans hb); clear hr hb; refine Hid.out ?_)
  refine hide ?_
  rw [← hp2] at R3
  have HP2 := hide hp2
  clear hp2
  have c1 := (unhide R3).1.cell 1 (v := .int .i64 (p2 : Int)) rfl
  obtain ⟨z, hz⟩ : ∃ z, z = among ⟨#[48]⟩ (bt s p2) := ⟨_, rfl⟩
  have Hz := hide hz
  clear hz
  go_upto_if 40 with (go_at_call 45; refine (may_one 48 (unhide R3) z (unhide Hz)).mono ?_; rintro e w4 ⟨rfl, hr, hb⟩; have R4 := hide hr; have B4 := hide ((unhide B3).trans hb); clear hr hb)
  go_cut [40] (fun _ wx => Hid (RdAt wx b s p3 ∧ But (fun k => k = b) w wx))
  case first =>
    rcases hM with ⟨h4, h5⟩ | ⟨h4, h5⟩
    · obtain rfl : z = true := by rw [unhide Hz]; exact yes1 h4
      subst h5
      go_wp2_with fail
      go_meet
      exact ⟨unhide R4, unhide B4⟩
    · obtain rfl : z = false := by rw [unhide Hz]; exact no1 h4
      go_wp2_with (go_at_call 82; refine (hex_ok (unhide R4) h4 h5).mono ?_; rintro e w5 ⟨rfl, hr, hb⟩; have R5 := hide hr; have B5 := hide ((unhide B4).trans hb); clear hr hb)
      go_meet
      exact ⟨unhide R5, unhide B5⟩
  case rest =>
  clear R4 B4 Hz hM c1
  have R5 := hide (unhide hcut).1
  have B5 := hide (unhide hcut).2
  clear hcut
  have c0 := (unhide R5).1.cell 0 (v := .string s) rfl
  have c1 := (unhide R5).1.cell 1 (v := .int .i64 (p3 : Int)) rfl
  have l1 : (p2 : Int) ≤ (p3 : Int) := by have := hle; omega
  have l2 : (p3 : Int) ≤ (s.size : Int) := by have := (unhide R5).2.1; omega
  go_wp2_with fail
  go_quiet (fail)
  have R6 := hide ((unhide R5).drew nq)
  have B6 := hide ((unhide B5).trans (But.still (still_drewN _ nq)))
  clear c0 c1
  go_wp2_with (go_at_call 43; refine (must1_bad 112 (unhide R6) h6).mono ?_; rintro e w7 ⟨rfl, hb⟩; have B7 := hide ((unhide B6).trans hb); clear hb)
  exact ⟨rfl, rfl, unhide B7⟩
set_option maxHeartbeats 2000000 in
set_option maxRecDepth 100000 in
theorem value_e_badN {w : World} {b p : Nat} {s : ByteArray} (h : RdAt w b s p) (hm : bt s p = 45) (hi : bt s (p + 1) ≠ 105) (h0 : bt s (p + 1) = 48) (hx : bt s ((p + 1) + 1) = 120) (p2 p3 : Nat) (hp2 : p2 = (p + 1) + 2) (hM : MD (bt s) isHexB p2 p3) (hle : p2 ≤ p3) (h6 : bt s p3 = 112) (p4 : Nat) (hp4 : p4 = p3 + 1) (q : Nat) (hE : EBad (bt s) p4 q) :
    Calls Tryz.prog 67 #[.pointer (some ⟨b, 0, none⟩)] w fun e w' => e = .panicked (pan q 12) ∧ But (fun k => k = b) w w' := by
  have R0 := hide h
  have B0 := hide (But.refl (fun k => k = b) w)
  clear h
  go_enter Tryz.func67, Tryz.ntmps67
  go_wp2_with (go_at_call 45; refine (may_yes (t := ⟨#[45]⟩) (unhide R0) (yes1 (c := 45) hm)).mono ?_; rintro e w1 ⟨rfl, hr, hb⟩; have R1 := hide hr; have B1 := hide ((unhide B0).trans hb); clear hr hb; refine Hid.out ?_)
  refine hide ?_
  go_wp2_with (go_at_call 45; refine (may_no (t := ⟨#[105]⟩) (unhide R1) (no1 (c := 105) hi)).mono ?_; rintro e w2 ⟨rfl, hr, hb⟩; have R2 := hide hr; have B2 := hide ((unhide B1).trans hb); clear hr hb; refine Hid.out ?_)
  refine hide ?_
  go_wp2_with (go_at_call 43; refine (must2_ok 48 120 (unhide R2) h0 hx).mono ?_; rintro e w3 ⟨rfl, hr, hb⟩; have R3 := hide hr; have B3 := hide ((unhide B2).trans hb); clear hr hb; refine Hid.out ?_)
  refine hide ?_
  rw [← hp2] at R3
  have HP2 := hide hp2
  clear hp2
  have c1 := (unhide R3).1.cell 1 (v := .int .i64 (p2 : Int)) rfl
  obtain ⟨z, hz⟩ : ∃ z, z = among ⟨#[48]⟩ (bt s p2) := ⟨_, rfl⟩
  have Hz := hide hz
  clear hz
  go_upto_if 40 with (go_at_call 45; refine (may_one 48 (unhide R3) z (unhide Hz)).mono ?_; rintro e w4 ⟨rfl, hr, hb⟩; have R4 := hide hr; have B4 := hide ((unhide B3).trans hb); clear hr hb)
  go_cut [40] (fun _ wx => Hid (RdAt wx b s p3 ∧ But (fun k => k = b) w wx))
  case first =>
    rcases hM with ⟨h4, h5⟩ | ⟨h4, h5⟩
    · obtain rfl : z = true := by rw [unhide Hz]; exact yes1 h4
      subst h5
      go_wp2_with fail
      go_meet
      exact ⟨unhide R4, unhide B4⟩
    · obtain rfl : z = false := by rw [unhide Hz]; exact no1 h4
      go_wp2_with (go_at_call 82; refine (hex_ok (unhide R4) h4 h5).mono ?_; rintro e w5 ⟨rfl, hr, hb⟩; have R5 := hide hr; have B5 := hide ((unhide B4).trans hb); clear hr hb)
      go_meet
      exact ⟨unhide R5, unhide B5⟩
  case rest =>
  clear R4 B4 Hz hM c1
  have R5 := hide (unhide hcut).1
  have B5 := hide (unhide hcut).2
  clear hcut
  have c0 := (unhide R5).1.cell 0 (v := .string s) rfl
  have c1 := (unhide R5).1.cell 1 (v := .int .i64 (p3 : Int)) rfl
  have l1 : (p2 : Int) ≤ (p3 : Int) := by have := hle; omega
  have l2 : (p3 : Int) ≤ (s.size : Int) := by have := (unhide R5).2.1; omega
  go_wp2_with fail
  go_quiet (fail)
  have R6 := hide ((unhide R5).drew nq)
  have B6 := hide ((unhide B5).trans (But.still (still_drewN _ nq)))
  clear c0 c1
  go_wp2_with (go_at_call 43; refine (must1_ok 112 (unhide R6) h6).mono ?_; rintro e w7 ⟨rfl, hr, hb⟩; have R7 := hide hr; have B7 := hide ((unhide B6).trans hb); clear hr hb; refine Hid.out ?_)
  refine hide ?_
  rw [← hp4] at R7
  have HP4 := hide hp4
  clear hp4
  have c1 := (unhide R7).1.cell 1 (v := .int .i64 (p4 : Int)) rfl
  rcases hE with ⟨h7, h8, h9⟩ | ⟨h7, h8, h9⟩
  · have HQ := hide h9
    clear h9
    go_wp2_with (go_at_call 45; refine (may_no (t := ⟨#[48]⟩) (unhide R7) (no1 (c := 48) (by rw [h7]; decide))).mono ?_; rintro e w8 ⟨rfl, hr, hb⟩; have R8 := hide hr; have B8 := hide ((unhide B7).trans hb); clear hr hb; refine Hid.out ?_)
    refine hide ?_
    go_wp2_with (go_at_call 45; refine (may_yes (t := ⟨#[45]⟩) (unhide R8) (yes1 (c := 45) h7)).mono ?_; rintro e w9 ⟨rfl, hr, hb⟩; have R9 := hide hr; have B9 := hide ((unhide B8).trans hb); clear hr hb; refine Hid.out ?_)
    refine hide ?_
    go_wp2_with (go_at_call 82; refine (dec_bad (unhide R9) h8).mono ?_; rintro e w10 ⟨rfl, hb⟩; have B10 := hide ((unhide B9).trans hb); clear hb)
    exact ⟨rfl, by rw [unhide HQ], unhide B10⟩
  · have HQ := hide h9
    clear h9
    go_wp2_with (go_at_call 45; refine (may_no (t := ⟨#[48]⟩) (unhide R7) (no1 (c := 48) (fun e => by rw [e] at h8; cases h8))).mono ?_; rintro e w8 ⟨rfl, hr, hb⟩; have R8 := hide hr; have B8 := hide ((unhide B7).trans hb); clear hr hb; refine Hid.out ?_)
    refine hide ?_
    go_wp2_with (go_at_call 45; refine (may_no (t := ⟨#[45]⟩) (unhide R8) (no1 (c := 45) h7)).mono ?_; rintro e w9 ⟨rfl, hr, hb⟩; have R9 := hide hr; have B9 := hide ((unhide B8).trans hb); clear hr hb; refine Hid.out ?_)
    refine hide ?_
    go_wp2_with (go_at_call 82; refine (dec_bad (unhide R9) (.inl h8)).mono ?_; rintro e w10 ⟨rfl, hb⟩; have B10 := hide ((unhide B9).trans hb); clear hb)
    exact ⟨rfl, by rw [unhide HQ], unhide B10⟩
set_option maxHeartbeats 2000000 in
set_option maxRecDepth 100000 in
theorem value_numN {w : World} {b p : Nat} {s : ByteArray} (h : RdAt w b s p) (hm : bt s p = 45) (hi : bt s (p + 1) ≠ 105) (h0 : bt s (p + 1) = 48) (hx : bt s ((p + 1) + 1) = 120) (p2 p3 : Nat) (hp2 : p2 = (p + 1) + 2) (hM : MD (bt s) isHexB p2 p3) (hle : p2 ≤ p3) (h6 : bt s p3 = 112) (p4 : Nat) (hp4 : p4 = p3 + 1) (p6 : Nat) (hE : ED (bt s) p4 p6) (hle2 : p4 ≤ p6) (much : Nat) (power : Int) (hmu : much < 18446744073709551616) (B : Nat) (hB : B ≤ b) (hG : Gl B w) (HPU : ∀ w', Gl B w' → B ≤ w'.heap.size → Calls Tryz.prog 83 #[.string (s.extract p2 p3), .int .i64 16, .int .i64 64] w' fun e w'' => ∃ ev, e = .returned (.tuple #[.int .u64 (much : Nat), ev]) ∧ Below w'.heap.size w' w'') (HAT : ∀ w', Gl B w' → B ≤ w'.heap.size → Calls Tryz.prog 84 #[.string (s.extract p4 p6)] w' fun e w'' => ∃ ev, e = .returned (.tuple #[.int .i64 power, ev]) ∧ Below w'.heap.size w' w'') :
    Calls Tryz.prog 67 #[.pointer (some ⟨b, 0, none⟩)] w fun e w' => e = .returned (.float .f64 (putBits true (joinRung much power))) ∧ RdAt w' b s p6 ∧ But (fun k => k = b) w w' := by
  have R0 := hide h
  have B0 := hide (But.refl (fun k => k = b) w)
  clear h
  go_enter Tryz.func67, Tryz.ntmps67
  have KPU := hide HPU
  have KAT := hide HAT
  have HG := hide hG
  clear HPU HAT hG
  go_wp2_with (go_at_call 45; refine (may_yes (t := ⟨#[45]⟩) (unhide R0) (yes1 (c := 45) hm)).mono ?_; rintro e w1 ⟨rfl, hr, hb⟩; have R1 := hide hr; have B1 := hide ((unhide B0).trans hb); clear hr hb; refine Hid.out ?_)
  refine hide ?_
  go_wp2_with (go_at_call 45; refine (may_no (t := ⟨#[105]⟩) (unhide R1) (no1 (c := 105) hi)).mono ?_; rintro e w2 ⟨rfl, hr, hb⟩; have R2 := hide hr; have B2 := hide ((unhide B1).trans hb); clear hr hb; refine Hid.out ?_)
  refine hide ?_
  go_wp2_with (go_at_call 43; refine (must2_ok 48 120 (unhide R2) h0 hx).mono ?_; rintro e w3 ⟨rfl, hr, hb⟩; have R3 := hide hr; have B3 := hide ((unhide B2).trans hb); clear hr hb; refine Hid.out ?_)
  refine hide ?_
  rw [← hp2] at R3
  have HP2 := hide hp2
  clear hp2
  have c1 := (unhide R3).1.cell 1 (v := .int .i64 (p2 : Int)) rfl
  obtain ⟨z, hz⟩ : ∃ z, z = among ⟨#[48]⟩ (bt s p2) := ⟨_, rfl⟩
  have Hz := hide hz
  clear hz
  go_upto_if 40 with (go_at_call 45; refine (may_one 48 (unhide R3) z (unhide Hz)).mono ?_; rintro e w4 ⟨rfl, hr, hb⟩; have R4 := hide hr; have B4 := hide ((unhide B3).trans hb); clear hr hb)
  go_cut [40] (fun _ wx => Hid (RdAt wx b s p3 ∧ But (fun k => k = b) w wx))
  case first =>
    rcases hM with ⟨h4, h5⟩ | ⟨h4, h5⟩
    · obtain rfl : z = true := by rw [unhide Hz]; exact yes1 h4
      subst h5
      go_wp2_with fail
      go_meet
      exact ⟨unhide R4, unhide B4⟩
    · obtain rfl : z = false := by rw [unhide Hz]; exact no1 h4
      go_wp2_with (go_at_call 82; refine (hex_ok (unhide R4) h4 h5).mono ?_; rintro e w5 ⟨rfl, hr, hb⟩; have R5 := hide hr; have B5 := hide ((unhide B4).trans hb); clear hr hb)
      go_meet
      exact ⟨unhide R5, unhide B5⟩
  case rest =>
  clear R4 B4 Hz hM c1
  have R5 := hide (unhide hcut).1
  have B5 := hide (unhide hcut).2
  clear hcut
  have c0 := (unhide R5).1.cell 0 (v := .string s) rfl
  have c1 := (unhide R5).1.cell 1 (v := .int .i64 (p3 : Int)) rfl
  have l1 : (p2 : Int) ≤ (p3 : Int) := by have := hle; omega
  have l2 : (p3 : Int) ≤ (s.size : Int) := by have := (unhide R5).2.1; omega
  go_wp2_with fail
  go_quiet (fail)
  have R6 := hide ((unhide R5).drew nq)
  have B6 := hide ((unhide B5).trans (But.still (still_drewN _ nq)))
  clear c0 c1
  go_wp2_with (go_at_call 43; refine (must1_ok 112 (unhide R6) h6).mono ?_; rintro e w7 ⟨rfl, hr, hb⟩; have R7 := hide hr; have B7 := hide ((unhide B6).trans hb); clear hr hb; refine Hid.out ?_)
  refine hide ?_
  rw [← hp4] at R7
  have HP4 := hide hp4
  clear hp4
  have c1 := (unhide R7).1.cell 1 (v := .int .i64 (p4 : Int)) rfl
  obtain ⟨z, hz⟩ : ∃ z, z = among ⟨#[48]⟩ (bt s p4) := ⟨_, rfl⟩
  have Hz := hide hz
  clear hz
  go_upto_if 61 with (go_at_call 45; refine (may_one 48 (unhide R7) z (unhide Hz)).mono ?_; rintro e w8 ⟨rfl, hr, hb⟩; have R8 := hide hr; have B8 := hide ((unhide B7).trans hb); clear hr hb)
  go_cut [61] (fun _ wx => Hid (RdAt wx b s p6 ∧ But (fun k => k = b) w wx))
  case first =>
    rcases hE with ⟨h7, h8⟩ | ⟨h7, h8, h9⟩ | ⟨h7, h8, h9⟩
    · obtain rfl : z = true := by rw [unhide Hz]; exact yes1 h7
      subst h8
      go_wp2_with fail
      go_meet
      exact ⟨unhide R8, unhide B8⟩
    · obtain rfl : z = false := by rw [unhide Hz]; exact no1 (by rw [h7]; decide)
      go_wp2_with (first
        | (go_at_call 45; refine (may_yes (t := ⟨#[45]⟩) (unhide R8) (yes1 (c := 45) h7)).mono ?_; rintro e w9 ⟨rfl, hr, hb⟩; have R9 := hide hr; have B9 := hide ((unhide B8).trans hb); clear hr hb)
        | (go_at_call 82; refine (dec_ok (unhide R9) h8 h9).mono ?_; rintro e w10 ⟨rfl, hr, hb⟩; have R10 := hide hr; have B10 := hide ((unhide B9).trans hb); clear hr hb))
      go_meet
      exact ⟨unhide R10, unhide B10⟩
    · obtain rfl : z = false := by rw [unhide Hz]; exact no1 h7
      go_wp2_with (first
        | (go_at_call 45; refine (may_no (t := ⟨#[45]⟩) (unhide R8) (no1 (c := 45) h8)).mono ?_; rintro e w9 ⟨rfl, hr, hb⟩; have R9 := hide hr; have B9 := hide ((unhide B8).trans hb); clear hr hb)
        | (go_at_call 82; refine (dec_ok (unhide R9) h7 h9).mono ?_; rintro e w10 ⟨rfl, hr, hb⟩; have R10 := hide hr; have B10 := hide ((unhide B9).trans hb); clear hr hb))
      go_meet
      exact ⟨unhide R10, unhide B10⟩
  case rest =>
  clear R8 B8 Hz hE c1
  have R9 := hide (unhide hcut).1
  have B9 := hide (unhide hcut).2
  clear hcut
  have c0 := (unhide R9).1.cell 0 (v := .string s) rfl
  have c1 := (unhide R9).1.cell 1 (v := .int .i64 (p6 : Int)) rfl
  have l3 : (p4 : Int) ≤ (p6 : Int) := by omega
  have l4 : (p6 : Int) ≤ (s.size : Int) := by have := (unhide R9).2.1; omega
  go_wp2_with fail
  go_quiet (fail)
  have hs0 : B ≤ w.heap.size := Nat.le_trans hB (Nat.le_of_lt (unhide R0).1.lt)
  have RA := hide ((unhide R9).drew nq)
  have BA := hide ((unhide B9).trans (But.still (still_drewN _ nq)))
  generalize wc.drewN nq = wa at *
  have BB := hide ((unhide BA).below (Below.refl B w) hs0 (fun k e => by rw [e]; exact hB))
  have GA := hide ((unhide HG).on (unhide BB))
  have sa : B ≤ wa.heap.size := Nat.le_trans hs0 (unhide BB).size
  clear c0 c1
  go_wp2_with (go_at_call 83; refine (unhide KPU wa (unhide GA) sa).mono ?_; rintro e wb ⟨ev, rfl, hb⟩; have HW1 := hide hb; clear hb; refine Hid.out ?_)
  refine hide ?_
  have GB := hide ((unhide GA).on ((unhide HW1).mono sa))
  have sb : B ≤ wb.heap.size := Nat.le_trans sa (unhide HW1).size
  go_wp2_with (go_at_call 84; refine (unhide KAT wb (unhide GB) sb).mono ?_; rintro e wd ⟨ev2, rfl, hb⟩; have HW2 := hide hb; clear hb; refine Hid.out ?_)
  refine hide ?_
  go_wp2_with (go_at_call 85; refine (join_any _ (much : Int) power (by omega) (by omega) wd).mono ?_; rintro e wj ⟨rfl, hw'⟩; obtain rfl := hw'.symm)
  go_ret
  exact ⟨rfl, ((unhide RA).low (unhide HW1)).low (unhide HW2), ((unhide BA).trans (But.low (unhide HW1))).trans (But.low (unhide HW2))⟩
end Go.Proofs.YtbkjmnopljmanaaGreatDoor
