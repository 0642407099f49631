/- The reference's reader: float, where no number is read. -/
import Derived.Test.YtbkjmnopljmanaaGreatDoorUk
import Derived.Test.YtbkjmnopljmanaaGreatDoorTw
namespace Go.Proofs.YtbkjmnopljmanaaGreatDoor
open Go.RowKit

theorem stand3 {s : ByteArray} {p : Nat} {c d e : UInt8} (h : bt s p = c.toNat) (k : bt s (p + 1) = d.toNat) (l : bt s (p + 2) = e.toNat) : Stand s p ⟨#[c, d, e]⟩ (ByteArray.mk #[c, d, e]).size := by
  intro i hi _
  rcases (by change i < 3 at hi; omega : i = 0 ∨ i = 1 ∨ i = 2) with rfl | rfl | rfl
  · exact h
  · exact k
  · exact l
theorem stand31 {s : ByteArray} {p : Nat} {c d e : UInt8} (h : bt s p = c.toNat) : Stand s p ⟨#[c, d, e]⟩ 1 := by
  intro i _ h1
  obtain rfl : i = 0 := by omega
  exact h
/-- A word of three whose first letter stands there, at fault behind it. -/
theorem want3_bad {w : World} {b a pl q : Nat} {s : ByteArray} (c d e : UInt8) (h : QdAt w b s a 0 pl) (h0 : bt s a = c.toNat) (h1 : Bad2 (bt s) (a + 1) d.toNat e.toNat q) :
    Calls Tryz.prog 21 #[.pointer (some ⟨b, 0, none⟩), .string ⟨#[c, d, e]⟩] w fun x w' => x = .returned (.tuple #[]) ∧ QdAt w' b s q 12 q ∧ But (fun k => k = b) w w' := by
  rcases h1 with ⟨h1, rfl⟩ | ⟨h1, h2, rfl⟩
  · exact want_bad (t := ⟨#[c, d, e]⟩) h (by change 3 ≤ 100; omega) 1 (by change 1 < 3; omega) (stand31 h0) h1
  · exact want_bad (t := ⟨#[c, d, e]⟩) h (by change 3 ≤ 100; omega) 2 (by change 2 < 3; omega) (fun i _ hi => by
      rcases (by omega : i = 0 ∨ i = 1) with rfl | rfl
      · exact h0
      · exact h1) h2
theorem want2_bad {w : World} {b a pl q : Nat} {s : ByteArray} (c d : UInt8) (h : QdAt w b s a 0 pl) (h1 : Bad2 (bt s) a c.toNat d.toNat q) :
    Calls Tryz.prog 21 #[.pointer (some ⟨b, 0, none⟩), .string ⟨#[c, d]⟩] w fun x w' => x = .returned (.tuple #[]) ∧ QdAt w' b s q 12 q ∧ But (fun k => k = b) w w' := by
  rcases h1 with ⟨h1, rfl⟩ | ⟨h1, h2, rfl⟩
  · exact want_bad (t := ⟨#[c, d]⟩) h (by change 2 ≤ 100; omega) 0 (by change 0 < 2; omega) (stand0 _ _ _) h1
  · exact want_bad (t := ⟨#[c, d]⟩) h (by change 2 ≤ 100; omega) 1 (by change 1 < 2; omega) (stand21 h1) h2
theorem is_yes {w : World} {b a pl c : Nat} {s : ByteArray} (hc : c < 256) (h : QdAt w b s a 0 pl) (he : bt s a = c) :
    Calls Tryz.prog 32 #[.pointer (some ⟨b, 0, none⟩), .int .u8 (c : Nat)] w fun x w' => x = .returned (.bool true) ∧ QdAt w' b s a 0 pl ∧ But (fun k => k = b) w w' := by
  have := is_any hc h
  rw [decide_eq_true he] at this
  exact this.mono fun _ _ ⟨h1, m, h2⟩ => ⟨h1, by rw [h2]; exact h.drew m, by rw [h2]; exact But.still (still_drewN _ m)⟩
theorem is_no {w : World} {b a pl c : Nat} {s : ByteArray} (hc : c < 256) (h : QdAt w b s a 0 pl) (he : bt s a ≠ c) :
    Calls Tryz.prog 32 #[.pointer (some ⟨b, 0, none⟩), .int .u8 (c : Nat)] w fun x w' => x = .returned (.bool false) ∧ QdAt w' b s a 0 pl ∧ But (fun k => k = b) w w' := by
  have := is_any hc h
  rw [decide_eq_false he] at this
  exact this.mono fun _ _ ⟨h1, m, h2⟩ => ⟨h1, by rw [h2]; exact h.drew m, by rw [h2]; exact But.still (still_drewN _ m)⟩
set_option maxRecDepth 100000 in
theorem rdfloat_nan {w : World} {b a pl : Nat} {s : ByteArray} (h : QdAt w b s a 0 pl) (hn : bt s a = 110) (h1 : bt s (a + 1) = 97) (h2 : bt s (a + 2) = 110) :
    Calls Tryz.prog 56 #[.pointer (some ⟨b, 0, none⟩)] w fun e w' => e = .returned (.tuple #[.float .f64 9221120237041090561, .bool true]) ∧ QdAt w' b s (a + 3) 0 pl ∧ But (fun k => k = b) w w' := by
  have R0 := hide h
  have B0 := hide (But.refl (fun k => k = b) w)
  clear h
  go_enter Tryz.func56, Tryz.ntmps56
  go_wp2_with (go_at_call 32; refine (is_no (c := 45) (by decide) (unhide R0) (by rw [hn]; decide)).mono ?_; rintro e w1 ⟨rfl, hr, hb⟩; have R1 := hide hr; have B1 := hide ((unhide B0).trans hb); clear hr hb; refine Hid.out ?_)
  refine hide ?_
  go_wp2_with (go_at_call 32; refine (is_yes (c := 110) (by decide) (unhide R1) hn).mono ?_; rintro e w2 ⟨rfl, hr, hb⟩; have R2 := hide hr; have B2 := hide ((unhide B1).trans hb); clear hr hb; refine Hid.out ?_)
  refine hide ?_
  go_wp2_with (go_at_call 21; refine (want_ok (t := ⟨#[110, 97, 110]⟩) (unhide R2) (by change 3 ≤ 100; omega) (stand3 (c := 110) (d := 97) (e := 110) hn h1 h2)).mono ?_; rintro e w3 ⟨rfl, hr, hb⟩; have R3 := hide hr; have B3 := hide ((unhide B2).trans hb); clear hr hb; refine Hid.out ?_)
  refine hide ?_
  go_wp2_with (go_at_call 68; refine (nan_any _).mono ?_; rintro e w' ⟨rfl, hw'⟩; obtain rfl := hw'.symm)
  go_ret2
  exact ⟨rfl, unhide R3, unhide B3⟩
set_option maxRecDepth 100000 in
theorem rdfloat_nan_bad {w : World} {b a pl : Nat} {s : ByteArray} (h : QdAt w b s a 0 pl) (hn : bt s a = 110) (q : Nat) (hq : Bad2 (bt s) (a + 1) 97 110 q) :
    Calls Tryz.prog 56 #[.pointer (some ⟨b, 0, none⟩)] w fun e w' => ∃ x ok a', e = .returned (.tuple #[.float .f64 x, .bool ok]) ∧ QdAt w' b s a' 12 q ∧ But (fun k => k = b) w w' := by
  have R0 := hide h
  have B0 := hide (But.refl (fun k => k = b) w)
  clear h
  go_enter Tryz.func56, Tryz.ntmps56
  go_wp2_with (go_at_call 32; refine (is_no (c := 45) (by decide) (unhide R0) (by rw [hn]; decide)).mono ?_; rintro e w1 ⟨rfl, hr, hb⟩; have R1 := hide hr; have B1 := hide ((unhide B0).trans hb); clear hr hb; refine Hid.out ?_)
  refine hide ?_
  go_wp2_with (go_at_call 32; refine (is_yes (c := 110) (by decide) (unhide R1) hn).mono ?_; rintro e w2 ⟨rfl, hr, hb⟩; have R2 := hide hr; have B2 := hide ((unhide B1).trans hb); clear hr hb; refine Hid.out ?_)
  refine hide ?_
  go_wp2_with (go_at_call 21; refine (want3_bad 110 97 110 (unhide R2) hn hq).mono ?_; rintro e w3 ⟨rfl, hr, hb⟩; have R3 := hide hr; have B3 := hide ((unhide B2).trans hb); clear hr hb; refine Hid.out ?_)
  refine hide ?_
  go_wp2_with (go_at_call 68; refine (nan_any _).mono ?_; rintro e w' ⟨rfl, hw'⟩; obtain rfl := hw'.symm)
  go_ret2
  exact ⟨_, _, _, rfl, unhide R3, unhide B3⟩
theorem inf_neg (w : World) : Calls Tryz.prog 69 #[.int .i64 (-1)] w fun e w' => e = .returned (.float .f64 18442240474082181120) ∧ w' = w := by
  have hy := run_frombits
  go_enter Tryz.func69, Tryz.ntmps69
  go_wp2
  go_ret
  exact ⟨rfl, rfl⟩
set_option maxRecDepth 100000 in
theorem rdfloat_inf {w : World} {b a pl : Nat} {s : ByteArray} (h : QdAt w b s a 0 pl) (hi : bt s a = 105) (h1 : bt s (a + 1) = 110) (h2 : bt s (a + 2) = 102) :
    Calls Tryz.prog 56 #[.pointer (some ⟨b, 0, none⟩)] w fun e w' => e = .returned (.tuple #[.float .f64 9218868437227405312, .bool true]) ∧ QdAt w' b s (a + 3) 0 pl ∧ But (fun k => k = b) w w' := by
  have R0 := hide h
  have B0 := hide (But.refl (fun k => k = b) w)
  clear h
  go_enter Tryz.func56, Tryz.ntmps56
  go_wp2_with (go_at_call 32; refine (is_no (c := 45) (by decide) (unhide R0) (by rw [hi]; decide)).mono ?_; rintro e w1 ⟨rfl, hr, hb⟩; have R1 := hide hr; have B1 := hide ((unhide B0).trans hb); clear hr hb; refine Hid.out ?_)
  refine hide ?_
  go_wp2_with (go_at_call 32; refine (is_no (c := 110) (by decide) (unhide R1) (by rw [hi]; decide)).mono ?_; rintro e w2 ⟨rfl, hr, hb⟩; have R2 := hide hr; have B2 := hide ((unhide B1).trans hb); clear hr hb; refine Hid.out ?_)
  refine hide ?_
  go_wp2_with (go_at_call 32; refine (is_yes (c := 105) (by decide) (unhide R2) hi).mono ?_; rintro e w3 ⟨rfl, hr, hb⟩; have R3 := hide hr; have B3 := hide ((unhide B2).trans hb); clear hr hb; refine Hid.out ?_)
  refine hide ?_
  go_wp2_with (go_at_call 21; refine (want_ok (t := ⟨#[105, 110, 102]⟩) (unhide R3) (by change 3 ≤ 100; omega) (stand3 (c := 105) (d := 110) (e := 102) hi h1 h2)).mono ?_; rintro e w4 ⟨rfl, hr, hb⟩; have R4 := hide hr; have B4 := hide ((unhide B3).trans hb); clear hr hb; refine Hid.out ?_)
  refine hide ?_
  go_wp2_with (go_at_call 69; refine (inf_pos _).mono ?_; rintro e w' ⟨rfl, hw'⟩; obtain rfl := hw'.symm)
  go_ret2
  exact ⟨rfl, unhide R4, unhide B4⟩
set_option maxRecDepth 100000 in
theorem rdfloat_inf_bad {w : World} {b a pl : Nat} {s : ByteArray} (h : QdAt w b s a 0 pl) (hi : bt s a = 105) (q : Nat) (hq : Bad2 (bt s) (a + 1) 110 102 q) :
    Calls Tryz.prog 56 #[.pointer (some ⟨b, 0, none⟩)] w fun e w' => ∃ x ok a', e = .returned (.tuple #[.float .f64 x, .bool ok]) ∧ QdAt w' b s a' 12 q ∧ But (fun k => k = b) w w' := by
  have R0 := hide h
  have B0 := hide (But.refl (fun k => k = b) w)
  clear h
  go_enter Tryz.func56, Tryz.ntmps56
  go_wp2_with (go_at_call 32; refine (is_no (c := 45) (by decide) (unhide R0) (by rw [hi]; decide)).mono ?_; rintro e w1 ⟨rfl, hr, hb⟩; have R1 := hide hr; have B1 := hide ((unhide B0).trans hb); clear hr hb; refine Hid.out ?_)
  refine hide ?_
  go_wp2_with (go_at_call 32; refine (is_no (c := 110) (by decide) (unhide R1) (by rw [hi]; decide)).mono ?_; rintro e w2 ⟨rfl, hr, hb⟩; have R2 := hide hr; have B2 := hide ((unhide B1).trans hb); clear hr hb; refine Hid.out ?_)
  refine hide ?_
  go_wp2_with (go_at_call 32; refine (is_yes (c := 105) (by decide) (unhide R2) hi).mono ?_; rintro e w3 ⟨rfl, hr, hb⟩; have R3 := hide hr; have B3 := hide ((unhide B2).trans hb); clear hr hb; refine Hid.out ?_)
  refine hide ?_
  go_wp2_with (go_at_call 21; refine (want3_bad 105 110 102 (unhide R3) hi hq).mono ?_; rintro e w4 ⟨rfl, hr, hb⟩; have R4 := hide hr; have B4 := hide ((unhide B3).trans hb); clear hr hb; refine Hid.out ?_)
  refine hide ?_
  go_wp2_with (go_at_call 69; refine (inf_pos _).mono ?_; rintro e w' ⟨rfl, hw'⟩; obtain rfl := hw'.symm)
  go_ret2
  exact ⟨_, _, _, rfl, unhide R4, unhide B4⟩
set_option maxRecDepth 100000 in
theorem rdfloat_infN {w : World} {b a pl : Nat} {s : ByteArray} (h : QdAt w b s a 0 pl) (hm : bt s a = 45) (hi : bt s (a + 1) = 105) (h1 : bt s ((a + 1) + 1) = 110) (h2 : bt s ((a + 1) + 2) = 102) :
    Calls Tryz.prog 56 #[.pointer (some ⟨b, 0, none⟩)] w fun e w' => e = .returned (.tuple #[.float .f64 18442240474082181120, .bool true]) ∧ QdAt w' b s ((a + 1) + 3) 0 pl ∧ But (fun k => k = b) w w' := by
  have R0 := hide h
  have B0 := hide (But.refl (fun k => k = b) w)
  clear h
  go_enter Tryz.func56, Tryz.ntmps56
  go_wp2_with (go_at_call 32; refine (is_yes (c := 45) (by decide) (unhide R0) hm).mono ?_; rintro e w1 ⟨rfl, hr, hb⟩; have R1 := hide hr; have B1 := hide ((unhide B0).trans hb); clear hr hb; refine Hid.out ?_)
  refine hide ?_
  have f1 := (unhide R1).1.unfrozen 1
  have c1 := (unhide R1).cells.2.1
  have hlt : a < s.size := bt_lt.1 (by rw [hm]; decide)
  have h9 := (unhide R1).2.2
  have hw1 : IntKind.i64.wrap ((a : Int) + 1) = (a : Int) + 1 := by simp [IntKind.wrap_i64]; omega
  have R1' := hide ((unhide R1).step hlt)
  have B1' := hide ((unhide B1).trans (But.setCell (fun k => k = b) w1 ⟨b, 1, none⟩ (.int .i64 ((a : Int) + 1)) rfl))
  go_wp2_with (go_at_call 32; refine (is_no (c := 110) (by decide) (unhide R1') (by rw [hi]; decide)).mono ?_; rintro e w2 ⟨rfl, hr, hb⟩; have R2 := hide hr; have B2 := hide ((unhide B1').trans hb); clear hr hb; refine Hid.out ?_)
  refine hide ?_
  go_wp2_with (go_at_call 32; refine (is_yes (c := 105) (by decide) (unhide R2) hi).mono ?_; rintro e w3 ⟨rfl, hr, hb⟩; have R3 := hide hr; have B3 := hide ((unhide B2).trans hb); clear hr hb; refine Hid.out ?_)
  refine hide ?_
  go_wp2_with (go_at_call 21; refine (want_ok (t := ⟨#[105, 110, 102]⟩) (unhide R3) (by change 3 ≤ 100; omega) (stand3 (c := 105) (d := 110) (e := 102) hi h1 h2)).mono ?_; rintro e w4 ⟨rfl, hr, hb⟩; have R4 := hide hr; have B4 := hide ((unhide B3).trans hb); clear hr hb; refine Hid.out ?_)
  refine hide ?_
  go_wp2_with (go_at_call 69; refine (inf_neg _).mono ?_; rintro e w' ⟨rfl, hw'⟩; obtain rfl := hw'.symm)
  go_ret2
  exact ⟨rfl, unhide R4, unhide B4⟩
set_option maxRecDepth 100000 in
theorem rdfloat_inf_badN {w : World} {b a pl : Nat} {s : ByteArray} (h : QdAt w b s a 0 pl) (hm : bt s a = 45) (hi : bt s (a + 1) = 105) (q : Nat) (hq : Bad2 (bt s) ((a + 1) + 1) 110 102 q) :
    Calls Tryz.prog 56 #[.pointer (some ⟨b, 0, none⟩)] w fun e w' => ∃ x ok a', e = .returned (.tuple #[.float .f64 x, .bool ok]) ∧ QdAt w' b s a' 12 q ∧ But (fun k => k = b) w w' := by
  have R0 := hide h
  have B0 := hide (But.refl (fun k => k = b) w)
  clear h
  go_enter Tryz.func56, Tryz.ntmps56
  go_wp2_with (go_at_call 32; refine (is_yes (c := 45) (by decide) (unhide R0) hm).mono ?_; rintro e w1 ⟨rfl, hr, hb⟩; have R1 := hide hr; have B1 := hide ((unhide B0).trans hb); clear hr hb; refine Hid.out ?_)
  refine hide ?_
  have f1 := (unhide R1).1.unfrozen 1
  have c1 := (unhide R1).cells.2.1
  have hlt : a < s.size := bt_lt.1 (by rw [hm]; decide)
  have h9 := (unhide R1).2.2
  have hw1 : IntKind.i64.wrap ((a : Int) + 1) = (a : Int) + 1 := by simp [IntKind.wrap_i64]; omega
  have R1' := hide ((unhide R1).step hlt)
  have B1' := hide ((unhide B1).trans (But.setCell (fun k => k = b) w1 ⟨b, 1, none⟩ (.int .i64 ((a : Int) + 1)) rfl))
  go_wp2_with (go_at_call 32; refine (is_no (c := 110) (by decide) (unhide R1') (by rw [hi]; decide)).mono ?_; rintro e w2 ⟨rfl, hr, hb⟩; have R2 := hide hr; have B2 := hide ((unhide B1').trans hb); clear hr hb; refine Hid.out ?_)
  refine hide ?_
  go_wp2_with (go_at_call 32; refine (is_yes (c := 105) (by decide) (unhide R2) hi).mono ?_; rintro e w3 ⟨rfl, hr, hb⟩; have R3 := hide hr; have B3 := hide ((unhide B2).trans hb); clear hr hb; refine Hid.out ?_)
  refine hide ?_
  go_wp2_with (go_at_call 21; refine (want3_bad 105 110 102 (unhide R3) hi hq).mono ?_; rintro e w4 ⟨rfl, hr, hb⟩; have R4 := hide hr; have B4 := hide ((unhide B3).trans hb); clear hr hb; refine Hid.out ?_)
  refine hide ?_
  go_wp2_with (go_at_call 69; refine (inf_neg _).mono ?_; rintro e w' ⟨rfl, hw'⟩; obtain rfl := hw'.symm)
  go_ret2
  exact ⟨_, _, _, rfl, unhide R4, unhide B4⟩
end Go.Proofs.YtbkjmnopljmanaaGreatDoor
