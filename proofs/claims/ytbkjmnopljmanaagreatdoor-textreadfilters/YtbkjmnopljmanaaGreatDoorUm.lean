/- The reference's reader: float, at fault in its front. -/
import Derived.Test.YtbkjmnopljmanaaGreatDoorUl
import Derived.Test.YtbkjmnopljmanaaGreatDoorUc
namespace Go.Proofs.YtbkjmnopljmanaaGreatDoor
open Go.RowKit

/-- What a reader behind a fault answers, however often it has drawn. -/
theorem dead_all {w : World} {b a pl : Nat} {s : ByteArray} (h : QdAt w b s a 12 pl) :
    (∀ n c, Calls Tryz.prog 32 #[.pointer (some ⟨b, 0, none⟩), c] (w.drewN n) fun x w' => x = .returned (.bool false) ∧ ∃ m, w' = (w.drewN n).drewN m) ∧
    (∀ c, Calls Tryz.prog 32 #[.pointer (some ⟨b, 0, none⟩), c] w fun x w' => x = .returned (.bool false) ∧ ∃ m, w' = w.drewN m) ∧
    (∀ n t, t.size ≤ 100 → Calls Tryz.prog 21 #[.pointer (some ⟨b, 0, none⟩), .string t] (w.drewN n) fun x w' => x = .returned (.tuple #[]) ∧ w' = w.drewN n) ∧
    (∀ t, t.size ≤ 100 → Calls Tryz.prog 21 #[.pointer (some ⟨b, 0, none⟩), .string t] w fun x w' => x = .returned (.tuple #[]) ∧ w' = w) ∧
    (∀ n u v, Calls Tryz.prog 70 #[.pointer (some ⟨b, 0, none⟩), u, v] (w.drewN n) fun x w' => x = .returned (.string ⟨#[]⟩) ∧ w' = w.drewN n) ∧
    (∀ u v, Calls Tryz.prog 70 #[.pointer (some ⟨b, 0, none⟩), u, v] w fun x w' => x = .returned (.string ⟨#[]⟩) ∧ w' = w) :=
  ⟨fun n c => is_dead c (by decide) (h.drew n), fun c => is_dead c (by decide) h, fun n _ ht => want_dead (by decide) ht (h.drew n), fun _ ht => want_dead (by decide) ht h, fun n u v => run_dead u v (by decide) (h.drew n), fun u v => run_dead u v (by decide) h⟩
set_option maxRecDepth 100000 in
theorem rdfloat_0x_bad {w : World} {b a pl : Nat} {s : ByteArray} (h : QdAt w b s a 0 pl) (hm : bt s a ≠ 45) (hn : bt s a ≠ 110) (hi : bt s a ≠ 105) (q : Nat) (hq : Bad2 (bt s) a 48 120 q) :
    Calls Tryz.prog 56 #[.pointer (some ⟨b, 0, none⟩)] w fun e w' => ∃ x ok a', e = .returned (.tuple #[.float .f64 x, .bool ok]) ∧ QdAt w' b s a' 12 q ∧ But (fun k => k = b) w w' := by
  have R0 := hide h
  have B0 := hide (But.refl (fun k => k = b) w)
  clear h
  go_enter Tryz.func56, Tryz.ntmps56
  go_wp2_with (go_at_call 32; refine (is_no (c := 45) (by decide) (unhide R0) hm).mono ?_; rintro e w1 ⟨rfl, hr, hb⟩; have R1 := hide hr; have B1 := hide ((unhide B0).trans hb); clear hr hb; refine Hid.out ?_)
  refine hide ?_
  go_wp2_with (go_at_call 32; refine (is_no (c := 110) (by decide) (unhide R1) hn).mono ?_; rintro e w2 ⟨rfl, hr, hb⟩; have R2 := hide hr; have B2 := hide ((unhide B1).trans hb); clear hr hb; refine Hid.out ?_)
  refine hide ?_
  go_wp2_with (go_at_call 32; refine (is_no (c := 105) (by decide) (unhide R2) hi).mono ?_; rintro e w3 ⟨rfl, hr, hb⟩; have R3 := hide hr; have B3 := hide ((unhide B2).trans hb); clear hr hb; refine Hid.out ?_)
  refine hide ?_
  go_wp2_with (go_at_call 21; refine (want2_bad 48 120 (unhide R3) hq).mono ?_; rintro e w4 ⟨rfl, hr, hb⟩; have R4 := hide hr; have B4 := hide ((unhide B3).trans hb); clear hr hb; refine Hid.out ?_)
  refine hide ?_
  have D := hide (dead_all (unhide R4))
  obtain ⟨d0, d1, d2, d3⟩ := (unhide R4).cells
  go_wp2_with (first
    | (go_at_call 70; first | (refine ((unhide D).2.2.2.2.2 _ _).mono ?_; rintro e w9 ⟨rfl, hw'⟩; obtain rfl := hw'.symm) | (refine ((unhide D).2.2.2.2.1 _ _ _).mono ?_; rintro e w9 ⟨rfl, hw'⟩; obtain rfl := hw'.symm))
    | (go_at_call 21; first | (refine ((unhide D).2.2.2.1 _ (by decide)).mono ?_; rintro e w9 ⟨rfl, hw'⟩; obtain rfl := hw'.symm) | (refine ((unhide D).2.2.1 _ _ (by decide)).mono ?_; rintro e w9 ⟨rfl, hw'⟩; obtain rfl := hw'.symm))
    | (go_at_call 32; refine ((unhide D).2.1 _).mono ?_; rintro e w9 ⟨rfl, m, rfl⟩))
  go_ret2
  exact ⟨_, _, _, rfl, (unhide R4).drew _, (unhide B4).trans (But.still (still_drewN _ _))⟩
set_option maxRecDepth 100000 in
theorem rdfloat_m_bad {w : World} {b a pl : Nat} {s : ByteArray} (h : QdAt w b s a 0 pl) (hm : bt s a ≠ 45) (hn : bt s a ≠ 110) (hi : bt s a ≠ 105) (h0 : bt s a = 48) (hx : bt s (a + 1) = 120) (h4 : isHexB (bt s (a + 2)) = false) :
    Calls Tryz.prog 56 #[.pointer (some ⟨b, 0, none⟩)] w fun e w' => ∃ x ok a', e = .returned (.tuple #[.float .f64 x, .bool ok]) ∧ QdAt w' b s a' 12 (a + 2) ∧ But (fun k => k = b) w w' := by
  have R0 := hide h
  have B0 := hide (But.refl (fun k => k = b) w)
  clear h
  go_enter Tryz.func56, Tryz.ntmps56
  go_wp2_with (go_at_call 32; refine (is_no (c := 45) (by decide) (unhide R0) hm).mono ?_; rintro e w1 ⟨rfl, hr, hb⟩; have R1 := hide hr; have B1 := hide ((unhide B0).trans hb); clear hr hb; refine Hid.out ?_)
  refine hide ?_
  go_wp2_with (go_at_call 32; refine (is_no (c := 110) (by decide) (unhide R1) hn).mono ?_; rintro e w2 ⟨rfl, hr, hb⟩; have R2 := hide hr; have B2 := hide ((unhide B1).trans hb); clear hr hb; refine Hid.out ?_)
  refine hide ?_
  go_wp2_with (go_at_call 32; refine (is_no (c := 105) (by decide) (unhide R2) hi).mono ?_; rintro e w3 ⟨rfl, hr, hb⟩; have R3 := hide hr; have B3 := hide ((unhide B2).trans hb); clear hr hb; refine Hid.out ?_)
  refine hide ?_
  go_wp2_with (go_at_call 21; refine (want_ok (t := ⟨#[48, 120]⟩) (unhide R3) (by change 2 ≤ 100; omega) (stand2 (c := 48) (d := 120) h0 hx)).mono ?_; rintro e w4 ⟨rfl, hr, hb⟩; have R4 := hide hr; have B4 := hide ((unhide B3).trans hb); clear hr hb; refine Hid.out ?_)
  refine hide ?_
  go_wp2_with (go_at_call 70; refine (run_none true false (unhide R4) h4).mono ?_; rintro e w5 ⟨⟨t5, rfl⟩, hr, hb⟩; have R5 := hide hr; have B5 := hide ((unhide B4).trans hb); clear hr hb; refine Hid.out ?_)
  refine hide ?_
  have D := hide (dead_all (unhide R5))
  obtain ⟨d0, d1, d2, d3⟩ := (unhide R5).cells
  go_wp2_with (first
    | (go_at_call 70; first | (refine ((unhide D).2.2.2.2.2 _ _).mono ?_; rintro e w9 ⟨rfl, hw'⟩; obtain rfl := hw'.symm) | (refine ((unhide D).2.2.2.2.1 _ _ _).mono ?_; rintro e w9 ⟨rfl, hw'⟩; obtain rfl := hw'.symm))
    | (go_at_call 21; first | (refine ((unhide D).2.2.2.1 _ (by decide)).mono ?_; rintro e w9 ⟨rfl, hw'⟩; obtain rfl := hw'.symm) | (refine ((unhide D).2.2.1 _ _ (by decide)).mono ?_; rintro e w9 ⟨rfl, hw'⟩; obtain rfl := hw'.symm))
    | (go_at_call 32; refine ((unhide D).2.1 _).mono ?_; rintro e w9 ⟨rfl, m, rfl⟩))
  go_ret2
  exact ⟨_, _, _, rfl, (unhide R5).drew _, (unhide B5).trans (But.still (still_drewN _ _))⟩
theorem rrun_m {w : World} {b a q pl : Nat} {s : ByteArray} (h : QdAt w b s a 0 pl) (hM : MD (bt s) isHexB a q) :
    Calls Tryz.prog 70 #[.pointer (some ⟨b, 0, none⟩), .bool true, .bool false] w fun x w' => x = .returned (.string (s.extract a q)) ∧ QdAt w' b s q 0 pl ∧ But (fun k => k = b) w w' := by
  rcases hM with ⟨h1, rfl⟩ | ⟨h1, h2⟩
  · exact run_nought true h h1
  · exact run_go true false h h1 h2
set_option maxRecDepth 100000 in
theorem rdfloat_p_bad {w : World} {b a pl : Nat} {s : ByteArray} (h : QdAt w b s a 0 pl) (hm : bt s a ≠ 45) (hn : bt s a ≠ 110) (hi : bt s a ≠ 105) (h0 : bt s a = 48) (hx : bt s (a + 1) = 120) (p3 : Nat) (hM : MD (bt s) isHexB (a + 2) p3) (h6 : bt s p3 ≠ 112) :
    Calls Tryz.prog 56 #[.pointer (some ⟨b, 0, none⟩)] w fun e w' => ∃ x ok a', e = .returned (.tuple #[.float .f64 x, .bool ok]) ∧ QdAt w' b s a' 12 p3 ∧ But (fun k => k = b) w w' := by
  have R0 := hide h
  have B0 := hide (But.refl (fun k => k = b) w)
  clear h
  go_enter Tryz.func56, Tryz.ntmps56
  go_wp2_with (go_at_call 32; refine (is_no (c := 45) (by decide) (unhide R0) hm).mono ?_; rintro e w1 ⟨rfl, hr, hb⟩; have R1 := hide hr; have B1 := hide ((unhide B0).trans hb); clear hr hb; refine Hid.out ?_)
  refine hide ?_
  go_wp2_with (go_at_call 32; refine (is_no (c := 110) (by decide) (unhide R1) hn).mono ?_; rintro e w2 ⟨rfl, hr, hb⟩; have R2 := hide hr; have B2 := hide ((unhide B1).trans hb); clear hr hb; refine Hid.out ?_)
  refine hide ?_
  go_wp2_with (go_at_call 32; refine (is_no (c := 105) (by decide) (unhide R2) hi).mono ?_; rintro e w3 ⟨rfl, hr, hb⟩; have R3 := hide hr; have B3 := hide ((unhide B2).trans hb); clear hr hb; refine Hid.out ?_)
  refine hide ?_
  go_wp2_with (go_at_call 21; refine (want_ok (t := ⟨#[48, 120]⟩) (unhide R3) (by change 2 ≤ 100; omega) (stand2 (c := 48) (d := 120) h0 hx)).mono ?_; rintro e w4 ⟨rfl, hr, hb⟩; have R4 := hide hr; have B4 := hide ((unhide B3).trans hb); clear hr hb; refine Hid.out ?_)
  refine hide ?_
  go_wp2_with (go_at_call 70; refine (rrun_m (unhide R4) hM).mono ?_; rintro e w5 ⟨rfl, hr, hb⟩; have R5 := hide hr; have B5 := hide ((unhide B4).trans hb); clear hr hb; refine Hid.out ?_)
  refine hide ?_
  go_wp2_with (go_at_call 21; refine (want_bad (t := ⟨#[112]⟩) (unhide R5) (by decide) 0 (by decide) (stand0 _ _ _) h6).mono ?_; rintro e w6 ⟨rfl, hr, hb⟩; have R6 := hide hr; have B6 := hide ((unhide B5).trans hb); clear hr hb; refine Hid.out ?_)
  refine hide ?_
  have D := hide (dead_all (unhide R6))
  obtain ⟨d0, d1, d2, d3⟩ := (unhide R6).cells
  go_wp2_with (first
    | (go_at_call 70; first | (refine ((unhide D).2.2.2.2.2 _ _).mono ?_; rintro e w9 ⟨rfl, hw'⟩; obtain rfl := hw'.symm) | (refine ((unhide D).2.2.2.2.1 _ _ _).mono ?_; rintro e w9 ⟨rfl, hw'⟩; obtain rfl := hw'.symm))
    | (go_at_call 21; first | (refine ((unhide D).2.2.2.1 _ (by decide)).mono ?_; rintro e w9 ⟨rfl, hw'⟩; obtain rfl := hw'.symm) | (refine ((unhide D).2.2.1 _ _ (by decide)).mono ?_; rintro e w9 ⟨rfl, hw'⟩; obtain rfl := hw'.symm))
    | (go_at_call 32; refine ((unhide D).2.1 _).mono ?_; rintro e w9 ⟨rfl, m, rfl⟩))
  go_ret2
  exact ⟨_, _, _, rfl, (unhide R6).drew _, (unhide B6).trans (But.still (still_drewN _ _))⟩
end Go.Proofs.YtbkjmnopljmanaaGreatDoor
