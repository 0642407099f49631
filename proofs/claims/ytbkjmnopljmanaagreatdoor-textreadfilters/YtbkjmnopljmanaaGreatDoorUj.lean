/- The reference's reader: number where it is at fault; end. -/
import Derived.Test.YtbkjmnopljmanaaGreatDoorUi
namespace Go.Proofs.YtbkjmnopljmanaaGreatDoor
open Go.RowKit

set_option maxRecDepth 100000 in
theorem rnumber_bad0 {b : Nat} {s : ByteArray} {a q : Nat} (h1 : bt s a ≠ 40) (hq : q = a) (w : World) (h : QdAt w b s a 0 0) :
    Calls Tryz.prog 22 #[.pointer (some ⟨b, 0, none⟩), .bool false] w fun e w' => ∃ x y a', e = .returned (.complex .f64 x y) ∧ QdAt w' b s a' 12 q ∧ But (fun k => k = b) w w' := by
  have c1 := h.cells.2.1
  have R0 := hide h
  have HQ := hide hq
  clear h hq
  go_enter Tryz.func22, Tryz.ntmps22
  go_wp2_with (go_at_call 21; refine (want_bad (t := ⟨#[40]⟩) (unhide R0) (by decide) 0 (by decide) (fun _ _ h => absurd h (Nat.not_lt_zero _)) h1).mono ?_; rintro e w1 ⟨rfl, hr, hb⟩; have R1 := hide hr; have B1 := hide hb; clear hr hb; refine Hid.out ?_)
  refine hide ?_
  rw [Nat.add_zero, ← unhide HQ] at R1
  go_wp2_with (go_at_call 47; refine (part_after (unhide R1)).mono ?_; rintro e w2 ⟨rfl, hr, hb⟩; have R2 := hide hr; have B2 := hide ((unhide B1).trans hb); clear hr hb; refine Hid.out ?_)
  refine hide ?_
  go_wp2_with (go_at_call 47; refine (part_after (unhide R2)).mono ?_; rintro e w3 ⟨rfl, hr, hb⟩; have c2 := hr.cells.2.2.1; have R3 := hide hr; have B3 := hide ((unhide B2).trans hb); clear hr hb)
  go_ret
  exact ⟨_, _, _, rfl, unhide R3, unhide B3⟩
set_option maxRecDepth 100000 in
theorem rnumber_bad1 {b : Nat} {s : ByteArray} {a q x a1 : Nat} (h1 : bt s a = 40) (hP : PartTo b s (a + 1) 44 x a1 12 q) (w : World) (h : QdAt w b s a 0 0) :
    Calls Tryz.prog 22 #[.pointer (some ⟨b, 0, none⟩), .bool false] w fun e w' => ∃ x y a', e = .returned (.complex .f64 x y) ∧ QdAt w' b s a' 12 q ∧ But (fun k => k = b) w w' := by
  have c1 := h.cells.2.1
  have R0 := hide h
  have HS : Hid (Stand s a ⟨#[40]⟩ (ByteArray.mk #[40]).size) := by
    intro i hi _
    obtain rfl : i = 0 := by change i < 1 at hi; omega
    exact h1
  have KP := hide hP
  clear h hP
  go_enter Tryz.func22, Tryz.ntmps22
  go_wp2_with (go_at_call 21; refine (want_ok (t := ⟨#[40]⟩) (unhide R0) (by decide) (unhide HS)).mono ?_; rintro e w1 ⟨rfl, hr, hb⟩; have R1 := hide hr; have B1 := hide hb; clear hr hb; refine Hid.out ?_)
  refine hide ?_
  go_wp2_with (go_at_call 47; refine (unhide KP _ (unhide R1)).mono ?_; rintro e w2 ⟨rfl, hr, hb⟩; have R2 := hide hr; have B2 := hide ((unhide B1).trans hb); clear hr hb; refine Hid.out ?_)
  refine hide ?_
  go_wp2_with (go_at_call 47; refine (part_after (unhide R2)).mono ?_; rintro e w3 ⟨rfl, hr, hb⟩; have c2 := hr.cells.2.2.1; have R3 := hide hr; have B3 := hide ((unhide B2).trans hb); clear hr hb)
  go_ret
  exact ⟨_, _, _, rfl, unhide R3, unhide B3⟩
set_option maxRecDepth 100000 in
theorem rnumber_bad2 {b : Nat} {s : ByteArray} {a q x y a1 a2 : Nat} (h1 : bt s a = 40) (hP : PartTo b s (a + 1) 44 x a1 0 0) (hQ : PartTo b s a1 41 y a2 12 q) (w : World) (h : QdAt w b s a 0 0) :
    Calls Tryz.prog 22 #[.pointer (some ⟨b, 0, none⟩), .bool false] w fun e w' => ∃ x y a', e = .returned (.complex .f64 x y) ∧ QdAt w' b s a' 12 q ∧ But (fun k => k = b) w w' := by
  have c1 := h.cells.2.1
  have R0 := hide h
  have HS : Hid (Stand s a ⟨#[40]⟩ (ByteArray.mk #[40]).size) := by
    intro i hi _
    obtain rfl : i = 0 := by change i < 1 at hi; omega
    exact h1
  have KP := hide hP
  have KQ := hide hQ
  clear h hP hQ
  go_enter Tryz.func22, Tryz.ntmps22
  go_wp2_with (go_at_call 21; refine (want_ok (t := ⟨#[40]⟩) (unhide R0) (by decide) (unhide HS)).mono ?_; rintro e w1 ⟨rfl, hr, hb⟩; have R1 := hide hr; have B1 := hide hb; clear hr hb; refine Hid.out ?_)
  refine hide ?_
  go_wp2_with (go_at_call 47; refine (unhide KP _ (unhide R1)).mono ?_; rintro e w2 ⟨rfl, hr, hb⟩; have R2 := hide hr; have B2 := hide ((unhide B1).trans hb); clear hr hb; refine Hid.out ?_)
  refine hide ?_
  go_wp2_with (go_at_call 47; refine (unhide KQ _ (unhide R2)).mono ?_; rintro e w3 ⟨rfl, hr, hb⟩; have c2 := hr.cells.2.2.1; have R3 := hide hr; have B3 := hide ((unhide B2).trans hb); clear hr hb)
  go_ret
  exact ⟨_, _, _, rfl, unhide R3, unhide B3⟩
end Go.Proofs.YtbkjmnopljmanaaGreatDoor
