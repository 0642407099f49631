/- The reference's reader behind a fault: it stays as it is. -/
import Derived.Test.YtbkjmnopljmanaaGreatDoorUh
namespace Go.Proofs.YtbkjmnopljmanaaGreatDoor
open Go.RowKit

set_option maxRecDepth 100000 in
theorem run_dead {w : World} {b : Nat} {s : ByteArray} {a e pl : Nat} (u v : Value) (he : e ≠ 0) (h : QdAt w b s a e pl) :
    Calls Tryz.prog 70 #[.pointer (some ⟨b, 0, none⟩), u, v] w fun x w' => x = .returned (.string ⟨#[]⟩) ∧ w' = w := by
  obtain ⟨c0, c1, c2, c3⟩ := h.cells
  have hz : ((e : Int) == 0) = false := by simpa using he
  clear h
  go_enter Tryz.func70, Tryz.ntmps70
  go_wp2_with fail
  go_ret
  exact ⟨rfl, rfl⟩
set_option maxHeartbeats 1000000 in
set_option maxRecDepth 100000 in
theorem rdfloat_dead {w : World} {b : Nat} {s : ByteArray} {a pl : Nat} (h : QdAt w b s a 12 pl) :
    Calls Tryz.prog 56 #[.pointer (some ⟨b, 0, none⟩)] w fun x w' => x = .returned (.tuple #[.float .f64 0, .bool false]) ∧ QdAt w' b s a 12 pl ∧ But (fun k => k = b) w w' := by
  obtain ⟨c0, c1, c2, c3⟩ := h.cells
  have H := hide h
  have HI : Hid (∀ n c, Calls Tryz.prog 32 #[.pointer (some ⟨b, 0, none⟩), c] (w.drewN n) fun x w' => x = .returned (.bool false) ∧ ∃ m, w' = (w.drewN n).drewN m) := fun n c => is_dead c (by decide) (h.drew n)
  have HW : Hid (∀ n t, t.size ≤ 100 → Calls Tryz.prog 21 #[.pointer (some ⟨b, 0, none⟩), .string t] (w.drewN n) fun x w' => x = .returned (.tuple #[]) ∧ w' = w.drewN n) := fun n t ht => want_dead (by decide) ht (h.drew n)
  have HR : Hid (∀ n u v, Calls Tryz.prog 70 #[.pointer (some ⟨b, 0, none⟩), u, v] (w.drewN n) fun x w' => x = .returned (.string ⟨#[]⟩) ∧ w' = w.drewN n) := fun n u v => run_dead u v (by decide) (h.drew n)
  clear h
  go_enter Tryz.func56, Tryz.ntmps56
  go_wp2_with (first
    | (go_at_call 32; first | (refine (is_dead _ (by decide) (unhide H)).mono ?_; rintro e w1 ⟨rfl, m, rfl⟩) | (refine (unhide HI _ _).mono ?_; rintro e w1 ⟨rfl, m, rfl⟩))
    | (go_at_call 21; refine (unhide HW _ _ (by decide)).mono ?_; rintro e w1 ⟨rfl, hw'⟩; obtain rfl := hw'.symm)
    | (go_at_call 70; refine (unhide HR _ _ _).mono ?_; rintro e w1 ⟨rfl, hw'⟩; obtain rfl := hw'.symm))
  go_ret2
  exact ⟨rfl, (unhide H).drew _, But.still (still_drewN _ _)⟩
theorem part_after {w : World} {b : Nat} {s : ByteArray} {a pl c : Nat} (h : QdAt w b s a 12 pl) :
    Calls Tryz.prog 47 #[.pointer (some ⟨b, 0, none⟩), .int .u8 (c : Nat)] w fun e w' => e = .returned (.float .f64 0) ∧ QdAt w' b s a 12 pl ∧ But (fun k => k = b) w w' := part_dead h (rdfloat_dead h)

/-- How the reference's part ends. -/
def PartTo (b : Nat) (s : ByteArray) (a : Nat) (c : Nat) (x a' e q : Nat) : Prop := ∀ w, QdAt w b s a 0 0 → Calls Tryz.prog 47 #[.pointer (some ⟨b, 0, none⟩), .int .u8 (c : Nat)] w fun y w' => y = .returned (.float .f64 x) ∧ QdAt w' b s a' e q ∧ But (fun k => k = b) w w'
set_option maxRecDepth 100000 in
theorem rnumber_ok {b : Nat} {s : ByteArray} {a x y a1 a2 : Nat} (h1 : bt s a = 40) (hP : PartTo b s (a + 1) 44 x a1 0 0) (hQ : PartTo b s a1 41 y a2 0 0) (w : World) (h : QdAt w b s a 0 0) :
    Calls Tryz.prog 22 #[.pointer (some ⟨b, 0, none⟩), .bool false] w fun e w' => e = .returned (.complex .f64 x y) ∧ QdAt w' b s a2 0 0 ∧ But (fun k => k = b) w w' := by
  have c1 := h.cells.2.1
  have R0 := hide h
  have KP := hide hP
  have KQ := hide hQ
  have HS : Hid (Stand s a ⟨#[40]⟩ (ByteArray.mk #[40]).size) := by
    intro i hi _
    obtain rfl : i = 0 := by change i < 1 at hi; omega
    exact h1
  clear h hP hQ
  go_enter Tryz.func22, Tryz.ntmps22
  go_wp2_with (go_at_call 21; refine (want_ok (t := ⟨#[40]⟩) (unhide R0) (by decide) (unhide HS)).mono ?_; rintro e w1 ⟨rfl, hr, hb⟩; have R1 := hide hr; have B1 := hide hb; clear hr hb; refine Hid.out ?_)
  refine hide ?_
  go_wp2_with (go_at_call 47; refine (unhide KP _ (unhide R1)).mono ?_; rintro e w2 ⟨rfl, hr, hb⟩; have R2 := hide hr; have B2 := hide ((unhide B1).trans hb); clear hr hb; refine Hid.out ?_)
  refine hide ?_
  go_wp2_with (go_at_call 47; refine (unhide KQ _ (unhide R2)).mono ?_; rintro e w3 ⟨rfl, hr, hb⟩; have c2 := hr.cells.2.2.1; have R3 := hide hr; have B3 := hide ((unhide B2).trans hb); clear hr hb)
  go_ret
  exact ⟨rfl, unhide R3, unhide B3⟩
end Go.Proofs.YtbkjmnopljmanaaGreatDoor
