/- The reference's reader: part. -/
import Derived.Test.YtbkjmnopljmanaaGreatDoorUb
namespace Go.Proofs.YtbkjmnopljmanaaGreatDoor
open Go.RowKit

set_option maxRecDepth 100000 in
theorem part_dead {w : World} {b : Nat} {s : ByteArray} {a a' e0 pl q x : Nat} {c : Nat} {ok : Bool} (h : QdAt w b s a e0 pl)
    (HF : Calls Tryz.prog 56 #[.pointer (some ⟨b, 0, none⟩)] w fun e w' => e = .returned (.tuple #[.float .f64 x, .bool ok]) ∧ QdAt w' b s a' 12 q ∧ But (fun k => k = b) w w') :
    Calls Tryz.prog 47 #[.pointer (some ⟨b, 0, none⟩), .int .u8 (c : Nat)] w fun e w' => e = .returned (.float .f64 x) ∧ QdAt w' b s a' 12 q ∧ But (fun k => k = b) w w' := by
  obtain ⟨c0, c1, c2, c3⟩ := h.cells
  have KF := hide HF
  clear h HF
  cases ok
  all_goals
    go_enter Tryz.func47, Tryz.ntmps47
    go_wp2_with (go_at_call 56; refine (unhide KF).mono ?_; rintro e w1 ⟨rfl, hr, hb⟩; have R1 := hide hr; have B1 := hide hb; clear hr hb; refine Hid.out ?_)
    refine hide ?_
    obtain ⟨d0, d1, d2, d3⟩ := (unhide R1).cells
    go_wp2_with (first
      | (go_at_call 32; refine (is_dead _ (by decide) (unhide R1)).mono ?_; rintro e w2 ⟨rfl, m, rfl⟩)
      | (go_at_call 33; refine (fail_dead _ _ (by decide) ((unhide R1).drew _)).mono ?_; rintro e w3 ⟨rfl, hw'⟩; obtain rfl := hw'.symm))
    go_ret
    exact ⟨rfl, (unhide R1).drew _, (unhide B1).trans (But.still (still_drewN _ _))⟩
set_option maxRecDepth 100000 in
theorem part_ebad {w : World} {b : Nat} {s : ByteArray} {a a' pl x : Nat} {c : Nat} {ok : Bool} (hc : c < 256) (h : QdAt w b s a 0 pl) (he : bt s a' ≠ c)
    (HF : Calls Tryz.prog 56 #[.pointer (some ⟨b, 0, none⟩)] w fun e w' => e = .returned (.tuple #[.float .f64 x, .bool ok]) ∧ QdAt w' b s a' 0 pl ∧ But (fun k => k = b) w w') :
    Calls Tryz.prog 47 #[.pointer (some ⟨b, 0, none⟩), .int .u8 (c : Nat)] w fun e w' => e = .returned (.float .f64 x) ∧ QdAt w' b s a' 12 a' ∧ But (fun k => k = b) w w' := by
  obtain ⟨c0, c1, c2, c3⟩ := h.cells
  have KF := hide HF
  clear h HF
  cases ok
  all_goals
    go_enter Tryz.func47, Tryz.ntmps47
    go_wp2_with (go_at_call 56; refine (unhide KF).mono ?_; rintro e w1 ⟨rfl, hr, hb⟩; have HI := hide (is_any hc hr); rw [decide_eq_false he] at HI; have R1 := hide hr; have B1 := hide hb; clear hr hb; refine Hid.out ?_)
    refine hide ?_
    obtain ⟨d0, d1, d2, d3⟩ := (unhide R1).cells
    go_wp2_with (first
      | (go_at_call 32; refine (unhide HI).mono ?_; rintro e w2 ⟨rfl, m, rfl⟩)
      | (go_at_call 33; refine (fail_any 12 a' ((unhide R1).drew _)).mono ?_; rintro e w3 ⟨rfl, hr, hb⟩; have R3 := hide hr; have B3 := hide (((unhide B1).trans (But.still (still_drewN _ _))).trans hb); clear hr hb; refine Hid.out ?_))
    refine hide ?_
    obtain ⟨g0, g1, g2, g3⟩ := (unhide R3).cells
    go_wp2_with (go_at_call 33; refine (fail_dead _ _ (by decide) (unhide R3)).mono ?_; rintro e w4 ⟨rfl, hw'⟩; obtain rfl := hw'.symm)
    go_ret
    exact ⟨rfl, unhide R3, unhide B3⟩
set_option maxRecDepth 100000 in
theorem part_wrong {w : World} {b : Nat} {s : ByteArray} {a a' pl x : Nat} {c : Nat} (hc : c < 256) (h : QdAt w b s a 0 pl) (he : bt s a' = c)
    (HF : Calls Tryz.prog 56 #[.pointer (some ⟨b, 0, none⟩)] w fun e w' => e = .returned (.tuple #[.float .f64 x, .bool false]) ∧ QdAt w' b s a' 0 pl ∧ But (fun k => k = b) w w') :
    Calls Tryz.prog 47 #[.pointer (some ⟨b, 0, none⟩), .int .u8 (c : Nat)] w fun e w' => e = .returned (.float .f64 x) ∧ QdAt w' b s a' 12 a ∧ But (fun k => k = b) w w' := by
  obtain ⟨c0, c1, c2, c3⟩ := h.cells
  have KF := hide HF
  clear h HF
  go_enter Tryz.func47, Tryz.ntmps47
  go_wp2_with (go_at_call 56; refine (unhide KF).mono ?_; rintro e w1 ⟨rfl, hr, hb⟩; have HI := hide (is_any hc hr); rw [decide_eq_true he] at HI; have R1 := hide hr; have B1 := hide hb; clear hr hb; refine Hid.out ?_)
  refine hide ?_
  obtain ⟨d0, d1, d2, d3⟩ := (unhide R1).cells
  go_wp2_with (first
    | (go_at_call 32; refine (unhide HI).mono ?_; rintro e w2 ⟨rfl, m, rfl⟩)
    | (go_at_call 33; refine (fail_any 12 a ((unhide R1).drew _)).mono ?_; rintro e w3 ⟨rfl, hr, hb⟩; have g := hr.cells; have R3 := hide hr; have B3 := hide (((unhide B1).trans (But.still (still_drewN _ _))).trans hb); clear hr hb; refine Hid.out ?_))
  refine hide ?_
  obtain ⟨g0, g1, g2, g3⟩ := g
  go_wp2_with fail
  go_ret
  exact ⟨rfl, unhide R3, unhide B3⟩
set_option maxRecDepth 100000 in
theorem part_ok {w : World} {b : Nat} {s : ByteArray} {a a' pl x : Nat} {c : Nat} (hc : c < 256) (h : QdAt w b s a 0 pl) (he : bt s a' = c)
    (HF : Calls Tryz.prog 56 #[.pointer (some ⟨b, 0, none⟩)] w fun e w' => e = .returned (.tuple #[.float .f64 x, .bool true]) ∧ QdAt w' b s a' 0 pl ∧ But (fun k => k = b) w w') :
    Calls Tryz.prog 47 #[.pointer (some ⟨b, 0, none⟩), .int .u8 (c : Nat)] w fun e w' => e = .returned (.float .f64 x) ∧ QdAt w' b s (a' + 1) 0 pl ∧ But (fun k => k = b) w w' := by
  obtain ⟨c0, c1, c2, c3⟩ := h.cells
  have KF := hide HF
  have hlt : a' < s.size := bt_lt.1 (by omega)
  have h9 := h.2.2
  have hw1 : IntKind.i64.wrap ((a' : Int) + 1) = (a' : Int) + 1 := by simp [IntKind.wrap_i64]; omega
  clear h HF
  go_enter Tryz.func47, Tryz.ntmps47
  go_wp2_with (go_at_call 56; refine (unhide KF).mono ?_; rintro e w1 ⟨rfl, hr, hb⟩; have HI := hide (is_any hc hr); rw [decide_eq_true he] at HI; have f1 := hr.1.unfrozen 1; have R1 := hide hr; have B1 := hide hb; clear hr hb; refine Hid.out ?_)
  refine hide ?_
  obtain ⟨d0, d1, d2, d3⟩ := (unhide R1).cells
  go_wp2_with (go_at_call 32; refine (unhide HI).mono ?_; rintro e w2 ⟨rfl, m, rfl⟩)
  go_ret
  exact ⟨rfl, ((unhide R1).drew m).step hlt, ((unhide B1).trans (But.still (still_drewN _ m))).trans (But.setCell _ _ _ _ rfl)⟩
end Go.Proofs.YtbkjmnopljmanaaGreatDoor
