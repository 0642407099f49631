/- The reference's reader: end; DocRead. -/
import Derived.Test.YtbkjmnopljmanaaGreatDoorUj
namespace Go.Proofs.YtbkjmnopljmanaaGreatDoor
open Go.RowKit

set_option maxRecDepth 100000 in
theorem rend_bad {w : World} {b : Nat} {s : ByteArray} {a q : Nat} (h : QdAt w b s a 12 q) :
    Calls Tryz.prog 24 #[.pointer (some ⟨b, 0, none⟩)] w fun e w' => e = .returned (.tuple #[.int .i64 (q : Nat), .int .i64 12]) ∧ But (fun k => k = b) w w' := by
  obtain ⟨c0, c1, c2, c3⟩ := h.cells
  clear h
  go_enter Tryz.func24, Tryz.ntmps24
  go_wp2_with fail
  go_quiet (fail)
  revert nq
  intro n1
  go_wp2_with fail
  go_quiet (fail)
  go_wp2
  go_ret2
  exact ⟨rfl, (But.still (still_drewN _ n1)).trans (But.still (still_drewN _ nq))⟩
set_option maxRecDepth 100000 in
theorem rend_ok {w : World} {b : Nat} {s : ByteArray} (h : QdAt w b s s.size 0 0) :
    Calls Tryz.prog 24 #[.pointer (some ⟨b, 0, none⟩)] w fun e w' => e = .returned (.tuple #[.int .i64 0, .int .i64 0]) ∧ But (fun k => k = b) w w' := by
  obtain ⟨c0, c1, c2, c3⟩ := h.cells
  clear h
  go_enter Tryz.func24, Tryz.ntmps24
  go_wp2_with fail
  go_quiet (fail)
  revert nq
  intro n1
  go_wp2_with fail
  go_quiet (fail)
  go_wp2
  go_ret2
  exact ⟨rfl, (But.still (still_drewN _ n1)).trans (But.still (still_drewN _ nq))⟩
set_option maxRecDepth 100000 in
theorem rend_rest {w : World} {b : Nat} {s : ByteArray} {a : Nat} (h : QdAt w b s a 0 0) (ha : a ≠ s.size) :
    Calls Tryz.prog 24 #[.pointer (some ⟨b, 0, none⟩)] w fun e w' => e = .returned (.tuple #[.int .i64 (a : Nat), .int .i64 12]) ∧ But (fun k => k = b) w w' := by
  obtain ⟨c0, c1, c2, c3⟩ := h.cells
  have hz : ((a : Int) == (s.size : Int)) = false := by rw [beq_eq_false_iff_ne]; omega
  have H := hide h
  clear h ha
  go_enter Tryz.func24, Tryz.ntmps24
  go_wp2_with fail
  go_quiet (fail)
  go_wp2_with (go_at_call 33; refine (fail_any 12 a ((unhide H).drew nq)).mono ?_; rintro e w1 ⟨rfl, hr, hb⟩; have g := hr.cells; have B1 := hide ((But.still (still_drewN _ nq)).trans hb); clear hr hb; refine Hid.out ?_)
  refine hide ?_
  obtain ⟨g0, g1, g2, g3⟩ := g
  go_wp2_with fail
  go_quiet (fail)
  go_wp2
  go_ret2
  exact ⟨rfl, (unhide B1).trans (But.still (still_drewN _ _))⟩

set_option maxRecDepth 100000 in
theorem docread_long {s : ByteArray} (hs : 65536 < s.size) (w : World) :
    Calls Tryz.prog 16 #[.string s] w fun e w' => e = .returned (.tuple #[.complex .f64 0 0, .int .i64 0, .int .i64 2]) ∧ w' = w := by
  have h9 : (65536 : Int) < (s.size : Int) := by omega
  go_enter Tryz.func16, Tryz.ntmps16
  go_wp2_with fail
  (try simp only [Exit.inBlock, Exit.then]); refine bodyPost_ret (results_tmp3 rfl _ _ _) rfl ?_
  exact ⟨rfl, rfl⟩
set_option maxRecDepth 100000 in
theorem docread_err {s : ByteArray} (hs : s.size ≤ 65536) {q : Nat} (w : World)
    (H : ∀ W, QdAt W w.heap.size s 0 0 0 → Calls Tryz.prog 22 #[.pointer (some ⟨w.heap.size, 0, none⟩), .bool false] W fun e w' => ∃ x y, e = .returned (.complex .f64 x y) ∧ But (fun k => k = w.heap.size) W w' ∧
      Calls Tryz.prog 24 #[.pointer (some ⟨w.heap.size, 0, none⟩)] w' fun e w'' => e = .returned (.tuple #[.int .i64 (q : Nat), .int .i64 12]) ∧ But (fun k => k = w.heap.size) w' w'') :
    Calls Tryz.prog 16 #[.string s] w fun e w' => e = .returned (.tuple #[.complex .f64 0 0, .int .i64 (q : Nat), .int .i64 12]) ∧ Below w.heap.size w w' := by
  have h9 : ¬ (65536 : Int) < (s.size : Int) := by omega
  have HB := hide ((Below.refl w.heap.size w).alloc (Nat.le_refl _) (.cells #[.string s, .int .i64 0, .int .i64 0, .int .i64 0] 59))
  have HN := hide (H (w.alloc (.cells #[.string s, .int .i64 0, .int .i64 0, .int .i64 0] 59)) ⟨Blk.alloc, Nat.zero_le _, hs⟩)
  clear H
  go_enter Tryz.func16, Tryz.ntmps16
  go_wp2_with (first
    | (go_at_call 22; refine (unhide HN).mono ?_; rintro e w1 ⟨x, y, rfl, hb, he⟩; have B1 := hide hb; have HE := hide he; clear hb he)
    | (go_at_call 24; refine (unhide HE).mono ?_; rintro e w2 ⟨rfl, hb⟩; have B2 := hide ((unhide B1).trans hb); clear hb))
  (try simp only [Exit.inBlock, Exit.then]); refine bodyPost_ret (results_tmp3 rfl _ _ _) rfl ?_
  exact ⟨rfl, (unhide B2).below (unhide HB) (unhide HB).size (fun k e => by omega)⟩
set_option maxRecDepth 100000 in
theorem docread_fine {s : ByteArray} (hs : s.size ≤ 65536) {x y : Nat} (w : World)
    (H : ∀ W, QdAt W w.heap.size s 0 0 0 → Calls Tryz.prog 22 #[.pointer (some ⟨w.heap.size, 0, none⟩), .bool false] W fun e w' => e = .returned (.complex .f64 x y) ∧ But (fun k => k = w.heap.size) W w' ∧
      Calls Tryz.prog 24 #[.pointer (some ⟨w.heap.size, 0, none⟩)] w' fun e w'' => e = .returned (.tuple #[.int .i64 0, .int .i64 0]) ∧ But (fun k => k = w.heap.size) w' w'') :
    Calls Tryz.prog 16 #[.string s] w fun e w' => e = .returned (.tuple #[.complex .f64 x y, .int .i64 0, .int .i64 0]) ∧ Below w.heap.size w w' := by
  have h9 : ¬ (65536 : Int) < (s.size : Int) := by omega
  have HB := hide ((Below.refl w.heap.size w).alloc (Nat.le_refl _) (.cells #[.string s, .int .i64 0, .int .i64 0, .int .i64 0] 59))
  have HN := hide (H (w.alloc (.cells #[.string s, .int .i64 0, .int .i64 0, .int .i64 0] 59)) ⟨Blk.alloc, Nat.zero_le _, hs⟩)
  clear H
  go_enter Tryz.func16, Tryz.ntmps16
  go_wp2_with (first
    | (go_at_call 22; refine (unhide HN).mono ?_; rintro e w1 ⟨rfl, hb, he⟩; have B1 := hide hb; have HE := hide he; clear hb he)
    | (go_at_call 24; refine (unhide HE).mono ?_; rintro e w2 ⟨rfl, hb⟩; have B2 := hide ((unhide B1).trans hb); clear hb))
  (try simp only [Exit.inBlock, Exit.then]); refine bodyPost_ret (results_tmp3 rfl _ _ _) rfl ?_
  exact ⟨rfl, (unhide B2).below (unhide HB) (unhide HB).size (fun k e => by omega)⟩
end Go.Proofs.YtbkjmnopljmanaaGreatDoor
