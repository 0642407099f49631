/- The reference's reader: digit, run. -/
import Derived.Test.YtbkjmnopljmanaaGreatDoorUb
import Derived.Test.YtbkjmnopljmanaaGreatDoorTv
namespace Go.Proofs.YtbkjmnopljmanaaGreatDoor
open Go.RowKit

/-- Is it a digit? -/
def isDig (hex : Bool) (c : Nat) : Bool := if hex then isHexB c else isDecB c
theorem digit_0d (c : Nat) (h : c < 48) (w : World) : Calls Tryz.prog 87 #[.int .u8 (c : Nat), .bool false] w fun e w' => e = .returned (.bool false) ∧ w' = w := by
  have i0 : (c : Int) < 48 := by omega
  have i1 : (c : Int) < 97 := by omega
  clear h
  go_enter Tryz.func87, Tryz.ntmps87
  go_wp2
  go_ret
  exact ⟨rfl, rfl⟩
theorem digit_0x (c : Nat) (h : c < 48) (w : World) : Calls Tryz.prog 87 #[.int .u8 (c : Nat), .bool true] w fun e w' => e = .returned (.bool false) ∧ w' = w := by
  have i0 : (c : Int) < 48 := by omega
  have i1 : (c : Int) < 97 := by omega
  clear h
  go_enter Tryz.func87, Tryz.ntmps87
  go_wp2
  go_ret
  exact ⟨rfl, rfl⟩
theorem digit_1d (c : Nat) (h : 48 ≤ c ∧ c ≤ 57) (w : World) : Calls Tryz.prog 87 #[.int .u8 (c : Nat), .bool false] w fun e w' => e = .returned (.bool true) ∧ w' = w := by
  have i0 : (48 : Int) ≤ (c : Int) := by omega
  have i1 : (c : Int) ≤ 57 := by omega
  clear h
  go_enter Tryz.func87, Tryz.ntmps87
  go_wp2
  go_ret
  exact ⟨rfl, rfl⟩
theorem digit_1x (c : Nat) (h : 48 ≤ c ∧ c ≤ 57) (w : World) : Calls Tryz.prog 87 #[.int .u8 (c : Nat), .bool true] w fun e w' => e = .returned (.bool true) ∧ w' = w := by
  have i0 : (48 : Int) ≤ (c : Int) := by omega
  have i1 : (c : Int) ≤ 57 := by omega
  clear h
  go_enter Tryz.func87, Tryz.ntmps87
  go_wp2
  go_ret
  exact ⟨rfl, rfl⟩
theorem digit_2d (c : Nat) (h : 57 < c ∧ c < 97) (w : World) : Calls Tryz.prog 87 #[.int .u8 (c : Nat), .bool false] w fun e w' => e = .returned (.bool false) ∧ w' = w := by
  have i0 : (48 : Int) ≤ (c : Int) := by omega
  have i1 : 57 < (c : Int) := by omega
  have j1 : decide ((c : Int) ≤ 57) = false := by rw [decide_eq_false_iff_not]; omega
  have i2 : (c : Int) < 97 := by omega
  clear h
  go_enter Tryz.func87, Tryz.ntmps87
  go_wp2
  go_ret
  exact ⟨rfl, rfl⟩
theorem digit_2x (c : Nat) (h : 57 < c ∧ c < 97) (w : World) : Calls Tryz.prog 87 #[.int .u8 (c : Nat), .bool true] w fun e w' => e = .returned (.bool false) ∧ w' = w := by
  have i0 : (48 : Int) ≤ (c : Int) := by omega
  have i1 : 57 < (c : Int) := by omega
  have j1 : decide ((c : Int) ≤ 57) = false := by rw [decide_eq_false_iff_not]; omega
  have i2 : (c : Int) < 97 := by omega
  clear h
  go_enter Tryz.func87, Tryz.ntmps87
  go_wp2
  go_ret
  exact ⟨rfl, rfl⟩
theorem digit_3d (c : Nat) (h : 97 ≤ c ∧ c ≤ 102) (w : World) : Calls Tryz.prog 87 #[.int .u8 (c : Nat), .bool false] w fun e w' => e = .returned (.bool false) ∧ w' = w := by
  have i0 : (48 : Int) ≤ (c : Int) := by omega
  have i1 : 57 < (c : Int) := by omega
  have j1 : decide ((c : Int) ≤ 57) = false := by rw [decide_eq_false_iff_not]; omega
  have i2 : (97 : Int) ≤ (c : Int) := by omega
  have i3 : (c : Int) ≤ 102 := by omega
  clear h
  go_enter Tryz.func87, Tryz.ntmps87
  go_wp2
  go_ret
  exact ⟨rfl, rfl⟩
theorem digit_3x (c : Nat) (h : 97 ≤ c ∧ c ≤ 102) (w : World) : Calls Tryz.prog 87 #[.int .u8 (c : Nat), .bool true] w fun e w' => e = .returned (.bool true) ∧ w' = w := by
  have i0 : (48 : Int) ≤ (c : Int) := by omega
  have i1 : 57 < (c : Int) := by omega
  have j1 : decide ((c : Int) ≤ 57) = false := by rw [decide_eq_false_iff_not]; omega
  have i2 : (97 : Int) ≤ (c : Int) := by omega
  have i3 : (c : Int) ≤ 102 := by omega
  clear h
  go_enter Tryz.func87, Tryz.ntmps87
  go_wp2
  go_ret
  exact ⟨rfl, rfl⟩
theorem digit_4d (c : Nat) (h : 102 < c) (w : World) : Calls Tryz.prog 87 #[.int .u8 (c : Nat), .bool false] w fun e w' => e = .returned (.bool false) ∧ w' = w := by
  have i0 : (48 : Int) ≤ (c : Int) := by omega
  have i1 : 57 < (c : Int) := by omega
  have j1 : decide ((c : Int) ≤ 57) = false := by rw [decide_eq_false_iff_not]; omega
  have i2 : (97 : Int) ≤ (c : Int) := by omega
  have i3 : 102 < (c : Int) := by omega
  have j3 : decide ((c : Int) ≤ 102) = false := by rw [decide_eq_false_iff_not]; omega
  clear h
  go_enter Tryz.func87, Tryz.ntmps87
  go_wp2
  go_ret
  exact ⟨rfl, rfl⟩
theorem digit_4x (c : Nat) (h : 102 < c) (w : World) : Calls Tryz.prog 87 #[.int .u8 (c : Nat), .bool true] w fun e w' => e = .returned (.bool false) ∧ w' = w := by
  have i0 : (48 : Int) ≤ (c : Int) := by omega
  have i1 : 57 < (c : Int) := by omega
  have j1 : decide ((c : Int) ≤ 57) = false := by rw [decide_eq_false_iff_not]; omega
  have i2 : (97 : Int) ≤ (c : Int) := by omega
  have i3 : 102 < (c : Int) := by omega
  have j3 : decide ((c : Int) ≤ 102) = false := by rw [decide_eq_false_iff_not]; omega
  clear h
  go_enter Tryz.func87, Tryz.ntmps87
  go_wp2
  go_ret
  exact ⟨rfl, rfl⟩
theorem digit_any (hex : Bool) (c : Nat) (w : World) : Calls Tryz.prog 87 #[.int .u8 (c : Nat), .bool hex] w fun e w' => e = .returned (.bool (isDig hex c)) ∧ w' = w := by
  rcases (by omega : c < 48 ∨ (48 ≤ c ∧ c ≤ 57) ∨ (57 < c ∧ c < 97) ∨ (97 ≤ c ∧ c ≤ 102) ∨ 102 < c) with h | h | h | h | h
  · cases hex
    · have e : isDig false c = false := by simp [isDig, isDecB]; omega
      rw [e]; exact digit_0d c h w
    · have e : isDig true c = false := by simp [isDig, isHexB]; omega
      rw [e]; exact digit_0x c h w
  · cases hex
    · have e : isDig false c = true := by simp [isDig, isDecB]; omega
      rw [e]; exact digit_1d c h w
    · have e : isDig true c = true := by simp [isDig, isHexB]; omega
      rw [e]; exact digit_1x c h w
  · cases hex
    · have e : isDig false c = false := by simp [isDig, isDecB]; omega
      rw [e]; exact digit_2d c h w
    · have e : isDig true c = false := by simp [isDig, isHexB]; omega
      rw [e]; exact digit_2x c h w
  · cases hex
    · have e : isDig false c = false := by simp [isDig, isDecB]; omega
      rw [e]; exact digit_3d c h w
    · have e : isDig true c = true := by simp [isDig, isHexB]; omega
      rw [e]; exact digit_3x c h w
  · cases hex
    · have e : isDig false c = false := by simp [isDig, isDecB]; omega
      rw [e]; exact digit_4d c h w
    · have e : isDig true c = false := by simp [isDig, isHexB]; omega
      rw [e]; exact digit_4x c h w

/-- How run ends: no digit can stand there. -/
def RBad (f : Nat → Nat) (hex nz : Bool) (a : Nat) : Prop := isDig hex (f a) = false ∨ (nz = true ∧ f a = 48)
def ROk (f : Nat → Nat) (hex nz : Bool) (a q : Nat) : Prop := (f a = 48 ∧ nz = false ∧ q = a + 1) ∨ (f a ≠ 48 ∧ Run f (isDig hex) a q)

set_option maxHeartbeats 1000000 in
set_option maxRecDepth 100000 in
theorem run_none {w : World} {b : Nat} {s : ByteArray} {a pl : Nat} (hex nz : Bool) (h : QdAt w b s a 0 pl) (hD : isDig hex (bt s a) = false) :
    Calls Tryz.prog 70 #[.pointer (some ⟨b, 0, none⟩), .bool hex, .bool nz] w fun x w' => (∃ t, x = .returned (.string t)) ∧ QdAt w' b s a 12 a ∧ But (fun k => k = b) w w' := by
  obtain ⟨c0, c1, c2, c3⟩ := h.cells
  have H := hide h
  have h8 := h.2.1
  have HD : Hid (∀ ha : a < s.size, ∀ n, Calls Tryz.prog 87 #[.int .u8 ((s[a]'ha).toNat : Nat), .bool hex] (w.drewN n) fun e w' => e = .returned (.bool false) ∧ w' = w.drewN n) := fun ha n => by
    have := digit_any hex (s[a]'ha).toNat (w.drewN n)
    rw [bt_of ha] at hD
    rwa [hD] at this
  clear h hD
  have l1 : (a : Int) ≤ (s.size : Int) := by omega
  go_enter Tryz.func70, Tryz.ntmps70
  go_wp2_with fail
  go_loopw [39] (fun _ wr => wr = w) (fun _ _ => 0)
  case atStart => exact rfl
  case round =>
    obtain rfl := hrel.symm
    by_cases ha : a < s.size
    · have i1 : (a : Int) < (s.size : Int) := by omega
      have i2 : ¬ ((a : Int) < 0) := by omega
      go_wp2_with fail
      go_quiet ((go_at_call 87; exact Calls.quiet_of_same (unhide HD ha _)))
      go_wp2_with (go_at_call 33; refine (fail_any 12 a ((unhide H).drew nq)).mono ?_; rintro e w1 ⟨rfl, hf, hb⟩; have c4 := hf.cells; have HF := hide hf; have HB := hide ((But.still (still_drewN _ nq)).trans hb); clear hf hb; refine Hid.out ?_)
      refine hide ?_
      obtain ⟨d0, d1, d2, d3⟩ := c4
      go_wp2_with fail
      go_quiet (fail)
      go_wp2
      go_ret
      exact ⟨⟨_, rfl⟩, (unhide HF).drew _, (unhide HB).trans (But.still (still_drewN _ _))⟩
    · have i1 : ¬ (a : Int) < (s.size : Int) := by omega
      go_wp2_with fail
      go_quiet (fail)
      go_wp2_with (go_at_call 33; refine (fail_any 12 a ((unhide H).drew nq)).mono ?_; rintro e w1 ⟨rfl, hf, hb⟩; have c4 := hf.cells; have HF := hide hf; have HB := hide ((But.still (still_drewN _ nq)).trans hb); clear hf hb; refine Hid.out ?_)
      refine hide ?_
      obtain ⟨d0, d1, d2, d3⟩ := c4
      go_wp2_with fail
      go_quiet (fail)
      go_wp2
      go_ret
      exact ⟨⟨_, rfl⟩, (unhide HF).drew _, (unhide HB).trans (But.still (still_drewN _ _))⟩

set_option maxHeartbeats 1000000 in
set_option maxRecDepth 100000 in
theorem run_zero {w : World} {b : Nat} {s : ByteArray} {a pl : Nat} (hex : Bool) (h : QdAt w b s a 0 pl) (hz : bt s a = 48) :
    Calls Tryz.prog 70 #[.pointer (some ⟨b, 0, none⟩), .bool hex, .bool true] w fun x w' => (∃ t, x = .returned (.string t)) ∧ QdAt w' b s a 12 a ∧ But (fun k => k = b) w w' := by
  obtain ⟨c0, c1, c2, c3⟩ := h.cells
  have H := hide h
  have h8 := h.2.1
  have ha : a < s.size := bt_lt.1 (by rw [hz]; decide)
  have hb0 : (s[a]'ha).toNat = 48 := by rw [← bt_of ha]; exact hz
  have HD : Hid (∀ n, Calls Tryz.prog 87 #[.int .u8 48, .bool hex] (w.drewN n) fun e w' => e = .returned (.bool true) ∧ w' = w.drewN n) := fun n => by
    have := digit_any hex 48 (w.drewN n)
    have e : isDig hex 48 = true := by cases hex <;> rfl
    rwa [e] at this
  clear h hz
  have l1 : (a : Int) ≤ (s.size : Int) := by omega
  have i1 : (a : Int) < (s.size : Int) := by omega
  have i2 : ¬ ((a : Int) < 0) := by omega
  have hb1 : ((s[a]'ha).toNat : Int) = 48 := by omega
  go_enter Tryz.func70, Tryz.ntmps70
  go_wp2_with fail
  go_loopw [39] (fun _ wr => wr = w) (fun _ _ => 0)
  case atStart => exact rfl
  case round =>
    obtain rfl := hrel.symm
    · go_wp2_with fail
      go_quiet ((go_at_call 87; exact Calls.quiet_of_same (unhide HD _)))
      revert nq
      intro n1
      go_wp2_with fail
      go_quiet (fail)
      go_wp2_with (go_at_call 33; refine (fail_any (w := w.drewN (n1 + nq)) 12 a (unhide H)).mono ?_; rintro e w1 ⟨rfl, hf, hb⟩; have c4 := hf.cells; have HF := hide hf; have HB := hide ((But.still (still_drewN w (n1 + nq))).trans hb); clear hf hb; refine Hid.out ?_)
      refine hide ?_
      obtain ⟨d0, d1, d2, d3⟩ := c4
      go_wp2_with fail
      go_quiet (fail)
      go_wp2
      go_ret
      exact ⟨⟨_, rfl⟩, (unhide HF).drew _, (unhide HB).trans (But.still (still_drewN _ _))⟩
set_option maxHeartbeats 1000000 in
set_option maxRecDepth 100000 in
theorem run_nought {w : World} {b : Nat} {s : ByteArray} {a pl : Nat} (hex : Bool) (h : QdAt w b s a 0 pl) (hz : bt s a = 48) :
    Calls Tryz.prog 70 #[.pointer (some ⟨b, 0, none⟩), .bool hex, .bool false] w fun x w' => x = .returned (.string (s.extract a (a + 1))) ∧ QdAt w' b s (a + 1) 0 pl ∧ But (fun k => k = b) w w' := by
  obtain ⟨c0, c1, c2, c3⟩ := h.cells
  have f1 := h.1.unfrozen 1
  have H := hide h
  have h8 := h.2.1
  have h9 := h.2.2
  have ha : a < s.size := bt_lt.1 (by rw [hz]; decide)
  have hb0 : (s[a]'ha).toNat = 48 := by rw [← bt_of ha]; exact hz
  have HD : Hid (∀ n, Calls Tryz.prog 87 #[.int .u8 48, .bool hex] (w.drewN n) fun e w' => e = .returned (.bool true) ∧ w' = w.drewN n) := fun n => by
    have := digit_any hex 48 (w.drewN n)
    have e : isDig hex 48 = true := by cases hex <;> rfl
    rwa [e] at this
  clear h hz
  have l1 : (a : Int) ≤ (s.size : Int) := by omega
  have i1 : (a : Int) < (s.size : Int) := by omega
  have i2 : ¬ ((a : Int) < 0) := by omega
  have hb1 : ((s[a]'ha).toNat : Int) = 48 := by omega
  have hw1 : IntKind.i64.wrap ((a : Int) + 1) = (a : Int) + 1 := by simp [IntKind.wrap_i64]; omega
  go_enter Tryz.func70, Tryz.ntmps70
  go_wp2_with fail
  go_loopw [39] (fun _ wr => wr = w) (fun _ _ => 0)
  case atStart => exact rfl
  case round =>
    obtain rfl := hrel.symm
    · go_wp2_with fail
      go_quiet ((go_at_call 87; exact Calls.quiet_of_same (unhide HD _)))
      revert nq
      intro n1
      go_wp2_with fail
      go_quiet (fail)
      go_wp2_with fail
      have hs := ((unhide H).drew (n1 + nq)).step ha
      have HS := hide hs
      have HB := hide ((But.still (still_drewN w (n1 + nq))).trans (But.setCell (fun k => k = b) _ ⟨b, 1, none⟩ (.int .i64 ((a : Int) + 1)) rfl))
      obtain ⟨d0, d1, d2, d3⟩ := hs.cells
      clear hs
      generalize (w.drewN (n1 + nq)).setCell ⟨b, 1, none⟩ (.int .i64 ((a : Int) + 1)) = W9 at *
      have l2 : (a : Int) ≤ ((a + 1 : Nat) : Int) := by omega
      have l3 : ((a + 1 : Nat) : Int) ≤ (s.size : Int) := by omega
      go_quiet (fail)
      go_wp2
      go_ret
      exact ⟨rfl, (unhide HS).drew _, (unhide HB).trans (But.still (still_drewN _ _))⟩

set_option maxHeartbeats 2000000 in
set_option maxRecDepth 100000 in
theorem run_go {w : World} {b : Nat} {s : ByteArray} {a q pl : Nat} (hex nz : Bool) (h : QdAt w b s a 0 pl) (hz : bt s a ≠ 48) (hR : Run (bt s) (isDig hex) a q) :
    Calls Tryz.prog 70 #[.pointer (some ⟨b, 0, none⟩), .bool hex, .bool nz] w fun x w' => x = .returned (.string (s.extract a q)) ∧ QdAt w' b s q 0 pl ∧ But (fun k => k = b) w w' := by
  obtain ⟨c0, c1, c2, c3⟩ := h.cells
  have H := hide h
  obtain ⟨hq, hD, hE⟩ := hR
  have hdig0 : isDig hex 256 = false := by cases hex <;> rfl
  have ha : a < s.size := by
    by_cases e : a < s.size
    · exact e
    · have := hD a (Nat.le_refl _) hq
      rw [bt_end e, hdig0] at this; cases this
  have hz' : (((s[a]'ha).toNat : Int) == 48) = false := by rw [← bt_of ha, beq_eq_false_iff_ne]; omega
  have HD := hide hD
  have HE := hide hE
  clear h hz hD hE
  go_enter Tryz.func70, Tryz.ntmps70
  go_wp2_with fail
  go_loopw [39] (fun _ wr => ∃ i : Nat, a ≤ i ∧ i ≤ q ∧ QdAt wr b s i 0 pl ∧ But (fun k => k = b) w wr)
    (fun _ wr => q - (intOf ((wr.cell? ⟨b, 1, none⟩).getD undef)).toNat)
  case atStart => exact ⟨a, Nat.le_refl _, by omega, unhide H, But.refl _ _⟩
  case round =>
    obtain ⟨i, hi, hiq, hr, hb⟩ := hrel
    obtain ⟨d0, d1, d2, d3⟩ := hr.cells
    have f1 := hr.1.unfrozen 1
    have h8 := hr.2.1
    have h9 := hr.2.2
    have Hr := hide hr
    have Hb := hide hb
    clear hr hb
    have i0 : ¬ ((i : Int) < 0) := by omega
    have a0 : ¬ ((a : Int) < 0) := by omega
    have a1 : (a : Int) < (s.size : Int) := by omega
    by_cases hk : i < q
    · have hlt : i < s.size := by
        by_cases e : i < s.size
        · exact e
        · have := unhide HD i hi hk
          rw [bt_end e, hdig0] at this; cases this
      have KD : Hid (∀ n, Calls Tryz.prog 87 #[.int .u8 ((s[i]'hlt).toNat : Nat), .bool hex] (wr.drewN n) fun e w' => e = .returned (.bool true) ∧ w' = wr.drewN n) := fun n => by
        have := digit_any hex (s[i]'hlt).toNat (wr.drewN n)
        have e := unhide HD i hi hk
        rw [bt_of hlt] at e
        rwa [e] at this
      have i1 : (i : Int) < (s.size : Int) := by omega
      have hw1 : IntKind.i64.wrap ((i : Int) + 1) = (i : Int) + 1 := by simp [IntKind.wrap_i64]; omega
      have fin : ∀ n, (∃ i' : Nat, a ≤ i' ∧ i' ≤ q ∧ QdAt ((wr.drewN n).setCell ⟨b, 1, none⟩ (.int .i64 ((i : Int) + 1))) b s i' 0 pl ∧ But (fun k => k = b) w ((wr.drewN n).setCell ⟨b, 1, none⟩ (.int .i64 ((i : Int) + 1)))) ∧
          q - (intOf ((((wr.drewN n).setCell ⟨b, 1, none⟩ (.int .i64 ((i : Int) + 1))).cell? ⟨b, 1, none⟩).getD undef)).toNat < q - (intOf ((wr.cell? ⟨b, 1, none⟩).getD undef)).toNat := fun n => by
        have hs := ((unhide Hr).drew n).step hlt
        refine ⟨⟨i + 1, by omega, by omega, hs, ((unhide Hb).trans (But.still (still_drewN _ n))).trans (But.setCell (fun k => k = b) _ ⟨b, 1, none⟩ _ rfl)⟩, ?_⟩
        rw [hs.cells.2.1, d1]
        simp only [Option.getD_some, intOf]
        omega
      have Fin := hide fin
      clear fin
      by_cases hia : i = a
      · subst hia
        cases nz
        all_goals
          go_wp2_with fail
          go_quiet ((go_at_call 87; exact Calls.quiet_of_same (unhide KD _)))
          revert nq
          intro n1
          go_wp2_with fail
          go_quiet (fail)
          go_wp2_with fail
          exact unhide Fin _
      · have n1 : ((i : Int) == (a : Int)) = false := by rw [beq_eq_false_iff_ne]; omega
        cases nz
        all_goals
          go_wp2_with fail
          go_quiet ((go_at_call 87; exact Calls.quiet_of_same (unhide KD _)))
          revert nq
          intro n1
          go_wp2_with fail
          go_quiet (fail)
          go_wp2_with fail
          exact unhide Fin _
    · obtain rfl : i = q := by omega
      have n1 : ((i : Int) == (a : Int)) = false := by rw [beq_eq_false_iff_ne]; omega
      have l2 : (a : Int) ≤ (i : Int) := by omega
      have l3 : (i : Int) ≤ (s.size : Int) := by omega
      by_cases hlt : i < s.size
      · have KD : Hid (∀ n, Calls Tryz.prog 87 #[.int .u8 ((s[i]'hlt).toNat : Nat), .bool hex] (wr.drewN n) fun e w' => e = .returned (.bool false) ∧ w' = wr.drewN n) := fun n => by
          have := digit_any hex (s[i]'hlt).toNat (wr.drewN n)
          have e := unhide HE
          rw [bt_of hlt] at e
          rwa [e] at this
        have i1 : (i : Int) < (s.size : Int) := by omega
        go_wp2_with fail
        go_quiet ((go_at_call 87; exact Calls.quiet_of_same (unhide KD _)))
        revert nq
        intro n2
        go_wp2_with fail
        go_quiet (fail)
        go_wp2
        go_ret
        exact ⟨rfl, unhide Hr, (unhide Hb).trans ((But.still (still_drewN _ n2)).trans (But.still (still_drewN _ nq)))⟩
      · have i1 : ¬ (i : Int) < (s.size : Int) := by omega
        go_wp2_with fail
        go_quiet (fail)
        revert nq
        intro n2
        go_wp2_with fail
        go_quiet (fail)
        go_wp2
        go_ret
        exact ⟨rfl, unhide Hr, (unhide Hb).trans ((But.still (still_drewN _ n2)).trans (But.still (still_drewN _ nq)))⟩
end Go.Proofs.YtbkjmnopljmanaaGreatDoor
