/- value of a text's reader. -/
import Derived.Test.YtbkjmnopljmanaaGreatDoorTb
import Derived.Test.YtbkjmnopljmanaaGreatDoorTd
import Derived.Test.YtbkjmnopljmanaaGreatDoorTf
import Derived.Deep.RegionWith
namespace Go.Proofs.YtbkjmnopljmanaaGreatDoor
open Go.RowKit

theorem among1 (c : UInt8) (x : Nat) : among ⟨#[c]⟩ x = (c.toNat == x) := by simp [among]
theorem yes1 {c : UInt8} {x : Nat} (h : x = c.toNat) : among ⟨#[c]⟩ x = true := by rw [among1, h]; simp
theorem no1 {c : UInt8} {x : Nat} (h : x ≠ c.toNat) : among ⟨#[c]⟩ x = false := by rw [among1, beq_eq_false_iff_ne]; exact fun e => h e.symm
theorem stand1 {s : ByteArray} {p : Nat} {c : UInt8} (h : bt s p = c.toNat) : Stand s p ⟨#[c]⟩ (ByteArray.mk #[c]).size := by
  intro i hi _
  obtain rfl : i = 0 := by change i < 1 at hi; omega
  exact h
theorem stand2 {s : ByteArray} {p : Nat} {c d : UInt8} (h : bt s p = c.toNat) (k : bt s (p + 1) = d.toNat) : Stand s p ⟨#[c, d]⟩ (ByteArray.mk #[c, d]).size := by
  intro i hi _
  rcases (by change i < 2 at hi; omega : i = 0 ∨ i = 1) with rfl | rfl
  · exact h
  · exact k
theorem stand0 (s : ByteArray) (p : Nat) (t : ByteArray) : Stand s p t 0 := fun _ _ h => absurd h (Nat.not_lt_zero _)
theorem stand21 {s : ByteArray} {p : Nat} {c d : UInt8} (h : bt s p = c.toNat) : Stand s p ⟨#[c, d]⟩ 1 := by
  intro i _ h1
  obtain rfl : i = 0 := by omega
  exact h
/-- Two bytes stand there, or where the first that does not. -/
theorem must2_ok {w : World} {b p : Nat} {s : ByteArray} (c d : UInt8) (h : RdAt w b s p) (h1 : bt s p = c.toNat) (h2 : bt s (p + 1) = d.toNat) :
    Calls Tryz.prog 43 #[.pointer (some ⟨b, 0, none⟩), .string ⟨#[c, d]⟩] w fun e w' => e = .returned (.tuple #[]) ∧ RdAt w' b s (p + 2) ∧ But (fun k => k = b) w w' :=
  must_ok (t := ⟨#[c, d]⟩) h (by change 2 ≤ 100; omega) (stand2 h1 h2)
/-- Where the second word of the two stops. -/
def Bad2 (f : Nat → Nat) (p : Nat) (c d : Nat) (q : Nat) : Prop := (f p ≠ c ∧ q = p) ∨ (f p = c ∧ f (p + 1) ≠ d ∧ q = p + 1)
theorem must2_bad {w : World} {b p q : Nat} {s : ByteArray} (c d : UInt8) (h : RdAt w b s p) (h1 : Bad2 (bt s) p c.toNat d.toNat q) :
    Calls Tryz.prog 43 #[.pointer (some ⟨b, 0, none⟩), .string ⟨#[c, d]⟩] w fun e w' => e = .panicked (pan q 12) ∧ But (fun k => k = b) w w' := by
  rcases h1 with ⟨h1, rfl⟩ | ⟨h1, h2, rfl⟩
  · exact must_bad (t := ⟨#[c, d]⟩) h (by change 2 ≤ 100; omega) 0 (by change 0 < 2; omega) (stand0 _ _ _) h1
  · exact must_bad (t := ⟨#[c, d]⟩) h (by change 2 ≤ 100; omega) 1 (by change 1 < 2; omega) (stand21 h1) h2
theorem must1_ok {w : World} {b p : Nat} {s : ByteArray} (c : UInt8) (h : RdAt w b s p) (h1 : bt s p = c.toNat) :
    Calls Tryz.prog 43 #[.pointer (some ⟨b, 0, none⟩), .string ⟨#[c]⟩] w fun e w' => e = .returned (.tuple #[]) ∧ RdAt w' b s (p + 1) ∧ But (fun k => k = b) w w' :=
  must_ok (t := ⟨#[c]⟩) h (by change 1 ≤ 100; omega) (stand1 h1)
theorem must1_bad {w : World} {b p : Nat} {s : ByteArray} (c : UInt8) (h : RdAt w b s p) (h1 : bt s p ≠ c.toNat) :
    Calls Tryz.prog 43 #[.pointer (some ⟨b, 0, none⟩), .string ⟨#[c]⟩] w fun e w' => e = .panicked (pan p 12) ∧ But (fun k => k = b) w w' :=
  must_bad (t := ⟨#[c]⟩) h (by change 1 ≤ 100; omega) 0 (by change 0 < 1; omega) (stand0 _ _ _) h1

/-- Digits without a nought in front, or a nought alone. -/
def isHexB (c : Nat) : Bool := (decide (48 ≤ c) && decide (c ≤ 57)) || (decide (97 ≤ c) && decide (c ≤ 102))
def isDecB (c : Nat) : Bool := decide (48 ≤ c) && decide (c ≤ 57)
def Run (f : Nat → Nat) (D : Nat → Bool) (p q : Nat) : Prop := p < q ∧ (∀ i, p ≤ i → i < q → D (f i) = true) ∧ D (f q) = false
theorem among_hex (c : Nat) : among ⟨#[48, 49, 50, 51, 52, 53, 54, 55, 56, 57, 97, 98, 99, 100, 101, 102]⟩ c = isHexB c := by
  rw [Bool.eq_iff_iff]; simp [among, isHexB]; omega
theorem among_hex1 (c : Nat) : among ((ByteArray.mk #[48, 49, 50, 51, 52, 53, 54, 55, 56, 57, 97, 98, 99, 100, 101, 102]).extract 1 (ByteArray.mk #[48, 49, 50, 51, 52, 53, 54, 55, 56, 57, 97, 98, 99, 100, 101, 102]).size) c = (isHexB c && decide (c ≠ 48)) := by
  rw [show (ByteArray.mk #[48, 49, 50, 51, 52, 53, 54, 55, 56, 57, 97, 98, 99, 100, 101, 102]).extract 1 (ByteArray.mk #[48, 49, 50, 51, 52, 53, 54, 55, 56, 57, 97, 98, 99, 100, 101, 102]).size = ⟨#[49, 50, 51, 52, 53, 54, 55, 56, 57, 97, 98, 99, 100, 101, 102]⟩ from rfl, Bool.eq_iff_iff]
  simp [among, isHexB]; omega
theorem among_dec (c : Nat) : among ⟨#[48, 49, 50, 51, 52, 53, 54, 55, 56, 57]⟩ c = isDecB c := by
  rw [Bool.eq_iff_iff]; simp [among, isDecB]; omega
theorem among_dec1 (c : Nat) : among ((ByteArray.mk #[48, 49, 50, 51, 52, 53, 54, 55, 56, 57]).extract 1 (ByteArray.mk #[48, 49, 50, 51, 52, 53, 54, 55, 56, 57]).size) c = (isDecB c && decide (c ≠ 48)) := by
  rw [show (ByteArray.mk #[48, 49, 50, 51, 52, 53, 54, 55, 56, 57]).extract 1 (ByteArray.mk #[48, 49, 50, 51, 52, 53, 54, 55, 56, 57]).size = ⟨#[49, 50, 51, 52, 53, 54, 55, 56, 57]⟩ from rfl, Bool.eq_iff_iff]
  simp [among, isDecB]; omega
theorem hex_bad {w : World} {b p : Nat} {s : ByteArray} (h : RdAt w b s p) (h1 : isHexB (bt s p) = false ∨ bt s p = 48) :
    Calls Tryz.prog 82 #[.pointer (some ⟨b, 0, none⟩), .string ⟨#[48, 49, 50, 51, 52, 53, 54, 55, 56, 57, 97, 98, 99, 100, 101, 102]⟩] w fun e w' => e = .panicked (pan p 12) ∧ But (fun k => k = b) w w' :=
  digits_bad (t := ⟨#[48, 49, 50, 51, 52, 53, 54, 55, 56, 57, 97, 98, 99, 100, 101, 102]⟩) h (by change 1 ≤ 16; omega) (by change 16 ≤ 100; omega) (by rw [among_hex1]; rcases h1 with h1 | h1 <;> simp [h1])
theorem hex_ok {w : World} {b p q : Nat} {s : ByteArray} (h : RdAt w b s p) (h0 : bt s p ≠ 48) (h1 : Run (bt s) isHexB p q) :
    Calls Tryz.prog 82 #[.pointer (some ⟨b, 0, none⟩), .string ⟨#[48, 49, 50, 51, 52, 53, 54, 55, 56, 57, 97, 98, 99, 100, 101, 102]⟩] w fun e w' => e = .returned (.tuple #[]) ∧ RdAt w' b s q ∧ But (fun k => k = b) w w' := by
  have := digits_ok (t := ⟨#[48, 49, 50, 51, 52, 53, 54, 55, 56, 57, 97, 98, 99, 100, 101, 102]⟩) h (by change 1 ≤ 16; omega) (by change 16 ≤ 100; omega) (by rw [among_hex1, h1.2.1 p (Nat.le_refl _) h1.1]; simp [h0]) (q - p)
    (fun i hi => by rw [among_hex]; exact h1.2.1 _ (by omega) (by omega)) (by rw [among_hex, show p + (q - p) = q by have := h1.1; omega]; exact h1.2.2)
  rwa [show p + (q - p) = q by have := h1.1; omega] at this
theorem dec_bad {w : World} {b p : Nat} {s : ByteArray} (h : RdAt w b s p) (h1 : isDecB (bt s p) = false ∨ bt s p = 48) :
    Calls Tryz.prog 82 #[.pointer (some ⟨b, 0, none⟩), .string ⟨#[48, 49, 50, 51, 52, 53, 54, 55, 56, 57]⟩] w fun e w' => e = .panicked (pan p 12) ∧ But (fun k => k = b) w w' :=
  digits_bad (t := ⟨#[48, 49, 50, 51, 52, 53, 54, 55, 56, 57]⟩) h (by change 1 ≤ 10; omega) (by change 10 ≤ 100; omega) (by rw [among_dec1]; rcases h1 with h1 | h1 <;> simp [h1])
theorem dec_ok {w : World} {b p q : Nat} {s : ByteArray} (h : RdAt w b s p) (h0 : bt s p ≠ 48) (h1 : Run (bt s) isDecB p q) :
    Calls Tryz.prog 82 #[.pointer (some ⟨b, 0, none⟩), .string ⟨#[48, 49, 50, 51, 52, 53, 54, 55, 56, 57]⟩] w fun e w' => e = .returned (.tuple #[]) ∧ RdAt w' b s q ∧ But (fun k => k = b) w w' := by
  have := digits_ok (t := ⟨#[48, 49, 50, 51, 52, 53, 54, 55, 56, 57]⟩) h (by change 1 ≤ 10; omega) (by change 10 ≤ 100; omega) (by rw [among_dec1, h1.2.1 p (Nat.le_refl _) h1.1]; simp [h0]) (q - p)
    (fun i hi => by rw [among_dec]; exact h1.2.1 _ (by omega) (by omega)) (by rw [among_dec, show p + (q - p) = q by have := h1.1; omega]; exact h1.2.2)
  rwa [show p + (q - p) = q by have := h1.1; omega] at this
set_option maxRecDepth 100000 in
theorem value_nan_bad {w : World} {b p : Nat} {s : ByteArray} (h : RdAt w b s p) (hn : bt s p = 110) (q : Nat) (hq : Bad2 (bt s) (p + 1) 97 110 q) :
    Calls Tryz.prog 67 #[.pointer (some ⟨b, 0, none⟩)] w fun e w' => e = .panicked (pan q 12) ∧ But (fun k => k = b) w w' := by
  have R0 := hide h
  have B0 := hide (But.refl (fun k => k = b) w)
  clear h
  go_enter Tryz.func67, Tryz.ntmps67
  go_wp2_with (go_at_call 45; refine (may_no (t := ⟨#[45]⟩) (unhide R0) (no1 (c := 45) (by rw [hn]; decide))).mono ?_; rintro e w1 ⟨rfl, hr, hb⟩; have R1 := hide hr; have B1 := hide ((unhide B0).trans hb); clear hr hb; refine Hid.out ?_)
  refine hide ?_
  go_wp2_with (go_at_call 45; refine (may_yes (t := ⟨#[110]⟩) (unhide R1) (yes1 (c := 110) hn)).mono ?_; rintro e w2 ⟨rfl, hr, hb⟩; have R2 := hide hr; have B2 := hide ((unhide B1).trans hb); clear hr hb; refine Hid.out ?_)
  refine hide ?_
  go_wp2_with (go_at_call 43; refine (must2_bad 97 110 (unhide R2) hq).mono ?_; rintro e w3 ⟨rfl, hb⟩; have B3 := hide ((unhide B2).trans hb); clear hb)
  exact ⟨rfl, rfl, unhide B3⟩
theorem nan_any (w : World) : Calls Tryz.prog 68 #[] w fun e w' => e = .returned (.float .f64 9221120237041090561) ∧ w' = w := by
  have hy := run_frombits
  go_enter Tryz.func68, Tryz.ntmps68
  go_wp2
  go_ret
  exact ⟨rfl, rfl⟩
theorem inf_pos (w : World) : Calls Tryz.prog 69 #[.int .i64 1] w fun e w' => e = .returned (.float .f64 9218868437227405312) ∧ w' = w := by
  have hy := run_frombits
  go_enter Tryz.func69, Tryz.ntmps69
  go_wp2
  go_ret
  exact ⟨rfl, rfl⟩
theorem sign_pos (w : World) : Calls Tryz.prog 81 #[.bool false] w fun e w' => e = .returned (.float .f64 4607182418800017408) ∧ w' = w := by
  go_enter Tryz.func81, Tryz.ntmps81
  go_wp2
  go_ret
  exact ⟨rfl, rfl⟩
theorem sign_neg (w : World) : Calls Tryz.prog 81 #[.bool true] w fun e w' => e = .returned (.float .f64 13830554455654793216) ∧ w' = w := by
  go_enter Tryz.func81, Tryz.ntmps81
  go_wp2
  go_ret
  exact ⟨rfl, rfl⟩
theorem copysign_pos (w : World) : Calls Tryz.prog 80 #[.float .f64 9218868437227405312, .float .f64 4607182418800017408] w fun e w' => e = .returned (.float .f64 9218868437227405312) ∧ w' = w := by
  have hx := run_bits
  have hy := run_frombits
  have h : bits .or .u64 (bits .andNot .u64 9218868437227405312 9223372036854775808) (bits .and .u64 4607182418800017408 9223372036854775808) = 9218868437227405312 := by decide
  go_enter Tryz.func80, Tryz.ntmps80
  go_wp2
  go_ret
  exact ⟨rfl, rfl⟩
theorem copysign_neg (w : World) : Calls Tryz.prog 80 #[.float .f64 9218868437227405312, .float .f64 13830554455654793216] w fun e w' => e = .returned (.float .f64 18442240474082181120) ∧ w' = w := by
  have hx := run_bits
  have hy := run_frombits
  have h : bits .or .u64 (bits .andNot .u64 9218868437227405312 9223372036854775808) (bits .and .u64 13830554455654793216 9223372036854775808) = 18442240474082181120 := by decide
  go_enter Tryz.func80, Tryz.ntmps80
  go_wp2
  go_ret
  exact ⟨rfl, rfl⟩
set_option maxRecDepth 100000 in
theorem value_nan {w : World} {b p : Nat} {s : ByteArray} (h : RdAt w b s p) (hn : bt s p = 110) (h1 : bt s (p + 1) = 97) (h2 : bt s (p + 2) = 110) :
    Calls Tryz.prog 67 #[.pointer (some ⟨b, 0, none⟩)] w fun e w' => e = .returned (.float .f64 9221120237041090561) ∧ RdAt w' b s (p + 3) ∧ But (fun k => k = b) w w' := by
  have R0 := hide h
  have B0 := hide (But.refl (fun k => k = b) w)
  clear h
  go_enter Tryz.func67, Tryz.ntmps67
  go_wp2_with (go_at_call 45; refine (may_no (t := ⟨#[45]⟩) (unhide R0) (no1 (c := 45) (by rw [hn]; decide))).mono ?_; rintro e w1 ⟨rfl, hr, hb⟩; have R1 := hide hr; have B1 := hide ((unhide B0).trans hb); clear hr hb; refine Hid.out ?_)
  refine hide ?_
  go_wp2_with (go_at_call 45; refine (may_yes (t := ⟨#[110]⟩) (unhide R1) (yes1 (c := 110) hn)).mono ?_; rintro e w2 ⟨rfl, hr, hb⟩; have R2 := hide hr; have B2 := hide ((unhide B1).trans hb); clear hr hb; refine Hid.out ?_)
  refine hide ?_
  go_wp2_with (go_at_call 43; refine (must2_ok 97 110 (unhide R2) h1 h2).mono ?_; rintro e w3 ⟨rfl, hr, hb⟩; have R3 := hide hr; have B3 := hide ((unhide B2).trans hb); clear hr hb; refine Hid.out ?_)
  refine hide ?_
  go_wp2_with (go_at_call 68; refine (nan_any _).mono ?_; rintro e w' ⟨rfl, hw'⟩; obtain rfl := hw'.symm)
  go_ret
  exact ⟨rfl, unhide R3, unhide B3⟩
set_option maxRecDepth 100000 in
theorem value_inf_bad {w : World} {b p : Nat} {s : ByteArray} (h : RdAt w b s p) (hi : bt s p = 105) (q : Nat) (hq : Bad2 (bt s) (p + 1) 110 102 q) :
    Calls Tryz.prog 67 #[.pointer (some ⟨b, 0, none⟩)] w fun e w' => e = .panicked (pan q 12) ∧ But (fun k => k = b) w w' := by
  have R0 := hide h
  have B0 := hide (But.refl (fun k => k = b) w)
  clear h
  go_enter Tryz.func67, Tryz.ntmps67
  go_wp2_with (go_at_call 45; refine (may_no (t := ⟨#[45]⟩) (unhide R0) (no1 (c := 45) (by rw [hi]; decide))).mono ?_; rintro e w1 ⟨rfl, hr, hb⟩; have R1 := hide hr; have B1 := hide ((unhide B0).trans hb); clear hr hb; refine Hid.out ?_)
  refine hide ?_
  go_wp2_with (go_at_call 45; refine (may_no (t := ⟨#[110]⟩) (unhide R1) (no1 (c := 110) (by rw [hi]; decide))).mono ?_; rintro e w2 ⟨rfl, hr, hb⟩; have R2 := hide hr; have B2 := hide ((unhide B1).trans hb); clear hr hb; refine Hid.out ?_)
  refine hide ?_
  go_wp2_with (go_at_call 45; refine (may_yes (t := ⟨#[105]⟩) (unhide R2) (yes1 (c := 105) hi)).mono ?_; rintro e w3 ⟨rfl, hr, hb⟩; have R3 := hide hr; have B3 := hide ((unhide B2).trans hb); clear hr hb; refine Hid.out ?_)
  refine hide ?_
  go_wp2_with (go_at_call 43; refine (must2_bad 110 102 (unhide R3) hq).mono ?_; rintro e w4 ⟨rfl, hb⟩; have B4 := hide ((unhide B3).trans hb); clear hb)
  exact ⟨rfl, rfl, unhide B4⟩
set_option maxRecDepth 100000 in
theorem value_inf {w : World} {b p : Nat} {s : ByteArray} (h : RdAt w b s p) (hi : bt s p = 105) (h1 : bt s (p + 1) = 110) (h2 : bt s (p + 2) = 102) :
    Calls Tryz.prog 67 #[.pointer (some ⟨b, 0, none⟩)] w fun e w' => e = .returned (.float .f64 9218868437227405312) ∧ RdAt w' b s (p + 3) ∧ But (fun k => k = b) w w' := by
  have R0 := hide h
  have B0 := hide (But.refl (fun k => k = b) w)
  clear h
  go_enter Tryz.func67, Tryz.ntmps67
  go_wp2_with (go_at_call 45; refine (may_no (t := ⟨#[45]⟩) (unhide R0) (no1 (c := 45) (by rw [hi]; decide))).mono ?_; rintro e w1 ⟨rfl, hr, hb⟩; have R1 := hide hr; have B1 := hide ((unhide B0).trans hb); clear hr hb; refine Hid.out ?_)
  refine hide ?_
  go_wp2_with (go_at_call 45; refine (may_no (t := ⟨#[110]⟩) (unhide R1) (no1 (c := 110) (by rw [hi]; decide))).mono ?_; rintro e w2 ⟨rfl, hr, hb⟩; have R2 := hide hr; have B2 := hide ((unhide B1).trans hb); clear hr hb; refine Hid.out ?_)
  refine hide ?_
  go_wp2_with (go_at_call 45; refine (may_yes (t := ⟨#[105]⟩) (unhide R2) (yes1 (c := 105) hi)).mono ?_; rintro e w3 ⟨rfl, hr, hb⟩; have R3 := hide hr; have B3 := hide ((unhide B2).trans hb); clear hr hb; refine Hid.out ?_)
  refine hide ?_
  go_wp2_with (go_at_call 43; refine (must2_ok 110 102 (unhide R3) h1 h2).mono ?_; rintro e w4 ⟨rfl, hr, hb⟩; have R4 := hide hr; have B4 := hide ((unhide B3).trans hb); clear hr hb; refine Hid.out ?_)
  refine hide ?_
  go_wp2_with (first
    | (go_at_call 69; refine (inf_pos _).mono ?_; rintro e w' ⟨rfl, hw'⟩; obtain rfl := hw'.symm)
    | (go_at_call 81; refine (sign_pos _).mono ?_; rintro e w' ⟨rfl, hw'⟩; obtain rfl := hw'.symm)
    | (go_at_call 80; refine (copysign_pos _).mono ?_; rintro e w' ⟨rfl, hw'⟩; obtain rfl := hw'.symm))
  go_ret
  exact ⟨rfl, unhide R4, unhide B4⟩
set_option maxRecDepth 100000 in
theorem value_0x_bad {w : World} {b p : Nat} {s : ByteArray} (h : RdAt w b s p) (hm : bt s p ≠ 45) (hn : bt s p ≠ 110) (hi : bt s p ≠ 105) (q : Nat) (hq : Bad2 (bt s) p 48 120 q) :
    Calls Tryz.prog 67 #[.pointer (some ⟨b, 0, none⟩)] w fun e w' => e = .panicked (pan q 12) ∧ But (fun k => k = b) w w' := by
  have R0 := hide h
  have B0 := hide (But.refl (fun k => k = b) w)
  clear h
  go_enter Tryz.func67, Tryz.ntmps67
  go_wp2_with (go_at_call 45; refine (may_no (t := ⟨#[45]⟩) (unhide R0) (no1 (c := 45) hm)).mono ?_; rintro e w1 ⟨rfl, hr, hb⟩; have R1 := hide hr; have B1 := hide ((unhide B0).trans hb); clear hr hb; refine Hid.out ?_)
  refine hide ?_
  go_wp2_with (go_at_call 45; refine (may_no (t := ⟨#[110]⟩) (unhide R1) (no1 (c := 110) hn)).mono ?_; rintro e w2 ⟨rfl, hr, hb⟩; have R2 := hide hr; have B2 := hide ((unhide B1).trans hb); clear hr hb; refine Hid.out ?_)
  refine hide ?_
  go_wp2_with (go_at_call 45; refine (may_no (t := ⟨#[105]⟩) (unhide R2) (no1 (c := 105) hi)).mono ?_; rintro e w3 ⟨rfl, hr, hb⟩; have R3 := hide hr; have B3 := hide ((unhide B2).trans hb); clear hr hb; refine Hid.out ?_)
  refine hide ?_
  go_wp2_with (go_at_call 43; refine (must2_bad 48 120 (unhide R3) hq).mono ?_; rintro e w4 ⟨rfl, hb⟩; have B4 := hide ((unhide B3).trans hb); clear hb)
  exact ⟨rfl, rfl, unhide B4⟩
set_option maxRecDepth 100000 in
theorem value_m_bad {w : World} {b p : Nat} {s : ByteArray} (h : RdAt w b s p) (hm : bt s p ≠ 45) (hn : bt s p ≠ 110) (hi : bt s p ≠ 105) (h0 : bt s p = 48) (hx : bt s (p + 1) = 120) (h4 : isHexB (bt s (p + 2)) = false) :
    Calls Tryz.prog 67 #[.pointer (some ⟨b, 0, none⟩)] w fun e w' => e = .panicked (pan (p + 2) 12) ∧ But (fun k => k = b) w w' := by
  have R0 := hide h
  have B0 := hide (But.refl (fun k => k = b) w)
  clear h
  go_enter Tryz.func67, Tryz.ntmps67
  go_wp2_with (go_at_call 45; refine (may_no (t := ⟨#[45]⟩) (unhide R0) (no1 (c := 45) hm)).mono ?_; rintro e w1 ⟨rfl, hr, hb⟩; have R1 := hide hr; have B1 := hide ((unhide B0).trans hb); clear hr hb; refine Hid.out ?_)
  refine hide ?_
  go_wp2_with (go_at_call 45; refine (may_no (t := ⟨#[110]⟩) (unhide R1) (no1 (c := 110) hn)).mono ?_; rintro e w2 ⟨rfl, hr, hb⟩; have R2 := hide hr; have B2 := hide ((unhide B1).trans hb); clear hr hb; refine Hid.out ?_)
  refine hide ?_
  go_wp2_with (go_at_call 45; refine (may_no (t := ⟨#[105]⟩) (unhide R2) (no1 (c := 105) hi)).mono ?_; rintro e w3 ⟨rfl, hr, hb⟩; have R3 := hide hr; have B3 := hide ((unhide B2).trans hb); clear hr hb; refine Hid.out ?_)
  refine hide ?_
  go_wp2_with (go_at_call 43; refine (must2_ok 48 120 (unhide R3) h0 hx).mono ?_; rintro e w4 ⟨rfl, hr, hb⟩; have R4 := hide hr; have B4 := hide ((unhide B3).trans hb); clear hr hb; refine Hid.out ?_)
  refine hide ?_
  have c1 := (unhide R4).1.cell 1 (v := .int .i64 ((p + 2 : Nat) : Int)) rfl
  go_wp2_with (go_at_call 45; refine (may_no (t := ⟨#[48]⟩) (unhide R4) (no1 (c := 48) (fun e => by rw [e] at h4; cases h4))).mono ?_; rintro e w5 ⟨rfl, hr, hb⟩; have R5 := hide hr; have B5 := hide ((unhide B4).trans hb); clear hr hb; refine Hid.out ?_)
  refine hide ?_
  go_wp2_with (go_at_call 82; refine (hex_bad (unhide R5) (.inl h4)).mono ?_; rintro e w6 ⟨rfl, hb⟩; have B6 := hide ((unhide B5).trans hb); clear hb)
  exact ⟨rfl, rfl, unhide B6⟩
set_option maxRecDepth 100000 in
theorem value_inf_badN {w : World} {b p : Nat} {s : ByteArray} (h : RdAt w b s p) (hm : bt s p = 45) (hi : bt s (p + 1) = 105) (q : Nat) (hq : Bad2 (bt s) ((p + 1) + 1) 110 102 q) :
    Calls Tryz.prog 67 #[.pointer (some ⟨b, 0, none⟩)] w fun e w' => e = .panicked (pan q 12) ∧ But (fun k => k = b) w w' := by
  have R0 := hide h
  have B0 := hide (But.refl (fun k => k = b) w)
  clear h
  go_enter Tryz.func67, Tryz.ntmps67
  go_wp2_with (go_at_call 45; refine (may_yes (t := ⟨#[45]⟩) (unhide R0) (yes1 (c := 45) hm)).mono ?_; rintro e w1 ⟨rfl, hr, hb⟩; have R1 := hide hr; have B1 := hide ((unhide B0).trans hb); clear hr hb; refine Hid.out ?_)
  refine hide ?_
  go_wp2_with (go_at_call 45; refine (may_yes (t := ⟨#[105]⟩) (unhide R1) (yes1 (c := 105) hi)).mono ?_; rintro e w2 ⟨rfl, hr, hb⟩; have R2 := hide hr; have B2 := hide ((unhide B1).trans hb); clear hr hb; refine Hid.out ?_)
  refine hide ?_
  go_wp2_with (go_at_call 43; refine (must2_bad 110 102 (unhide R2) hq).mono ?_; rintro e w3 ⟨rfl, hb⟩; have B3 := hide ((unhide B2).trans hb); clear hb)
  exact ⟨rfl, rfl, unhide B3⟩
set_option maxRecDepth 100000 in
theorem value_infN {w : World} {b p : Nat} {s : ByteArray} (h : RdAt w b s p) (hm : bt s p = 45) (hi : bt s (p + 1) = 105) (h1 : bt s ((p + 1) + 1) = 110) (h2 : bt s ((p + 1) + 2) = 102) :
    Calls Tryz.prog 67 #[.pointer (some ⟨b, 0, none⟩)] w fun e w' => e = .returned (.float .f64 18442240474082181120) ∧ RdAt w' b s ((p + 1) + 3) ∧ But (fun k => k = b) w w' := by
  have R0 := hide h
  have B0 := hide (But.refl (fun k => k = b) w)
  clear h
  go_enter Tryz.func67, Tryz.ntmps67
  go_wp2_with (go_at_call 45; refine (may_yes (t := ⟨#[45]⟩) (unhide R0) (yes1 (c := 45) hm)).mono ?_; rintro e w1 ⟨rfl, hr, hb⟩; have R1 := hide hr; have B1 := hide ((unhide B0).trans hb); clear hr hb; refine Hid.out ?_)
  refine hide ?_
  go_wp2_with (go_at_call 45; refine (may_yes (t := ⟨#[105]⟩) (unhide R1) (yes1 (c := 105) hi)).mono ?_; rintro e w2 ⟨rfl, hr, hb⟩; have R2 := hide hr; have B2 := hide ((unhide B1).trans hb); clear hr hb; refine Hid.out ?_)
  refine hide ?_
  go_wp2_with (go_at_call 43; refine (must2_ok 110 102 (unhide R2) h1 h2).mono ?_; rintro e w3 ⟨rfl, hr, hb⟩; have R3 := hide hr; have B3 := hide ((unhide B2).trans hb); clear hr hb; refine Hid.out ?_)
  refine hide ?_
  go_wp2_with (first
    | (go_at_call 69; refine (inf_pos _).mono ?_; rintro e w' ⟨rfl, hw'⟩; obtain rfl := hw'.symm)
    | (go_at_call 81; refine (sign_neg _).mono ?_; rintro e w' ⟨rfl, hw'⟩; obtain rfl := hw'.symm)
    | (go_at_call 80; refine (copysign_neg _).mono ?_; rintro e w' ⟨rfl, hw'⟩; obtain rfl := hw'.symm))
  go_ret
  exact ⟨rfl, unhide R3, unhide B3⟩
set_option maxRecDepth 100000 in
theorem value_0x_badN {w : World} {b p : Nat} {s : ByteArray} (h : RdAt w b s p) (hm : bt s p = 45) (hi : bt s (p + 1) ≠ 105) (q : Nat) (hq : Bad2 (bt s) (p + 1) 48 120 q) :
    Calls Tryz.prog 67 #[.pointer (some ⟨b, 0, none⟩)] w fun e w' => e = .panicked (pan q 12) ∧ But (fun k => k = b) w w' := by
  have R0 := hide h
  have B0 := hide (But.refl (fun k => k = b) w)
  clear h
  go_enter Tryz.func67, Tryz.ntmps67
  go_wp2_with (go_at_call 45; refine (may_yes (t := ⟨#[45]⟩) (unhide R0) (yes1 (c := 45) hm)).mono ?_; rintro e w1 ⟨rfl, hr, hb⟩; have R1 := hide hr; have B1 := hide ((unhide B0).trans hb); clear hr hb; refine Hid.out ?_)
  refine hide ?_
  go_wp2_with (go_at_call 45; refine (may_no (t := ⟨#[105]⟩) (unhide R1) (no1 (c := 105) hi)).mono ?_; rintro e w2 ⟨rfl, hr, hb⟩; have R2 := hide hr; have B2 := hide ((unhide B1).trans hb); clear hr hb; refine Hid.out ?_)
  refine hide ?_
  go_wp2_with (go_at_call 43; refine (must2_bad 48 120 (unhide R2) hq).mono ?_; rintro e w3 ⟨rfl, hb⟩; have B3 := hide ((unhide B2).trans hb); clear hb)
  exact ⟨rfl, rfl, unhide B3⟩
set_option maxRecDepth 100000 in
theorem value_m_badN {w : World} {b p : Nat} {s : ByteArray} (h : RdAt w b s p) (hm : bt s p = 45) (hi : bt s (p + 1) ≠ 105) (h0 : bt s (p + 1) = 48) (hx : bt s ((p + 1) + 1) = 120) (h4 : isHexB (bt s ((p + 1) + 2)) = false) :
    Calls Tryz.prog 67 #[.pointer (some ⟨b, 0, none⟩)] w fun e w' => e = .panicked (pan ((p + 1) + 2) 12) ∧ But (fun k => k = b) w w' := by
  have R0 := hide h
  have B0 := hide (But.refl (fun k => k = b) w)
  clear h
  go_enter Tryz.func67, Tryz.ntmps67
  go_wp2_with (go_at_call 45; refine (may_yes (t := ⟨#[45]⟩) (unhide R0) (yes1 (c := 45) hm)).mono ?_; rintro e w1 ⟨rfl, hr, hb⟩; have R1 := hide hr; have B1 := hide ((unhide B0).trans hb); clear hr hb; refine Hid.out ?_)
  refine hide ?_
  go_wp2_with (go_at_call 45; refine (may_no (t := ⟨#[105]⟩) (unhide R1) (no1 (c := 105) hi)).mono ?_; rintro e w2 ⟨rfl, hr, hb⟩; have R2 := hide hr; have B2 := hide ((unhide B1).trans hb); clear hr hb; refine Hid.out ?_)
  refine hide ?_
  go_wp2_with (go_at_call 43; refine (must2_ok 48 120 (unhide R2) h0 hx).mono ?_; rintro e w3 ⟨rfl, hr, hb⟩; have R3 := hide hr; have B3 := hide ((unhide B2).trans hb); clear hr hb; refine Hid.out ?_)
  refine hide ?_
  have c1 := (unhide R3).1.cell 1 (v := .int .i64 (((p + 1) + 2 : Nat) : Int)) rfl
  go_wp2_with (go_at_call 45; refine (may_no (t := ⟨#[48]⟩) (unhide R3) (no1 (c := 48) (fun e => by rw [e] at h4; cases h4))).mono ?_; rintro e w4 ⟨rfl, hr, hb⟩; have R4 := hide hr; have B4 := hide ((unhide B3).trans hb); clear hr hb; refine Hid.out ?_)
  refine hide ?_
  go_wp2_with (go_at_call 82; refine (hex_bad (unhide R4) (.inl h4)).mono ?_; rintro e w5 ⟨rfl, hb⟩; have B5 := hide ((unhide B4).trans hb); clear hb)
  exact ⟨rfl, rfl, unhide B5⟩
end Go.Proofs.YtbkjmnopljmanaaGreatDoor
