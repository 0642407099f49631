/- float, number of a text's reader. -/
import Derived.Test.YtbkjmnopljmanaaGreatDoorTw
import Derived.Test.YtbkjmnopljmanaaGreatDoorTh
namespace Go.Proofs.YtbkjmnopljmanaaGreatDoor
open Go.RowKit

theorem flt_ne (b : Nat) : flt b ≠ [] := by
  unfold flt fltN
  split
  · simp
  · split <;> (split <;> simp)
/-- A float written into a new row, beside a reader. -/
theorem flt_new {W : World} {b q B : Nat} {s : ByteArray} (x : Nat) (hx : x < 18446744073709551616) (hr : RdAt W b s q) (hG : Gl B W) (hB : B ≤ W.heap.size) :
    Calls Tryz.prog 49 #[.slice none 0 0, .float .f64 x] W fun e w' => ∃ v', e = .returned v' ∧ Ow W.heap.size w' v' (flt x) ∧ RdAt w' b s q ∧ Below W.heap.size W w' :=
  (flt_any W.heap.size x hx (.slice none 0 0) [] W (Ow.none _ _) (Nat.le_refl _) (by simp) (hG.up hB)).mono fun e w' ⟨v', h1, h2, h3⟩ => ⟨v', h1, h2, hr.low h3, h3⟩
theorem float_vbad {w : World} {b p q : Nat} {s t : ByteArray} (h : RdAt w b s p) (HV : Calls Tryz.prog 67 #[.pointer (some ⟨b, 0, none⟩)] w fun e w' => e = .panicked (pan q 12) ∧ But (fun k => k = b) w w') :
    Calls Tryz.prog 54 #[.pointer (some ⟨b, 0, none⟩), .string t] w fun e w' => e = .panicked (pan q 12) ∧ But (fun k => k = b) w w' := by
  have c1 := h.1.cell 1 (v := .int .i64 (p : Int)) rfl
  have KV := hide HV
  clear h HV
  go_enter Tryz.func54, Tryz.ntmps54
  go_wp2_with (go_at_call 67; refine (unhide KV).mono ?_; rintro e w1 ⟨rfl, hb⟩; have B1 := hide hb; clear hb)
  exact ⟨rfl, rfl, unhide B1⟩
theorem float_ebad {w : World} {b p p' x : Nat} {s : ByteArray} (c : UInt8) (h : RdAt w b s p) (HV : Calls Tryz.prog 67 #[.pointer (some ⟨b, 0, none⟩)] w fun e w' => e = .returned (.float .f64 x) ∧ RdAt w' b s p' ∧ But (fun k => k = b) w w') (he : bt s p' ≠ c.toNat) :
    Calls Tryz.prog 54 #[.pointer (some ⟨b, 0, none⟩), .string ⟨#[c]⟩] w fun e w' => e = .panicked (pan p' 12) ∧ But (fun k => k = b) w w' := by
  have c1 := h.1.cell 1 (v := .int .i64 (p : Int)) rfl
  have KV := hide HV
  clear h HV
  go_enter Tryz.func54, Tryz.ntmps54
  go_wp2_with (go_at_call 67; refine (unhide KV).mono ?_; rintro e w1 ⟨rfl, hr, hb⟩; have R1 := hide hr; have B1 := hide hb; clear hb hr; refine Hid.out ?_)
  refine hide ?_
  have c2 := (unhide R1).1.cell 1 (v := .int .i64 (p' : Int)) rfl
  go_wp2_with (go_at_call 43; refine (must1_bad c (unhide R1) he).mono ?_; rintro e w2 ⟨rfl, hb⟩; have B2 := hide ((unhide B1).trans hb); clear hb)
  exact ⟨rfl, rfl, unhide B2⟩

set_option maxHeartbeats 2000000 in
set_option maxRecDepth 100000 in
theorem float_end {w : World} {b p p' x : Nat} {s : ByteArray} (c : UInt8) (B : Nat) (hB : B ≤ b) (hG : Gl B w) (hx : x < 18446744073709551616) (hpp : p ≤ p') (h : RdAt w b s p) (HV : Calls Tryz.prog 67 #[.pointer (some ⟨b, 0, none⟩)] w fun e w' => e = .returned (.float .f64 x) ∧ RdAt w' b s p' ∧ But (fun k => k = b) w w') (he : bt s p' = c.toNat) :
    Calls Tryz.prog 54 #[.pointer (some ⟨b, 0, none⟩), .string ⟨#[c]⟩] w fun e w' => But (fun k => k = b) w w' ∧ ((flt x = (s.extract p p').toList ∧ e = .returned (.float .f64 x) ∧ RdAt w' b s (p' + 1)) ∨ (flt x ≠ (s.extract p p').toList ∧ e = .panicked (pan p 12))) := by
  have c1 := h.1.cell 1 (v := .int .i64 (p : Int)) rfl
  have KV := hide HV
  have HG := hide hG
  have hs0 : B ≤ w.heap.size := Nat.le_trans hB (Nat.le_of_lt h.1.lt)
  clear h HV hG
  go_enter Tryz.func54, Tryz.ntmps54
  go_wp2_with (go_at_call 67; refine (unhide KV).mono ?_; rintro e w1 ⟨rfl, hr, hb⟩; have R1 := hide hr; have B1 := hide hb; clear hb hr; refine Hid.out ?_)
  refine hide ?_
  have c2 := (unhide R1).1.cell 1 (v := .int .i64 (p' : Int)) rfl
  have hsz := (unhide R1).2.1
  go_upto_region 5 with (go_at_call 43; refine (must1_ok c (unhide R1) he).mono ?_; rintro e w2 ⟨rfl, hr, hb⟩; have R2 := hide hr; have B2 := hide ((unhide B1).trans hb); clear hb hr)
  have c3 := (unhide R2).1.cell 0 (v := .string s) rfl
  have l1 : (p : Int) ≤ (p' : Int) := by omega
  have l2 : (p' : Int) ≤ (s.size : Int) := by omega
  have BB := hide ((unhide B2).below (Below.refl B w) hs0 (fun k e => by rw [e]; exact hB))
  have HF : Hid (∀ n, Calls Tryz.prog 49 #[.slice none 0 0, .float .f64 x] (w2.drewN n) fun e w' => ∃ v', e = .returned v' ∧ Ow w2.heap.size w' v' (flt x) ∧ RdAt w' b s (p' + 1) ∧ Below w2.heap.size w2 w') := fun n =>
    (flt_new x hx ((unhide R2).drew n) (((unhide HG).on (unhide BB)).on ((still_drewN w2 n) B)) (Nat.le_trans hs0 (unhide BB).size)).mono fun e w' ⟨v', h1, h2, h3, h4⟩ => ⟨v', h1, h2, h3, ((still_drewN w2 n) _).trans h4⟩
  go_cut [31] (fun v wx => v = .bool (!(flt x == (s.extract p p').toList)) ∧ Hid (RdAt wx b s (p' + 1) ∧ But (fun k => k = b) w wx))
  case first =>
    go_region_with (go_at_call 49; refine (unhide HF _).mono ?_; rintro e w3 ⟨v3, rfl, ho, hr, hb⟩; have hcv := Ow.str (w := w3) ho (flt_ne x); have hcv1 := Ow.str (w := w3.drew) ho (flt_ne x); have hcv2 := Ow.str (w := w3.drew.drew) ho (flt_ne x); have c4 := hr.1.cell 0 (v := .string s) rfl; have RH := hide (And.intro hr hb); clear ho hr hb)
    all_goals go_wp2_with fail
    all_goals go_meet
    all_goals exact ⟨rfl, (unhide RH).1, (unhide B2).trans (But.low (unhide RH).2)⟩
  case rest =>
  obtain ⟨rfl, hc⟩ := hcut
  obtain ⟨z, hz⟩ : ∃ z, z = (flt x == (s.extract p p').toList) := ⟨_, rfl⟩
  rw [← hz]
  have Hz := hide hz
  clear hz
  cases z with
  | true =>
    go_wp2_with fail
    go_ret
    exact ⟨(unhide hc).2, .inl ⟨by have := unhide Hz; simpa using this.symm, rfl, (unhide hc).1⟩⟩
  | false =>
    go_wp2_with (go_at_call 51; refine (giveUp_any _ p 12 _).mono ?_; rintro e w5 ⟨rfl, hw'⟩; obtain rfl := hw'.symm)
    exact ⟨rfl, (unhide hc).2, .inr ⟨by have := unhide Hz; simpa using this.symm, rfl⟩⟩
end Go.Proofs.YtbkjmnopljmanaaGreatDoor
