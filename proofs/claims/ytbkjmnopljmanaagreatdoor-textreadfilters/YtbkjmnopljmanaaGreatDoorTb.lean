/- cannotStand, must, digits of a text's reader. -/
import Derived.Test.YtbkjmnopljmanaaGreatDoorTa
namespace Go.Proofs.YtbkjmnopljmanaaGreatDoor
open Go.RowKit

theorem cannotStand_any {w : World} {b p : Nat} {s : ByteArray} (h : RdAt w b s p) :
    Calls Tryz.prog 42 #[.pointer (some ⟨b, 0, none⟩)] w fun e w' => e = .panicked (pan p 12) ∧ w' = w := by
  have hc1 := h.1.cell 1 (v := .int .i64 (p : Nat)) rfl
  have HG := hide (giveUp_any (.pointer (some ⟨b, 0, none⟩)) p 12 w)
  clear h
  go_enter Tryz.func42, Tryz.ntmps42
  go_wp2_with (go_at_call 51; refine (unhide HG).mono ?_; rintro e w' ⟨rfl, rfl⟩)
  exact ⟨rfl, rfl, rfl⟩

theorem among_one (t : ByteArray) (i c : Nat) (hi : i < t.size) : among (t.extract i (i + 1)) c = ((t[i]'hi).toNat == c) := by
  have E : (t.extract i (i + 1)).data.toList = [t[i]'hi] := by
    rw [ByteArray.data_extract, Array.toList_extract]
    show List.extract t.data.toList i (i + 1) = _
    have hl : i < t.data.toList.length := by simpa using hi
    rw [List.extract_eq_take_drop, List.drop_eq_getElem_cons hl, Nat.add_sub_cancel_left]
    simp
    rfl
  unfold among
  rw [E]; simp

/-- The bytes of t stand from p on, so many of them. -/
def Stand (s : ByteArray) (p : Nat) (t : ByteArray) (k : Nat) : Prop := ∀ i (hi : i < t.size), i < k → bt s (p + i) = (t[i]'hi).toNat

set_option maxRecDepth 100000 in
theorem must_le {w : World} {b p : Nat} {s t : ByteArray} (h : RdAt w b s p) (k0 : Nat) (hk0 : k0 ≤ t.size) (ht : t.size ≤ 100) (hS : Stand s p t k0) (hE : ∀ hi : k0 < t.size, bt s (p + k0) ≠ (t[k0]'hi).toNat) :
    Calls Tryz.prog 43 #[.pointer (some ⟨b, 0, none⟩), .string t] w fun e w' =>
      But (fun k => k = b) w w' ∧ ((k0 = t.size ∧ e = .returned (.tuple #[]) ∧ RdAt w' b s (p + k0)) ∨ (k0 < t.size ∧ e = .panicked (pan (p + k0) 12))) := by
  go_enter Tryz.func43, Tryz.ntmps43
  go_wp2_with fail
  have HR := hide h
  have HS := hide hS
  have HE := hide hE
  clear h hS hE
  go_loopw [7] (fun i wr => ∃ k : Nat, k ≤ k0 ∧ i = .int .i64 k ∧ RdAt wr b s (p + k) ∧ But (fun k => k = b) w wr)
    (fun i _ => t.size - (intOf i).toNat)
  case atStart => exact ⟨0, by omega, rfl, unhide HR, But.refl _ _⟩
  case round =>
    obtain ⟨k, hk, rfl, hr, hb⟩ := hrel
    have Hb := hide hb
    clear hb
    by_cases hk1 : k < t.size
    · have i1 : (k : Int) < (t.size : Int) := by omega
      have i2 : ¬ ((k : Int) < 0) := by omega
      have Hr := hide hr
      have hw1 : IntKind.i64.wrap ((k : Int) + 1) = (k : Int) + 1 := by simp [IntKind.wrap_i64]; omega
      by_cases hk2 : k < k0
      · have ha : among (t.extract k (k + 1)) (bt s (p + k)) = true := by rw [among_one t k _ hk1, unhide HS k hk1 hk2]; simp
        have HM := hide (may_yes (t := t.extract k (k + 1)) hr ha)
        clear hr ha
        go_wp2_with (go_at_call 45; refine (unhide HM).mono ?_; rintro e w' ⟨rfl, hr', hb'⟩; have Hr' := hide hr'; have Hb' := hide hb'; clear hr' hb')
        exact ⟨⟨k + 1, by omega, by push_cast; rfl, by rw [← Nat.add_assoc]; exact unhide Hr', (unhide Hb).trans (unhide Hb')⟩, by simp only [intOf]; omega⟩
      · obtain rfl : k = k0 := by omega
        have ha : among (t.extract k (k + 1)) (bt s (p + k)) = false := by
          rw [among_one t k _ hk1, beq_eq_false_iff_ne]; exact fun e => unhide HE hk1 e.symm
        have HM := hide (may_no (t := t.extract k (k + 1)) hr ha)
        clear hr ha
        go_wp2_with (first
          | (go_at_call 45; refine (unhide HM).mono ?_; rintro e w' ⟨rfl, hr', hb'⟩; have HC := hide (cannotStand_any hr'); have Hb' := hide hb'; clear hr' hb')
          | (go_at_call 42; refine (unhide HC).mono ?_; rintro e w'' ⟨rfl, rfl⟩))
        exact ⟨rfl, (unhide Hb).trans (unhide Hb'), .inr ⟨hk1, rfl⟩⟩
    · have i1 : ¬ (k : Int) < (t.size : Int) := by omega
      obtain rfl : k = k0 := by omega
      have Hr := hide hr
      clear hr
      go_wp2
      go_end0
      exact ⟨unhide Hb, by omega, rfl, unhide Hr⟩
theorem must_ok {w : World} {b p : Nat} {s t : ByteArray} (h : RdAt w b s p) (ht : t.size ≤ 100) (hS : Stand s p t t.size) :
    Calls Tryz.prog 43 #[.pointer (some ⟨b, 0, none⟩), .string t] w fun e w' => e = .returned (.tuple #[]) ∧ RdAt w' b s (p + t.size) ∧ But (fun k => k = b) w w' :=
  (must_le h t.size (Nat.le_refl _) ht hS (fun hi => absurd hi (Nat.lt_irrefl _))).mono fun e w' ⟨hb, hh⟩ => by
    rcases hh with ⟨_, h1, h2⟩ | ⟨h1, _⟩
    · exact ⟨h1, h2, hb⟩
    · exact absurd h1 (Nat.lt_irrefl _)
theorem must_bad {w : World} {b p : Nat} {s t : ByteArray} (h : RdAt w b s p) (ht : t.size ≤ 100) (k : Nat) (hk : k < t.size) (hS : Stand s p t k) (hE : bt s (p + k) ≠ (t[k]'hk).toNat) :
    Calls Tryz.prog 43 #[.pointer (some ⟨b, 0, none⟩), .string t] w fun e w' => e = .panicked (pan (p + k) 12) ∧ But (fun k => k = b) w w' :=
  (must_le h k (by omega) ht hS (fun _ => hE)).mono fun e w' ⟨hb, hh⟩ => by
    rcases hh with ⟨h1, _⟩ | ⟨_, h1⟩
    · omega
    · exact ⟨h1, hb⟩

theorem digits_bad {w : World} {b p : Nat} {s t : ByteArray} (h : RdAt w b s p) (h1 : 1 ≤ t.size) (ht : t.size ≤ 100) (hn : among (t.extract 1 t.size) (bt s p) = false) :
    Calls Tryz.prog 82 #[.pointer (some ⟨b, 0, none⟩), .string t] w fun e w' => e = .panicked (pan p 12) ∧ But (fun k => k = b) w w' := by
  have HE := hide (@sees_any w b p s (t.extract 1 t.size) h)
  rw [hn] at HE
  have HC : Hid (∀ m, Calls Tryz.prog 42 #[.pointer (some ⟨b, 0, none⟩)] (w.drewN m) fun e w' => e = .panicked (pan p 12) ∧ w' = w.drewN m) := fun m => cannotStand_any (h.drew m)
  clear h hn
  have i1 : (1 : Int) ≤ (t.size : Int) := by omega
  go_enter Tryz.func82, Tryz.ntmps82
  go_wp2_with (first
    | (go_at_call 50; refine (unhide HE).mono ?_; rintro e w' ⟨rfl, m, rfl⟩)
    | (go_at_call 42; refine (unhide HC _).mono ?_; rintro e w'' ⟨rfl, rfl⟩))
  exact ⟨rfl, rfl, But.still (still_drewN _ _)⟩

set_option maxRecDepth 100000 in
theorem digits_ok {w : World} {b p : Nat} {s t : ByteArray} (h : RdAt w b s p) (h1 : 1 ≤ t.size) (ht : t.size ≤ 100) (hn : among (t.extract 1 t.size) (bt s p) = true) (n : Nat)
    (hD : ∀ i, i < n → among t (bt s (p + i)) = true) (hE : among t (bt s (p + n)) = false) :
    Calls Tryz.prog 82 #[.pointer (some ⟨b, 0, none⟩), .string t] w fun e w' => e = .returned (.tuple #[]) ∧ RdAt w' b s (p + n) ∧ But (fun k => k = b) w w' := by
  have HE := hide (@sees_any w b p s (t.extract 1 t.size) h)
  rw [hn] at HE
  have HR := hide h
  have HD := hide hD
  have HN := hide hE
  clear h hn hD hE
  have i1 : (1 : Int) ≤ (t.size : Int) := by omega
  go_enter Tryz.func82, Tryz.ntmps82
  go_wp2_with (go_at_call 50; refine (unhide HE).mono ?_; rintro e w' ⟨rfl, m, rfl⟩)
  go_loopw [13] (fun _ wr => ∃ k : Nat, k ≤ n ∧ RdAt wr b s (p + k) ∧ But (fun k => k = b) w wr)
    (fun _ wr => n + p - (intOf ((wr.cell? ⟨b, 1, none⟩).getD undef)).toNat)
  case atStart => exact ⟨0, by omega, (unhide HR).drew _, But.still (still_drewN _ _)⟩
  case round =>
    obtain ⟨k, hk, hr, hb⟩ := hrel
    have HS := hide (@sees_any wr b (p + k) s t hr)
    have hc1 := hr.1.cell 1 (v := .int .i64 ((p + k : Nat) : Int)) rfl
    have hf1 := hr.1.unfrozen 1
    have h9 := hr.2.2
    have h8 := hr.2.1
    have hwr : IntKind.i64.wrap (((p + k : Nat) : Int) + 1) = ((p + k : Nat) : Int) + 1 := by simp [IntKind.wrap_i64]; omega
    have Hr := hide hr
    have Hb := hide hb
    clear hr hb
    by_cases hk1 : k < n
    · have ha := unhide HD k hk1
      rw [ha] at HS
      have hlt : p + k < s.size := by
        by_cases hp : p + k < s.size
        · exact hp
        · rw [bt_end hp, among_end] at ha; cases ha
      clear ha
      obtain ⟨q, hq⟩ : ∃ q, q = p + k := ⟨_, rfl⟩
      rw [← hq] at hc1 hwr
      have Hq := hide hq
      clear hq
      go_wp2_with (go_at_call 50; refine (unhide HS).mono ?_; rintro e w' ⟨rfl, m', rfl⟩)
      have hq := unhide Hq
      have hs := (unhide Hr).step hlt m'
      subst hq
      refine ⟨⟨k + 1, by omega, by rw [← Nat.add_assoc]; exact hs, ((unhide Hb).trans (But.still (still_drewN _ m'))).trans (But.setCell _ _ _ _ rfl)⟩, ?_⟩
      rw [hs.1.cell 1 (v := .int .i64 ((p + k + 1 : Nat) : Int)) rfl, hc1]
      simp only [Option.getD_some, intOf]
      omega
    · obtain rfl : k = n := by omega
      rw [unhide HN] at HS
      go_wp2_with (go_at_call 50; refine (unhide HS).mono ?_; rintro e w' ⟨rfl, m', rfl⟩)
      go_end0
      exact ⟨rfl, (unhide Hr).drew _, (unhide Hb).trans (But.still (still_drewN _ _))⟩
end Go.Proofs.YtbkjmnopljmanaaGreatDoor
