/- The reference's reader: fail, is, want. -/
import Derived.Test.YtbkjmnopljmanaaGreatDoorTb
namespace Go.Proofs.YtbkjmnopljmanaaGreatDoor
open Go.RowKit

/-- Where the reference's reader lies: it stands at a; e is its fault, pl where that is. -/
def QdAt (w : World) (b : Nat) (s : ByteArray) (a e pl : Nat) : Prop := Blk w b #[.string s, .int .i64 (a : Nat), .int .i64 (e : Nat), .int .i64 (pl : Nat)] 59 ∧ a ≤ s.size ∧ s.size ≤ 65536
theorem QdAt.drew {w : World} {b : Nat} {s : ByteArray} {a e pl : Nat} (h : QdAt w b s a e pl) (m : Nat) : QdAt (w.drewN m) b s a e pl := h
theorem QdAt.low {w w' : World} {b : Nat} {s : ByteArray} {a e pl : Nat} (h : QdAt w b s a e pl) (hb : Below w.heap.size w w') : QdAt w' b s a e pl := ⟨h.1.below hb h.1.lt, h.2⟩
theorem QdAt.step {w : World} {b : Nat} {s : ByteArray} {a e pl : Nat} (h : QdAt w b s a e pl) (ha : a < s.size) : QdAt (w.setCell ⟨b, 1, none⟩ (.int .i64 ((a : Int) + 1))) b s (a + 1) e pl := by
  refine ⟨?_, by omega, h.2.2⟩
  have := h.1.put 1 (.int .i64 ((a : Int) + 1))
  simpa using this
theorem QdAt.cells {w : World} {b : Nat} {s : ByteArray} {a e pl : Nat} (h : QdAt w b s a e pl) : w.cell? ⟨b, 0, none⟩ = some (.string s) ∧ w.cell? ⟨b, 1, none⟩ = some (.int .i64 (a : Nat)) ∧ w.cell? ⟨b, 2, none⟩ = some (.int .i64 (e : Nat)) ∧ w.cell? ⟨b, 3, none⟩ = some (.int .i64 (pl : Nat)) :=
  ⟨h.1.cell 0 rfl, h.1.cell 1 rfl, h.1.cell 2 rfl, h.1.cell 3 rfl⟩

theorem fail_any {w : World} {b : Nat} {s : ByteArray} {a pl : Nat} (e p : Nat) (h : QdAt w b s a 0 pl) :
    Calls Tryz.prog 33 #[.pointer (some ⟨b, 0, none⟩), .int .i64 (e : Nat), .int .i64 (p : Nat)] w fun x w' => x = .returned (.tuple #[]) ∧ QdAt w' b s a e p ∧ But (fun k => k = b) w w' := by
  obtain ⟨c0, c1, c2, c3⟩ := h.cells
  have f2 := h.1.unfrozen 2
  have f3 := h.1.unfrozen 3
  have H := hide h
  clear h
  go_enter Tryz.func33, Tryz.ntmps33
  go_wp2_with fail
  go_end0
  have h1 := (unhide H).1.put 2 (.int .i64 (e : Nat))
  have h2 := h1.put 3 (.int .i64 (p : Nat))
  exact ⟨rfl, ⟨by simpa using h2, (unhide H).2⟩, (But.setCell (fun k => k = b) _ ⟨b, 2, none⟩ _ rfl).trans (But.setCell (fun k => k = b) _ ⟨b, 3, none⟩ _ rfl)⟩
theorem fail_dead {w : World} {b : Nat} {s : ByteArray} {a e pl : Nat} (v u : Value) (he : e ≠ 0) (h : QdAt w b s a e pl) :
    Calls Tryz.prog 33 #[.pointer (some ⟨b, 0, none⟩), v, u] w fun x w' => x = .returned (.tuple #[]) ∧ w' = w := by
  obtain ⟨c0, c1, c2, c3⟩ := h.cells
  have hz : ((e : Int) == 0) = false := by simpa using he
  clear h
  go_enter Tryz.func33, Tryz.ntmps33
  go_wp2_with fail
  go_end0
  exact ⟨rfl, rfl⟩
set_option maxRecDepth 100000 in
theorem is_in {w : World} {b : Nat} {s : ByteArray} {a pl c : Nat} (h : QdAt w b s a 0 pl) (ha : a < s.size) :
    Calls Tryz.prog 32 #[.pointer (some ⟨b, 0, none⟩), .int .u8 (c : Nat)] w fun x w' => x = .returned (.bool (decide (bt s a = c))) ∧ ∃ m, w' = w.drewN m := by
  obtain ⟨c0, c1, c2, c3⟩ := h.cells
  have i1 : (a : Int) < (s.size : Int) := by omega
  have i2 : ¬ ((a : Int) < 0) := by omega
  have E : decide (bt s a = c) = (((s[a]'ha).toNat : Int) == (c : Int)) := by
    rw [bt_of ha, Bool.eq_iff_iff]; simp; omega
  rw [E]
  clear h E
  go_enter Tryz.func32, Tryz.ntmps32
  go_wp2_with fail
  go_quiet (fail)
  go_wp2
  go_ret
  exact ⟨rfl, _, rfl⟩
set_option maxRecDepth 100000 in
theorem is_end {w : World} {b : Nat} {s : ByteArray} {a pl c : Nat} (h : QdAt w b s a 0 pl) (ha : ¬ a < s.size) :
    Calls Tryz.prog 32 #[.pointer (some ⟨b, 0, none⟩), .int .u8 (c : Nat)] w fun x w' => x = .returned (.bool false) ∧ ∃ m, w' = w.drewN m := by
  obtain ⟨c0, c1, c2, c3⟩ := h.cells
  have i1 : ¬ (a : Int) < (s.size : Int) := by omega
  clear h
  go_enter Tryz.func32, Tryz.ntmps32
  go_wp2_with fail
  go_quiet (fail)
  go_wp2
  go_ret
  exact ⟨rfl, _, rfl⟩
set_option maxRecDepth 100000 in
theorem is_dead {w : World} {b : Nat} {s : ByteArray} {a e pl : Nat} (v : Value) (he : e ≠ 0) (h : QdAt w b s a e pl) :
    Calls Tryz.prog 32 #[.pointer (some ⟨b, 0, none⟩), v] w fun x w' => x = .returned (.bool false) ∧ ∃ m, w' = w.drewN m := by
  obtain ⟨c0, c1, c2, c3⟩ := h.cells
  have hz : ((e : Int) == 0) = false := by simpa using he
  clear h
  go_enter Tryz.func32, Tryz.ntmps32
  go_wp2_with fail
  go_quiet (fail)
  go_wp2
  go_ret
  exact ⟨rfl, _, rfl⟩
theorem is_any {w : World} {b : Nat} {s : ByteArray} {a pl c : Nat} (hc : c < 256) (h : QdAt w b s a 0 pl) :
    Calls Tryz.prog 32 #[.pointer (some ⟨b, 0, none⟩), .int .u8 (c : Nat)] w fun x w' => x = .returned (.bool (decide (bt s a = c))) ∧ ∃ m, w' = w.drewN m := by
  by_cases ha : a < s.size
  · exact is_in h ha
  · rw [bt_end ha, decide_eq_false (by omega)]; exact is_end h ha

set_option maxHeartbeats 1000000 in
set_option maxRecDepth 100000 in
theorem want_le {w : World} {b : Nat} {s t : ByteArray} {a pl : Nat} (h : QdAt w b s a 0 pl) (k0 : Nat) (hk0 : k0 ≤ t.size) (ht : t.size ≤ 100) (hS : Stand s a t k0) (hE : ∀ hi : k0 < t.size, bt s (a + k0) ≠ (t[k0]'hi).toNat) :
    Calls Tryz.prog 21 #[.pointer (some ⟨b, 0, none⟩), .string t] w fun x w' => x = .returned (.tuple #[]) ∧
      But (fun k => k = b) w w' ∧ ((k0 = t.size ∧ QdAt w' b s (a + k0) 0 pl) ∨ (k0 < t.size ∧ QdAt w' b s (a + k0) 12 (a + k0))) := by
  go_enter Tryz.func21, Tryz.ntmps21
  go_wp2_with fail
  have HR := hide h
  have HS := hide hS
  have HE := hide hE
  clear h hS hE
  go_loopw [4] (fun i wr => ∃ k : Nat, k ≤ k0 ∧ i = .int .i64 k ∧ QdAt wr b s (a + k) 0 pl ∧ But (fun k => k = b) w wr)
    (fun i _ => t.size - (intOf i).toNat)
  case atStart => exact ⟨0, by omega, rfl, unhide HR, But.refl _ _⟩
  case round =>
    obtain ⟨k, hk, rfl, hr, hb⟩ := hrel
    have Hb := hide hb
    clear hb
    obtain ⟨c0, c1, c2, c3⟩ := hr.cells
    have f1 := hr.1.unfrozen 1
    have h9 := hr.2.2
    have h8 := hr.2.1
    have Hr := hide hr
    by_cases hk1 : k < t.size
    · have i1 : (k : Int) < (t.size : Int) := by omega
      have i2 : ¬ ((k : Int) < 0) := by omega
      have HI := hide (is_any (c := (t[k]'hk1).toNat) (t[k]'hk1).toNat_lt hr)
      have hw1 : IntKind.i64.wrap ((k : Int) + 1) = (k : Int) + 1 := by simp [IntKind.wrap_i64]; omega
      obtain ⟨q, hq⟩ : ∃ q, q = a + k := ⟨_, rfl⟩
      rw [← hq] at c1 h8
      have hw2 : IntKind.i64.wrap ((q : Int) + 1) = (q : Int) + 1 := by simp [IntKind.wrap_i64]; omega
      have Hq := hide hq
      by_cases hk2 : k < k0
      · rw [decide_eq_true (unhide HS k hk1 hk2)] at HI
        have hlt : q < s.size := by
          apply bt_lt.1; rw [hq, unhide HS k hk1 hk2]; exact (t[k]'hk1).toNat_lt
        clear hr hq
        go_wp2_with (go_at_call 32; refine (unhide HI).mono ?_; rintro e w' ⟨rfl, m, rfl⟩)
        have hs := ((unhide Hr).drew m).step (by have := unhide Hq; omega)
        have hq := unhide Hq
        subst hq
        exact ⟨⟨k + 1, by omega, by push_cast; rfl, by rw [← Nat.add_assoc]; exact hs, ((unhide Hb).trans (But.still (still_drewN _ m))).trans (But.setCell _ _ _ _ rfl)⟩, by simp only [intOf]; omega⟩
      · obtain rfl : k = k0 := by omega
        rw [decide_eq_false (unhide HE hk1)] at HI
        clear hr hq
        go_wp2_with (first
          | (go_at_call 32; refine (unhide HI).mono ?_; rintro e w' ⟨rfl, m, rfl⟩)
          | (go_at_call 33; refine (fail_any 12 q ((unhide Hr).drew m)).mono ?_; rintro e w'' ⟨rfl, hf, hb⟩; have Hf := hide hf; have Hb2 := hide ((unhide Hb).trans ((But.still (still_drewN _ m)).trans hb)); clear hf hb))
        (try simp only [Exit.inBlock, Exit.then]); refine bodyPost_ret (results_none rfl _ _ _) rfl ?_
        have hq := unhide Hq
        subst hq
        exact ⟨rfl, unhide Hb2, .inr ⟨hk1, unhide Hf⟩⟩
    · have i1 : ¬ (k : Int) < (t.size : Int) := by omega
      obtain rfl : k = k0 := by omega
      clear hr
      go_wp2
      go_end0
      first
        | exact ⟨rfl, unhide Hb, .inl ⟨by omega, unhide Hr⟩⟩
        | exact ⟨rfl, unhide Hb, by omega, unhide Hr⟩
theorem want_ok {w : World} {b : Nat} {s t : ByteArray} {a pl : Nat} (h : QdAt w b s a 0 pl) (ht : t.size ≤ 100) (hS : Stand s a t t.size) :
    Calls Tryz.prog 21 #[.pointer (some ⟨b, 0, none⟩), .string t] w fun x w' => x = .returned (.tuple #[]) ∧ QdAt w' b s (a + t.size) 0 pl ∧ But (fun k => k = b) w w' :=
  (want_le h t.size (Nat.le_refl _) ht hS (fun hi => absurd hi (Nat.lt_irrefl _))).mono fun e w' ⟨h1, hb, hh⟩ => by
    rcases hh with ⟨_, h2⟩ | ⟨h2, _⟩
    · exact ⟨h1, h2, hb⟩
    · exact absurd h2 (Nat.lt_irrefl _)
theorem want_bad {w : World} {b : Nat} {s t : ByteArray} {a pl : Nat} (h : QdAt w b s a 0 pl) (ht : t.size ≤ 100) (k : Nat) (hk : k < t.size) (hS : Stand s a t k) (hE : bt s (a + k) ≠ (t[k]'hk).toNat) :
    Calls Tryz.prog 21 #[.pointer (some ⟨b, 0, none⟩), .string t] w fun x w' => x = .returned (.tuple #[]) ∧ QdAt w' b s (a + k) 12 (a + k) ∧ But (fun k => k = b) w w' :=
  (want_le h k (by omega) ht hS (fun _ => hE)).mono fun e w' ⟨h1, hb, hh⟩ => by
    rcases hh with ⟨h2, _⟩ | ⟨_, h2⟩
    · omega
    · exact ⟨h1, h2, hb⟩
set_option maxRecDepth 100000 in
theorem want_dead {w : World} {b : Nat} {s t : ByteArray} {a e pl : Nat} (he : e ≠ 0) (ht : t.size ≤ 100) (h : QdAt w b s a e pl) :
    Calls Tryz.prog 21 #[.pointer (some ⟨b, 0, none⟩), .string t] w fun x w' => x = .returned (.tuple #[]) ∧ w' = w := by
  obtain ⟨c0, c1, c2, c3⟩ := h.cells
  have hz : ((e : Int) == 0) = false := by simpa using he
  clear h
  go_enter Tryz.func21, Tryz.ntmps21
  go_wp2_with fail
  go_loopw [4] (fun i wr => i = .int .i64 0 ∧ wr = w) (fun _ _ => 0)
  case atStart => exact ⟨rfl, rfl⟩
  case round =>
    obtain ⟨rfl, rfl⟩ := hrel
    by_cases h0 : 0 < t.size
    · have i1 : (0 : Int) < (t.size : Int) := by omega
      have i2 : decide (0 < t.size) = true := decide_eq_true h0
      go_wp2
      go_end0
      exact ⟨rfl, rfl⟩
    · have i1 : ¬ (0 : Int) < (t.size : Int) := by omega
      have i2 : decide (0 < t.size) = false := decide_eq_false h0
      go_wp2
      go_end0
      exact ⟨rfl, rfl⟩
end Go.Proofs.YtbkjmnopljmanaaGreatDoor
