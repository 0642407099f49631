/- Read and the reference's DocRead answer alike, for every text. -/
import Derived.Test.YtbkjmnopljmanaaGreatDoorVh
namespace Go.Proofs.YtbkjmnopljmanaaGreatDoor
open Go.RowKit

theorem both_part {s : ByteArray} (c : UInt8) {p : Nat} (h : Both s p) :
    (∃ q, (∀ B b, B ≤ b → FloatTo B b s p c (.bad q)) ∧ ∀ rb, PartBad rb s p c.toNat q) ∨
    (∃ x p', bt s p' = c.toNat ∧ p ≤ p' ∧ x < 18446744073709551616 ∧ flt x = (s.extract p p').toList ∧ (∀ B b, B ≤ b → FloatTo B b s p c (.ok (.float .f64 x) (p' + 1))) ∧ ∀ rb, PartTo rb s p c.toNat x (p' + 1) 0 0) := by
  rcases h with ⟨q, h1, h2⟩ | ⟨x, x', ok, p', hpp, hx, h1, h2, h3, h4⟩
  · exact .inl ⟨q, fun B b hB w hr hG => float_vbad hr (h1 B b hB w hr hG), fun rb w hr => part_deadE hr (h2 rb w hr)⟩
  · by_cases he : bt s p' = c.toNat
    · cases ok with
      | true =>
        obtain ⟨rfl, hf⟩ := h3 rfl
        refine .inr ⟨x', p', he, hpp, hx, hf, fun B b hB w hr hG => ?_, fun rb w hr => part_ok c.toNat_lt hr he (h2 rb w hr)⟩
        refine (float_end c B hB hG hx hpp hr (h1 B b hB w hr hG) he).mono fun e w' ⟨hb, hd⟩ => ?_
        rcases hd with ⟨_, k1, k2⟩ | ⟨k, _⟩
        · exact ⟨k1, k2, hb⟩
        · exact absurd hf k
      | false =>
        have hf : flt x ≠ (s.extract p p').toList := fun k => absurd (h4 k) (by decide)
        refine .inl ⟨p, fun B b hB w hr hG => ?_, fun rb w hr => (part_wrong c.toNat_lt hr he (h2 rb w hr)).mono fun e w' ⟨k1, k2, k3⟩ => ⟨_, _, k1, k2, k3⟩⟩
        refine (float_end c B hB hG hx hpp hr (h1 B b hB w hr hG) he).mono fun e w' ⟨hb, hd⟩ => ?_
        rcases hd with ⟨k, _⟩ | ⟨_, k⟩
        · exact absurd k hf
        · exact ⟨k, hb⟩
    · exact .inl ⟨p', fun B b hB w hr hG => float_ebad c hr (h1 B b hB w hr hG) he, fun rb w hr => (part_ebad c.toNat_lt hr he (h2 rb w hr)).mono fun e w' ⟨k1, k2, k3⟩ => ⟨_, _, k1, k2, k3⟩⟩

theorem num_both {s : ByteArray} (hs : s.size ≤ 65536) :
    (∃ q, (∀ B b, B ≤ b → NumberTo B b s 0 (.bad q)) ∧ ∀ rb w, QdAt w rb s 0 0 0 → Calls Tryz.prog 22 #[.pointer (some ⟨rb, 0, none⟩), .bool false] w fun e w' => ∃ x y a', e = .returned (.complex .f64 x y) ∧ QdAt w' rb s a' 12 q ∧ But (fun k => k = rb) w w') ∨
    (∃ x y p2, x < 18446744073709551616 ∧ y < 18446744073709551616 ∧ numL x y = (s.extract 0 p2).toList ∧ (∀ B b, B ≤ b → NumberTo B b s 0 (.ok (.complex .f64 x y) p2)) ∧
      ∀ rb w, QdAt w rb s 0 0 0 → Calls Tryz.prog 22 #[.pointer (some ⟨rb, 0, none⟩), .bool false] w fun e w' => e = .returned (.complex .f64 x y) ∧ QdAt w' rb s p2 0 0 ∧ But (fun k => k = rb) w w') := by
  by_cases h0 : bt s 0 = 40
  · rcases both_part 44 (both_any hs (0 + 1)) with ⟨q, h1, h2⟩ | ⟨x, p1, e1, l1, hx, f1, h1, h2⟩
    · exact .inl ⟨q, fun B b hB => number_bad1 hB h0 (h1 B b hB), fun rb w hr => rnumber_badE1 h0 (h2 rb) w hr⟩
    · rcases both_part 41 (both_any hs (p1 + 1)) with ⟨q, h3, h4⟩ | ⟨y, p2, e2, l2, hy, f2, h3, h4⟩
      · exact .inl ⟨q, fun B b hB => number_bad2 hB h0 (h1 B b hB) (h3 B b hB), fun rb w hr => rnumber_badE2 h0 (h2 rb) (h4 rb) w hr⟩
      · refine .inr ⟨x, y, p2 + 1, hx, hy, ?_, fun B b hB => number_ok hB h0 (h1 B b hB) (h3 B b hB), fun rb w hr => rnumber_ok h0 (h2 rb) (h4 rb) w hr⟩
        rw [ex_cat s (show 0 ≤ 0 + 1 by omega) (show 0 + 1 ≤ p2 + 1 by omega), ex_one 40 h0, ex_cat s (show 0 + 1 ≤ p1 by omega) (show p1 ≤ p2 + 1 by omega), ← f1,
          ex_cat s (show p1 ≤ p1 + 1 by omega) (show p1 + 1 ≤ p2 + 1 by omega), ex_one 44 e1, ex_cat s (show p1 + 1 ≤ p2 by omega) (show p2 ≤ p2 + 1 by omega), ← f2, ex_one 41 e2]
        simp [numL]
  · exact .inl ⟨0, fun B b hB => number_bad0 h0, fun rb w hr => rnumber_bad0 h0 rfl w hr⟩

/-- What both answer: the number x + yi, the place, the fault. -/
structure Reads (s : ByteArray) (x y a e : Nat) : Prop where
  hx : x < 18446744073709551616
  hy : y < 18446744073709551616
  he : e = 0 ∨ e = 2 ∨ e = 12
  lng : s.size ≤ 65536 → e ≠ 2
  told : e = 0 → numL x y = s.toList ∧ s.size ≤ 65536
  prog : ∀ w, Gl w.heap.size w → Calls Tryz.prog 15 #[.string s] w fun r w' => r = .returned (.tuple #[.complex .f64 x y, .int .i64 (a : Nat), .int .i64 (e : Nat)]) ∧ Below w.heap.size w w'
  doc : ∀ w, Calls Tryz.prog 16 #[.string s] w fun r w' => r = .returned (.tuple #[.complex .f64 x y, .int .i64 (a : Nat), .int .i64 (e : Nat)]) ∧ Below w.heap.size w w'
theorem read_both (s : ByteArray) : ∃ x y a e, Reads s x y a e := by
  by_cases hs : s.size ≤ 65536
  rotate_left
  · refine ⟨0, 0, 0, 2, by omega, by omega, by omega, fun h => absurd h hs, fun h => absurd h (by decide), fun w _ => read_long (by omega) w, fun w => (docread_long (by omega) w).mono fun e w' ⟨h1, h2⟩ => ⟨h1, by rw [h2]; exact Below.refl _ _⟩⟩
  rcases num_both hs with ⟨q, h1, h2⟩ | ⟨x, y, p2, hx, hy, hn, h1, h2⟩
  · refine ⟨0, 0, q, 12, by omega, by omega, by omega, (fun _ => by omega), fun h => absurd h (by decide), fun w hG => read_bad hs w hG (h1 _ _ (by omega)), fun w => docread_err hs w fun W hr => ?_⟩
    exact (h2 _ W hr).mono fun e w' ⟨x, y, a', k1, k2, k3⟩ => ⟨x, y, k1, k3, rend_bad k2⟩
  · by_cases hp : p2 = s.size
    · subst hp
      refine ⟨x, y, 0, 0, hx, hy, by omega, (fun _ => by omega), fun _ => ⟨by rw [hn, ex_all], hs⟩, fun w hG => read_ok hs w hG (h1 _ _ (by omega)), fun w => docread_fine hs w fun W hr => ?_⟩
      exact (h2 _ W hr).mono fun e w' ⟨k1, k2, k3⟩ => ⟨k1, k3, rend_ok k2⟩
    · refine ⟨0, 0, p2, 12, by omega, by omega, by omega, (fun _ => by omega), fun h => absurd h (by decide), fun w hG => read_rest hs hp w hG (h1 _ _ (by omega)), fun w => docread_err hs w fun W hr => ?_⟩
      exact (h2 _ W hr).mono fun e w' ⟨k1, k2, k3⟩ => ⟨_, _, k1, k3, rend_rest k2 hp⟩
end Go.Proofs.YtbkjmnopljmanaaGreatDoor
