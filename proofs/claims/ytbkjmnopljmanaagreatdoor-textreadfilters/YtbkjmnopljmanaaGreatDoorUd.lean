/- The reference's digits. -/
import Derived.Test.YtbkjmnopljmanaaGreatDoorTg
namespace Go.Proofs.YtbkjmnopljmanaaGreatDoor
open Go.RowKit

/-- One byte as a string. -/
theorem one_str (w : World) (c : UInt8) : (convert 45 9 (.slice (some ⟨w.heap.size, 0, none⟩) 1 1)).run Tryz.prog (w.alloc (Obj.cells #[Value.int IntKind.u8 (c.toNat : Nat)] 5)) = .ok (.string ⟨#[c]⟩) (w.alloc (Obj.cells #[Value.int IntKind.u8 (c.toNat : Nat)] 5)) :=
  run_convert_bytes_back (P := Tryz.prog) _ 45 9 5 ⟨w.heap.size, 0, none⟩ 1 [c] Tryz.underlying45 Tryz.underlying5 Tryz.underlying9 (fun j hj => by
    obtain rfl : j = 0 := by simpa using hj
    simp [Addr.add])
theorem digr_at (d : Nat) (hd : d < 16) (h : d < (ByteArray.mk #[48, 49, 50, 51, 52, 53, 54, 55, 56, 57, 97, 98, 99, 100, 101, 102]).size) :
    ((ByteArray.mk #[48, 49, 50, 51, 52, 53, 54, 55, 56, 57, 97, 98, 99, 100, 101, 102])[d]'h).toNat = (dgc d).toNat := by
  rcases (by omega : d = 0 ∨ d = 1 ∨ d = 2 ∨ d = 3 ∨ d = 4 ∨ d = 5 ∨ d = 6 ∨ d = 7 ∨ d = 8 ∨ d = 9 ∨ d = 10 ∨ d = 11 ∨ d = 12 ∨ d = 13 ∨ d = 14 ∨ d = 15) with rfl | rfl | rfl | rfl | rfl | rfl | rfl | rfl | rfl | rfl | rfl | rfl | rfl | rfl | rfl | rfl <;> rfl
theorem str_app (l m : List UInt8) : (ByteArray.mk l.toArray) ++ (ByteArray.mk m.toArray) = ByteArray.mk (l ++ m).toArray := by
  apply ByteArray.ext
  simp

set_option maxRecDepth 100000 in
theorem digits16 : ∀ (n : Nat), n < 18446744073709551616 → ∀ (w : World), Calls Tryz.prog 105 #[.int .u64 (n : Nat), .int .u64 16] w fun e w' => e = .returned (.string ⟨(hexL n).toArray⟩) ∧ Below w.heap.size w w' := by
  intro n
  induction n using Nat.strongRecOn with
  | ind n ih =>
    intro hn w
    obtain ⟨d, hd⟩ : ∃ d : Nat, (n : Int) % 16 = (d : Int) := ⟨n % 16, by omega⟩
    obtain ⟨q, hq⟩ : ∃ q : Nat, (n : Int) / 16 = (q : Int) := ⟨n / 16, by omega⟩
    have hd16 : d < 16 := by omega
    have i1 : (d : Int) < 16 := by omega
    have i2 : ¬ ((d : Int) < 0) := by omega
    have hdu := digr_at d hd16
    have hcv := one_str w (dgc d)
    have ED : Hid (d = n % 16 ∧ q = n / 16) := ⟨by omega, by omega⟩
    by_cases h16 : n < 16
    · have j1 : (n : Int) < 16 := by omega
      clear ih
      go_enter Tryz.func105, Tryz.ntmps105
      go_wp2_with fail
      go_ret
      refine ⟨?_, (Below.refl _ _).alloc (Nat.le_refl _) _⟩
      rw [hexL_small h16, show n = d by have := (unhide ED).1; omega]
      rfl
    · have j1 : ¬ (n : Int) < 16 := by omega
      have IH := hide (ih q (by have := (unhide ED).2; omega) (by have := (unhide ED).2; omega))
      have EX : Hid (hexL n = hexL q ++ [dgc d]) := by show _ = _; rw [hexL_step h16, (unhide ED).1, (unhide ED).2]
      have hlen : ¬ 9223372036854775807 < (hexL q).length + 1 := by have := hexL_len_le 15 q (by have := (unhide ED).2; omega); omega
      clear ih
      go_enter Tryz.func105, Tryz.ntmps105
      go_wp2_with (go_at_call 105; refine (unhide IH _).mono ?_; rintro e w1 ⟨rfl, hb⟩; have B1 := hide hb; clear hb)
      go_ret
      refine ⟨?_, ((Below.refl _ _).alloc (Nat.le_refl _) _).trans ((unhide B1).mono ((Below.refl w.heap.size w).alloc (Nat.le_refl _) _).size)⟩
      rw [unhide EX, ← str_app]
      rfl

/-- A decimal digit's letter. -/
def dgd (d : Nat) : UInt8 := UInt8.ofNat (48 + d)
theorem digr_at10 (d : Nat) (hd : d < 10) (h : d < (ByteArray.mk #[48, 49, 50, 51, 52, 53, 54, 55, 56, 57, 97, 98, 99, 100, 101, 102]).size) :
    ((ByteArray.mk #[48, 49, 50, 51, 52, 53, 54, 55, 56, 57, 97, 98, 99, 100, 101, 102])[d]'h).toNat = (dgd d).toNat := by
  rcases (by omega : d = 0 ∨ d = 1 ∨ d = 2 ∨ d = 3 ∨ d = 4 ∨ d = 5 ∨ d = 6 ∨ d = 7 ∨ d = 8 ∨ d = 9) with rfl | rfl | rfl | rfl | rfl | rfl | rfl | rfl | rfl | rfl <;> rfl
theorem dec_small {n : Nat} (h : n < 10) : Lib.decDigits n = [dgd n] := by rw [Lib.decDigits, dif_pos h]; rfl
theorem dec_step {n : Nat} (h : ¬ n < 10) : Lib.decDigits n = Lib.decDigits (n / 10) ++ [dgd (n % 10)] := by rw [Lib.decDigits, dif_neg h]; rfl
theorem dec_len (n : Nat) (h : n < 1000000) : (Lib.decDigits n).length ≤ 21 := by
  have := Lib.itoa_length_le (n : Int) (by omega) (by omega)
  rw [Lib.itoa, if_neg (by omega), Int.toNat_natCast] at this
  exact this
set_option maxRecDepth 100000 in
theorem digits10 : ∀ (n : Nat), n < 1000000 → ∀ (w : World), Calls Tryz.prog 105 #[.int .u64 (n : Nat), .int .u64 10] w fun e w' => e = .returned (.string ⟨(Lib.decDigits n).toArray⟩) ∧ Below w.heap.size w w' := by
  intro n
  induction n using Nat.strongRecOn with
  | ind n ih =>
    intro hn w
    obtain ⟨d, hd⟩ : ∃ d : Nat, (n : Int) % 10 = (d : Int) := ⟨n % 10, by omega⟩
    obtain ⟨q, hq⟩ : ∃ q : Nat, (n : Int) / 10 = (q : Int) := ⟨n / 10, by omega⟩
    have hd10 : d < 10 := by omega
    have i1 : (d : Int) < 16 := by omega
    have i2 : ¬ ((d : Int) < 0) := by omega
    have hdu := digr_at10 d hd10
    have hcv := one_str w (dgd d)
    have ED : Hid (d = n % 10 ∧ q = n / 10) := ⟨by omega, by omega⟩
    by_cases h16 : n < 10
    · have j1 : (n : Int) < 10 := by omega
      clear ih
      go_enter Tryz.func105, Tryz.ntmps105
      go_wp2_with fail
      go_ret
      refine ⟨?_, (Below.refl _ _).alloc (Nat.le_refl _) _⟩
      rw [dec_small h16, show n = d by have := (unhide ED).1; omega]
      rfl
    · have j1 : ¬ (n : Int) < 10 := by omega
      have IH := hide (ih q (by have := (unhide ED).2; omega) (by have := (unhide ED).2; omega))
      have EX : Hid (Lib.decDigits n = Lib.decDigits q ++ [dgd d]) := by show _ = _; rw [dec_step h16, (unhide ED).1, (unhide ED).2]
      have hlen : ¬ 9223372036854775807 < (Lib.decDigits q).length + 1 := by have := dec_len q (by have := (unhide ED).2; omega); omega
      clear ih
      go_enter Tryz.func105, Tryz.ntmps105
      go_wp2_with (go_at_call 105; refine (unhide IH _).mono ?_; rintro e w1 ⟨rfl, hb⟩; have B1 := hide hb; clear hb)
      go_ret
      refine ⟨?_, ((Below.refl _ _).alloc (Nat.le_refl _) _).trans ((unhide B1).mono ((Below.refl w.heap.size w).alloc (Nat.le_refl _) _).size)⟩
      rw [unhide EX, ← str_app]
      rfl
end Go.Proofs.YtbkjmnopljmanaaGreatDoor
