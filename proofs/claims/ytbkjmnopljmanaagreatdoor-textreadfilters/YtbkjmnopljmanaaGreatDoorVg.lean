/- The reference's part and number at fault, whatever the reader's place; pieces of a text; runs of digits. -/
import Derived.Test.YtbkjmnopljmanaaGreatDoorVf
import Derived.Test.YtbkjmnopljmanaaGreatDoorUa
namespace Go.Proofs.YtbkjmnopljmanaaGreatDoor
open Go.RowKit

set_option maxRecDepth 100000 in
theorem part_deadE {w : World} {b : Nat} {s : ByteArray} {a e0 pl q : Nat} {c : Nat} (h : QdAt w b s a e0 pl)
    (HF : Calls Tryz.prog 56 #[.pointer (some ⟨b, 0, none⟩)] w fun e w' => ∃ x ok a', e = .returned (.tuple #[.float .f64 x, .bool ok]) ∧ QdAt w' b s a' 12 q ∧ But (fun k => k = b) w w') :
    Calls Tryz.prog 47 #[.pointer (some ⟨b, 0, none⟩), .int .u8 (c : Nat)] w fun e w' => ∃ x a', e = .returned (.float .f64 x) ∧ QdAt w' b s a' 12 q ∧ But (fun k => k = b) w w' := by
  obtain ⟨c0, c1, c2, c3⟩ := h.cells
  have KF := hide HF
  clear h HF
  go_enter Tryz.func47, Tryz.ntmps47
  go_wp2_with (go_at_call 56; refine (unhide KF).mono ?_; rintro e w1 ⟨x, ok, a', rfl, hr, hb⟩; have R1 := hide hr; have B1 := hide hb; clear hr hb; refine Hid.out ?_)
  refine hide ?_
  obtain ⟨d0, d1, d2, d3⟩ := (unhide R1).cells
  cases ok
  all_goals
    go_wp2_with (first
      | (go_at_call 32; refine (is_dead _ (by decide) (unhide R1)).mono ?_; rintro e w2 ⟨rfl, m, rfl⟩)
      | (go_at_call 33; refine (fail_dead _ _ (by decide) ((unhide R1).drew _)).mono ?_; rintro e w3 ⟨rfl, hw'⟩; obtain rfl := hw'.symm))
    go_ret
    exact ⟨_, _, rfl, (unhide R1).drew _, (unhide B1).trans (But.still (still_drewN _ _))⟩
/-- .. at fault at q, wherever the reader then stands. -/
def PartBad (b : Nat) (s : ByteArray) (a : Nat) (c : Nat) (q : Nat) : Prop := ∀ w, QdAt w b s a 0 0 → Calls Tryz.prog 47 #[.pointer (some ⟨b, 0, none⟩), .int .u8 (c : Nat)] w fun y w' => ∃ x a', y = .returned (.float .f64 x) ∧ QdAt w' b s a' 12 q ∧ But (fun k => k = b) w w'
set_option maxRecDepth 100000 in
theorem rnumber_badE1 {b : Nat} {s : ByteArray} {a q : Nat} (h1 : bt s a = 40) (hP : PartBad b s (a + 1) 44 q) (w : World) (h : QdAt w b s a 0 0) :
    Calls Tryz.prog 22 #[.pointer (some ⟨b, 0, none⟩), .bool false] w fun e w' => ∃ x y a', e = .returned (.complex .f64 x y) ∧ QdAt w' b s a' 12 q ∧ But (fun k => k = b) w w' := by
  have c1 := h.cells.2.1
  have R0 := hide h
  have HS : Hid (Stand s a ⟨#[40]⟩ (ByteArray.mk #[40]).size) := by
    intro i hi _
    obtain rfl : i = 0 := by change i < 1 at hi; omega
    exact h1
  have KP := hide hP
  clear h hP
  go_enter Tryz.func22, Tryz.ntmps22
  go_wp2_with (go_at_call 21; refine (want_ok (t := ⟨#[40]⟩) (unhide R0) (by decide) (unhide HS)).mono ?_; rintro e w1 ⟨rfl, hr, hb⟩; have R1 := hide hr; have B1 := hide hb; clear hr hb; refine Hid.out ?_)
  refine hide ?_
  go_wp2_with (go_at_call 47; refine (unhide KP _ (unhide R1)).mono ?_; rintro e w2 ⟨x, a1, rfl, hr, hb⟩; have R2 := hide hr; have B2 := hide ((unhide B1).trans hb); clear hr hb; refine Hid.out ?_)
  refine hide ?_
  go_wp2_with (go_at_call 47; refine (part_after (unhide R2)).mono ?_; rintro e w3 ⟨rfl, hr, hb⟩; have c2 := hr.cells.2.2.1; have R3 := hide hr; have B3 := hide ((unhide B2).trans hb); clear hr hb)
  go_ret
  exact ⟨_, _, _, rfl, unhide R3, unhide B3⟩
set_option maxRecDepth 100000 in
theorem rnumber_badE2 {b : Nat} {s : ByteArray} {a q x a1 : Nat} (h1 : bt s a = 40) (hP : PartTo b s (a + 1) 44 x a1 0 0) (hQ : PartBad b s a1 41 q) (w : World) (h : QdAt w b s a 0 0) :
    Calls Tryz.prog 22 #[.pointer (some ⟨b, 0, none⟩), .bool false] w fun e w' => ∃ x y a', e = .returned (.complex .f64 x y) ∧ QdAt w' b s a' 12 q ∧ But (fun k => k = b) w w' := by
  have c1 := h.cells.2.1
  have R0 := hide h
  have HS : Hid (Stand s a ⟨#[40]⟩ (ByteArray.mk #[40]).size) := by
    intro i hi _
    obtain rfl : i = 0 := by change i < 1 at hi; omega
    exact h1
  have KP := hide hP
  have KQ := hide hQ
  clear h hP hQ
  go_enter Tryz.func22, Tryz.ntmps22
  go_wp2_with (go_at_call 21; refine (want_ok (t := ⟨#[40]⟩) (unhide R0) (by decide) (unhide HS)).mono ?_; rintro e w1 ⟨rfl, hr, hb⟩; have R1 := hide hr; have B1 := hide hb; clear hr hb; refine Hid.out ?_)
  refine hide ?_
  go_wp2_with (go_at_call 47; refine (unhide KP _ (unhide R1)).mono ?_; rintro e w2 ⟨rfl, hr, hb⟩; have R2 := hide hr; have B2 := hide ((unhide B1).trans hb); clear hr hb; refine Hid.out ?_)
  refine hide ?_
  go_wp2_with (go_at_call 47; refine (unhide KQ _ (unhide R2)).mono ?_; rintro e w3 ⟨y, a2, rfl, hr, hb⟩; have c2 := hr.cells.2.2.1; have R3 := hide hr; have B3 := hide ((unhide B2).trans hb); clear hr hb)
  go_ret
  exact ⟨_, _, _, rfl, unhide R3, unhide B3⟩

/-! Pieces of a text. -/
theorem ex_list (s : ByteArray) (i j : Nat) : (s.extract i j).toList = (s.toList.drop i).take (j - i) := by
  rw [Go.ByteArray.toList_eq, Go.ByteArray.toList_eq, ByteArray.data_extract, Array.toList_extract]
theorem ex_cat (s : ByteArray) {i j k : Nat} (h : i ≤ j) (h' : j ≤ k) : (s.extract i k).toList = (s.extract i j).toList ++ (s.extract j k).toList := by
  rw [ex_list, ex_list, ex_list, show k - i = (j - i) + (k - j) by omega, List.take_add, List.drop_drop, show i + (j - i) = j by omega]
theorem ex_one {s : ByteArray} {p : Nat} (c : UInt8) (h : bt s p = c.toNat) : (s.extract p (p + 1)).toList = [c] := by
  have hp : p < s.size := bt_lt.1 (by rw [h]; exact c.toNat_lt)
  have hl : p < s.toList.length := by rw [bl_len]; exact hp
  rw [ex_list, show p + 1 - p = 1 by omega, List.drop_eq_getElem_cons hl]
  rw [bt_of hp] at h
  have e : s.toList[p] = s[p] := by simp only [Go.ByteArray.toList_eq]; rfl
  rw [e]
  simp only [List.take_succ_cons, List.take_zero]
  rw [UInt8.toNat_inj.1 h]
theorem ex_size (s : ByteArray) {i j : Nat} (h' : j ≤ s.size) : (s.extract i j).size = j - i := by
  rw [ByteArray.size_extract]; omega
theorem ex_all (s : ByteArray) : (s.extract 0 s.size).toList = s.toList := by
  rw [ex_list, List.drop_zero, Nat.sub_zero, ← bl_len, List.take_length]
theorem bt_ex (s : ByteArray) {i j t : Nat} (h' : j ≤ s.size) (h : t < j - i) : bt (s.extract i j) t = bt s (i + t) := by
  have h1 : t < (s.extract i j).size := by rw [ex_size s h']; exact h
  rw [bt_of h1, bt_of (show i + t < s.size by omega)]
  congr 1
  exact ByteArray.getElem_extract h1
/-- A run of digits ends within the text. -/
theorem run_any (f : Nat → Nat) (D : Nat → Bool) : ∀ (k p : Nat), D (f p) = true → D (f (p + k)) = false → ∃ q, Run f D p q ∧ q ≤ p + k
  | 0, p, h, h' => by rw [Nat.add_zero, h] at h'; cases h'
  | k + 1, p, h, h' => by
    by_cases g : D (f (p + 1)) = true
    · obtain ⟨q, ⟨r1, r2, r3⟩, hq⟩ := run_any f D k (p + 1) g (by rw [show p + 1 + k = p + (k + 1) by omega]; exact h')
      refine ⟨q, ⟨by omega, fun i hi hi' => ?_, r3⟩, by omega⟩
      by_cases e : i = p
      · rw [e]; exact h
      · exact r2 i (by omega) hi'
    · refine ⟨p + 1, ⟨by omega, fun i hi hi' => ?_, by simpa using g⟩, by omega⟩
      obtain rfl : i = p := by omega
      exact h
theorem run_text (s : ByteArray) (D : Nat → Bool) (hD : D 256 = false) (p : Nat) (h : D (bt s p) = true) : ∃ q, Run (bt s) D p q ∧ q ≤ s.size := by
  have hp : p < s.size := by
    by_cases e : p < s.size
    · exact e
    · rw [bt_end e, hD] at h; cases h
  obtain ⟨q, h1, h2⟩ := run_any (bt s) D (s.size - p) p h (by rw [show p + (s.size - p) = s.size by omega, bt_end (by omega), hD])
  exact ⟨q, h1, by omega⟩
theorem hex_is {c : Nat} (h : isHexB c = true) : IsHex c := by
  unfold isHexB at h
  unfold IsHex
  simpa using h
theorem dec_is {c : Nat} (h : isDecB c = true) : 48 ≤ c ∧ c ≤ 57 := by
  unfold isDecB at h
  simpa using h
theorem md_any (s : ByteArray) (p : Nat) (h : isHexB (bt s p) = true) : ∃ q, MD (bt s) isHexB p q ∧ p < q ∧ q ≤ s.size ∧ ∀ i, p ≤ i → i < q → IsHex (bt s i) := by
  by_cases g : bt s p = 48
  · have hp : p < s.size := bt_lt.1 (by omega)
    refine ⟨p + 1, .inl ⟨g, rfl⟩, by omega, by omega, fun i h1 h2 => ?_⟩
    obtain rfl : i = p := by omega
    exact hex_is h
  · obtain ⟨q, h1, h2⟩ := run_text s isHexB (by decide) p h
    exact ⟨q, .inr ⟨g, h1⟩, h1.1, h2, fun i hi hi' => hex_is (h1.2.1 i hi hi')⟩
end Go.Proofs.YtbkjmnopljmanaaGreatDoor
