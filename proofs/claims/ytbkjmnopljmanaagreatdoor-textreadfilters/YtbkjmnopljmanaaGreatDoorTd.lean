/- strconv.ParseUint of small hexadecimal digits. -/
import Derived.Test.YtbkjmnopljmanaaGreatDoorTa
import Derived.Lib.AtoiAllMem
namespace Go.Proofs.YtbkjmnopljmanaaGreatDoor
open Go.RowKit

/-- A digit's value. -/
def hexV (c : Nat) : Nat := if c < 58 then c - 48 else c - 87
def IsHex (c : Nat) : Prop := (48 ≤ c ∧ c ≤ 57) ∨ (97 ≤ c ∧ c ≤ 102)
theorem hexV_lt {c : Nat} (h : IsHex c) : hexV c < 16 := by unfold hexV; rcases h with h | h <;> split <;> omega
/-- The value of the first k digits. -/
def hvN (f : Nat → Nat) : Nat → Nat
  | 0 => 0
  | k + 1 => 16 * hvN f k + hexV (f k)
theorem hvN_le (f : Nat → Nat) {k n : Nat} (h : k ≤ n) : hvN f k ≤ hvN f n := by
  induction n with
  | zero => rw [Nat.le_zero.1 h]; exact Nat.le_refl _
  | succ n ih =>
    by_cases e : k = n + 1
    · rw [e]; exact Nat.le_refl _
    · have := ih (by omega)
      show _ ≤ 16 * hvN f n + hexV (f n)
      omega
theorem hvN_congr {f g : Nat → Nat} : ∀ {n : Nat}, (∀ i, i < n → f i = g i) → hvN f n = hvN g n
  | 0, _ => rfl
  | n + 1, h => by
    show 16 * hvN f n + hexV (f n) = 16 * hvN g n + hexV (g n)
    rw [hvN_congr (fun i hi => h i (by omega)), h n (by omega)]
theorem hvN_lt (f : Nat → Nat) : ∀ n, (∀ i, i < n → IsHex (f i)) → hvN f n < 16 ^ n
  | 0, _ => Nat.zero_lt_one
  | n + 1, h => by
    have h1 := hvN_lt f n (fun i hi => h i (by omega))
    have h2 := hexV_lt (h n (by omega))
    show 16 * hvN f n + hexV (f n) < _
    rw [Nat.pow_succ]; omega
/-- What is read of them: no more than the greatest word. -/
def hvW (f : Nat → Nat) (n : Nat) : Nat := if hvN f n < 18446744073709551616 then hvN f n else 18446744073709551615
def hvE (f : Nat → Nat) (n : Nat) : Value := if hvN f n < 18446744073709551616 then .nilIface else .iface 150 (.int .i64 1)

theorem or_small {c : Nat} (h : 97 ≤ c ∧ c ≤ 102) : bits .or .u8 (c : Int) 32 = (c : Int) := by
  rcases (by omega : c = 97 ∨ c = 98 ∨ c = 99 ∨ c = 100 ∨ c = 101 ∨ c = 102) with rfl | rfl | rfl | rfl | rfl | rfl <;> decide

set_option maxHeartbeats 6400000 in
set_option maxRecDepth 100000 in
theorem parse16_in (t : ByteArray) (hne : t.size ≠ 0) (hmax : t.size ≤ 65536) (hX : ∀ i, i < t.size → IsHex (bt t i)) (w : World) :
    Calls Tryz.prog 97 #[.string t, .int .i64 16, .int .i64 64] w fun e w' => e = .returned (.tuple #[.int .u64 (hvW (bt t) t.size : Nat), hvE (bt t) t.size]) ∧ w' = Lib.bytesWorld w 5 t := by
  have hemp : t.toList.isEmpty = false := by
    rw [← decide_eq_emptyBytes]
    exact decide_eq_false (fun h => hne (by rw [h]; rfl))
  have hcv := Lib.run_convert_string_bytes (P := Tryz.prog) w 9 45 5 t (u := .string) Tryz.underlying9 Tryz.underlying45 Tryz.underlying5
  have hB : ∀ j, j < t.size → (Lib.bytesWorld w 5 t).cell? ⟨w.heap.size, j, none⟩ = some (.int .u8 (bt t j : Nat)) := fun j hj => by
    rw [Lib.bytesWorld_cell w 5 t j hj, bt_of hj]
    have hl : j < t.data.toList.length := by simpa using hj
    rw [List.getD, List.getElem?_eq_getElem hl]
    simp
    rfl
  obtain ⟨W1, hW1⟩ : ∃ W1, W1 = Lib.bytesWorld w 5 t := ⟨_, rfl⟩
  rw [← hW1] at hcv hB ⊢
  clear hW1
  have HX := hide hX
  have HB := hide hB
  clear hX hB
  have hmv : IntKind.u64.wrap (IntKind.u64.wrap 18446744073709551616 - 1) = 18446744073709551615 := by
    rw [IntKind.wrap_u64, IntKind.wrap_u64]
    decide
  go_enter Tryz.func97, Tryz.ntmps97
  go_wp2_with fail
  go_loop [12, 13, 101] (fun vu vn vi => ∃ (k : Nat) (a : Int), vu = .bool false ∧ vn = .int .u64 a ∧ vi = .int .i64 k ∧ k ≤ t.size ∧ Hid (a = (hvN (bt t) k : Int) ∧ hvN (bt t) k < 18446744073709551616))
    (fun _ _ vi => t.size - (intOf vi).toNat)
  case atStart => exact ⟨0, 0, rfl, rfl, rfl, by omega, rfl, by show 0 < 18446744073709551616; omega⟩
  case round =>
    obtain ⟨k, a, rfl, rfl, rfl, hk, hh⟩ := hrel
    obtain ⟨ha, hacc⟩ := hh.out
    clear hh
    have a0 : 0 ≤ a := by omega
    have a1 : a < 18446744073709551616 := by omega
    by_cases hkn : k < t.size
    · have hc := unhide HB k hkn
      have hx := unhide HX k hkn
      have hs : hvN (bt t) (k + 1) = 16 * hvN (bt t) k + hexV (bt t k) := rfl
      have hle := hvN_le (bt t) (show k + 1 ≤ t.size from hkn)
      generalize bt t k = c at hc hx hs
      have ikn : (k : Int) < (t.size : Int) := by omega
      rcases hx with hx | hx
      · have hd : hexV c = c - 48 := by unfold hexV; rw [if_pos (by omega)]
        have c0 : (48 : Int) ≤ (c : Int) := by omega
        have c1 : (c : Int) ≤ 57 := by omega
        by_cases hcut : 1152921504606846976 ≤ hvN (bt t) k
        · have E1 : hvW (bt t) t.size = 18446744073709551615 := by unfold hvW; rw [if_neg (by omega)]
          have E2 : hvE (bt t) t.size = .iface 150 (.int .i64 1) := by unfold hvE; rw [if_neg (by omega)]
          have HE := hide (And.intro E1 E2)
          have icut : 1152921504606846976 ≤ a := by omega
          clear hcut hacc hs hle ha E1 E2 hx
          go_wp2_with fail
          go_ret2
          rw [(unhide HE).1, (unhide HE).2]
          exact ⟨rfl, rfl⟩
        · have icut : a < 1152921504606846976 := by omega
          have iov : a * 16 + ((c : Int) - 48) < 18446744073709551616 := by omega
          have HN : Hid (a * 16 + ((c : Int) - 48) = (hvN (bt t) (k + 1) : Int) ∧ hvN (bt t) (k + 1) < 18446744073709551616) := ⟨by rw [hs, hd]; omega, by rw [hs, hd]; omega⟩
          clear hcut hacc hs hle ha hx hd
          go_wp2_with fail
          refine ⟨⟨k + 1, a * 16 + ((c : Int) - 48), rfl, (by first | rfl | (congr 1; omega)), (by first | rfl | (congr 1; omega)), by omega, HN⟩, by simp [intOf]; omega⟩
      · have hd : hexV c = c - 87 := by unfold hexV; rw [if_neg (by omega)]
        have hor := or_small hx
        have c0 : (97 : Int) ≤ (c : Int) := by omega
        have c1 : (c : Int) ≤ 102 := by omega
        by_cases hcut : 1152921504606846976 ≤ hvN (bt t) k
        · have E1 : hvW (bt t) t.size = 18446744073709551615 := by unfold hvW; rw [if_neg (by omega)]
          have E2 : hvE (bt t) t.size = .iface 150 (.int .i64 1) := by unfold hvE; rw [if_neg (by omega)]
          have HE := hide (And.intro E1 E2)
          have icut : 1152921504606846976 ≤ a := by omega
          clear hcut hacc hs hle ha E1 E2 hx
          go_wp2_with (go_at_call 110; refine (Tryz.strconv_lower _ _).mono ?_; rintro e w' ⟨rfl, rfl⟩; rw [hor])
          go_ret2
          rw [(unhide HE).1, (unhide HE).2]
          exact ⟨rfl, rfl⟩
        · have icut : a < 1152921504606846976 := by omega
          have iov : a * 16 + ((c : Int) - 97 + 10) < 18446744073709551616 := by omega
          have HN : Hid (a * 16 + ((c : Int) - 97 + 10) = (hvN (bt t) (k + 1) : Int) ∧ hvN (bt t) (k + 1) < 18446744073709551616) := ⟨by rw [hs, hd]; omega, by rw [hs, hd]; omega⟩
          clear hcut hacc hs hle ha hx hd
          go_wp2_with (go_at_call 110; refine (Tryz.strconv_lower _ _).mono ?_; rintro e w' ⟨rfl, rfl⟩; rw [hor])
          refine ⟨⟨k + 1, a * 16 + ((c : Int) - 97 + 10), rfl, (by first | rfl | (congr 1; omega)), (by first | rfl | (congr 1; omega)), by omega, HN⟩, by simp [intOf]; omega⟩
    · obtain rfl : k = t.size := by omega
      have E1 : hvW (bt t) t.size = hvN (bt t) t.size := by unfold hvW; rw [if_pos hacc]
      have E2 : hvE (bt t) t.size = .nilIface := by unfold hvE; rw [if_pos hacc]
      have HE := hide (And.intro E1 E2)
      have HA := hide ha
      clear E1 E2 ha hacc
      go_wp2_with fail
      go_ret2
      rw [(unhide HE).1, (unhide HE).2, ← unhide HA]
      exact ⟨rfl, rfl⟩

theorem bytes_below (w : World) (t : ByteArray) : Below w.heap.size w (Lib.bytesWorld w 5 t) := Joins.below_bytesWorld _ w _ t (Nat.le_refl _)
set_option maxRecDepth 100000 in
theorem parse16_any (t : ByteArray) (hne : t.size ≠ 0) (hmax : t.size ≤ 65536) (hX : ∀ i, i < t.size → IsHex (bt t i)) (w : World) (hg : Tryz.laysC172_ren.g 16 < w.heap.size) (hR : ∃ te pe, w.cell? ⟨Tryz.laysC172_ren.g 16, 0, none⟩ = some (.iface te pe)) :
    Calls Tryz.prog 83 #[.string t, .int .i64 16, .int .i64 64] w fun e w' => ∃ ev, e = .returned (.tuple #[.int .u64 (hvW (bt t) t.size : Nat), ev]) ∧ Below w.heap.size w w' := by
  have HP := hide (parse16_in t hne hmax hX w)
  have HW := hide (bytes_below w t)
  obtain ⟨te, pe, hR⟩ := hR
  have HR := hide (show (Lib.bytesWorld w 5 t).cell? ⟨Tryz.laysC172_ren.g 16, 0, none⟩ = some (.iface te pe) by rw [(bytes_below w t).cell hg]; exact hR)
  generalize Lib.bytesWorld w 5 t = W1 at HP HW HR
  clear hg hR
  obtain ⟨ev, hev⟩ : ∃ ev, ev = hvE (bt t) t.size := ⟨_, rfl⟩
  rw [← hev] at HP
  have hev' : ev = .nilIface ∨ ev = .iface 150 (.int .i64 1) := by rw [hev]; unfold hvE; split <;> simp
  clear hev
  rcases hev' with rfl | rfl
  · go_enter Tryz.func83, Tryz.ntmps83
    go_wp2_with (go_at_call 97; refine (unhide HP).mono ?_; rintro e w' ⟨rfl, rfl⟩)
    go_ret2
    exact ⟨_, rfl, unhide HW⟩
  · have HT := hide (Tryz.strconv_toError_range ⟨#[80, 97, 114, 115, 101, 85, 105, 110, 116]⟩ t 16 64 _ W1 (by omega) (unhide HR) (.inr ⟨_, _, rfl⟩))
    go_enter Tryz.func83, Tryz.ntmps83
    go_wp2_with (first
      | (go_at_call 97; refine (unhide HP).mono ?_; rintro e w' ⟨rfl, rfl⟩)
      | (go_at_call 98; refine (unhide HT).mono ?_; rintro e w2 ⟨T, N, rfl, hb⟩; have HB2 := hide hb; clear hb))
    go_ret2
    exact ⟨_, rfl, (unhide HW).trans ((unhide HB2).mono (unhide HW).size)⟩
end Go.Proofs.YtbkjmnopljmanaaGreatDoor
