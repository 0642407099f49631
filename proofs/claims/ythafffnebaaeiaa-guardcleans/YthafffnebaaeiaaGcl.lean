/- What package guard's Clean answers, by the bits of the parts and the flags. -/
import Derived.Test.YthafffnebaaeiaaGd
namespace Go.Proofs.Ythafffnebaaeiaa
open Go.RowKit

/-- A guard as a value. -/
def Gv (g : Gu) : Value := .agg #[.bool g.flush, .bool g.clip, .bool g.mute]
/-- A part as the guard leaves it, by its bits, and whether it was changed. -/
def clb (g : Gu) (b : Nat) : Nat × Nat :=
  if cls b = 4 then (if g.mute then (0, 1) else (b, 0))
  else if cls b = 3 then (if g.clip then (sgb b + 9218868437227405311, 1) else (b, 0))
  else if cls b = 1 then (if g.flush then (sgb b, 1) else (b, 0))
  else (b, 0)

theorem cls_rg (b : Nat) : (cls b = 4 ↔ 9218868437227405312 < rg b) ∧ (cls b = 3 ↔ rg b = 9218868437227405312) ∧ (cls b = 1 ↔ 0 < rg b ∧ rg b < 4503599627370496) := by
  have h := rg_eq b
  have h1 := pw_le b
  have h2 := fr_lt b
  rw [h]
  unfold cls
  generalize pw b = p at *
  generalize fr b = f at *
  by_cases c1 : p = 0 ∧ f = 0
  · rw [if_pos c1]; refine ⟨?_, ?_, ?_⟩ <;> constructor <;> intro h <;> omega
  · rw [if_neg c1]
    by_cases c2 : p = 0
    · rw [if_pos c2]; refine ⟨?_, ?_, ?_⟩ <;> constructor <;> intro h <;> omega
    · rw [if_neg c2]
      by_cases c3 : p < 2047
      · rw [if_pos c3]; refine ⟨?_, ?_, ?_⟩ <;> constructor <;> intro h <;> omega
      · rw [if_neg c3]
        by_cases c4 : f = 0
        · rw [if_pos c4]; refine ⟨?_, ?_, ?_⟩ <;> constructor <;> intro h <;> omega
        · rw [if_neg c4]; refine ⟨?_, ?_, ?_⟩ <;> constructor <;> intro h <;> omega
theorem lf_top (b : Nat) : lf (sgb b + 9218868437227405311) = some (sgb b + 9218868437227405311) := by unfold sgb; split <;> rfl
theorem lf_sgb (b : Nat) : lf (sgb b) = some (sgb b) := by unfold sgb; split <;> rfl
theorem clb_is (g : Gu) (b : Nat) (hb : b < 18446744073709551616) : (clb g b).1 < 18446744073709551616 ∧ lf (clb g b).1 = (cl1 g (lf b)).1 ∧ (clb g b).2 = (cl1 g (lf b)).2 := by
  obtain ⟨h4, h3, h1⟩ := cls_rg b
  have hs := sgb_lt b
  unfold clb
  by_cases c4 : cls b = 4
  · have hn : lf b = none := by unfold lf isnan; rw [if_pos (by simpa using h4.1 c4)]
    rw [if_pos c4, hn]
    cases hm : g.mute
    · simp only [cl1, hm]
      exact ⟨hb, hn, rfl⟩
    · simp only [cl1, hm, if_true]
      exact ⟨by decide, by decide, trivial⟩
  · have hn : lf b = some b := by unfold lf isnan; rw [if_neg (by simpa using fun h => c4 (h4.2 h))]
    rw [if_neg c4, hn]
    by_cases c3 : cls b = 3
    · have e := h3.1 c3
      rw [if_pos c3]
      cases hc : g.clip
      · simp only [cl1, hc, e, if_true]
        exact ⟨hb, hn, rfl⟩
      · simp only [cl1, hc, e, if_true]
        exact ⟨hs.1, lf_top b, trivial⟩
    · have e3 : ¬ rg b = 9218868437227405312 := fun h => c3 (h3.2 h)
      rw [if_neg c3]
      by_cases c1 : cls b = 1
      · have e := h1.1 c1
        rw [if_pos c1]
        cases hc : g.flush
        · simp only [cl1, hc, if_neg e3, if_pos e]
          exact ⟨hb, hn, rfl⟩
        · simp only [cl1, hc, if_neg e3, if_pos e]
          exact ⟨hs.2, lf_sgb b, rfl⟩
      · have e : ¬ (0 < rg b ∧ rg b < 4503599627370496) := fun h => c1 (h1.2 h)
        rw [if_neg c1, cl1_plain g e3 e]
        exact ⟨hb, hn, rfl⟩

theorem andNot_max_sign : bits .andNot .u64 9218868437227405311 9223372036854775808 = 9218868437227405311 := by decide
theorem or_zero_sign (b : Nat) (hb : b < 18446744073709551616) : (bits .or .u64 (bits .andNot .u64 0 9223372036854775808) (bits .and .u64 (b : Int) 9223372036854775808)).toNat = sgb b := by
  rw [and_sign b hb, andNot_zero_sign]
  unfold sgb
  cases ng b <;> decide
theorem or_max_sign (b : Nat) (hb : b < 18446744073709551616) : (bits .or .u64 (bits .andNot .u64 9218868437227405311 9223372036854775808) (bits .and .u64 (b : Int) 9223372036854775808)).toNat = sgb b + 9218868437227405311 := by
  rw [and_sign b hb, andNot_max_sign]
  unfold sgb
  cases ng b <;> decide
set_option maxHeartbeats 400000 in
theorem copysign_zero (b : Nat) (hb : b < 18446744073709551616) (w : World) :
    Calls Try.prog 43 #[.float .f64 0, .float .f64 b] w fun e w' => e = .returned (.float .f64 (sgb b)) ∧ w' = w := by
  have Hk := hide (or_zero_sign b hb)
  clear hb
  have hx := run_bits
  have hy := run_frombits
  go_enter Try.func43, Try.ntmps43
  go_wp2
  go_ret
  rw [← unhide Hk]
  exact ⟨rfl, rfl⟩
set_option maxHeartbeats 400000 in
theorem copysign_max (b : Nat) (hb : b < 18446744073709551616) (w : World) :
    Calls Try.prog 43 #[.float .f64 9218868437227405311, .float .f64 b] w fun e w' => e = .returned (.float .f64 (sgb b + 9218868437227405311)) ∧ w' = w := by
  have Hk := hide (or_max_sign b hb)
  clear hb
  have hx := run_bits
  have hy := run_frombits
  go_enter Try.func43, Try.ntmps43
  go_wp2
  go_ret
  rw [← unhide Hk]
  exact ⟨rfl, rfl⟩
set_option maxRecDepth 100000 in
set_option maxHeartbeats 400000 in
theorem flush_sub (b : Nat) (hb : b < 18446744073709551616) (h1 : cls b = 1) (w : World) :
    Calls Try.prog 44 #[.float .f64 b] w fun e w' => e = .returned (.float .f64 (sgb b)) ∧ w' = w := by
  have hc := of_any b hb
  rw [h1] at hc
  have Hc := hide hc
  have Hs := hide (copysign_zero b hb)
  clear hb hc h1
  go_enter Try.func44, Try.ntmps44
  go_wp2_with fail
  refine (unhide Hc _).mono ?_
  rintro e w' ⟨rfl, rfl⟩
  go_wp2_with fail
  refine (unhide Hs _).mono ?_
  rintro e w' ⟨rfl, rfl⟩
  go_wp2
  go_ret
  exact ⟨rfl, rfl⟩

set_option maxRecDepth 100000 in
set_option maxHeartbeats 2000000 in
theorem gclean1 (fl cp mu : Bool) (b : Nat) (hb : b < 18446744073709551616) (w : World) :
    Calls Try.prog 28 #[.agg #[.bool fl, .bool cp, .bool mu], .float .f64 b] w fun e w' => e = .returned (.tuple #[.float .f64 (clb ⟨fl, cp, mu⟩ b).1, .int .i64 ((clb ⟨fl, cp, mu⟩ b).2 : Nat)]) ∧ Below w.heap.size w w' := by
  have hc := of_any b hb
  have hle := cls_le b
  rcases (by omega : cls b = 0 ∨ cls b = 1 ∨ cls b = 2 ∨ cls b = 3 ∨ cls b = 4) with h | h | h | h | h
  · have Hk : Hid (clb ⟨fl, cp, mu⟩ b = (b, 0)) := by simp [Hid, clb, h]
    rw [h] at hc
    have Hc := hide hc
    clear hc hb h
    go_enter Try.func28, Try.ntmps28
    go_wp2_with fail
    refine (unhide Hc _).mono ?_
    rintro e w' ⟨rfl, rfl⟩
    go_wp2
    go_ret2
    rw [unhide Hk]
    exact ⟨rfl, (Below.refl _ w).alloc (Nat.le_refl _) _⟩
  · cases fl
    · have Hk : Hid (clb ⟨false, cp, mu⟩ b = (b, 0)) := by simp [Hid, clb, h]
      rw [h] at hc
      have Hc := hide hc
      clear hc hb h
      go_enter Try.func28, Try.ntmps28
      go_wp2_with fail
      refine (unhide Hc _).mono ?_
      rintro e w' ⟨rfl, rfl⟩
      go_wp2
      go_ret2
      rw [unhide Hk]
      exact ⟨rfl, (Below.refl _ w).alloc (Nat.le_refl _) _⟩
    · have Hk : Hid (clb ⟨true, cp, mu⟩ b = (sgb b, 1)) := by simp [Hid, clb, h]
      have Hf := hide (flush_sub b hb h)
      rw [h] at hc
      have Hc := hide hc
      clear hc hb h
      go_enter Try.func28, Try.ntmps28
      go_wp2_with fail
      refine (unhide Hc _).mono ?_
      rintro e w' ⟨rfl, rfl⟩
      go_wp2_with fail
      refine (unhide Hf _).mono ?_
      rintro e w' ⟨rfl, rfl⟩
      go_wp2
      go_ret2
      rw [unhide Hk]
      exact ⟨rfl, (Below.refl _ w).alloc (Nat.le_refl _) _⟩
  · have Hk : Hid (clb ⟨fl, cp, mu⟩ b = (b, 0)) := by simp [Hid, clb, h]
    rw [h] at hc
    have Hc := hide hc
    clear hc hb h
    go_enter Try.func28, Try.ntmps28
    go_wp2_with fail
    refine (unhide Hc _).mono ?_
    rintro e w' ⟨rfl, rfl⟩
    go_wp2
    go_ret2
    rw [unhide Hk]
    exact ⟨rfl, (Below.refl _ w).alloc (Nat.le_refl _) _⟩
  · cases cp
    · have Hk : Hid (clb ⟨fl, false, mu⟩ b = (b, 0)) := by simp [Hid, clb, h]
      rw [h] at hc
      have Hc := hide hc
      clear hc hb h
      go_enter Try.func28, Try.ntmps28
      go_wp2_with fail
      refine (unhide Hc _).mono ?_
      rintro e w' ⟨rfl, rfl⟩
      go_wp2
      go_ret2
      rw [unhide Hk]
      exact ⟨rfl, (Below.refl _ w).alloc (Nat.le_refl _) _⟩
    · have Hk : Hid (clb ⟨fl, true, mu⟩ b = (sgb b + 9218868437227405311, 1)) := by simp [Hid, clb, h]
      have Hs := hide (copysign_max b hb)
      rw [h] at hc
      have Hc := hide hc
      clear hc hb h
      go_enter Try.func28, Try.ntmps28
      go_wp2_with fail
      refine (unhide Hc _).mono ?_
      rintro e w' ⟨rfl, rfl⟩
      go_wp2_with fail
      refine (unhide Hs _).mono ?_
      rintro e w' ⟨rfl, rfl⟩
      go_wp2
      go_ret2
      rw [unhide Hk]
      exact ⟨rfl, (Below.refl _ w).alloc (Nat.le_refl _) _⟩
  · cases mu
    · have Hk : Hid (clb ⟨fl, cp, false⟩ b = (b, 0)) := by simp [Hid, clb, h]
      rw [h] at hc
      have Hc := hide hc
      clear hc hb h
      go_enter Try.func28, Try.ntmps28
      go_wp2_with fail
      refine (unhide Hc _).mono ?_
      rintro e w' ⟨rfl, rfl⟩
      go_wp2
      go_ret2
      rw [unhide Hk]
      exact ⟨rfl, (Below.refl _ w).alloc (Nat.le_refl _) _⟩
    · have Hk : Hid (clb ⟨fl, cp, true⟩ b = (0, 1)) := by simp [Hid, clb, h]
      rw [h] at hc
      have Hc := hide hc
      clear hc hb h
      go_enter Try.func28, Try.ntmps28
      go_wp2_with fail
      refine (unhide Hc _).mono ?_
      rintro e w' ⟨rfl, rfl⟩
      go_wp2
      go_ret2
      rw [unhide Hk]
      exact ⟨rfl, (Below.refl _ w).alloc (Nat.le_refl _) _⟩

theorem clb_le (g : Gu) (b : Nat) : (clb g b).2 ≤ 1 := by
  unfold clb
  split
  · split <;> simp
  · split
    · split <;> simp
    · split
      · split <;> simp
      · simp

set_option maxRecDepth 100000 in
set_option maxHeartbeats 2000000 in
theorem gclean_bits (g : Gu) (r i : Nat) (hr : r < 18446744073709551616) (hi : i < 18446744073709551616) (w : World) :
    Calls Try.prog 7 #[Gv g, .complex .f64 r i] w fun e w' => e = .returned (.tuple #[.complex .f64 (clb g r).1 (clb g i).1, .int .i64 (((clb g r).2 + (clb g i).2 : Nat) : Int)]) ∧ Below w.heap.size w w' := by
  have h1 := clb_le g r
  have h2 := clb_le g i
  obtain ⟨fl, cp, mu⟩ := g
  have H1 := hide (gclean1 fl cp mu r hr)
  have H2 := hide (gclean1 fl cp mu i hi)
  unfold Gv
  dsimp only
  generalize clb ⟨fl, cp, mu⟩ r = a at *
  generalize clb ⟨fl, cp, mu⟩ i = b at *
  obtain ⟨a1, a2⟩ := a
  obtain ⟨b1, b2⟩ := b
  dsimp only at *
  clear hr hi
  go_enter Try.func7, Try.ntmps7
  go_wp2_with fail
  refine (unhide H1 _).mono ?_
  rintro e w1 ⟨rfl, hb1⟩
  have k0 : w1.cell? ⟨w.heap.size, 0, none⟩ = some (.bool fl) := (hb1.cell (by simp)).trans (by go_simp)
  have k1 : w1.cell? ⟨w.heap.size, 1, none⟩ = some (.bool cp) := (hb1.cell (by simp)).trans (by go_simp)
  have k2 : w1.cell? ⟨w.heap.size, 2, none⟩ = some (.bool mu) := (hb1.cell (by simp)).trans (by go_simp)
  have Hb1 := hide (((Below.refl _ w).alloc (Nat.le_refl _) _).trans (hb1.mono (by simp)))
  clear hb1
  go_wp2_with fail
  refine (unhide H2 _).mono ?_
  rintro e w2 ⟨rfl, hb2⟩
  have Hb2 := hide ((unhide Hb1).trans (hb2.mono (unhide Hb1).size))
  clear hb2
  go_wp2
  go_ret2
  exact ⟨rfl, unhide Hb2⟩

/-- Clean, up to which NaN. -/
theorem cleanC (g : Gu) {u : Value} {z : C2} (hu : CIs u z) (w : World) : Calls Try.prog 7 #[Gv g, u] w fun e w' => ∃ r i, e = .returned (.tuple #[.complex .f64 r i, .int .i64 ((cl2 g z).2 : Nat)]) ∧ CIs (.complex .f64 r i) (cl2 g z).1 ∧ Below w.heap.size w w' := by
  obtain ⟨r, i, rfl, hr, hi, h1, h2⟩ := hu
  refine (gclean_bits g r i hr hi w).mono ?_
  rintro e w' ⟨rfl, hb⟩
  obtain ⟨a1, a2, a3⟩ := clb_is g r hr
  obtain ⟨b1, b2, b3⟩ := clb_is g i hi
  rw [h1] at a2 a3
  rw [h2] at b2 b3
  exact ⟨_, _, by rw [a3, b3]; rfl, ⟨_, _, rfl, a1, b1, a2, b2⟩, hb⟩
end Go.Proofs.Ythafffnebaaeiaa
