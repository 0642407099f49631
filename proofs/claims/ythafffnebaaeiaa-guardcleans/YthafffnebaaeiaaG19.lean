/- The statement's own cleaning and comparisons, for layer 19. -/
import Derived.Test.YthafffnebaaeiaaGw
namespace Go.Proofs.Ythafffnebaaeiaa
open Go.RowKit

theorem lf_both {a b : Nat} (h : lf a = lf b) (hne : a ≠ b) : isnan a = true ∧ isnan b = true := by
  unfold lf at h
  cases h1 : isnan a <;> cases h2 : isnan b <;> simp [h1, h2] at h ⊢
  exact hne h
set_option maxRecDepth 100000 in
set_option maxHeartbeats 1000000 in
theorem rsame_yes (a b : Nat) (ha : a < 18446744073709551616) (hb : b < 18446744073709551616) (h : lf a = lf b) (w : World) :
    Calls Try.prog 30 #[.float .f64 a, .float .f64 b] w fun e w' => e = .returned (.bool true) ∧ w' = w := by
  have hx := run_bits
  cases h1 : ((a : Int) == (b : Int))
  · obtain ⟨n1, n2⟩ := lf_both h (by intro e; subst e; simp at h1)
    have h2 : (FloatKind.f64.format.order a a != some .eq) = true := by rw [neq_self a ha]; exact n1
    have h3 : (FloatKind.f64.format.order b b != some .eq) = true := by rw [neq_self b hb]; exact n2
    clear h n1 n2 ha hb
    go_enter Try.func30, Try.ntmps30
    go_wp2
    go_ret
    exact ⟨rfl, rfl⟩
  · clear h ha hb
    go_enter Try.func30, Try.ntmps30
    go_wp2
    go_ret
    exact ⟨rfl, rfl⟩
set_option maxRecDepth 100000 in
set_option maxHeartbeats 1000000 in
theorem rSameC {u v : Value} {z : C2} (hu : CIs u z) (hv : CIs v z) (w : World) :
    Calls Try.prog 9 #[u, v] w fun e w' => e = .returned (.bool true) ∧ w' = w := by
  obtain ⟨a, b, rfl, ha, hb, h1, h2⟩ := hu
  obtain ⟨c, d, rfl, hc, hd, h3, h4⟩ := hv
  have H1 := hide (rsame_yes a c ha hc (h1.trans h3.symm))
  have H2 := hide (rsame_yes b d hb hd (h2.trans h4.symm))
  clear ha hb hc hd h1 h2 h3 h4
  go_enter Try.func9, Try.ntmps9
  go_wp2_with fail
  refine (unhide H1 _).mono ?_
  rintro e w' ⟨rfl, rfl⟩
  go_wp2_with fail
  refine (unhide H2 _).mono ?_
  rintro e w' ⟨rfl, rfl⟩
  go_wp2
  go_ret
  exact ⟨rfl, rfl⟩

set_option maxRecDepth 100000 in
set_option maxHeartbeats 2000000 in
theorem sameAll_any (A A' m c c' : Nat) (X : Nat → C2) (w : World) (hm : m ≤ 1000) (h : ∀ j, j < m → ∃ u, w.cell? ⟨A, j, none⟩ = some u ∧ CIs u (X j)) (h' : ∀ j, j < m → ∃ u, w.cell? ⟨A', j, none⟩ = some u ∧ CIs u (X j)) :
    Calls Try.prog 27 #[.slice (some ⟨A, 0, none⟩) m c, .slice (some ⟨A', 0, none⟩) m c'] w fun e w' => e = .returned (.bool true) ∧ Still w w' := by
  have H := hide h
  have H' := hide h'
  clear h h'
  go_enter Try.func27, Try.ntmps27
  go_wp2_with fail
  go_loopw [13] (fun i wr => ∃ k : Nat, k ≤ m ∧ i = .int .i64 k ∧ Still w wr) (fun i _ => m - (intOf i).toNat)
  case atStart => exact ⟨0, Nat.zero_le _, rfl, Still.refl _⟩
  case round =>
    obtain ⟨k, hk, rfl, hst⟩ := hrel
    by_cases hkm : k < m
    · have hkm' : (k : Int) < (m : Int) := by omega
      have hk0 : (0 : Int) ≤ (k : Int) := by omega
      obtain ⟨u, hu, hz⟩ := unhide H k hkm
      obtain ⟨u', hu', hz'⟩ := unhide H' k hkm
      obtain ⟨a, b, rfl, _⟩ := id hz
      obtain ⟨a', b', rfl, _⟩ := id hz'
      have k1 : wr.cell? ⟨A, k, none⟩ = some (.complex .f64 a b) := by rw [hst.cell]; exact hu
      have k2 : wr.cell? ⟨A', k, none⟩ = some (.complex .f64 a' b') := by rw [hst.cell]; exact hu'
      have Ha := hide (rSameC hz hz')
      have Hs := hide hst
      clear hu hu' hz hz' hst
      go_wp2_with fail
      go_region_held3 (fun w' => w'.cell? ⟨A, k, none⟩ = some (.complex .f64 a b) ∧ w'.cell? ⟨A', k, none⟩ = some (.complex .f64 a' b')) (go_keep)
        ((go_at_call 9; refine (unhide Ha _).mono ?_; rintro e w1 ⟨rfl, rfl⟩))
      go_wp2
      go_roundw
      case rel => exact ⟨k + 1, by omega, by go_num, (unhide Hs).trans (still_drew _)⟩
      case measure => simp [intOf]; omega
    · have : k = m := by omega
      subst this
      go_wp2
      go_ret
      exact ⟨rfl, hst⟩

theorem sgb_shift (b : Nat) (hb : b < 18446744073709551616) : sgb b = b / 9223372036854775808 * 9223372036854775808 := by
  unfold sgb ng
  by_cases h : 9223372036854775808 ≤ b
  · rw [if_pos (by simpa using h)]; omega
  · rw [if_neg (by simpa using h)]; omega
theorem pw_rem (b : Nat) : pw b = b / 4503599627370496 % 2048 := by unfold pw; omega
theorem fr_rem (b : Nat) : fr b = b % 4503599627370496 := by unfold fr; omega
set_option maxRecDepth 100000 in
set_option maxHeartbeats 2000000 in
theorem rpart_any (fl cp mu : Bool) (b : Nat) (hb : b < 18446744073709551616) (w : World) :
    Calls Try.prog 29 #[.agg #[.bool fl, .bool cp, .bool mu], .float .f64 b] w fun e w' => e = .returned (.tuple #[.float .f64 (clb ⟨fl, cp, mu⟩ b).1, .int .i64 ((clb ⟨fl, cp, mu⟩ b).2 : Nat)]) ∧ Below w.heap.size w w' := by
  have hy := run_frombits
  obtain ⟨z, hz⟩ : ∃ z : Int, z = (b : Int) := ⟨_, rfl⟩
  have hx := fun w => run_bits b w
  rw [← hz] at hx
  have z0 : 0 ≤ z := by omega
  have z1 : z ≤ 18446744073709551615 := by omega
  have hle := cls_le b
  have hp := pw_rem b
  have hf := fr_rem b
  have hfl := fr_lt b
  have hpl := pw_le b
  have Hz : Hid (((z / 9223372036854775808 * 9223372036854775808)).toNat = sgb b ∧ ((z / 9223372036854775808 * 9223372036854775808) + 9218868437227405311).toNat = sgb b + 9218868437227405311) := by
    have := sgb_shift b hb
    rw [hz]
    exact ⟨by omega, by omega⟩
  have hs0 : (0 : Int) ≤ z / 9223372036854775808 * 9223372036854775808 := by omega
  have hs1 : z / 9223372036854775808 * 9223372036854775808 + 9218868437227405311 ≤ 18446744073709551615 := by omega
  rcases (by omega : cls b = 0 ∨ cls b = 1 ∨ cls b = 2 ∨ cls b = 3 ∨ cls b = 4) with h | h | h | h | h
  · have Hk : Hid (clb ⟨fl, cp, mu⟩ b = (b, 0)) := by simp [Hid, clb, h]
    have t1 : (z / 4503599627370496 % 2048 == 2047) = false := by rw [hz]; simp [cls] at h ⊢; omega
    have t2 : (z / 4503599627370496 % 2048 == 0) = true := by rw [hz]; simp [cls] at h ⊢; omega
    have t3 : (z % 4503599627370496 == 0) = true := by rw [hz]; simp [cls] at h ⊢; omega
    have t4 : (z % 4503599627370496 != 0) = false := by rw [hz]; simp [cls] at h ⊢; omega
    clear hp hf hfl hpl hle h hz hb
    go_enter Try.func29, Try.ntmps29
    go_wp2
    go_ret2
    rw [unhide Hk]
    exact ⟨rfl, Below.alloc (Below.refl _ w) (Nat.le_refl _) _⟩
  · have t1 : (z / 4503599627370496 % 2048 == 2047) = false := by rw [hz]; simp [cls] at h ⊢; omega
    have t2 : (z / 4503599627370496 % 2048 == 0) = true := by rw [hz]; simp [cls] at h ⊢; omega
    have t3 : (z % 4503599627370496 == 0) = false := by rw [hz]; simp [cls] at h ⊢; omega
    have t4 : (z % 4503599627370496 != 0) = true := by rw [hz]; simp [cls] at h ⊢; omega
    cases fl
    · have Hk : Hid (clb ⟨false, cp, mu⟩ b = (b, 0)) := by simp [Hid, clb, h]
      clear hp hf hfl hpl hle h hz hb
      go_enter Try.func29, Try.ntmps29
      go_wp2
      go_ret2
      rw [unhide Hk]
      exact ⟨rfl, Below.alloc (Below.refl _ w) (Nat.le_refl _) _⟩
    · have Hk : Hid (clb ⟨true, cp, mu⟩ b = (sgb b, 1)) := by simp [Hid, clb, h]
      clear hp hf hfl hpl hle h hz hb
      go_enter Try.func29, Try.ntmps29
      go_wp2
      go_ret2
      rw [unhide Hk]
      rw [← (unhide Hz).1]
      exact ⟨rfl, Below.alloc (Below.refl _ w) (Nat.le_refl _) _⟩
  · have Hk : Hid (clb ⟨fl, cp, mu⟩ b = (b, 0)) := by simp [Hid, clb, h]
    have t1 : (z / 4503599627370496 % 2048 == 2047) = false := by rw [hz]; simp [cls] at h ⊢; omega
    have t2 : (z / 4503599627370496 % 2048 == 0) = false := by rw [hz]; simp [cls] at h ⊢; omega
    clear hp hf hfl hpl hle h hz hb
    go_enter Try.func29, Try.ntmps29
    go_wp2
    go_ret2
    rw [unhide Hk]
    exact ⟨rfl, Below.alloc (Below.refl _ w) (Nat.le_refl _) _⟩
  · have t1 : (z / 4503599627370496 % 2048 == 2047) = true := by rw [hz]; simp [cls] at h ⊢; omega
    have t2 : (z / 4503599627370496 % 2048 == 0) = false := by rw [hz]; simp [cls] at h ⊢; omega
    have t3 : (z % 4503599627370496 == 0) = true := by rw [hz]; simp [cls] at h ⊢; omega
    have t4 : (z % 4503599627370496 != 0) = false := by rw [hz]; simp [cls] at h ⊢; omega
    cases cp
    · have Hk : Hid (clb ⟨fl, false, mu⟩ b = (b, 0)) := by simp [Hid, clb, h]
      clear hp hf hfl hpl hle h hz hb
      go_enter Try.func29, Try.ntmps29
      go_wp2
      go_ret2
      rw [unhide Hk]
      exact ⟨rfl, Below.alloc (Below.refl _ w) (Nat.le_refl _) _⟩
    · have Hk : Hid (clb ⟨fl, true, mu⟩ b = (sgb b + 9218868437227405311, 1)) := by simp [Hid, clb, h]
      clear hp hf hfl hpl hle h hz hb
      go_enter Try.func29, Try.ntmps29
      go_wp2
      go_ret2
      rw [unhide Hk]
      rw [← (unhide Hz).2]
      exact ⟨rfl, Below.alloc (Below.refl _ w) (Nat.le_refl _) _⟩
  · have t1 : (z / 4503599627370496 % 2048 == 2047) = true := by rw [hz]; simp [cls] at h ⊢; omega
    have t2 : (z / 4503599627370496 % 2048 == 0) = false := by rw [hz]; simp [cls] at h ⊢; omega
    have t3 : (z % 4503599627370496 == 0) = false := by rw [hz]; simp [cls] at h ⊢; omega
    have t4 : (z % 4503599627370496 != 0) = true := by rw [hz]; simp [cls] at h ⊢; omega
    cases mu
    · have Hk : Hid (clb ⟨fl, cp, false⟩ b = (b, 0)) := by simp [Hid, clb, h]
      clear hp hf hfl hpl hle h hz hb
      go_enter Try.func29, Try.ntmps29
      go_wp2
      go_ret2
      rw [unhide Hk]
      exact ⟨rfl, Below.alloc (Below.refl _ w) (Nat.le_refl _) _⟩
    · have Hk : Hid (clb ⟨fl, cp, true⟩ b = (0, 1)) := by simp [Hid, clb, h]
      clear hp hf hfl hpl hle h hz hb
      go_enter Try.func29, Try.ntmps29
      go_wp2
      go_ret2
      rw [unhide Hk]
      exact ⟨rfl, Below.alloc (Below.refl _ w) (Nat.le_refl _) _⟩
end Go.Proofs.Ythafffnebaaeiaa
