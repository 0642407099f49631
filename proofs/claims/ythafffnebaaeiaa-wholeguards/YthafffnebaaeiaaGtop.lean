/- The statement's own tests: numbers that are normal or nought. -/
import Derived.Test.YthafffnebaaeiaaGw
import Derived.Test.YthafffnebaaeiaaCw
namespace Go.Proofs.Ythafffnebaaeiaa
open Go.RowKit

theorem andNot_sign (b : Nat) (hb : b < 18446744073709551616) : (bits .andNot .u64 (b : Int) 9223372036854775808).toNat = b % 9223372036854775808 := by
  rw [u64_andNot _ _ (by omega) (by omega) (by omega) (by omega)]
  rw [show 18446744073709551615 - (9223372036854775808 : Int).toNat = 2 ^ 63 - 1 by decide, Int.toNat_natCast, Nat.and_two_pow_sub_one_eq_mod]
  rfl
set_option maxRecDepth 100000 in
set_option maxHeartbeats 1000000 in
theorem mabs_walk (b : Nat) (hb : b < 18446744073709551616) (w : World) :
    Calls Try.prog 51 #[.float .f64 b] w fun e w' => e = .returned (.float .f64 (b % 9223372036854775808)) ∧ w' = w := by
  have hx := run_bits
  have hy := run_frombits
  have Hk := hide (andNot_sign b hb)
  clear hb
  go_enter Try.func51, Try.ntmps51
  go_wp2
  go_ret
  rw [← unhide Hk]
  exact ⟨rfl, rfl⟩
set_option maxRecDepth 100000 in
set_option maxHeartbeats 1000000 in
theorem plain_yes (b : Nat) (hb : b < 18446744073709551616) (h : rg b < 9218868437227405312) (w : World) :
    Calls Try.prog 52 #[.float .f64 b] w fun e w' => e = .returned (.bool true) ∧ w' = w := by
  have t1 : (FloatKind.f64.format.order b b != some .eq) = false := by rw [neq_self b hb]; unfold isnan; simp; omega
  have hr : b % 9223372036854775808 = rg b := rfl
  have t2 : (FloatKind.f64.format.order (b % 9223372036854775808) 9218868437227405311 == some .gt) = false := by
    rw [order_gt _ _ (by omega) (by omega)]
    have e1 : key (b % 9223372036854775808) = (rg b : Int) := by
      unfold key ng rg
      rw [if_neg (by simp; omega)]
      omega
    have e2 : key 9218868437227405311 = 9218868437227405311 := by decide
    rw [e1, e2]
    simp; omega
  have Hn : Hid (∀ w, Calls Try.prog 55 #[.float .f64 b] w fun e w' => e = .returned (.bool false) ∧ w' = w) := by
    intro w
    clear t2 hb h hr
    go_enter Try.func55, Try.ntmps55
    go_wp2
    go_ret
    exact ⟨rfl, rfl⟩
  have Ha := hide (mabs_walk b hb)
  have Hi : Hid (∀ w, Calls Try.prog 56 #[.float .f64 b, .int .i64 0] w fun e w' => e = .returned (.bool false) ∧ w' = w) := by
    intro w
    clear t1 hb h hr
    go_enter Try.func56, Try.ntmps56
    go_wp2_with fail
    refine (unhide Ha _).mono ?_
    rintro e w' ⟨rfl, rfl⟩
    go_wp2
    go_ret
    exact ⟨rfl, rfl⟩
  clear t1 t2 hb h hr
  go_enter Try.func52, Try.ntmps52
  go_wp2_with fail
  refine (unhide Hn _).mono ?_
  rintro e w' ⟨rfl, rfl⟩
  go_wp2_with fail
  refine (unhide Hi _).mono ?_
  rintro e w' ⟨rfl, rfl⟩
  go_wp2
  go_ret
  exact ⟨rfl, rfl⟩
set_option maxRecDepth 100000 in
set_option maxHeartbeats 1000000 in
theorem cleanPart_yes (b : Nat) (hb : b < 18446744073709551616) (h : rg b = 0 ∨ 4503599627370496 ≤ rg b ∧ rg b < 9218868437227405312) (w : World) :
    Calls Try.prog 39 #[.float .f64 b] w fun e w' => e = .returned (.bool true) ∧ w' = w := by
  have hk0 : key 0 = 0 := by decide
  have hn : isnan b = false := by unfold isnan; simp; omega
  have hkey : key b = if ng b then -(rg b : Int) else (rg b : Int) := rfl
  rcases h with h | ⟨h1, h2⟩
  · have t0 : (FloatKind.f64.format.order b 0 == some .eq) = true := by
      rw [order_eq _ _ hb (by omega), hn, hkey, hk0, h, show isnan 0 = false by decide]
      cases ng b <;> decide
    clear hn hkey h hb
    go_enter Try.func39, Try.ntmps39
    go_wp2
    go_ret
    exact ⟨rfl, rfl⟩
  · have t0 : (FloatKind.f64.format.order b 0 == some .eq) = false := by
      rw [order_eq _ _ hb (by omega), hn, hkey, hk0, show isnan 0 = false by decide]
      cases ng b <;> simp <;> omega
    have e1 : key (b % 9223372036854775808) = (rg b : Int) := by
      unfold key ng rg
      rw [if_neg (by simp; omega)]
      omega
    have e2 : key 4503599627370496 = 4503599627370496 := by decide
    have e3 : isnan (b % 9223372036854775808) = false := by
      unfold isnan rg
      unfold rg at h2
      simp; omega
    have t1 : (FloatKind.f64.format.order (b % 9223372036854775808) 4503599627370496 == some .gt || FloatKind.f64.format.order (b % 9223372036854775808) 4503599627370496 == some .eq) = true := by
      rw [order_gt _ _ (by omega) (by omega), order_eq _ _ (by omega) (by omega), e1, e2, e3, show isnan 4503599627370496 = false by decide]
      simp; omega
    have Ha := hide (mabs_walk b hb)
    have Hp := hide (plain_yes b hb h2)
    clear hn hkey h1 h2 hb e1 e3
    go_enter Try.func39, Try.ntmps39
    go_wp2_with fail
    refine (unhide Ha _).mono ?_
    rintro e w' ⟨rfl, rfl⟩
    go_wp2_with fail
    refine (unhide Hp _).mono ?_
    rintro e w' ⟨rfl, rfl⟩
    go_wp2
    go_ret
    exact ⟨rfl, rfl⟩
set_option maxRecDepth 100000 in
set_option maxHeartbeats 1000000 in
theorem clean_yes {u : Value} {z : C2} (hu : CIs u z) (hz : Calm2 z) (w : World) :
    Calls Try.prog 23 #[u] w fun e w' => e = .returned (.bool true) ∧ w' = w := by
  obtain ⟨a, b, rfl, ha, hb, h1, h2⟩ := hu
  obtain ⟨⟨a', e1, _, k1⟩, b', e2, _, k2⟩ := hz
  rw [e1] at h1
  rw [e2] at h2
  obtain rfl := lf_some h1
  obtain rfl := lf_some h2
  have H1 := hide (cleanPart_yes a ha k1)
  have H2 := hide (cleanPart_yes b hb k2)
  clear ha hb h1 h2 e1 e2 k1 k2
  go_enter Try.func23, Try.ntmps23
  go_wp2_with fail
  refine (unhide H1 _).mono ?_
  rintro e w' ⟨rfl, rfl⟩
  go_wp2_with fail
  refine (unhide H2 _).mono ?_
  rintro e w' ⟨rfl, rfl⟩
  go_wp2
  go_ret
  exact ⟨rfl, rfl⟩
end Go.Proofs.Ythafffnebaaeiaa
