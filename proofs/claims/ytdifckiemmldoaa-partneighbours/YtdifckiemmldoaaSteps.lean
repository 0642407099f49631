/- What Next and Prev answer, and the document's own functions for them, for every float by its bits. -/
import Derived.Test.YtdifckiemmldoaaRankNum
import Derived.Test.YtdifckiemmldoaaRef
namespace Go.Proofs.Ytdifckiemmldoaa
open Go.RowKit

theorem neg_xor (b : Nat) (hb : b < 18446744073709551616) : Op.negFloat .f64 b < 18446744073709551616 ∧ rg (Op.negFloat .f64 b) = rg b ∧ ng (Op.negFloat .f64 b) = !ng b := by
  have e : Op.negFloat .f64 b = b ^^^ 2 ^ 63 := rfl
  rw [e]
  have h1 : (b ^^^ 2 ^ 63) % 2 ^ 63 = b % 2 ^ 63 := by rw [Nat.xor_mod_two_pow]; simp
  have h2 : (b ^^^ 2 ^ 63) / 2 ^ 63 = b / 2 ^ 63 ^^^ 1 := by rw [Nat.xor_div_two_pow]
  have h3 : b / 2 ^ 63 = 0 ∨ b / 2 ^ 63 = 1 := by omega
  generalize b ^^^ 2 ^ 63 = c at *
  unfold rg ng
  rcases h3 with h3 | h3
  · have h2' : c / 2 ^ 63 = 1 := by rw [h2, h3]; rfl
    refine ⟨by omega, by omega, ?_⟩
    have n1 : 9223372036854775808 ≤ c := by omega
    have n2 : ¬ 9223372036854775808 ≤ b := by omega
    simp [n1, n2]
  · have h2' : c / 2 ^ 63 = 0 := by rw [h2, h3]; rfl
    refine ⟨by omega, by omega, ?_⟩
    have n1 : ¬ 9223372036854775808 ≤ c := by omega
    have n2 : 9223372036854775808 ≤ b := by omega
    simp [n1, n2]

theorem inf_pos (b : Nat) (hb : b < 18446744073709551616) : (FloatKind.f64.format.order b 9218868437227405311 == some .gt) = decide (b = 9218868437227405312) := by
  rw [order_gt b _ hb (by decide)]
  have k : key 9218868437227405311 = 9218868437227405311 := by decide
  rw [k, show isnan 9218868437227405311 = false by decide]
  refine Bool.eq_iff_iff.2 ?_
  simp only [Bool.and_eq_true, Bool.not_eq_true', decide_eq_true_eq, isnan, decide_eq_false_iff_not, key, ng]
  unfold rg
  constructor
  · rintro ⟨⟨h1, _⟩, h2⟩
    split at h2 <;> omega
  · intro h
    subst h
    decide
theorem inf_neg (b : Nat) (hb : b < 18446744073709551616) : (FloatKind.f64.format.order (Op.negFloat .f64 b) 9218868437227405311 == some .gt) = decide (b = 18442240474082181120) := by
  obtain ⟨h1, h2, h3⟩ := neg_xor b hb
  rw [inf_pos _ h1]
  refine Bool.eq_iff_iff.2 ?_
  simp only [decide_eq_true_eq]
  generalize Op.negFloat .f64 b = c at *
  unfold ng at h3
  unfold rg at h2
  constructor
  · intro h
    subst h
    have : 9223372036854775808 ≤ b := by
      have h4 : (!decide (9223372036854775808 ≤ b)) = false := by rw [← h3]; rfl
      simpa using h4
    omega
  · intro h
    subst h
    have : ¬ 9223372036854775808 ≤ c := by
      have h4 : decide (9223372036854775808 ≤ c) = false := by rw [h3]; rfl
      simpa using h4
    omega

set_option maxRecDepth 100000 in
set_option maxHeartbeats 1000000 in
theorem isInf_pos (b : Nat) (hb : b < 18446744073709551616) (w : World) :
    Calls Try.prog 29 #[.float .f64 b, .int .i64 1] w fun e w' => e = .returned (.bool (decide (b = 9218868437227405312))) ∧ w' = w := by
  have Hk := hide (inf_pos b hb)
  clear hb
  go_enter Try.func29, Try.ntmps29
  go_wp2
  go_ret
  rw [← unhide Hk]
  exact ⟨rfl, rfl⟩

set_option maxRecDepth 100000 in
set_option maxHeartbeats 1000000 in
theorem isInf_neg (b : Nat) (hb : b < 18446744073709551616) (w : World) :
    Calls Try.prog 29 #[.float .f64 b, .int .i64 (-1)] w fun e w' => e = .returned (.bool (decide (b = 18442240474082181120))) ∧ w' = w := by
  have Hk := hide (inf_neg b hb)
  clear hb
  have hneg : ∀ (x : Nat) (w : World), (Op.unary .neg (.float .f64 x)).run Try.prog w = .ok (.float .f64 (Op.negFloat .f64 x)) w := fun _ _ => rfl
  go_enter Try.func29, Try.ntmps29
  go_wp2
  go_ret
  rw [← unhide Hk]
  exact ⟨rfl, rfl⟩

/-- The float at a place of the inner order. -/
def atOf (n : Nat) : Nat := if n < 9223372036854775808 then 18446744073709551615 - n else n - 9223372036854775808

theorem andNot_sign (n : Nat) (hn : n < 18446744073709551616) (h : 9223372036854775808 ≤ n) : (bits .andNot .u64 (n : Int) 9223372036854775808).toNat = n - 9223372036854775808 := by
  rw [u64_andNot _ _ (by omega) (by omega) (by omega) (by omega)]
  rw [show (18446744073709551615 - (9223372036854775808 : Int).toNat) = 2 ^ 63 - 1 by decide, Int.toNat_natCast, Nat.and_two_pow_sub_one_eq_mod]
  omega

set_option maxRecDepth 100000 in
set_option maxHeartbeats 1000000 in
theorem at_any (n : Nat) (hn : n < 18446744073709551616) (w : World) :
    Calls Try.prog 38 #[.int .u64 n] w fun e w' => e = .returned (.float .f64 (atOf n)) ∧ w' = w := by
  have hy := run_frombits
  have hg : IntKind.u64.signed = false := rfl
  have hs := and_sign_ne n hn
  cases h : ng n
  · have h' : n < 9223372036854775808 := by simpa [ng] using h
    have Hk : Hid ((bits .xor .u64 IntKind.u64.max (n : Int)).toNat = atOf n) := by
      rw [Hid, not_form n hn, Int.toNat_natCast]; simp [atOf, h']
    have t : (bits .and .u64 (n : Int) 9223372036854775808 == 0) = true := by
      rw [h] at hs; simpa using hs
    clear hs h h' hn
    go_enter Try.func38, Try.ntmps38
    go_wp2
    go_ret
    rw [← unhide Hk]
    exact ⟨rfl, rfl⟩
  · have h' : 9223372036854775808 ≤ n := by simpa [ng] using h
    have Hk : Hid ((bits .andNot .u64 (n : Int) 9223372036854775808).toNat = atOf n) := by
      rw [Hid, andNot_sign n hn h']; unfold atOf; rw [if_neg (by omega)]
    have t : (bits .and .u64 (n : Int) 9223372036854775808 == 0) = false := by
      rw [h] at hs; simpa using hs
    clear hs h h' hn
    go_enter Try.func38, Try.ntmps38
    go_wp2
    go_ret
    rw [← unhide Hk]
    exact ⟨rfl, rfl⟩

/-- Next and Prev, by the bits. -/
def nextOf (b : Nat) : Nat := if isnan b || decide (b = 9218868437227405312) then b else atOf (rank b + 1)
def prevOf (b : Nat) : Nat := if isnan b || decide (b = 18442240474082181120) then b else atOf (rank b - 1)

theorem rank_inf (b : Nat) (hb : b < 18446744073709551616) (h : isnan b = false) (_h' : b ≠ 18442240474082181120) : 1 ≤ rank b := by
  obtain ⟨a1, a2, a3, a4⟩ := rank_num b hb h
  simp only [isnan, decide_eq_false_iff_not] at h
  unfold key at a1
  cases hn : ng b <;> simp only [hn, Bool.false_eq_true, if_true, if_false, false_implies, true_implies] at a1 a3 a4 <;> omega

set_option maxRecDepth 100000 in
set_option maxHeartbeats 1000000 in
theorem next_any (b : Nat) (hb : b < 18446744073709551616) (w : World) :
    Calls Try.prog 17 #[.float .f64 b] w fun e w' => e = .returned (.float .f64 (nextOf b)) ∧ w' = w := by
  have Hc := hide (of_any b hb)
  have Hi := hide (isInf_pos b hb)
  have Hr := hide (rank_any b hb)
  have e := isnan_cls b hb
  cases ta : isnan b
  · rw [ta] at e
    by_cases h : b = 9218868437227405312
    · have Hk : Hid (nextOf b = b) := by simp [Hid, nextOf, h]
      rw [decide_eq_true h] at Hi
      clear hb ta h
      go_enter Try.func17, Try.ntmps17
      go_wp2_with fail
      refine (unhide Hc _).mono ?_
      rintro e w' ⟨rfl, rfl⟩
      go_wp2_with fail
      refine (unhide Hi _).mono ?_
      rintro e w' ⟨rfl, rfl⟩
      go_wp2
      go_ret
      rw [unhide Hk]
      exact ⟨rfl, rfl⟩
    · have Hk : Hid (nextOf b = atOf (rank b + 1)) := by simp [Hid, nextOf, ta, h]
      rw [decide_eq_false h] at Hi
      have hr := (rank_num b hb ta).2.1
      have Ha := hide (at_any (rank b + 1) (by omega))
      obtain ⟨z, hz⟩ : ∃ z : Int, z = (rank b : Int) := ⟨_, rfl⟩
      rw [show ((rank b + 1 : Nat) : Int) = z + 1 by omega] at Ha
      rw [← hz] at Hr
      have z0 : 0 ≤ z := by omega
      have z1 : z ≤ 18442240474082181120 := by omega
      clear hb ta h hr hz
      go_enter Try.func17, Try.ntmps17
      go_wp2_with fail
      refine (unhide Hc _).mono ?_
      rintro e w' ⟨rfl, rfl⟩
      go_wp2_with fail
      refine (unhide Hi _).mono ?_
      rintro e w' ⟨rfl, rfl⟩
      go_wp2_with fail
      refine (unhide Hr _).mono ?_
      rintro e w' ⟨rfl, rfl⟩
      go_wp2_with fail
      refine (unhide Ha _).mono ?_
      rintro e w' ⟨rfl, rfl⟩
      go_wp2
      go_ret
      rw [unhide Hk]
      exact ⟨rfl, rfl⟩
  · rw [ta] at e
    have Hk : Hid (nextOf b = b) := by simp [Hid, nextOf, ta]
    clear hb ta
    go_enter Try.func17, Try.ntmps17
    go_wp2_with fail
    refine (unhide Hc _).mono ?_
    rintro e w' ⟨rfl, rfl⟩
    go_wp2
    go_ret
    rw [unhide Hk]
    exact ⟨rfl, rfl⟩

set_option maxRecDepth 100000 in
set_option maxHeartbeats 1000000 in
theorem prev_any (b : Nat) (hb : b < 18446744073709551616) (w : World) :
    Calls Try.prog 19 #[.float .f64 b] w fun e w' => e = .returned (.float .f64 (prevOf b)) ∧ w' = w := by
  have Hc := hide (of_any b hb)
  have Hi := hide (isInf_neg b hb)
  have Hr := hide (rank_any b hb)
  have e := isnan_cls b hb
  cases ta : isnan b
  · rw [ta] at e
    by_cases h : b = 18442240474082181120
    · have Hk : Hid (prevOf b = b) := by simp [Hid, prevOf, h]
      rw [decide_eq_true h] at Hi
      clear hb ta h
      go_enter Try.func19, Try.ntmps19
      go_wp2_with fail
      refine (unhide Hc _).mono ?_
      rintro e w' ⟨rfl, rfl⟩
      go_wp2_with fail
      refine (unhide Hi _).mono ?_
      rintro e w' ⟨rfl, rfl⟩
      go_wp2
      go_ret
      rw [unhide Hk]
      exact ⟨rfl, rfl⟩
    · have Hk : Hid (prevOf b = atOf (rank b - 1)) := by simp [Hid, prevOf, ta, h]
      rw [decide_eq_false h] at Hi
      have hr := (rank_num b hb ta).2.1
      have hl : 1 ≤ rank b := rank_inf b hb ta h
      have Ha := hide (at_any (rank b - 1) (by omega))
      obtain ⟨z, hz⟩ : ∃ z : Int, z = (rank b : Int) := ⟨_, rfl⟩
      rw [show ((rank b - 1 : Nat) : Int) = z - 1 by omega] at Ha
      rw [← hz] at Hr
      have z0 : 1 ≤ z := by omega
      have z1 : z ≤ 18442240474082181120 := by omega
      clear hb ta h hr hz hl
      go_enter Try.func19, Try.ntmps19
      go_wp2_with fail
      refine (unhide Hc _).mono ?_
      rintro e w' ⟨rfl, rfl⟩
      go_wp2_with fail
      refine (unhide Hi _).mono ?_
      rintro e w' ⟨rfl, rfl⟩
      go_wp2_with fail
      refine (unhide Hr _).mono ?_
      rintro e w' ⟨rfl, rfl⟩
      go_wp2_with fail
      refine (unhide Ha _).mono ?_
      rintro e w' ⟨rfl, rfl⟩
      go_wp2
      go_ret
      rw [unhide Hk]
      exact ⟨rfl, rfl⟩
  · rw [ta] at e
    have Hk : Hid (prevOf b = b) := by simp [Hid, prevOf, ta]
    clear hb ta
    go_enter Try.func19, Try.ntmps19
    go_wp2_with fail
    refine (unhide Hc _).mono ?_
    rintro e w' ⟨rfl, rfl⟩
    go_wp2
    go_ret
    rw [unhide Hk]
    exact ⟨rfl, rfl⟩

/-- The float at a place of the document's order. -/
def atRef (n : Nat) : Nat := if n ≤ 9218868437227405312 then 9218868437227405312 - n + 9223372036854775808 else n - 9218868437227405313

set_option maxRecDepth 100000 in
set_option maxHeartbeats 1000000 in
theorem refAt_any (z : Int) (h0 : 0 ≤ z) (h1 : z ≤ 18437736874454810625) (w : World) :
    Calls Try.prog 40 #[.int .u64 z] w fun e w' => e = .returned (.float .f64 (atRef z.toNat)) ∧ w' = w := by
  have hy := run_frombits
  by_cases h : z ≤ 9218868437227405312
  · have Hk : Hid (atRef z.toNat = (9218868437227405312 - z + 9223372036854775808).toNat) := by
      simp only [Hid, atRef]; rw [if_pos (by omega)]; omega
    go_enter Try.func40, Try.ntmps40
    go_wp2
    go_ret
    rw [unhide Hk]
    exact ⟨rfl, rfl⟩
  · have Hk : Hid (atRef z.toNat = (z - 9218868437227405312).toNat - 1) := by
      simp only [Hid, atRef]; rw [if_neg (by omega)]; omega
    have h' : 9218868437227405312 < z := by omega
    clear h
    go_enter Try.func40, Try.ntmps40
    go_wp2
    go_ret
    rw [unhide Hk]
    exact ⟨rfl, rfl⟩

end Go.Proofs.Ytdifckiemmldoaa
