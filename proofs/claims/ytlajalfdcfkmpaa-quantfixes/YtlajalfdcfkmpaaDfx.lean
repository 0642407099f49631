/- What quaverref25's DocFix answers: what Fix answers. -/
import Derived.Test.YtlajalfdcfkmpaaFl
import Derived.Test.YtlajalfdcfkmpaaQu
namespace Go.Proofs.Ytlajalfdcfkmpaa
open Go.RowKit Go.Maps

theorem rnd_scale (z : Int) (t j : Nat) : rnd (z * 2 ^ j) (t + j) = rnd z t := by
  have hj : (0 : Int) < 2 ^ j := Int.pow_pos (by decide)
  have e1 : (2 : Int) ^ (t + j) = 2 ^ t * 2 ^ j := Int.pow_add 2 t j
  have e2 : z * 2 ^ j / 2 ^ (t + j) = z / 2 ^ t := by rw [e1]; exact Int.mul_ediv_mul_of_pos_left _ _ hj
  have e3 : z * 2 ^ j % 2 ^ (t + j) = z % 2 ^ t * 2 ^ j := by
    rw [e1, Int.mul_comm z, Int.mul_comm (2 ^ t), Int.mul_emod_mul_of_pos _ _ hj, Int.mul_comm]
  unfold rnd
  rw [e2, e3, e1]
  have h1 : (2 ^ t * 2 ^ j < 2 * (z % 2 ^ t * 2 ^ j)) ↔ (2 ^ t < 2 * (z % 2 ^ t)) := by
    rw [← Int.mul_assoc]
    exact ⟨fun h => Int.lt_of_mul_lt_mul_right h (Int.le_of_lt hj), fun h => Int.mul_lt_mul_of_pos_right h hj⟩
  have h2 : (2 * (z % 2 ^ t * 2 ^ j) = 2 ^ t * 2 ^ j) ↔ (2 * (z % 2 ^ t) = 2 ^ t) := by
    rw [← Int.mul_assoc]
    exact ⟨fun h => Int.eq_of_mul_eq_mul_right (Int.ne_of_gt hj) h, fun h => by rw [h]⟩
  simp only [h1, h2]
theorem rnd_small {a : Int} {s : Nat} (h : a.natAbs * 2 < 2 ^ s) : rnd a s = 0 := by
  have hp : (0 : Int) < 2 ^ s := Int.pow_pos (by decide)
  have hc : ((2 ^ s : Nat) : Int) = 2 ^ s := by simp
  have h' : (a.natAbs : Int) * 2 < 2 ^ s := by rw [← hc]; exact_mod_cast h
  unfold rnd
  by_cases h0 : 0 ≤ a
  · have e1 : a / 2 ^ s = 0 := Int.ediv_eq_zero_of_lt h0 (by omega)
    have e2 : a % 2 ^ s = a := Int.emod_eq_of_lt h0 (by omega)
    rw [e1, e2, if_neg (by omega)]
  · have e1 : a / 2 ^ s = -1 := by
      rw [Int.ediv_eq_iff_of_pos hp]
      omega
    have e2 : a % 2 ^ s = a + 2 ^ s := by
      have := Int.mul_ediv_add_emod a (2 ^ s)
      rw [e1] at this
      omega
    rw [e1, e2, if_pos (.inl (by omega))]
    rfl
theorem kp_far {a : Int} (h : 4503599627370496 ≤ a.natAbs) (j : Nat) : kp (a * 2 ^ j) = kp a ∧ offB (a * 2 ^ j) = offB a := by
  have hp : (1 : Int) ≤ 2 ^ j := Int.pow_pos (by decide)
  rcases (by omega : 4503599627370496 ≤ a ∨ a ≤ -4503599627370496) with h1 | h1
  · have h2 : a ≤ a * 2 ^ j := by
      have := Int.mul_le_mul_of_nonneg_left hp (show 0 ≤ a by omega)
      rwa [Int.mul_one] at this
    have e1 : kp (a * 2 ^ j) = 2147483647 := by unfold kp; omega
    have e2 : kp a = 2147483647 := by unfold kp; omega
    refine ⟨by rw [e1, e2], ?_⟩
    unfold offB
    rw [e1, e2]
    exact (decide_eq_true (by omega)).trans (decide_eq_true (by omega)).symm
  · have h2 : a * 2 ^ j ≤ a := by
      have := Int.mul_le_mul_of_nonneg_left hp (show 0 ≤ -a by omega)
      rw [Int.mul_one, Int.neg_mul] at this
      omega
    have e1 : kp (a * 2 ^ j) = -2147483648 := by unfold kp; omega
    have e2 : kp a = -2147483648 := by unfold kp; omega
    refine ⟨by rw [e1, e2], ?_⟩
    unfold offB
    rw [e1, e2]
    exact (decide_eq_true (by omega)).trans (decide_eq_true (by omega)).symm
theorem sig_abs (b : Nat) : (sig b).natAbs = mg b := by
  rw [sig_mg]; unfold sg; split <;> simp
/-- What is rounded is the same. -/
theorem fix_math (b : Nat) (k : Nat) (hk : 1 ≤ k ∧ k ≤ 31) {z : Int} {t : Nat} (ht : t ≤ (-pwr b).toNat) (e : z * 2 ^ ((-pwr b).toNat - t) = sig b * 2 ^ ((pwr b).toNat + k)) :
    kp (rnd z t) = kp (fixN b k) ∧ offB (rnd z t) = offB (fixN b k) := by
  have h0 : rnd z t = rnd (sig b * 2 ^ ((pwr b).toNat + k)) (-pwr b).toNat := by
    rw [← e, ← rnd_scale z t ((-pwr b).toNat - t)]
    congr 1; omega
  have hm := mg_lt b
  have hs := sig_abs b
  rw [h0]
  unfold fixN
  by_cases h1 : pwr b ≤ 0
  · obtain ⟨K, hK⟩ : ∃ K : Nat, pwr b = -(K : Int) := ⟨(-pwr b).toNat, by omega⟩
    rw [hK, show (- -(K : Int)).toNat = K by omega, show (-(K : Int)).toNat = 0 by omega, Nat.zero_add]
    by_cases h2 : k ≤ K
    · obtain ⟨s, rfl⟩ : ∃ s, K = s + k := ⟨K - k, by omega⟩
      rw [rnd_scale]
      by_cases h3 : s ≤ 62
      · rw [show (min (max (- -((s + k : Nat) : Int) - (k : Int)) 0) 62).toNat = s by omega]
        exact ⟨rfl, rfl⟩
      · have hb62 : 9007199254740992 * 2 < 2 ^ 62 := by decide
        have hb : 2 ^ 62 ≤ 2 ^ s := Nat.pow_le_pow_right (by decide) (by omega)
        rw [show (min (max (- -((s + k : Nat) : Int) - (k : Int)) 0) 62).toNat = 62 by omega, rnd_small (a := sig b) (s := s) (by omega), rnd_small (a := sig b) (s := 62) (by omega)]
        exact ⟨rfl, rfl⟩
    · obtain ⟨j, rfl⟩ : ∃ j, k = j + K := ⟨k - K, by omega⟩
      have hp : pw b ≠ 0 := fun h => by unfold pwr at hK; rw [if_pos h] at hK; omega
      have hbig : 4503599627370496 ≤ (sig b).natAbs := by rw [hs]; unfold mg; rw [if_neg hp]; omega
      rw [Int.pow_add, ← Int.mul_assoc, rnd_mul, show (min (max (- -(K : Int) - ((j + K : Nat) : Int)) 0) 62).toNat = 0 by omega]
      have h4 := rnd_mul (sig b) 0
      rw [Int.pow_zero, Int.mul_one] at h4
      rw [h4]
      exact kp_far hbig j
  · have hp : pw b ≠ 0 := fun h => by unfold pwr at h1; rw [if_pos h] at h1; omega
    have hbig : 4503599627370496 ≤ (sig b).natAbs := by rw [hs]; unfold mg; rw [if_neg hp]; omega
    rw [show (-pwr b).toNat = 0 by omega, show (min (max (-pwr b - (k : Int)) 0) 62).toNat = 0 by omega]
    have h4 := rnd_mul (sig b) 0
    have h5 := rnd_mul (sig b * 2 ^ ((pwr b).toNat + k)) 0
    rw [Int.pow_zero, Int.mul_one] at h4 h5
    rw [h4, h5]
    exact kp_far hbig _

theorem fits25_any (n : Int) (w : World) :
    Calls Try.prog 29 #[.int .i64 n] w fun e w' => e = .returned (.bool (fitsB n)) ∧ w' = w := by
  by_cases h1 : 1 ≤ n
  · by_cases h2 : n ≤ 31
    · rw [show fitsB n = true by simp [fitsB]; omega]
      go_enter Try.func29, Try.ntmps29
      go_wp2
      go_ret
      exact ⟨rfl, rfl⟩
    · rw [show fitsB n = false by simp [fitsB]; omega]
      go_enter Try.func29, Try.ntmps29
      go_wp2
      go_ret
      exact ⟨rfl, rfl⟩
  · rw [show fitsB n = false by simp [fitsB]; omega]
    go_enter Try.func29, Try.ntmps29
    go_wp2
    go_ret
    exact ⟨rfl, rfl⟩
set_option maxRecDepth 100000 in
set_option maxHeartbeats 1000000 in
theorem finite02_any (b : Nat) (hb : b < 18446744073709551616) (w : World) :
    Calls Try.prog 30 #[.float .f64 b] w fun e w' => e = .returned (.bool (decide (pw b < 2047))) ∧ w' = w := by
  obtain ⟨Z, hZ⟩ : ∃ Z : Int, Z = b := ⟨_, rfl⟩
  have hxb : ∀ w, (callFunc 15 #[.float .f64 b]).run Try.prog w = .ok (.value (.int .u64 Z)) w := fun w => by rw [hZ]; exact run_bits b w
  obtain ⟨p, hp⟩ : ∃ p, pw b = p := ⟨_, rfl⟩
  have e1 : Z / 4503599627370496 % 2048 = (p : Int) := by rw [hZ, ← hp]; unfold pw; omega
  have z0 : 0 ≤ Z := by omega
  have z1 : Z ≤ 18446744073709551615 := by omega
  rw [hp]
  clear hZ hp hb
  go_enter Try.func30, Try.ntmps30
  go_wp2
  go_ret
  exact ⟨by first | rfl | (simp; omega), rfl⟩

set_option maxRecDepth 100000 in
set_option maxHeartbeats 1000000 in
theorem docFix_out (b : Nat) (k : Int) (hk : fitsB k = false) (w : World) :
    Calls Try.prog 12 #[.float .f64 b, .int .i64 k] w fun e w' => e = .returned (.tuple #[.int .i64 0, .bool false, .int .i64 1]) ∧ Below w.heap.size w w' := by
  have Hf := hide (fits25_any k)
  rw [hk] at Hf
  clear hk
  go_enter Try.func12, Try.ntmps12
  go_wp2_with fail
  refine (unhide Hf _).mono ?_
  rintro e w' ⟨rfl, hw'⟩
  obtain rfl := hw'.symm
  go_wp2
  go_ret3
  exact ⟨rfl, Below.refl _ _⟩
set_option maxRecDepth 100000 in
set_option maxHeartbeats 1000000 in
theorem docFix_none (b : Nat) (hb : b < 18446744073709551616) (h : pw b = 2047) (k : Int) (hk : fitsB k = true) (w : World) :
    Calls Try.prog 12 #[.float .f64 b, .int .i64 k] w fun e w' => e = .returned (.tuple #[.int .i64 0, .bool false, .int .i64 5]) ∧ Below w.heap.size w w' := by
  have Hf := hide (fits25_any k)
  rw [hk] at Hf
  have Hn := hide (finite02_any b hb)
  rw [h] at Hn
  rw [show decide (2047 < 2047) = false by decide] at Hn
  clear hk hb h
  go_enter Try.func12, Try.ntmps12
  go_wp2_with fail
  refine (unhide Hf _).mono ?_
  rintro e w' ⟨rfl, hw'⟩
  obtain rfl := hw'.symm
  go_wp2_with fail
  refine (unhide Hn _).mono ?_
  rintro e w' ⟨rfl, hw'⟩
  obtain rfl := hw'.symm
  go_wp2
  go_ret3
  exact ⟨rfl, Below.refl _ _⟩
set_option maxRecDepth 100000 in
set_option maxHeartbeats 1000000 in
theorem docFix_fin (b : Nat) (hb : b < 18446744073709551616) (h : pw b ≠ 2047) (k : Int) (hk : fitsB k = true) (w : World) :
    Calls Try.prog 12 #[.float .f64 b, .int .i64 k] w fun e w' => e = .returned (.tuple #[.int .i64 (kp (fixN b k)), .bool (offB (fixN b k)), .int .i64 0]) ∧ Below w.heap.size w w' := by
  have hk' : 1 ≤ k ∧ k ≤ 31 := by simpa [fitsB] using hk
  obtain ⟨n, rfl⟩ := Int.eq_ofNat_of_zero_le (by omega : 0 ≤ k)
  have Hf := hide (fits25_any (n : Int))
  rw [hk] at Hf
  have Hn := hide (finite02_any b hb)
  have hpl := pw_le b
  rw [decide_eq_true (by omega)] at Hn
  have HF := hide (float_any b hb h)
  have HSc := hide (scale_any n (by omega))
  have hKb : (-pwr b).toNat ≤ 1074 ∧ (pwr b).toNat ≤ 971 := by unfold pwr; split <;> omega
  have HKb := hide hKb
  clear hk hb h hpl hKb
  go_enter Try.func12, Try.ntmps12
  go_wp2_with fail
  refine (unhide Hf _).mono ?_
  rintro e w' ⟨rfl, hw'⟩
  obtain rfl := hw'.symm
  go_wp2_with fail
  refine (unhide Hn _).mono ?_
  rintro e w' ⟨rfl, hw'⟩
  obtain rfl := hw'.symm
  go_wp2_with fail
  refine (unhide HF _).mono ?_
  rintro e w1 ⟨v1, z1, t1, rfl, hq1, ht1, hz1, hb1⟩
  go_wp2_with fail
  refine (unhide HSc _).mono ?_
  rintro e w2 ⟨v2, rfl, hq2, hb2⟩
  have hz1b : z1.natAbs < 4294967296 ^ 40 := by
    have h3 : z1.natAbs ≤ (sig b * 2 ^ (pwr b).toNat).natAbs := by
      rw [← hz1, Int.natAbs_mul]
      exact Nat.le_mul_of_pos_right _ (Int.natAbs_pos.2 (Int.ne_of_gt (Int.pow_pos (by decide))))
    rw [Int.natAbs_mul, two_abs, sig_abs] at h3
    exact Nat.lt_of_le_of_lt h3 (mul_lt (i := 2) (j := 31) (k := 40) (Nat.lt_of_lt_of_le (mg_lt b) (by decide)) (pow_lt (k := 31) (by have := (unhide HKb).2; omega)) (by decide))
  have h2b : ((2 : Int) ^ n).natAbs < 4294967296 ^ 1 := by rw [two_abs]; exact pow_lt (k := 1) (by omega)
  have HM := hide (mulQ_any (hq1.below hb2) hq2 (lt_le (i := 40) (k := 400) hz1b (by decide)) (lt_le (i := 1) (k := 400) h2b (by decide)) (by have := (unhide HKb).1; omega))
  have HZ := hide (And.intro ht1 (And.intro hz1 (And.intro hz1b h2b)))
  have HB2 := hide (hb1.trans (hb2.mono hb1.size))
  clear hq1 ht1 hz1 hb1 hq2 hb2 hz1b h2b
  go_wp2_with fail
  refine (unhide HM).mono ?_
  rintro e w3 ⟨v3, z3, t3, rfl, hq3, ht3, hz3, hb3⟩
  have hz3b : z3.natAbs < 4294967296 ^ 80 := by
    have h3 : z3.natAbs ≤ (z1 * 2 ^ n).natAbs := by
      rw [← hz3, Int.natAbs_mul]
      exact Nat.le_mul_of_pos_right _ (Int.natAbs_pos.2 (Int.ne_of_gt (Int.pow_pos (by decide))))
    rw [Int.natAbs_mul] at h3
    exact Nat.lt_of_le_of_lt h3 (mul_lt (i := 40) (j := 1) (k := 80) (unhide HZ).2.2.1 (unhide HZ).2.2.2 (by decide))
  have HR := hide (round_any hq3 hz3b (by have := (unhide HKb).1; have := (unhide HZ).1; omega))
  have HE := hide (fix_math b n (by omega) (z := z3) (t := t3) (by have := (unhide HZ).1; omega) (by
    have h4 := (unhide HZ).2.1
    have h5 := (unhide HZ).1
    rw [Nat.add_zero] at hz3 ht3
    rw [Int.pow_add, ← Int.mul_assoc, ← h4, show (-pwr b).toNat - t3 = (t1 - t3) + ((-pwr b).toNat - t1) by omega, Int.pow_add, ← Int.mul_assoc, hz3, Int.mul_assoc, Int.mul_assoc, Int.mul_comm (2 ^ n)]))
  have HB3 := hide ((unhide HB2).trans (hb3.mono (unhide HB2).size))
  clear hq3 ht3 hz3 hb3 hz3b HM HZ HB2
  go_wp2_with fail
  refine (unhide HR).mono ?_
  rintro e w4 ⟨rfl, hb4⟩
  rw [(unhide HE).1, (unhide HE).2]
  have HB4 := hide ((unhide HB3).trans (hb4.mono (unhide HB3).size))
  clear hb4 HR HE HB3
  go_wp2
  go_ret3
  exact ⟨rfl, unhide HB4⟩
end Go.Proofs.Ytlajalfdcfkmpaa
