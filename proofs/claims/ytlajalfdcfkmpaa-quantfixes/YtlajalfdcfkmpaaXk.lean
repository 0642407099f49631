/- GcdN of a number and a power of two. -/
import Derived.Test.YtlajalfdcfkmpaaMdv
namespace Go.Proofs.Ytlajalfdcfkmpaa
open Go.RowKit Go.Maps

theorem lt990 {t : Nat} (h : t < 4294967296) : t < 4294967296 ^ 990 := lt_k 990 (by omega) h
theorem up990 {x : Nat} (h : x < 4294967296 ^ 990) : x < 4294967296 ^ 1000 := Nat.lt_of_lt_of_le h (ble (i := 990) (k := 1000) (by omega))
theorem addN_b {v1 v2 : Value} {x y : Nat} {w : World} (h1 : NA w v1 x) (h2 : NA w v2 y) (hx : x < 4294967296 ^ 990) (hy : y < 4294967296 ^ 990) :
    Calls Try.prog 61 #[v1, v2] w fun e w' => ∃ v, e = .returned v ∧ NA w' v (x + y) ∧ Below w.heap.size w w' := addN_any h1 h2 (up990 hx) (up990 hy)
theorem subN_b {v1 v2 : Value} {x y : Nat} {w : World} (h1 : NA w v1 x) (h2 : NA w v2 y) (hx : x < 4294967296 ^ 990) (hyx : y ≤ x) :
    Calls Try.prog 63 #[v1, v2] w fun e w' => ∃ v, e = .returned v ∧ NA w' v (x - y) ∧ Below w.heap.size w w' := subN_any h1 h2 (up990 hx) hyx
theorem mulN_b {v1 v2 : Value} {x y : Nat} {w : World} (h1 : NA w v1 x) (h2 : NA w v2 y) (hx : x < 4294967296 ^ 990) (hy : y < 4294967296 ^ 990) :
    Calls Try.prog 53 #[v1, v2] w fun e w' => ∃ v, e = .returned v ∧ NA w' v (x * y) ∧ Below w.heap.size w w' := mulN_any h1 h2 (up990 hx) (up990 hy)
theorem cmp_b {v1 v2 : Value} {x y : Nat} {w : World} (h1 : NA w v1 x) (h2 : NA w v2 y) (hx : x < 4294967296 ^ 990) (hy : y < 4294967296 ^ 990) :
    Calls Try.prog 62 #[v1, v2] w fun e w' => e = .returned (.int .i64 (cmpI x y)) ∧ Still w w' := cmp_any h1 h2 (up990 hx) (up990 hy)
theorem shlN_b {v1 : Value} {x : Nat} {w : World} (h1 : NA w v1 x) (hx : x < 4294967296 ^ 990) (m : Nat) (hm : m ≤ 19200) :
    Calls Try.prog 54 #[v1, .int .i64 m] w fun e w' => ∃ v, e = .returned v ∧ NA w' v (x * 2 ^ m) ∧ Below w.heap.size w w' := by
  refine (shl_own h1 (up990 hx) m hm).mono ?_
  rintro e w' ⟨v, rfl, h, hb⟩
  exact ⟨v, rfl, h.na, hb⟩
theorem twosN_b {v1 : Value} {x : Nat} {w : World} (h1 : NA w v1 x) (hx : x < 4294967296 ^ 990) (h0 : 0 < x) :
    Calls Try.prog 77 #[v1] w fun e w' => ∃ r : Nat, e = .returned (.int .i64 r) ∧ 2 ^ r ∣ x ∧ x / 2 ^ r % 2 = 1 ∧ w' = w := twosN_any h1 (up990 hx) h0
theorem shrN_b {v1 : Value} {x : Nat} {w : World} (h1 : NA w v1 x) (hx : x < 4294967296 ^ 990) (m : Nat) (hm : m ≤ 1000000) :
    Calls Try.prog 78 #[v1, .int .i64 m] w fun e w' => ∃ v, e = .returned v ∧ NA w' v (x / 2 ^ m) ∧ Below w.heap.size w w' := shrN_any h1 (up990 hx) m hm
theorem div_b {v1 v2 : Value} {x y : Nat} {w : World} (h1 : NA w v1 x) (h2 : NA w v2 y) (hx : x < 4294967296 ^ 990) (hy0 : 0 < y) (hy : y < 4294967296 ^ 990) :
    Calls Try.prog 66 #[v1, v2] w fun e w' => ∃ v v', e = .returned (.tuple #[v, v']) ∧ NA w' v (x / y) ∧ NA w' v' (x % y) ∧ Below w.heap.size w w' := divN_any h1 h2 hx hy hy0
theorem twos_lt {x r s : Nat} (o1 : x / 2 ^ r % 2 = 1) (h2 : 2 ^ s ∣ x) (h : r < s) : False := by
  obtain ⟨z, rfl⟩ := h2
  obtain ⟨k, rfl⟩ : ∃ k, s = r + 1 + k := ⟨s - r - 1, by omega⟩
  rw [Nat.pow_add, Nat.pow_succ, Nat.mul_assoc, Nat.mul_assoc, Nat.mul_div_cancel_left _ (Nat.two_pow_pos r)] at o1
  omega
theorem twos_unique {x r s : Nat} (h1 : 2 ^ r ∣ x) (o1 : x / 2 ^ r % 2 = 1) (h2 : 2 ^ s ∣ x) (o2 : x / 2 ^ s % 2 = 1) : r = s := by
  rcases Nat.lt_trichotomy r s with h | h | h
  · exact (twos_lt o1 h2 h).elim
  · exact h
  · exact (twos_lt o2 h1 h).elim
theorem twos_pow {t r : Nat} (h1 : 2 ^ r ∣ 2 ^ t) (o1 : 2 ^ t / 2 ^ r % 2 = 1) : r = t := by
  refine twos_unique h1 o1 (Nat.dvd_refl _) ?_
  rw [Nat.div_self (Nat.two_pow_pos t)]

theorem pow_lt {t k : Nat} (h : t < 32 * k) : 2 ^ t < 4294967296 ^ k := by
  rw [bpow]
  exact Nat.pow_lt_pow_right (by decide) h

/-- A number's value as a slice. -/
theorem NA.form {w : World} {v : Value} {x : Nat} (h : NA w v x) : ∃ ad n c, v = .slice ad n c ∧ (n = 0 ↔ x = 0) := by
  obtain ⟨ad, n, cap, d, rfl, h1, h2, h3, h4⟩ := h
  exact ⟨ad, n, cap, rfl, by rw [h4]; exact h3.zero⟩

set_option maxRecDepth 100000 in
set_option maxHeartbeats 1000000 in
theorem gcd2_any {v1 v2 : Value} {n t : Nat} {w : World} (h1 : NA w v1 n) (h2 : NA w v2 (2 ^ t)) (hx : n < 4294967296 ^ 990) (ht : t ≤ 12000) (hn0 : 0 < n) :
    Calls Try.prog 68 #[v1, v2] w fun e w' => ∃ v r, e = .returned v ∧ NA w' v (2 ^ r) ∧ r ≤ t ∧ 2 ^ r ∣ n ∧ (r = t ∨ n / 2 ^ r % 2 = 1) ∧ Below w.heap.size w w' := by
  have hty : 2 ^ t < 4294967296 ^ 990 := pow_lt (k := 990) (by omega)
  have HT1 := hide (twosN_b h1 hx hn0)
  have HT2 := hide (twosN_b h2 hty (Nat.two_pow_pos t))
  have HS1 := hide (fun (w' : World) (hb : Below w.heap.size w w') m hm => shrN_b (w := w') (h1.below hb) hx m hm)
  have HS2 := hide (fun (w' : World) (hb : Below w.heap.size w w') m hm => shrN_b (w := w') (h2.below hb) hty m hm)
  have HT2' := hide (fun (w' : World) (hb : Below w.heap.size w w') => twosN_b (w := w') (h2.below hb) hty (Nat.two_pow_pos t))
  have HX := hide hx
  obtain ⟨a1, n1, c1, rfl, f1⟩ := h1.form
  obtain ⟨a2, n2, c2, rfl, f2⟩ := h2.form
  have i1 : ¬ (n1 : Int) = 0 := by omega
  have i2 : ¬ (n2 : Int) = 0 := by have := Nat.two_pow_pos t; omega
  have i3 : ((n1 : Int) == 0) = false := by simpa using i1
  have i4 : ((n2 : Int) == 0) = false := by simpa using i2
  clear h1 h2 hx hty f1 f2
  go_enter Try.func68, Try.ntmps68
  go_wp2_with fail
  refine (unhide HT1).mono ?_
  rintro e w' ⟨r1, rfl, hd1, ho1, hw⟩
  obtain rfl := hw
  have HR1 := hide (And.intro hd1 ho1)
  clear hd1 ho1
  go_wp2_with fail
  refine (unhide HT2).mono ?_
  rintro e w2 ⟨r2, rfl, hd2, ho2, hw⟩
  obtain rfl := hw
  obtain rfl : r2 = t := twos_pow hd2 ho2
  clear hd2 ho2
  have hr1 : r1 < 32000 := by
    have := twos_bound (unhide HR1).1 hn0 (unhide HX)
    omega
  obtain ⟨r, hr, hr2, hrd, hro⟩ : ∃ r : Nat, r = min r1 r2 ∧ r ≤ r2 ∧ 2 ^ r ∣ n ∧ (r = r2 ∨ n / 2 ^ r % 2 = 1) := by
    refine ⟨min r1 r2, rfl, Nat.min_le_right _ _, ?_, ?_⟩
    · exact Nat.dvd_trans (Nat.pow_dvd_pow 2 (Nat.min_le_left _ _)) (unhide HR1).1
    · rcases Nat.le_total r1 r2 with h | h
      · right; rw [Nat.min_eq_left h]; exact (unhide HR1).2
      · left; rw [Nat.min_eq_right h]
  have HR := hide (And.intro hr2 (And.intro hrd hro))
  have hr' : min (r1 : Int) (r2 : Int) = (r : Int) := by omega
  clear hr2 hrd hro
  go_upto_region 4 with fail
  rw [show (if r2 < r1 then (r2 : Int) else (r1 : Int)) = (r : Int) by split <;> omega]
  clear hr hr'
  go_wp2_with fail
  refine (unhide HT1).mono ?_
  rintro e w' ⟨r3, rfl, hd1, ho1, hw⟩
  obtain rfl := hw
  obtain rfl : r3 = r1 := twos_unique hd1 ho1 (unhide HR1).1 (unhide HR1).2
  clear hd1 ho1
  go_wp2_with fail
  refine (unhide HS1 _ (Below.refl _ _) r3 (by omega)).mono ?_
  rintro e w3 ⟨va, rfl, hNa, hB3⟩
  have HB3 := hide hB3
  have HNa := hide hNa
  clear hNa hB3 HT1 HT2 HS1
  go_wp2_with fail
  refine (unhide HT2' _ (unhide HB3)).mono ?_
  rintro e w4 ⟨r4, rfl, hd2, ho2, hw⟩
  obtain rfl := hw
  obtain rfl : r4 = r2 := twos_pow hd2 ho2
  clear hd2 ho2
  go_wp2_with fail
  refine (unhide HS2 _ (unhide HB3) r4 (by omega)).mono ?_
  rintro e w5 ⟨vb, rfl, hNb, hB5⟩
  rw [Nat.div_self (Nat.two_pow_pos r4)] at hNb
  have hBw := (unhide HB3).trans (hB5.mono (unhide HB3).size)
  have HBw := hide hBw
  obtain ⟨a3, n3, c3, rfl, f3⟩ := hNb.form
  have HNb := hide hNb
  have j1 : (0 : Int) < (n3 : Int) := by omega
  have j2 : decide (0 < n3) = true := decide_eq_true (by omega)
  clear hNb hB5 hBw HS2 HT2' HB3
  go_wp2_with fail
  go_loopw [0, 1, 6, 7] (fun x y _ _ wr => x = va ∧ y = .slice a3 n3 c3 ∧ wr = w5) (fun _ _ _ _ _ => 0)
  case atStart => exact ⟨rfl, rfl, rfl⟩
  case round =>
    obtain ⟨rfl, rfl, rfl⟩ := hrel
    go_wp2_with fail
    refine (word_any 1 (by decide) _).mono ?_
    rintro e w6 ⟨v1', rfl, hN1, hB6⟩
    have HN6 := hide ((unhide HNb).below hB6)
    have HB6 := hide hB6
    have HC := hide (cmp_b (unhide HN6) hN1 (lt990 (by decide)) (lt990 (by decide)))
    clear hN1 hB6
    go_wp2_with fail
    refine (unhide HC).mono ?_
    rintro e w7 ⟨rfl, hs⟩
    rw [cmpI_eq rfl]
    have HB7 := hide ((unhide HBw).trans (((unhide HB6).trans (hs _)).mono (unhide HBw).size))
    have HSh := hide (shlN_b ((unhide HN6).below (hs _)) (lt990 (by decide)) r (by have := (unhide HR).1; omega))
    clear hs HC HB6
    go_wp2_with fail
    refine (unhide HSh).mono ?_
    rintro e w8 ⟨v8, rfl, hN8, hB8⟩
    rw [Nat.one_mul] at hN8
    have H8 := hide (And.intro hN8 hB8)
    clear hN8 hB8 HSh
    go_wp2
    go_ret
    exact ⟨_, r, rfl, (unhide H8).1, (unhide HR).1, (unhide HR).2.1, (unhide HR).2.2, (unhide HB7).trans ((unhide H8).2.mono (unhide HB7).size)⟩
end Go.Proofs.Ytlajalfdcfkmpaa
