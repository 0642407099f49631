/- Plain facts: exact rounding by bits; what float64(n), and a product by a power of two, are. -/
import Derived.Test.YtbkjmnopljmanaaGreatDoorFloA
import Derived.Test.YtbkjmnopljmanaaGreatDoorJoinNum
namespace Go.Proofs.YtbkjmnopljmanaaGreatDoor

theorem cut_exact (neg : Bool) (k d : Nat) : Ieee.Toward.even.cut neg (k * 2 ^ d) d = k := by
  have h := cut_half neg (k * 2 ^ d) d
  generalize Ieee.Toward.even.cut neg (k * 2 ^ d) d = K at *
  have hp := Nat.two_pow_pos d
  generalize 2 ^ d = G at *
  rcases Nat.lt_trichotomy K k with h1 | h1 | h1
  · have : (K + 1) * G ≤ k * G := Nat.mul_le_mul_right G h1
    rw [Nat.add_mul, Nat.one_mul] at this
    omega
  · exact h1
  · have : (k + 1) * G ≤ K * G := Nat.mul_le_mul_right G h1
    rw [Nat.add_mul, Nat.one_mul] at this
    omega

theorem log2_pow (o t : Nat) (ho : o ≠ 0) : (o * 2 ^ t).log2 = o.log2 + t := by
  have hp := Nat.two_pow_pos t
  rw [Nat.log2_eq_iff (Nat.mul_ne_zero ho (by omega))]
  have h1 : 2 ^ o.log2 ≤ o := Nat.log2_self_le ho
  have h2 : o < 2 ^ (o.log2 + 1) := Nat.lt_log2_self
  refine ⟨?_, ?_⟩
  · rw [Nat.pow_add]; exact Nat.mul_le_mul_right _ h1
  · rw [show o.log2 + t + 1 = o.log2 + 1 + t by omega, Nat.pow_add]
    exact Nat.mul_lt_mul_of_pos_right h2 hp

theorem near_form (neg : Bool) (mag : Nat) (place last : Int) (h0 : mag ≠ 0) (hl : last = max (place + mag.log2 - 52) (-1074)) :
    Ieee.double.nearest neg mag place = Ieee.double.word neg (min ((last - (-1074)).toNat * 4503599627370496 + Ieee.Toward.even.cut neg (mag <<< (place - last).toNat) (last - place).toNat) 9218868437227405312) := by
  rw [hl]
  unfold Ieee.Format.nearest
  rw [if_neg h0]
  rfl
theorem near_top (mag : Nat) (place : Int) : Ieee.double.nearest false mag place ≤ 9218868437227405312 := by
  by_cases h0 : mag = 0
  · subst h0
    unfold Ieee.Format.nearest
    rw [if_pos rfl, word_of]
    decide
  · rw [near_form false mag place _ h0 rfl, word_of]
    simp only [Bool.false_eq_true, if_false]
    omega
/-- Where nothing is cut off. -/
theorem nearest_at (o t c : Nat) (e last : Int) (ho : o ≠ 0) (hl : last = max (e + o.log2 - 52) (-1074)) (hc : e = last + c) :
    Ieee.double.nearest false (o * 2 ^ t) (e - t) = min ((last + 1074).toNat * 4503599627370496 + o * 2 ^ c) 9218868437227405312 := by
  have h0 : o * 2 ^ t ≠ 0 := Nat.mul_ne_zero ho (by have := Nat.two_pow_pos t; omega)
  have hlg := log2_pow o t ho
  rw [near_form false (o * 2 ^ t) (e - t) last h0 (by rw [hlg, hl]; congr 1; omega), word_of]
  have k : Ieee.Toward.even.cut false ((o * 2 ^ t) <<< (e - t - last).toNat) (last - (e - t)).toNat = o * 2 ^ c := by
    by_cases h : t ≤ c
    · have e1 : (e - t - last).toNat = c - t := by omega
      have e2 : (last - (e - t)).toNat = 0 := by omega
      rw [e1, e2, Nat.shiftLeft_eq, Nat.mul_assoc, ← Nat.pow_add, show t + (c - t) = c by omega]
      have := cut_exact false (o * 2 ^ c) 0
      rwa [Nat.pow_zero, Nat.mul_one] at this
    · have e1 : (e - t - last).toNat = 0 := by omega
      have e2 : (last - (e - t)).toNat = t - c := by omega
      rw [e1, e2, Nat.shiftLeft_eq, Nat.pow_zero, Nat.mul_one, show t = c + (t - c) by omega, Nat.pow_add, ← Nat.mul_assoc, show c + (t - c) - c = t - c by omega]
      exact cut_exact false (o * 2 ^ c) (t - c)
  rw [k]
  simp only [Bool.false_eq_true, if_false, Nat.zero_add]
  congr 2

theorem log2_bitLen (m : Nat) (h0 : m ≠ 0) (hm : m < 18446744073709551616) : Lib.bitLen m = m.log2 + 1 := by
  have b := bitLen_bounds m hm
  have c := b.2 h0
  have : m.log2 = Lib.bitLen m - 1 := by
    rw [Nat.log2_eq_iff h0, show Lib.bitLen m - 1 + 1 = Lib.bitLen m by omega]
    exact ⟨c.1, b.1⟩
  omega

/-- The program's and the model's rounding are one where nothing is cut off. -/
theorem join_near (n t : Nat) (p : Int) (h0 : n ≠ 0) (hn : n < 18446744073709551616) (hs : stepOf n p ≤ p) (hp : p + Lib.bitLen n ≤ 1024) :
    Ieee.double.nearest false (n * 2 ^ t) (p - t) = joinRung n p := by
  have hb := log2_bitLen n h0 hn
  have hs' := step_ge n p
  have e : stepOf n p = max (p + n.log2 - 52) (-1074) := by unfold stepOf; omega
  rw [nearest_at n t (p - stepOf n p).toNat p (stepOf n p) h0 e (by omega)]
  unfold joinRung kept
  rw [if_neg (by omega), if_neg (by omega), if_pos hs]

/-- float64(n). -/
theorem ofNat_bits (n : Nat) (h0 : n ≠ 0) (hn : n < 72057594037927936) :
    1023 * 4503599627370496 ≤ floatOfInt .f64 (n : Int) ∧ floatOfInt .f64 (n : Int) < 1081 * 4503599627370496 ∧
    (n < 9007199254740992 → n.log2 ≤ 52 ∧ floatOfInt .f64 (n : Int) = (n.log2 + 1022) * 4503599627370496 + n * 2 ^ (52 - n.log2)) := by
  have e : floatOfInt .f64 (n : Int) = Ieee.double.nearest (decide ((n : Int) < 0)) (n : Int).natAbs 0 := rfl
  have ed : decide ((n : Int) < 0) = false := decide_eq_false (by omega)
  rw [ed, Int.natAbs_natCast] at e
  have h1 : 2 ^ n.log2 ≤ n := Nat.log2_self_le h0
  have h2 : n < 2 ^ (n.log2 + 1) := Nat.lt_log2_self
  by_cases h : n < 9007199254740992
  · have hL : n.log2 ≤ 52 := by
      have := (Nat.log2_lt h0 (k := 53)).2 h
      omega
    have k := nearest_at n 0 (52 - n.log2) 0 ((n.log2 : Int) - 52) h0 (by omega) (by omega)
    rw [Nat.pow_zero, Nat.mul_one, show (0 : Int) - ((0 : Nat) : Int) = 0 from rfl] at k
    have g1 : 4503599627370496 ≤ n * 2 ^ (52 - n.log2) := by
      have : 2 ^ n.log2 * 2 ^ (52 - n.log2) ≤ n * 2 ^ (52 - n.log2) := Nat.mul_le_mul_right _ h1
      rw [← Nat.pow_add, show n.log2 + (52 - n.log2) = 52 by omega] at this
      exact this
    have g2 : n * 2 ^ (52 - n.log2) < 9007199254740992 := by
      have : n * 2 ^ (52 - n.log2) < 2 ^ (n.log2 + 1) * 2 ^ (52 - n.log2) := Nat.mul_lt_mul_of_pos_right h2 (Nat.two_pow_pos _)
      rw [← Nat.pow_add, show n.log2 + 1 + (52 - n.log2) = 53 by omega] at this
      exact this
    rw [e, k, show ((n.log2 : Int) - 52 + 1074).toNat = n.log2 + 1022 by omega]
    generalize n * 2 ^ (52 - n.log2) = X at *
    refine ⟨by omega, by omega, fun _ => ⟨hL, by omega⟩⟩
  · have hL1 : n.log2 < 56 := (Nat.log2_lt h0).2 hn
    have hL2 : 53 ≤ n.log2 := (Nat.le_log2 h0).2 (by omega)
    rw [e, near_form false n 0 ((n.log2 : Int) - 52) h0 (by omega), word_of]
    have e1 : (0 - ((n.log2 : Int) - 52)).toNat = 0 := by omega
    have e2 : ((n.log2 : Int) - 52 - 0).toNat = n.log2 - 52 := by omega
    rw [e1, e2, Nat.shiftLeft_eq, Nat.pow_zero, Nat.mul_one]
    have hc := cut_half false n (n.log2 - 52)
    generalize Ieee.Toward.even.cut false n (n.log2 - 52) = K at *
    clear e e1 e2
    generalize n.log2 = L at *
    simp only [Bool.false_eq_true, if_false]
    rcases (by omega : L = 53 ∨ L = 54 ∨ L = 55) with rfl | rfl | rfl
    · refine ⟨by omega, by omega, fun h' => absurd h' h⟩
    · refine ⟨by omega, by omega, fun h' => absurd h' h⟩
    · refine ⟨by omega, by omega, fun h' => absurd h' h⟩

theorem mul_bits (A x : Nat) (pa : Int) (hA : Ieee.double.read A = .number false 4503599627370496 pa) (h1 : 4503599627370496 ≤ x) (h2 : x < 9218868437227405312) :
    floatBits .mul .f64 A x = some (Ieee.double.nearest false (4503599627370496 * (4503599627370496 + x % 4503599627370496)) (pa + (-1074 + (x / 4503599627370496 - 1 : Nat)))) := by
  have hr := read_word false x h2
  rw [word_of] at hr
  simp only [Bool.false_eq_true, if_false, Nat.zero_add] at hr
  rw [if_neg (by omega)] at hr
  show ((Ieee.double.read A).product (Ieee.double.read x)).map Ieee.double.write = _
  rw [hA, hr]
  rfl
/-- What ldexp multiplies last. -/
theorem ld_mul (n : Nat) (p pa : Int) (A X E : Nat) (h0 : n ≠ 0) (hn : n < 9007199254740992) (hs : stepOf n p ≤ p) (hp : p + Lib.bitLen n ≤ 1024)
    (hA : Ieee.double.read A = .number false 4503599627370496 pa) (hX : X = floatOfInt .f64 (n : Int) % 4503599627370496 + E * 4503599627370496) (hE : 1 ≤ E) (hE' : E ≤ 2046)
    (hp' : pa + E = p + n.log2 + 971) :
    floatBits .mul .f64 A X = some (joinRung n p) := by
  obtain ⟨f1, f2, f3⟩ := ofNat_bits n h0 (by omega)
  obtain ⟨hL, hF⟩ := f3 hn
  have h1 : 2 ^ n.log2 ≤ n := Nat.log2_self_le h0
  have h2 : n < 2 ^ (n.log2 + 1) := Nat.lt_log2_self
  have g1 : 4503599627370496 ≤ n * 2 ^ (52 - n.log2) := by
    have : 2 ^ n.log2 * 2 ^ (52 - n.log2) ≤ n * 2 ^ (52 - n.log2) := Nat.mul_le_mul_right _ h1
    rw [← Nat.pow_add, show n.log2 + (52 - n.log2) = 52 by omega] at this
    exact this
  have g2 : n * 2 ^ (52 - n.log2) < 9007199254740992 := by
    have : n * 2 ^ (52 - n.log2) < 2 ^ (n.log2 + 1) * 2 ^ (52 - n.log2) := Nat.mul_lt_mul_of_pos_right h2 (Nat.two_pow_pos _)
    rw [← Nat.pow_add, show n.log2 + 1 + (52 - n.log2) = 53 by omega] at this
    exact this
  have q : 4503599627370496 * (n * 2 ^ (52 - n.log2)) = n * 2 ^ (104 - n.log2) := by
    rw [show (4503599627370496 : Nat) = 2 ^ 52 by decide, Nat.mul_comm, Nat.mul_assoc, ← Nat.pow_add]
    congr 2; omega
  have j := join_near n (104 - n.log2) p h0 (by omega) hs hp
  rw [mul_bits A X pa hA (by omega) (by omega)]
  rw [hF] at hX
  rw [← q] at j
  generalize n * 2 ^ (52 - n.log2) = Y at *
  have e1 : 4503599627370496 + X % 4503599627370496 = Y := by omega
  have e3 : X / 4503599627370496 = E := by omega
  have e2 : pa + (-1074 + ((X / 4503599627370496 - 1 : Nat) : Int)) = p - ((104 - n.log2 : Nat) : Int) := by rw [e3]; omega
  rw [e1, e2, j]
end Go.Proofs.YtbkjmnopljmanaaGreatDoor
