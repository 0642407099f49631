/- Plain facts on a float's neighbours: minus turns them round, one step lies between, and the halves' sum of two neighbours is one of the two. -/
import Derived.Test.YtdifckiemmldoaaSteps
import Derived.Laws.FloatArith
namespace Go.Proofs.Ytdifckiemmldoaa
open Go.RowKit

theorem neg_val (b : Nat) (hb : b < 18446744073709551616) : Op.negFloat .f64 b = if 9223372036854775808 ≤ b then b - 9223372036854775808 else b + 9223372036854775808 := by
  obtain ⟨h1, h2, h3⟩ := neg_xor b hb
  generalize Op.negFloat .f64 b = c at *
  unfold rg at h2
  unfold ng at h3
  by_cases h : 9223372036854775808 ≤ b
  · rw [if_pos h]
    have : ¬ 9223372036854775808 ≤ c := by
      have h4 : decide (9223372036854775808 ≤ c) = false := by rw [h3]; simp [h]
      simpa using h4
    omega
  · rw [if_neg h]
    have : 9223372036854775808 ≤ c := by
      have h4 : decide (9223372036854775808 ≤ c) = true := by rw [h3]; simp; omega
      simpa using h4
    omega

theorem isnan_neg (b : Nat) (hb : b < 18446744073709551616) : isnan (Op.negFloat .f64 b) = isnan b := by
  obtain ⟨h1, h2, h3⟩ := neg_xor b hb
  unfold isnan; rw [h2]

theorem lt_rank' (a b : Nat) (ha : a < 18446744073709551616) (hb : b < 18446744073709551616) (h : (FloatKind.f64.format.order a b == some .lt) = true) : rank a < rank b := by
  rw [order_lt a b ha hb] at h
  simp only [Bool.and_eq_true, Bool.not_eq_true', decide_eq_true_eq] at h
  obtain ⟨⟨na, nb⟩, h⟩ := h
  obtain ⟨a1, a2, a3, a4⟩ := rank_num a ha na
  obtain ⟨b1, b2, b3, b4⟩ := rank_num b hb nb
  unfold key at a1 b1 h
  cases h1 : ng a <;> cases h2 : ng b <;> simp only [h1, h2, Bool.false_eq_true, if_true, if_false] at a1 b1 h <;> omega

/-- The rank of a number, spelt out. -/
theorem rank_cases (b : Nat) (hb : b < 18446744073709551616) (h : isnan b = false) :
    (b < 9223372036854775808 ∧ rank b = b + 9223372036854775808 ∧ b ≤ 9218868437227405312) ∨ (9223372036854775808 ≤ b ∧ rank b = 18446744073709551615 - b ∧ b ≤ 18442240474082181120) := by
  have e := isnan_cls b hb
  rw [h] at e
  have hc : ¬ cls b = 4 := by simpa using e
  simp only [isnan, decide_eq_false_iff_not] at h
  unfold rg at h
  unfold rank
  rw [if_neg hc]
  by_cases hn : 9223372036854775808 ≤ b
  · right
    have : ng b = true := by simp [ng, hn]
    rw [this, if_pos rfl]
    exact ⟨hn, rfl, by omega⟩
  · left
    have : ng b = false := by simp [ng, hn]
    rw [this, if_neg (by decide)]
    exact ⟨by omega, rfl, by omega⟩

theorem num_of (b : Nat) (h : b ≤ 9218868437227405312 ∨ (9223372036854775808 ≤ b ∧ b ≤ 18442240474082181120)) : isnan b = false := by
  simp only [isnan, decide_eq_false_iff_not]
  unfold rg; omega

theorem next_form (b : Nat) (h : isnan b = false) (hi : b ≠ 9218868437227405312) : nextOf b = atOf (rank b + 1) := by
  unfold nextOf; simp [h, hi]
theorem prev_form (b : Nat) (h : isnan b = false) (hi : b ≠ 18442240474082181120) : prevOf b = atOf (rank b - 1) := by
  unfold prevOf; simp [h, hi]

theorem next_facts (b : Nat) (hb : b < 18446744073709551616) (h : isnan b = false) (hi : b ≠ 9218868437227405312) :
    nextOf b < 18446744073709551616 ∧ isnan (nextOf b) = false ∧ rank (nextOf b) = rank b + 1 ∧ prevOf (nextOf b) = b := by
  have hc := rank_cases b hb h
  have hy : nextOf b = atOf (rank b + 1) := next_form b h hi
  have hlt : nextOf b < 18446744073709551616 := by rw [hy]; unfold atOf; split <;> omega
  have hny : isnan (nextOf b) = false := by
    apply num_of
    rw [hy]; unfold atOf; split <;> omega
  have hr : rank (nextOf b) = rank b + 1 := by
    have hc' := rank_cases (nextOf b) hlt hny
    rw [hy] at hc' ⊢
    unfold atOf at hc' ⊢
    split at hc' <;> rename_i hs <;> rcases hc' with ⟨x1, x2, x3⟩ | ⟨x1, x2, x3⟩
    · exfalso; omega
    · rw [if_pos hs, x2]; omega
    · rw [if_neg hs, x2]; omega
    · exfalso; omega
  refine ⟨hlt, hny, hr, ?_⟩
  have hne : nextOf b ≠ 18442240474082181120 := by
    intro hq
    have hc' := rank_cases (nextOf b) hlt hny
    omega
  rw [prev_form _ hny hne, hr]
  unfold atOf
  split <;> omega

theorem prev_neg (b : Nat) (hb : b < 18446744073709551616) (h : isnan b = false) : prevOf (Op.negFloat .f64 b) = Op.negFloat .f64 (nextOf b) := by
  have hn := neg_xor b hb
  have hv := neg_val b hb
  have hnn := isnan_neg b hb
  rw [h] at hnn
  by_cases hi : b = 9218868437227405312
  · subst hi
    have e1 : nextOf 9218868437227405312 = 9218868437227405312 := by decide
    rw [e1, show Op.negFloat .f64 9218868437227405312 = 18442240474082181120 by decide]
    decide
  · obtain ⟨y1, y2, y3, _⟩ := next_facts b hb h hi
    have hvy := neg_val _ y1
    have hcn := rank_cases _ hn.1 hnn
    have hy := next_form b h hi
    rcases rank_cases b hb h with ⟨c1, c2, c3⟩ | ⟨c1, c2, c3⟩
    · have n1 : nextOf b = b + 1 := by rw [hy, c2]; unfold atOf; rw [if_neg (by omega)]; omega
      rw [if_neg (by omega)] at hv
      rw [n1] at hvy
      rw [if_neg (by omega)] at hvy
      have r1 : rank (Op.negFloat .f64 b) = 9223372036854775807 - b := by rw [hv] at hcn ⊢; omega
      have p1 := prev_form _ hnn (by omega)
      rw [n1, hvy, p1, r1]
      unfold atOf
      rw [if_pos (by omega)]; omega
    · rw [if_pos (by omega)] at hv
      by_cases hz : b = 9223372036854775808
      · subst hz; decide
      · have n1 : nextOf b = b - 1 := by rw [hy, c2]; unfold atOf; rw [if_pos (by omega)]; omega
        rw [n1] at hvy
        rw [if_pos (by omega)] at hvy
        have r1 : rank (Op.negFloat .f64 b) = b := by rw [hv] at hcn ⊢; omega
        have p1 := prev_form _ hnn (by omega)
        rw [n1, hvy, p1, r1]
        unfold atOf
        rw [if_neg (by omega)]

/- The halves' sum. -/

theorem log2_of (m t : Nat) (h0 : 2 ^ t ≤ m) (h1 : m < 2 ^ (t + 1)) : m.log2 = t :=
  (Nat.log2_eq_iff (by have := Nat.two_pow_pos t; omega)).2 ⟨h0, h1⟩

theorem cut_exact (neg : Bool) (m t : Nat) (hm : 0 < m) : Ieee.Toward.even.cut neg (m * 2 ^ t) t = m := by
  unfold Ieee.Toward.cut
  have hp := Nat.two_pow_pos t
  have hl : t ≤ (m * 2 ^ t).log2 + 2 := by
    have : 2 ^ t ≤ m * 2 ^ t := Nat.le_mul_of_pos_left _ hm
    have := (Nat.le_log2 (by omega)).2 this
    omega
  rw [Nat.min_eq_left hl, Nat.one_shiftLeft]
  dsimp only
  rw [Nat.mul_div_cancel _ hp, Nat.mul_mod_left]
  have e1 : ¬ 2 ^ t < 2 * 0 := by omega
  have e2 : (2 ^ t == 2 * 0) = false := by simp
  rw [decide_eq_false e1, e2]; rfl

theorem cut_one (neg : Bool) (m : Nat) : Ieee.Toward.even.cut neg (2 * m + 1) 1 = m + m % 2 := by
  unfold Ieee.Toward.cut
  have hl : 1 ≤ (2 * m + 1).log2 + 2 := by omega
  rw [Nat.min_eq_left hl, Nat.one_shiftLeft]
  dsimp only
  have e1 : (2 * m + 1) / 2 ^ 1 = m := by omega
  have e2 : (2 * m + 1) % 2 ^ 1 = 1 := by omega
  rw [e1, e2]
  rcases (by omega : m % 2 = 0 ∨ m % 2 = 1) with h | h <;> simp [h]

/-- The word of a sign and a rung. -/
theorem word_eq (neg : Bool) (r : Nat) : FloatKind.f64.format.word neg r = (if neg then 9223372036854775808 else 0) + r := by
  unfold Ieee.Format.word
  cases neg
  · simp
  · rfl

theorem nearest_form (neg : Bool) (mag : Nat) (place : Int) (h : mag ≠ 0) : FloatKind.f64.format.nearest neg mag place =
    FloatKind.f64.format.word neg (min (((max (place + mag.log2 - 52) (-1074)) - (-1074)).toNat * 4503599627370496 + Ieee.Toward.even.cut neg (mag <<< (place - max (place + mag.log2 - 52) (-1074)).toNat) (max (place + mag.log2 - 52) (-1074) - place).toNat) 9218868437227405312) := by
  unfold Ieee.Format.nearest
  rw [if_neg h]
  rfl

end Go.Proofs.Ytdifckiemmldoaa
