/- Plain facts on the place of a float in the order. -/
import Derived.Test.YtdifckiemmldoaaPairs
namespace Go.Proofs.Ytdifckiemmldoaa
open Go.RowKit

theorem rank_num (b : Nat) (hb : b < 18446744073709551616) (h : isnan b = false) :
    (rank b : Int) = 9223372036854775808 + key b - (if ng b then 1 else 0) ∧ rank b ≤ 18442240474082181120 ∧ (ng b = true → b = 9223372036854775808 + rg b) ∧ (ng b = false → b = rg b) := by
  have e := isnan_cls b hb
  rw [h] at e
  have hc : ¬ cls b = 4 := by simpa using e
  simp only [isnan, decide_eq_false_iff_not] at h
  unfold rank key
  rw [if_neg hc]
  cases hn : ng b
  · simp only [ng, decide_eq_false_iff_not] at hn
    unfold rg at h ⊢
    simp only [Bool.false_eq_true, if_false]
    refine ⟨by omega, by omega, by simp, fun _ => by omega⟩
  · simp only [ng, decide_eq_true_eq] at hn
    unfold rg at h ⊢
    simp only [if_true]
    refine ⟨by omega, by omega, fun _ => by omega, by simp⟩
theorem rank_nan (b : Nat) (hb : b < 18446744073709551616) (h : isnan b = true) : rank b = 18446744073709551615 := by
  have e := isnan_cls b hb
  rw [h] at e
  have hc : cls b = 4 := by simpa using e
  simp [rank, hc]

theorem same_rank (a b : Nat) (ha : a < 18446744073709551616) (hb : b < 18446744073709551616) : sameOf a b = decide (rank a = rank b) := by
  unfold sameOf
  cases na : isnan a <;> cases nb : isnan b
  · obtain ⟨a1, a2, a3, a4⟩ := rank_num a ha na
    obtain ⟨b1, b2, b3, b4⟩ := rank_num b hb nb
    simp only [Bool.or_self, Bool.false_eq_true, if_false]
    refine Bool.eq_iff_iff.2 ?_
    simp only [beq_iff_eq, decide_eq_true_eq]
    unfold key at a1 b1
    cases h1 : ng a <;> cases h2 : ng b <;> simp only [h1, h2, Bool.false_eq_true, if_true, if_false, false_implies, true_implies] at a1 a3 a4 b1 b3 b4 <;> omega
  · obtain ⟨a1, a2, a3, a4⟩ := rank_num a ha na
    rw [rank_nan b hb nb, decide_eq_false (by omega)]; rfl
  · obtain ⟨b1, b2, b3, b4⟩ := rank_num b hb nb
    rw [rank_nan a ha na, decide_eq_false (by omega)]; rfl
  · rw [rank_nan a ha na, rank_nan b hb nb]; rfl

end Go.Proofs.Ytdifckiemmldoaa
