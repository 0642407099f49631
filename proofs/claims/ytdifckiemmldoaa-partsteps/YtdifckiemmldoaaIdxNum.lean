/- Plain facts on the place of a float in the document's own order. -/
import Derived.Test.YtdifckiemmldoaaRankNum
import Derived.Test.YtdifckiemmldoaaRef
namespace Go.Proofs.Ytdifckiemmldoaa
open Go.RowKit

theorem idx_num (b : Nat) (hb : b < 18446744073709551616) (h : isnan b = false) : rank b = idx b + 4503599627370495 ∧ idx b ≤ 18437736874454810625 := by
  obtain ⟨a1, a2, a3, a4⟩ := rank_num b hb h
  simp only [isnan, decide_eq_false_iff_not] at h
  unfold idx key at *
  rw [show isnan b = false by simp [isnan, h]]
  cases hn : ng b <;> simp only [hn, Bool.false_eq_true, if_true, if_false, false_implies, true_implies] at a1 a3 a4 ⊢ <;> omega
theorem idx_nan (b : Nat) (h : isnan b = true) : idx b = 18437736874454810627 := by simp [idx, h]

end Go.Proofs.Ytdifckiemmldoaa
