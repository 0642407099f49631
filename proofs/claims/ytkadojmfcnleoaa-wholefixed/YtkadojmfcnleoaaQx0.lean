/- WholeFixed: what its parts answer. -/
import Derived.Test.YtkadojmfcnleoaaQt
import Derived.Test.YtkadojmfcnleoaaQu
import Derived.Deep.AppendLies
import Derived.Deep.QuietTactic
import Derived.BigQuiet
namespace Go.Proofs.Ytkadojmfcnleoaa
open Go.RowKit Go.Maps

theorem max_fix (k : Int) (hk : fitsB k = true) : kp (fixN 9218868437227405311 k) = 2147483647 ∧ offB (fixN 9218868437227405311 k) = true := by
  have hk' : 1 ≤ k ∧ k ≤ 31 := by simpa [fitsB] using hk
  have h1 : (min (max (-pwr 9218868437227405311 - k) 0) 62).toNat = 0 := by
    rw [show pwr 9218868437227405311 = 971 by decide]; omega
  have h2 : fixN 9218868437227405311 k = 9007199254740991 := by
    unfold fixN
    rw [h1, show sig 9218868437227405311 = 9007199254740991 * 2 ^ 0 by decide, rnd_mul]
  rw [h2]
  exact ⟨by decide, by decide⟩

set_option maxRecDepth 100000 in
set_option maxHeartbeats 1000000 in
theorem fixed_any (b c d : Int) (hb : 0 ≤ b ∧ b ≤ 255) (hc : 0 ≤ c ∧ c ≤ 255) (_hd : 0 ≤ d ∧ d ≤ 255) (w : World) :
    Calls Try.prog 6 #[.int .u8 b, .int .u8 c, .int .u8 d] w fun e w' => e = .returned (vF ⟨8, b - 128, c - 128, d, c * 2, b⟩) ∧ Below w.heap.size w w' := by
  go_enter Try.func6, Try.ntmps6
  go_wp2
  refine bodyPost_ret (v := vF ⟨8, b - 128, c - 128, d, c * 2, b⟩) (by simp [results, Try.results6, go_sem, vF]) rfl ?_
  exact ⟨rfl, Joins.below_alloc1 _ _⟩

theorem rowL_app (X : Nat → Int) (k : Nat) : rowL X k k ++ [.int .i64 (X k)] = rowL X (k + 1) (k + 1) := by
  unfold rowL
  rw [List.range_succ, List.map_append]
  congr 1
  · apply List.map_congr_left
    intro j hj
    have : j < k := by simpa using hj
    rw [if_pos this, if_pos (by omega)]
  · simp
theorem rowL_one (X : Nat → Int) (k : Nat) : ∀ u ∈ [Value.int .i64 (X k)], u.oneCell' = true := by
  intro u hu
  simp at hu
  subst hu; rfl

/-- A list of small numbers among the arguments. -/
def In16 (w : World) (ad : Option Addr) (m : Nat) (X : Nat → Int) : Prop := ∀ j, j < m → ∃ b off, ad = some ⟨b, off, none⟩ ∧ b < w.heap.size ∧ w.cell? ⟨b, off + j, none⟩ = some (.int .i16 (X j)) ∧ -32768 ≤ X j ∧ X j ≤ 32767

end Go.Proofs.Ytkadojmfcnleoaa
