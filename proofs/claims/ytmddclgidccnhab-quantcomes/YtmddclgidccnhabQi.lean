/- QuantComes: its list of states. -/
import Derived.Test.YtmddclgidccnhabQh
import Derived.Deep.AppendLies
import Derived.Laws.OwnMore
import Derived.Deep.QuietTactic
import Derived.BigQuiet
namespace Go.Proofs.Ytmddclgidccnhab
open Go.RowKit Go.Maps

set_option maxRecDepth 100000 in
theorem docKept_any (n : Int) (w : World) :
    Calls Try.prog 10 #[.int .i64 n] w fun e w' => e = .returned (.int .i64 (kp n)) ∧ w' = w := by
  go_enter Try.func10, Try.ntmps10
  go_wp2
  all_goals go_ret
  · rename_i h1
    rw [if_pos h] at h1
    rw [show kp n = n by unfold kp; omega]; exact ⟨rfl, rfl⟩
  · rw [show kp n = 2147483647 by unfold kp; omega]; exact ⟨rfl, rfl⟩
  · rename_i h1
    rw [if_pos h] at h1
    rw [show kp n = -2147483648 by unfold kp; omega]; exact ⟨rfl, rfl⟩

/-- The cells of states one behind the other. -/
def cellsN (S : Nat → St) : Nat → List Value
  | 0 => []
  | n + 1 => cellsN S n ++ (aS (S n)).toList
theorem cellsN_len (S : Nat → St) (n : Nat) : (cellsN S n).length = n * 4 := by
  induction n with
  | zero => rfl
  | succ n ih => rw [cellsN, List.length_append, ih]; simp [aS]; omega
theorem cellsN_at (S : Nat → St) (n i j : Nat) (hi : i < n) (hj : j < 4) : (cellsN S n)[i * 4 + j]? = (aS (S i))[j]? := by
  induction n with
  | zero => omega
  | succ n ih =>
    rw [cellsN]
    by_cases h : i < n
    · rw [List.getElem?_append_left (by rw [cellsN_len]; omega), ih h]
    · obtain rfl : i = n := by omega
      rw [List.getElem?_append_right (by rw [cellsN_len]; omega), cellsN_len, show i * 4 + j - i * 4 = j by omega]
      exact Array.getElem?_toList
theorem aS_one (s : St) : ∀ u ∈ (aS s).toList, u.oneCell' = true := by
  intro u hu
  simp [aS] at hu
  rcases hu with rfl | rfl | rfl | rfl <;> rfl
theorem infoz_St : (Try.prog.info? 25).map (fun i => (i.zero, i.size, i.bytes)) = some (some (.agg #[.int .i64 0, .int .i64 0, .int .i64 0, .int .i64 0]), 4, 32) := by kernel_rfl

end Go.Proofs.Ytmddclgidccnhab
