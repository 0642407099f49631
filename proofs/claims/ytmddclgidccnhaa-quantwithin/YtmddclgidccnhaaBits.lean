/- What package part's smallest functions and those of package math that they call answer, by the bits of their arguments: take, put, Of, Copysign, Flush, Signbit, and the statements' own comparison of bits. -/
import Derived.Test.YtmddclgidccnhaaRows
import Derived.Test.YtmddclgidccnhaaNum
import Derived.Laws.Externs
namespace Go.Proofs.Ytmddclgidccnhaa
open Go.RowKit

theorem run_bits (b : Nat) (w : World) : (callFunc 13 #[.float .f64 b]).run Try.prog w = .ok (.value (.int .u64 b)) w := by
  rw [run_callFunc_extern Try.func13 (by kernel_rfl) (by kernel_rfl) (by kernel_rfl) (e := Extern.MathFloatBits.float64bits) (by kernel_rfl)]
  rfl
theorem run_frombits (n : Int) (w : World) : (callFunc 8 #[.int .u64 n]).run Try.prog w = .ok (.value (.float .f64 n.toNat)) w := by
  rw [run_callFunc_extern Try.func8 (by kernel_rfl) (by kernel_rfl) (by kernel_rfl) (e := Extern.MathFloatBits.float64frombits) (by kernel_rfl)]
  rfl

set_option maxHeartbeats 400000 in
theorem take_any (b : Nat) (hb : b < 18446744073709551616) (w : World) :
    Calls Try.prog 43 #[.float .f64 b] w fun e w' => e = .returned (.tuple #[.bool (ng b), .int .i64 (pw b), .int .u64 (fr b)]) ∧ w' = w := by
  have h1 := and_sign_ne b hb
  have h2 := and_power b hb
  have h3 := and_fraction b hb
  have Hf := hide (And.intro h1 (And.intro h2 h3))
  clear h1 h2 h3 hb
  have hx := run_bits
  go_enter Try.func43, Try.ntmps43
  go_wp2
  go_ret3
  obtain ⟨h1, h2, h3⟩ := unhide Hf
  rw [← h1, ← h2, ← h3]
  exact ⟨rfl, rfl⟩

/-- The bits of a float of that sign. -/
def putBits (neg : Bool) (n : Int) : Nat := ((if neg then 9223372036854775808 else 0) + n).toNat

set_option maxHeartbeats 400000 in
theorem put_any (neg : Bool) (n : Int) (h0 : 0 ≤ n) (h1 : n < 9223372036854775808) (w : World) :
    Calls Try.prog 50 #[.bool neg, .int .u64 n] w fun e w' => e = .returned (.float .f64 (putBits neg n)) ∧ w' = w := by
  have Hf := hide (or_sign n h0 h1)
  clear h0 h1
  have hx := run_frombits
  cases neg
  · go_enter Try.func50, Try.ntmps50
    go_wp2
    go_ret
    refine ⟨?_, rfl⟩
    simp [putBits]
  · go_enter Try.func50, Try.ntmps50
    go_wp2
    go_ret
    refine ⟨?_, rfl⟩
    have h := unhide Hf
    simp [putBits, h, Int.add_comm]

theorem cls0 (b : Nat) (h1 : ((pw b : Int) == 0) = true) (h2 : ((fr b : Int) == 0) = true) : cls b = 0 := by
  simp at h1 h2; simp [cls, h1, h2]
theorem cls1 (b : Nat) (h1 : ((pw b : Int) == 0) = true) (h2 : ((fr b : Int) == 0) = false) : cls b = 1 := by
  simp at h1 h2; simp [cls, h1, h2]
theorem cls2 (b : Nat) (h1 : ((pw b : Int) == 0) = false) (h2 : (pw b : Int) < 2047) : cls b = 2 := by
  simp at h1; simp [cls, h1]; omega
theorem cls3 (b : Nat) (h1 : ((pw b : Int) == 0) = false) (h2 : ¬ (pw b : Int) < 2047) (h3 : ((fr b : Int) == 0) = true) : cls b = 3 := by
  simp at h1 h3; simp [cls, h1, h3]; omega
theorem cls4 (b : Nat) (h1 : ((pw b : Int) == 0) = false) (h2 : ¬ (pw b : Int) < 2047) (h3 : ((fr b : Int) == 0) = false) : cls b = 4 := by
  simp at h1 h3; simp [cls, h1, h3]; omega

end Go.Proofs.Ytmddclgidccnhaa
