/- What part's rank and Order answer, for every float by its bits. -/
import Derived.Test.YtmgdicpcljippabCW
namespace Go.Proofs.Ytmgdicpcljippab
open Go.RowKit

/-- The place of a float in the order, as the inner function has it: NaNs all one, at the top. -/
def rank (b : Nat) : Nat := if cls b = 4 then 18446744073709551615 else if ng b then 18446744073709551615 - b else b + 9223372036854775808

theorem not_form (b : Nat) (hb : b < 18446744073709551616) : bits .xor .u64 IntKind.u64.max (b : Int) = ((18446744073709551615 - b : Nat) : Int) := by
  show IntKind.u64.wrap ((BitVec.ofInt 64 IntKind.u64.max ^^^ BitVec.ofInt 64 (b : Int)).toNat : Int) = _
  have h1 : BitVec.ofInt 64 IntKind.u64.max = BitVec.allOnes 64 := by decide
  rw [h1, BitVec.allOnes_xor, BitVec.toNat_not, ofInt_u64 b (by omega), IntKind.wrap_u64]
  omega

set_option maxRecDepth 100000 in
set_option maxHeartbeats 1000000 in
theorem rank_any (b : Nat) (hb : b < 18446744073709551616) (w : World) :
    Calls Try.prog 34 #[.float .f64 b] w fun e w' => e = .returned (.int .u64 (rank b)) ∧ w' = w := by
  have Hc := hide (of_any b hb)
  have hx := run_bits
  have hg : IntKind.u64.signed = false := rfl
  have Hs := hide (and_sign_ne b hb)
  have Hn := hide (not_form b hb)
  cases t1 : (cls b == 4)
  · cases t2 : (bits .and .u64 (b : Int) 9223372036854775808 != 0)
    · have Hr : Hid ((rank b : Int) = bits .or .u64 (b : Int) 9223372036854775808) := by
        have h1 : ng b = false := by rw [← unhide Hs, t2]
        have h2 : b < 9223372036854775808 := by simp [ng] at h1; exact h1
        have h3 : ¬ cls b = 4 := by simpa using t1
        rw [Hid, or_sign _ (by omega) (by omega)]
        simp [rank, h1, h3]
      clear Hs Hn hb
      go_enter Try.func34, Try.ntmps34
      go_wp2_with fail
      refine (unhide Hc _).mono ?_
      rintro e w' ⟨rfl, rfl⟩
      go_wp2
      go_ret
      rw [unhide Hr]
      exact ⟨rfl, rfl⟩
    · have Hr : Hid ((rank b : Int) = bits .xor .u64 IntKind.u64.max (b : Int)) := by
        have h1 : ng b = true := by rw [← unhide Hs, t2]
        have h3 : ¬ cls b = 4 := by simpa using t1
        rw [Hid, unhide Hn]
        simp [rank, h1, h3]
      clear Hs Hn hb
      go_enter Try.func34, Try.ntmps34
      go_wp2_with fail
      refine (unhide Hc _).mono ?_
      rintro e w' ⟨rfl, rfl⟩
      go_wp2
      go_ret
      rw [unhide Hr]
      exact ⟨rfl, rfl⟩
  · have Hr : Hid ((rank b : Int) = 18446744073709551615) := by
      have h3 : cls b = 4 := by simpa using t1
      simp [Hid, rank, h3]
    clear Hs Hn hb
    go_enter Try.func34, Try.ntmps34
    go_wp2_with fail
    refine (unhide Hc _).mono ?_
    rintro e w' ⟨rfl, rfl⟩
    go_wp2
    go_ret
    rw [unhide Hr]
    exact ⟨rfl, rfl⟩

/-- How two numbers stand. -/
def cmpOf (x y : Int) : Int := if x < y then -1 else if y < x then 1 else 0

set_option maxRecDepth 100000 in
set_option maxHeartbeats 1000000 in
theorem compare_any (x y : Int) (w : World) :
    Calls Try.prog 33 #[.int .u64 x, .int .u64 y] w fun e w' => e = .returned (.int .i64 (cmpOf x y)) ∧ w' = w := by
  by_cases h1 : x < y
  · have Hk : Hid (cmpOf x y = -1) := by simp [Hid, cmpOf, h1]
    go_enter Try.func33, Try.ntmps33
    go_wp2
    go_ret
    rw [unhide Hk]
    exact ⟨rfl, rfl⟩
  · by_cases h2 : y < x
    · have Hk : Hid (cmpOf x y = 1) := by simp [Hid, cmpOf, h1, h2]
      go_enter Try.func33, Try.ntmps33
      go_wp2
      go_ret
      rw [unhide Hk]
      exact ⟨rfl, rfl⟩
    · have Hk : Hid (cmpOf x y = 0) := by simp [Hid, cmpOf, h1, h2]
      go_enter Try.func33, Try.ntmps33
      go_wp2
      go_ret
      rw [unhide Hk]
      exact ⟨rfl, rfl⟩

set_option maxRecDepth 100000 in
set_option maxHeartbeats 1000000 in
theorem order_any (a b : Nat) (ha : a < 18446744073709551616) (hb : b < 18446744073709551616) (w : World) :
    Calls Try.prog 28 #[.float .f64 a, .float .f64 b] w fun e w' => e = .returned (.int .i64 (cmpOf (rank a) (rank b))) ∧ w' = w := by
  have Ha := hide (rank_any a ha)
  have Hb := hide (rank_any b hb)
  clear ha hb
  go_enter Try.func28, Try.ntmps28
  go_wp2_with fail
  refine (unhide Ha _).mono ?_
  rintro e w' ⟨rfl, rfl⟩
  go_wp2_with fail
  refine (unhide Hb _).mono ?_
  rintro e w' ⟨rfl, rfl⟩
  go_wp2_with fail
  refine (compare_any _ _ _).mono ?_
  rintro e w' ⟨rfl, rfl⟩
  go_wp2
  go_ret
  exact ⟨rfl, rfl⟩

end Go.Proofs.Ytmgdicpcljippab
