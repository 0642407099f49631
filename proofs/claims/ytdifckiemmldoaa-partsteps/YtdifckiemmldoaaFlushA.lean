/- What Copysign of nought, Flush, Signbit and the statements' comparison of bits answer. -/
import Derived.Test.YtdifckiemmldoaaBits
namespace Go.Proofs.Ytdifckiemmldoaa
open Go.RowKit

/-- Are the bits one, or both NaNs? -/
def alike (a b : Nat) : Bool := (a == b) || (FloatKind.f64.format.order a a != some .eq && FloatKind.f64.format.order b b != some .eq)

set_option maxRecDepth 100000 in
set_option maxHeartbeats 1000000 in
theorem bits_any (a b : Nat) (w : World) :
    Calls Try.prog 14 #[.float .f64 a, .float .f64 b] w fun e w' => e = .returned (.bool (alike a b)) ∧ w' = w := by
  have hx := run_bits
  cases h1 : ((a : Int) == (b : Int))
  · cases h2 : (FloatKind.f64.format.order a a != some .eq)
    · have Hk : Hid (alike a b = false) := by
        have : (a == b) = false := by simp at h1 ⊢; omega
        simp [Hid, alike, this, h2]
      go_enter Try.func14, Try.ntmps14
      go_wp2
      go_ret
      rw [unhide Hk]
      exact ⟨rfl, rfl⟩
    · have Hk : Hid (alike a b = (FloatKind.f64.format.order b b != some .eq)) := by
        have : (a == b) = false := by simp at h1 ⊢; omega
        simp [Hid, alike, this, h2]
      go_enter Try.func14, Try.ntmps14
      go_wp2
      go_ret
      rw [unhide Hk]
      exact ⟨rfl, rfl⟩
  · have Hk : Hid (alike a b = true) := by
      have : (a == b) = true := by simp at h1 ⊢; omega
      simp [Hid, alike, this]
    go_enter Try.func14, Try.ntmps14
    go_wp2
    go_ret
    rw [unhide Hk]
    exact ⟨rfl, rfl⟩

/-- The nought of x's sign. -/
def nought (b : Nat) : Nat := if ng b then 9223372036854775808 else 0

theorem or_zero_sign (b : Nat) (hb : b < 18446744073709551616) : (bits .or .u64 (bits .andNot .u64 0 9223372036854775808) (bits .and .u64 (b : Int) 9223372036854775808)).toNat = nought b := by
  rw [and_sign b hb, andNot_zero_sign]
  unfold nought
  cases ng b <;> decide

set_option maxHeartbeats 400000 in
theorem copysign_zero (b : Nat) (hb : b < 18446744073709551616) (w : World) :
    Calls Try.prog 42 #[.float .f64 0, .float .f64 b] w fun e w' => e = .returned (.float .f64 (nought b)) ∧ w' = w := by
  have Hk := hide (or_zero_sign b hb)
  clear hb
  have hx := run_bits
  have hy := run_frombits
  go_enter Try.func42, Try.ntmps42
  go_wp2
  go_ret
  rw [← unhide Hk]
  exact ⟨rfl, rfl⟩

/-- What Flush answers. -/
def flushed (b : Nat) : Nat := if cls b = 1 then nought b else b

set_option maxRecDepth 100000 in
set_option maxHeartbeats 400000 in
theorem flush_any (b : Nat) (hb : b < 18446744073709551616) (w : World) :
    Calls Try.prog 21 #[.float .f64 b] w fun e w' => e = .returned (.float .f64 (flushed b)) ∧ w' = w := by
  have Hc := hide (of_any b hb)
  have Hs := hide (copysign_zero b hb)
  clear hb
  cases h1 : (cls b != 1)
  · have Hk : Hid (flushed b = nought b) := by simp at h1; simp [Hid, flushed, h1]
    go_enter Try.func21, Try.ntmps21
    go_wp2_with fail
    refine (unhide Hc _).mono ?_
    rintro e w' ⟨rfl, rfl⟩
    go_wp2_with fail
    refine (unhide Hs _).mono ?_
    rintro e w' ⟨rfl, rfl⟩
    go_wp2
    go_ret
    rw [unhide Hk]
    exact ⟨rfl, rfl⟩
  · have Hk : Hid (flushed b = b) := by simp at h1; simp [Hid, flushed, h1]
    go_enter Try.func21, Try.ntmps21
    go_wp2_with fail
    refine (unhide Hc _).mono ?_
    rintro e w' ⟨rfl, rfl⟩
    go_wp2
    go_ret
    rw [unhide Hk]
    exact ⟨rfl, rfl⟩

end Go.Proofs.Ytdifckiemmldoaa
