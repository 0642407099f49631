/- Whole numbers kept within 32 bits and rounded at a place, and a step of a section in whole numbers: as mathematics. -/
import Derived.Test.YtmddclgidccnhaaNum
namespace Go.Proofs.Ytmddclgidccnhaa

/-- Kept within 32 bits. -/
def kp (n : Int) : Int := min (max n (-2147483648)) 2147483647
/-- n over 2^s, nearest, ties to the even one. -/
def rnd (n : Int) (s : Nat) : Int :=
  if 2 ^ s < 2 * (n % 2 ^ s) ∨ (2 * (n % 2 ^ s) = 2 ^ s ∧ n / 2 ^ s % 2 = 1) then n / 2 ^ s + 1 else n / 2 ^ s

/-- May so many bits stand behind the point? -/
def fitsB (b : Int) : Bool := decide (1 ≤ b ∧ b ≤ 31)
/-- Had it to be kept within? -/
def offB (n : Int) : Bool := decide (kp n ≠ n)

/-- A section in whole numbers. -/
structure Fx where
  (bits b0 b1 b2 a1 a2 : Int)
/-- Its state. -/
structure St where
  (x1 x2 y1 y2 : Int)
deriving DecidableEq

/-- Is it an int64? -/
def i64 (n : Int) : Prop := -9223372036854775808 ≤ n ∧ n ≤ 9223372036854775807
/-- Is it within 32 bits? -/
def i32 (n : Int) : Prop := -2147483648 ≤ n ∧ n ≤ 2147483647

def Fx.ok (f : Fx) : Prop := i64 f.bits ∧ i64 f.b0 ∧ i64 f.b1 ∧ i64 f.b2 ∧ i64 f.a1 ∧ i64 f.a2
def St.ok (s : St) : Prop := i64 s.x1 ∧ i64 s.x2 ∧ i64 s.y1 ∧ i64 s.y2
def St.low (s : St) : Prop := i32 s.x1 ∧ i32 s.x2 ∧ i32 s.y1 ∧ i32 s.y2
def Fx.fits (f : Fx) : Prop := 1 ≤ f.bits ∧ f.bits ≤ 31
instance (f : Fx) : Decidable f.fits := by unfold Fx.fits; infer_instance

theorem kp_low (n : Int) : i32 (kp n) := by unfold kp i32; omega
theorem kp_same (n : Int) (h : i32 n) : kp n = n := by unfold kp; unfold i32 at h; omega
theorem low_ok {n : Int} (h : i32 n) : i64 n := by unfold i64; unfold i32 at h; omega

/-- The true sum of a step. -/
def tot (f : Fx) (s : St) (x : Int) : Int := kp f.b0 * kp x + kp f.b1 * kp s.x1 + kp f.b2 * kp s.x2 - kp f.a1 * kp s.y1 - kp f.a2 * kp s.y2
/-- Its answer as it is, and kept within. -/
def ansRaw (f : Fx) (s : St) (x : Int) : Int := rnd (tot f s x) f.bits.toNat
def ans (f : Fx) (s : St) (x : Int) : Int := if f.fits then kp (ansRaw f s x) else 0
def outs (f : Fx) (s : St) (x : Int) : Bool := decide f.fits && decide (kp (ansRaw f s x) ≠ ansRaw f s x)
def nxt (f : Fx) (s : St) (x : Int) : St := if f.fits then ⟨kp x, kp s.x1, ans f s x, kp s.y1⟩ else ⟨0, 0, 0, 0⟩
def kpS (s : St) : St := ⟨kp s.x1, kp s.x2, kp s.y1, kp s.y2⟩

theorem ans_low (f : Fx) (s : St) (x : Int) : i32 (ans f s x) := by
  unfold ans; split
  · exact kp_low _
  · unfold i32; omega
theorem nxt_low (f : Fx) (s : St) (x : Int) : (nxt f s x).low := by
  unfold nxt; split
  · exact ⟨kp_low _, kp_low _, ans_low f s x, kp_low _⟩
  · refine ⟨?_, ?_, ?_, ?_⟩ <;> (show i32 0; unfold i32; omega)
theorem St.low_ok {s : St} (h : s.low) : s.ok := ⟨Proofs.Ytmddclgidccnhaa.low_ok h.1, Proofs.Ytmddclgidccnhaa.low_ok h.2.1, Proofs.Ytmddclgidccnhaa.low_ok h.2.2.1, Proofs.Ytmddclgidccnhaa.low_ok h.2.2.2⟩
theorem kpS_low (s : St) : (kpS s).low := ⟨kp_low _, kp_low _, kp_low _, kp_low _⟩
theorem kpS_same {s : St} (h : s.low) : kpS s = s := by
  obtain ⟨a, b, c, d⟩ := s
  obtain ⟨h1, h2, h3, h4⟩ := h
  unfold kpS
  rw [kp_same _ h1, kp_same _ h2, kp_same _ h3, kp_same _ h4]

theorem prod_bound {a b : Int} (ha : i32 a) (hb : i32 b) : -4611686018427387904 ≤ a * b ∧ a * b ≤ 4611686018427387904 := by
  unfold i32 at ha hb
  have h1 : a.natAbs ≤ 2147483648 := by omega
  have h2 : b.natAbs ≤ 2147483648 := by omega
  have h3 := Nat.mul_le_mul h1 h2
  rw [← Int.natAbs_mul] at h3
  omega

/-- n over 2^s lies between the whole numbers beside it. -/
theorem rnd_near (n : Int) (s : Nat) : n / 2 ^ s ≤ rnd n s ∧ rnd n s ≤ n / 2 ^ s + 1 := by
  unfold rnd; split <;> omega

theorem pow_pos (s : Nat) : (0 : Int) < 2 ^ s := Int.pow_pos (by decide)

theorem rnd_ge {n m : Int} {s : Nat} (h : m * 2 ^ s ≤ n) : m ≤ rnd n s :=
  Int.le_trans ((Int.le_ediv_iff_mul_le (pow_pos s)).2 h) (rnd_near n s).1

theorem rnd_le {n m : Int} {s : Nat} (h : n < m * 2 ^ s) : rnd n s ≤ m := by
  have := (Int.ediv_lt_iff_lt_mul (pow_pos s)).2 h
  have := (rnd_near n s).2
  omega

/-- A sum beyond 64 bits, cut at the end of these, is kept within as the true one. -/
theorem cut_high (n : Int) (s : Nat) (hs : s ≤ 31) (h : 9223372036854775807 < n) : kp (rnd n s) = 2147483647 ∧ kp (rnd n s) ≠ rnd n s := by
  have h1 : 4294967295 ≤ rnd n s := by
    refine rnd_ge ?_
    have h2 : (2 : Int) ^ s ≤ 2147483648 := by
      have : (2 : Nat) ^ s ≤ 2 ^ 31 := Nat.pow_le_pow_right (by decide) hs
      have h3 : ((2 ^ s : Nat) : Int) ≤ ((2 ^ 31 : Nat) : Int) := Int.ofNat_le.2 this
      simpa using h3
    omega
  unfold kp; omega
theorem cut_low (n : Int) (s : Nat) (hs : s ≤ 31) (h : n < -9223372036854775808) : kp (rnd n s) = -2147483648 ∧ kp (rnd n s) ≠ rnd n s := by
  have h1 : rnd n s ≤ -4294967296 := by
    refine rnd_le ?_
    have h2 : (2 : Int) ^ s ≤ 2147483648 := by
      have : (2 : Nat) ^ s ≤ 2 ^ 31 := Nat.pow_le_pow_right (by decide) hs
      have h3 : ((2 ^ s : Nat) : Int) ≤ ((2 ^ 31 : Nat) : Int) := Int.ofNat_le.2 this
      simpa using h3
    omega
  unfold kp; omega

end Go.Proofs.Ytmddclgidccnhaa
