/- What package quant's Fix answers, of every float by its bits. -/
import Derived.Test.YtmddclgidccnhaaSplit
import Derived.Test.YtmddclgidccnhaaQa
namespace Go.Proofs.Ytmddclgidccnhaa
open Go.RowKit

theorem fix_out (b : Nat) (k : Int) (hk : fitsB k = false) (w : World) :
    Calls Try.prog 9 #[.float .f64 b, .int .i64 k] w fun e w' => e = .returned (.tuple #[.int .i64 0, .bool false, .int .i64 1]) ∧ w' = w := by
  have Hf := hide (fits_any k)
  rw [hk] at Hf
  clear hk
  go_enter Try.func9, Try.ntmps9
  go_wp2_with fail
  refine (unhide Hf _).mono ?_
  rintro e w' ⟨rfl, rfl⟩
  go_wp2
  go_ret3
  exact ⟨rfl, rfl⟩

set_option maxRecDepth 100000 in
set_option maxHeartbeats 1000000 in
theorem fix_none (b : Nat) (hb : b < 18446744073709551616) (h : pw b = 2047) (k : Int) (hk : fitsB k = true) (w : World) :
    Calls Try.prog 9 #[.float .f64 b, .int .i64 k] w fun e w' => e = .returned (.tuple #[.int .i64 0, .bool false, .int .i64 5]) ∧ w' = w := by
  have Hf := hide (fits_any k)
  rw [hk] at Hf
  have Hs := hide (split_none b hb h)
  clear hk hb h
  go_enter Try.func9, Try.ntmps9
  go_wp2_with fail
  refine (unhide Hf _).mono ?_
  rintro e w' ⟨rfl, rfl⟩
  go_wp2_with fail
  refine (unhide Hs _).mono ?_
  rintro e w' ⟨rfl, rfl⟩
  go_wp2
  go_ret3
  exact ⟨rfl, rfl⟩

set_option maxRecDepth 100000 in
set_option maxHeartbeats 1000000 in
theorem fix_walk (b : Nat) (neg : Bool) (m p k s : Int) (hm : 0 ≤ m ∧ m < 9007199254740992) (hp : -1074 ≤ p ∧ p ≤ 971) (hk : fitsB k = true)
    (Hs : Hid (∀ w, Calls Try.prog 21 #[.float .f64 b] w fun e w' => e = .returned (.tuple #[.bool neg, .int .u64 m, .int .i64 p, .int .i64 0]) ∧ w' = w))
    (hs : s = min (max (-p - k) 0) 62) (w : World) :
    Calls Try.prog 9 #[.float .f64 b, .int .i64 k] w
      fun e w' => e = .returned (.tuple #[.int .i64 (kp (rnd (if neg then -m else m) s.toNat)), .bool (offB (rnd (if neg then -m else m) s.toNat)), .int .i64 0]) ∧ w' = w := by
  have hk' : 1 ≤ k ∧ k ≤ 31 := by simpa [fitsB] using hk
  have Hf := hide (fits_any k)
  rw [hk] at Hf
  clear hk
  have e1 : wrap64 m = m := by unfold wrap64; omega
  have e2 : wrap64 (-m) = -m := by unfold wrap64; omega
  have Hr := hide (rounded_any (if neg then -m else m) s (by cases neg <;> (simp only [i64, if_true, if_false, Bool.false_eq_true]; omega)) (by omega) (by omega))
  have Hw := hide (within_any (rnd (if neg then -m else m) s.toNat))
  generalize rnd (if neg then -m else m) s.toNat = r at *
  cases neg
  · simp only [Bool.false_eq_true, if_false] at Hr
    go_enter Try.func9, Try.ntmps9
    go_wp2_with fail
    refine (unhide Hf _).mono ?_
    rintro e w' ⟨rfl, rfl⟩
    go_wp2_with fail
    refine (unhide Hs _).mono ?_
    rintro e w' ⟨rfl, rfl⟩
    go_wp2_with fail
    · rename_i h1
      rw [if_neg (by omega)] at h1
      obtain rfl : s = 62 := by omega
      clear hs
      refine (unhide Hr _).mono ?_
      rintro e w' ⟨rfl, rfl⟩
      go_wp2_with fail
      refine (unhide Hw _).mono ?_
      rintro e w' ⟨rfl, rfl⟩
      go_wp2
      go_ret3
      exact ⟨rfl, rfl⟩
    · obtain rfl : s = 0 := by omega
      clear hs
      refine (unhide Hr _).mono ?_
      rintro e w' ⟨rfl, rfl⟩
      go_wp2_with fail
      refine (unhide Hw _).mono ?_
      rintro e w' ⟨rfl, rfl⟩
      go_wp2
      go_ret3
      exact ⟨rfl, rfl⟩
    · rename_i h1
      rw [if_neg (by omega)] at h1
      obtain rfl : s = -p - k := by omega
      clear hs
      refine (unhide Hr _).mono ?_
      rintro e w' ⟨rfl, rfl⟩
      go_wp2_with fail
      refine (unhide Hw _).mono ?_
      rintro e w' ⟨rfl, rfl⟩
      go_wp2
      go_ret3
      exact ⟨rfl, rfl⟩
  · simp only [if_true] at Hr
    go_enter Try.func9, Try.ntmps9
    go_wp2_with fail
    refine (unhide Hf _).mono ?_
    rintro e w' ⟨rfl, rfl⟩
    go_wp2_with fail
    refine (unhide Hs _).mono ?_
    rintro e w' ⟨rfl, rfl⟩
    go_wp2_with fail
    · rename_i h1
      rw [if_neg (by omega)] at h1
      obtain rfl : s = 62 := by omega
      clear hs
      refine (unhide Hr _).mono ?_
      rintro e w' ⟨rfl, rfl⟩
      go_wp2_with fail
      refine (unhide Hw _).mono ?_
      rintro e w' ⟨rfl, rfl⟩
      go_wp2
      go_ret3
      exact ⟨rfl, rfl⟩
    · obtain rfl : s = 0 := by omega
      clear hs
      refine (unhide Hr _).mono ?_
      rintro e w' ⟨rfl, rfl⟩
      go_wp2_with fail
      refine (unhide Hw _).mono ?_
      rintro e w' ⟨rfl, rfl⟩
      go_wp2
      go_ret3
      exact ⟨rfl, rfl⟩
    · rename_i h1
      rw [if_neg (by omega)] at h1
      obtain rfl : s = -p - k := by omega
      clear hs
      refine (unhide Hr _).mono ?_
      rintro e w' ⟨rfl, rfl⟩
      go_wp2_with fail
      refine (unhide Hw _).mono ?_
      rintro e w' ⟨rfl, rfl⟩
      go_wp2
      go_ret3
      exact ⟨rfl, rfl⟩

/-- What Fix answers: the number, whether it had to be kept within, the error. -/
def sig (b : Nat) : Int := if pw b = 0 then (if ng b then -(fr b : Int) else fr b) else (if ng b then -((fr b : Int) + 4503599627370496) else (fr b : Int) + 4503599627370496)
def pwr (b : Nat) : Int := if pw b = 0 then -1074 else (pw b : Int) - 1075
def fixN (b : Nat) (k : Int) : Int := rnd (sig b) (min (max (-pwr b - k) 0) 62).toNat
theorem fix_fin (b : Nat) (hb : b < 18446744073709551616) (h : pw b ≠ 2047) (k : Int) (hk : fitsB k = true) (w : World) :
    Calls Try.prog 9 #[.float .f64 b, .int .i64 k] w
      fun e w' => e = .returned (.tuple #[.int .i64 (kp (fixN b k)), .bool (offB (fixN b k)), .int .i64 0]) ∧ w' = w := by
  have h1 := fr_lt b
  have h2 := pw_le b
  by_cases h0 : pw b = 0
  · have := fix_walk b (ng b) (fr b) (-1074) k _ (by omega) (by omega) hk (hide (split_sub b hb h0)) rfl w
    unfold fixN sig pwr
    rw [if_pos h0, if_pos h0]
    exact this
  · have := fix_walk b (ng b) ((fr b : Int) + 4503599627370496) ((pw b : Int) - 1075) k _ (by omega) (by omega) hk (hide (split_norm b hb h0 h)) rfl w
    unfold fixN sig pwr
    rw [if_neg h0, if_neg h0]
    exact this
end Go.Proofs.Ytmddclgidccnhaa
