/- Sums, differences, shifts and quotients of natural numbers, digit by digit, as mathematics. -/
import Derived.Test.YtlajalfdcfkmpaaNb
namespace Go.Proofs.Ytlajalfdcfkmpaa

/-- The carries and the digits of a sum. -/
def cy (a b : Nat → Nat) : Nat → Nat
  | 0 => 0
  | k + 1 => (cy a b k + a k + b k) / 4294967296
def ad (a b : Nat → Nat) (k : Nat) : Nat := (cy a b k + a k + b k) % 4294967296
theorem cy_le {a b : Nat → Nat} (ha : ∀ j, a j < 4294967296) (hb : ∀ j, b j < 4294967296) : ∀ k, cy a b k ≤ 1
  | 0 => by simp [cy]
  | k + 1 => by
    have := cy_le ha hb k
    have := ha k
    have := hb k
    unfold cy
    omega
theorem ad_vp (a b : Nat → Nat) : ∀ k, vp (ad a b) k + cy a b k * 4294967296 ^ k = vp a k + vp b k
  | 0 => by simp [vp, cy]
  | k + 1 => by
    have ih := ad_vp a b k
    have h : ad a b k + cy a b (k + 1) * 4294967296 = cy a b k + a k + b k := by
      unfold ad
      rw [show cy a b (k + 1) = (cy a b k + a k + b k) / 4294967296 from rfl]
      omega
    have h2 := congrArg (· * 4294967296 ^ k) h
    simp only [Nat.add_mul] at h2
    rw [bsucc, ← Nat.mul_assoc]
    unfold vp
    omega

/-- The borrows and the digits of a difference. -/
def bw (a b : Nat → Nat) : Nat → Nat
  | 0 => 0
  | k + 1 => 1 - (a k + 4294967296 - bw a b k - b k) / 4294967296
def sb (a b : Nat → Nat) (k : Nat) : Nat := (a k + 4294967296 - bw a b k - b k) % 4294967296
theorem bw_le (a b : Nat → Nat) : ∀ k, bw a b k ≤ 1
  | 0 => by simp [bw]
  | k + 1 => by unfold bw; omega
theorem sb_vp {a b : Nat → Nat} (ha : ∀ j, a j < 4294967296) (hb : ∀ j, b j < 4294967296) : ∀ k, vp (sb a b) k + vp b k = vp a k + bw a b k * 4294967296 ^ k
  | 0 => by simp [vp, bw]
  | k + 1 => by
    have ih := sb_vp ha hb k
    have h : sb a b k + b k + bw a b k = a k + bw a b (k + 1) * 4294967296 := by
      have h1 := bw_le a b k
      have h2 := ha k
      have h3 := hb k
      unfold sb
      rw [show bw a b (k + 1) = 1 - (a k + 4294967296 - bw a b k - b k) / 4294967296 from rfl]
      omega
    have h2 := congrArg (· * 4294967296 ^ k) h
    simp only [Nat.add_mul] at h2
    rw [bsucc, ← Nat.mul_assoc]
    unfold vp
    omega
theorem sb_lt (a b : Nat → Nat) (k : Nat) : sb a b k < 4294967296 := Nat.mod_lt _ (by decide)
theorem ad_lt (a b : Nat → Nat) (k : Nat) : ad a b k < 4294967296 := Nat.mod_lt _ (by decide)

/-- A row with one digit changed. -/
def upd (c : Nat → Nat) (p v : Nat) (j : Nat) : Nat := if j = p then v else c j
theorem upd_same (c : Nat → Nat) (p v : Nat) : upd c p v p = v := by simp [upd]
theorem upd_ne (c : Nat → Nat) {p j : Nat} (h : j ≠ p) (v : Nat) : upd c p v j = c j := by simp [upd, h]
theorem vp_upd (c : Nat → Nat) (p v : Nat) : ∀ n, p < n → vp (upd c p v) n + c p * 4294967296 ^ p = vp c n + v * 4294967296 ^ p
  | 0, h => by omega
  | n + 1, h => by
    unfold vp
    by_cases e : p = n
    · subst e
      rw [upd_same, vp_congr (a := upd c p v) (b := c) (fun j hj => upd_ne c (by omega) v)]
      omega
    · have ih := vp_upd c p v n (by omega)
      rw [upd_ne c (show n ≠ p by omega)]
      omega

/-- The carries and the digits of a number times 2^m. -/
def sc (a : Nat → Nat) (m : Nat) : Nat → Nat
  | 0 => 0
  | k + 1 => (sc a m k + a k * 2 ^ m) / 4294967296
def sh (a : Nat → Nat) (m k : Nat) : Nat := (sc a m k + a k * 2 ^ m) % 4294967296
theorem sc_lt {a : Nat → Nat} (ha : ∀ j, a j < 4294967296) (m : Nat) : ∀ k, sc a m k < 2 ^ m
  | 0 => Nat.two_pow_pos m
  | k + 1 => by
    have ih := sc_lt ha m k
    have h1 : a k ≤ 4294967295 := by have := ha k; omega
    have h2 := Nat.mul_le_mul_right (2 ^ m) h1
    unfold sc
    omega
theorem sh_vp (a : Nat → Nat) (m : Nat) : ∀ k, vp (sh a m) k + sc a m k * 4294967296 ^ k = vp a k * 2 ^ m
  | 0 => by simp [vp, sc]
  | k + 1 => by
    have ih := sh_vp a m k
    have h : sh a m k + sc a m (k + 1) * 4294967296 = sc a m k + a k * 2 ^ m := by
      unfold sh
      rw [show sc a m (k + 1) = (sc a m k + a k * 2 ^ m) / 4294967296 from rfl]
      omega
    have h2 := congrArg (· * 4294967296 ^ k) h
    simp only [Nat.add_mul] at h2
    rw [bsucc, ← Nat.mul_assoc]
    unfold vp
    rw [Nat.add_mul (vp a k), Nat.mul_right_comm (a k)]
    omega

/-- The digit of a number at a place. -/
def dig (y j : Nat) : Nat := y / 4294967296 ^ j % 4294967296
theorem dig_lt (y j : Nat) : dig y j < 4294967296 := Nat.mod_lt _ (by decide)
theorem vp_dig (y : Nat) : ∀ n, vp (dig y) n = y % 4294967296 ^ n
  | 0 => by simp [vp, Nat.mod_one]
  | n + 1 => by
    unfold vp
    rw [vp_dig y n, Nat.pow_succ, Nat.mod_mul]
    unfold dig
    rw [Nat.mul_comm]
theorem dig_vp {a : Nat → Nat} {n : Nat} (h : Dg n a) (j : Nat) : dig (vp a n) j = a j := by
  by_cases hj : j < n
  · unfold dig
    obtain ⟨m, rfl⟩ : ∃ m, n = j + (m + 1) := ⟨n - j - 1, by omega⟩
    rw [vp_split a j (m + 1), Nat.add_mul_div_left _ _ (bpos j), Nat.div_eq_of_lt (vp_lt (fun i _ => h.lt i)), Nat.zero_add, vp_shift]
    rw [Nat.add_mul_mod_self_left]
    exact Nat.mod_eq_of_lt (h.lt _)
  · unfold dig
    rw [h.out j (by omega), Nat.div_eq_of_lt (Nat.lt_of_lt_of_le h.ub (ble (by omega)))]
theorem div_next (y j : Nat) : y / 4294967296 ^ j = y / 4294967296 ^ (j + 1) * 4294967296 + dig y j := by
  unfold dig
  rw [Nat.pow_succ, ← Nat.div_div_eq_div_mul]
  omega

/-- The digits of a number over 2^m. -/
theorem shr_dig (y m j : Nat) (hm : m ≤ 31) : (dig y j + dig y (j + 1) * 4294967296) / 2 ^ m % 4294967296 = dig (y / 2 ^ m) j := by
  have e1 := div_next y j
  have e2 := div_next y (j + 1)
  have hd : dig (y / 2 ^ m) j = y / 4294967296 ^ j / 2 ^ m % 4294967296 := by
    unfold dig
    rw [Nat.div_div_eq_div_mul, Nat.div_div_eq_div_mul, Nat.mul_comm]
  rw [hd, e1, e2]
  generalize y / 4294967296 ^ (j + 1 + 1) = z
  have hp : (2 : Nat) ^ m * 2 ^ (32 - m) = 2 ^ 32 := by rw [← Nat.pow_add, show m + (32 - m) = 32 by omega]
  have hB : 2 ^ m * 2 ^ (32 - m) = 4294967296 := hp.trans (by decide)
  have h3 : (z * 4294967296 + dig y (j + 1)) * 4294967296 + dig y j = (dig y j + dig y (j + 1) * 4294967296) + 2 ^ m * (2 ^ (32 - m) * z * 4294967296) := by
    have : z * 4294967296 * 4294967296 = 2 ^ m * (2 ^ (32 - m) * z * 4294967296) := by
      rw [← Nat.mul_assoc, ← Nat.mul_assoc, hB, Nat.mul_comm 4294967296 z]
    rw [← this]
    clear this hp hB hd e1 e2
    generalize dig y j = p
    generalize dig y (j + 1) = q
    omega
  rw [h3, Nat.add_mul_div_left _ _ (Nat.two_pow_pos m), Nat.add_mul_mod_self_right]

/-- A bit of a number, by its digit. -/
theorem bit_dig (y q s : Nat) (hs : s < 32) : dig y q / 2 ^ s % 2 = y / 2 ^ (32 * q + s) % 2 := by
  have hp : (2 : Nat) ^ s * (2 * 2 ^ (31 - s)) = 2 ^ 32 := by
    rw [show (2 : Nat) * 2 ^ (31 - s) = 2 ^ (31 - s + 1) by rw [Nat.pow_succ, Nat.mul_comm], ← Nat.pow_add, show s + (31 - s + 1) = 32 by omega]
  have hB : 2 ^ s * (2 * 2 ^ (31 - s)) = 4294967296 := hp.trans (by decide)
  have e : y / 2 ^ (32 * q + s) = y / 4294967296 ^ q / 2 ^ s := by
    rw [Nat.div_div_eq_div_mul, Nat.pow_add, Nat.pow_mul]
  rw [e]
  unfold dig
  generalize y / 4294967296 ^ q = z
  have h1 := Nat.mod_mul_right_div_self z (2 ^ s) (2 * 2 ^ (31 - s))
  rw [hB] at h1
  rw [h1, Nat.mod_mul_right_mod]

/-- The digits and the rests of a number over one of one digit. -/
theorem small_dig (y D j : Nat) (hD : 0 < D) : (y / 4294967296 ^ (j + 1) % D * 4294967296 + dig y j) / D = dig (y / D) j ∧ (y / 4294967296 ^ (j + 1) % D * 4294967296 + dig y j) % D = y / 4294967296 ^ j % D := by
  have e1 := div_next y j
  have hd : dig (y / D) j = y / 4294967296 ^ j / D % 4294967296 := by
    unfold dig
    rw [Nat.div_div_eq_div_mul, Nat.div_div_eq_div_mul, Nat.mul_comm]
  rw [hd, e1]
  generalize y / 4294967296 ^ (j + 1) = H
  have h1 := dig_lt y j
  generalize dig y j = d at *
  have h2 := Nat.div_add_mod H D
  have h3 := Nat.mod_lt H hD
  have h4 : H * 4294967296 + d = (H % D * 4294967296 + d) + D * (H / D * 4294967296) := by
    have : H * 4294967296 = (D * (H / D) + H % D) * 4294967296 := by rw [h2]
    rw [this, Nat.add_mul, Nat.mul_assoc]
    omega
  have h5 : (H % D * 4294967296 + d) / D < 4294967296 := by
    refine (Nat.div_lt_iff_lt_mul hD).2 ?_
    have := Nat.mul_le_mul_right 4294967296 (show H % D + 1 ≤ D by omega)
    rw [Nat.add_mul] at this
    rw [Nat.mul_comm 4294967296 D]
    omega
  rw [h4]
  constructor
  · rw [Nat.add_mul_div_left _ _ hD, Nat.add_mul_mod_self_right, Nat.mod_eq_of_lt h5]
  · rw [Nat.add_mul_mod_self_left]
end Go.Proofs.Ytlajalfdcfkmpaa
