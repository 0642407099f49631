/- Natural numbers by digits to the base 2^32, the lowest first: what a row of digits is worth. -/
import Derived.Test.YtlajalfdcfkmpaaNum
namespace Go.Proofs.Ytlajalfdcfkmpaa

/-- What the first k digits are worth. -/
def vp (d : Nat → Nat) : Nat → Nat
  | 0 => 0
  | k + 1 => vp d k + d k * 4294967296 ^ k

theorem bpos (k : Nat) : 0 < 4294967296 ^ k := Nat.pow_pos (by decide)
theorem bsucc (k : Nat) : 4294967296 ^ (k + 1) = 4294967296 * 4294967296 ^ k := by rw [Nat.pow_succ, Nat.mul_comm]
theorem ble {i k : Nat} (h : i ≤ k) : 4294967296 ^ i ≤ 4294967296 ^ k := Nat.pow_le_pow_right (by decide) h
theorem badd (i k : Nat) : 4294967296 ^ (i + k) = 4294967296 ^ i * 4294967296 ^ k := Nat.pow_add _ _ _

theorem vp_lt {d : Nat → Nat} : ∀ {k : Nat}, (∀ j, j < k → d j < 4294967296) → vp d k < 4294967296 ^ k
  | 0, _ => by simp [vp]
  | k + 1, h => by
    have h1 := vp_lt (k := k) (fun j hj => h j (by omega))
    have h2 : d k ≤ 4294967295 := by have := h k (by omega); omega
    have h3 := Nat.mul_le_mul_right (4294967296 ^ k) h2
    rw [bsucc]
    unfold vp
    omega
theorem vp_congr {a b : Nat → Nat} : ∀ {k : Nat}, (∀ j, j < k → a j = b j) → vp a k = vp b k
  | 0, _ => rfl
  | k + 1, h => by
    unfold vp
    rw [vp_congr (k := k) (fun j hj => h j (by omega)), h k (by omega)]
theorem vp_tail {d : Nat → Nat} {n : Nat} (h : ∀ j, n ≤ j → d j = 0) : ∀ k, n ≤ k → vp d k = vp d n
  | 0, hk => by have : n = 0 := by omega
                subst this; rfl
  | k + 1, hk => by
    by_cases e : n = k + 1
    · rw [e]
    · rw [show vp d (k + 1) = vp d k + d k * 4294967296 ^ k from rfl, h k (by omega), vp_tail h k (by omega)]
      simp
theorem vp_le {d : Nat → Nat} : ∀ {i k : Nat}, i ≤ k → vp d i ≤ vp d k
  | i, 0, h => by have : i = 0 := by omega
                  subst this; exact Nat.le_refl _
  | i, k + 1, h => by
    by_cases e : i = k + 1
    · rw [e]; exact Nat.le_refl _
    · exact Nat.le_trans (vp_le (show i ≤ k by omega)) (by show vp d k ≤ vp d k + _; omega)
/-- A row whose last digit is no nought is worth at least that place. -/
theorem vp_ge {d : Nat → Nat} {n : Nat} (h : d n ≠ 0) : 4294967296 ^ n ≤ vp d (n + 1) := by
  unfold vp
  have := Nat.mul_le_mul_right (4294967296 ^ n) (show 1 ≤ d n by omega)
  omega
theorem vp_mod {d : Nat → Nat} {k : Nat} (h : ∀ j, j < k → d j < 4294967296) (x : Nat) : (vp d k + x * 4294967296 ^ k) % 4294967296 ^ k = vp d k ∧ (vp d k + x * 4294967296 ^ k) / 4294967296 ^ k = x := by
  have h1 := vp_lt h
  have h2 := bpos k
  constructor
  · rw [Nat.add_mul_mod_self_right, Nat.mod_eq_of_lt h1]
  · rw [Nat.add_mul_div_right _ _ h2, Nat.div_eq_of_lt h1, Nat.zero_add]
/-- Two rows of digits that are worth the same are the same. -/
theorem vp_inj {a b : Nat → Nat} : ∀ {k : Nat}, (∀ j, j < k → a j < 4294967296) → (∀ j, j < k → b j < 4294967296) → vp a k = vp b k → ∀ j, j < k → a j = b j
  | 0, _, _, _ => fun j hj => by omega
  | k + 1, ha, hb, e => fun j hj => by
    unfold vp at e
    obtain ⟨p1, p2⟩ := vp_mod (k := k) (fun j hj => ha j (by omega)) (a k)
    obtain ⟨q1, q2⟩ := vp_mod (k := k) (fun j hj => hb j (by omega)) (b k)
    rw [e] at p1 p2
    by_cases hjk : j = k
    · subst hjk; rw [← p2, q2]
    · exact vp_inj (k := k) (fun j hj => ha j (by omega)) (fun j hj => hb j (by omega)) (by rw [← p1, q1]) j (by omega)
/-- The highest place at which two rows part tells which is less. -/
theorem vp_part {a b : Nat → Nat} {i : Nat} (ha : ∀ j, j ≤ i → a j < 4294967296) (h : a i < b i) : ∀ {n : Nat}, i < n → (∀ j, i < j → j < n → a j = b j) → vp a n < vp b n
  | 0, hn, _ => by omega
  | n + 1, hn, e => by
    by_cases hin : i = n
    · subst hin
      have h1 := vp_lt (k := i) (fun j hj => ha j (by omega))
      have h2 := Nat.mul_le_mul_right (4294967296 ^ i) (show a i + 1 ≤ b i by omega)
      rw [Nat.add_mul, Nat.one_mul] at h2
      unfold vp
      omega
    · have := vp_part ha h (n := n) (by omega) (fun j h1 h2 => e j h1 (by omega))
      unfold vp
      rw [e n (by omega) (by omega)]
      omega
/-- A row of digits: below the base, noughts from n on, the last one none. -/
structure Dg (n : Nat) (d : Nat → Nat) : Prop where
  lt : ∀ j, d j < 4294967296
  out : ∀ j, n ≤ j → d j = 0
  last : 0 < n → d (n - 1) ≠ 0
theorem Dg.ub {n : Nat} {d : Nat → Nat} (h : Dg n d) : vp d n < 4294967296 ^ n := vp_lt (fun j _ => h.lt j)
theorem Dg.lb {n : Nat} {d : Nat → Nat} (h : Dg n d) (hn : 0 < n) : 4294967296 ^ (n - 1) ≤ vp d n := by
  have := vp_ge (h.last hn)
  rwa [show n - 1 + 1 = n by omega] at this
theorem Dg.zero {n : Nat} {d : Nat → Nat} (h : Dg n d) : n = 0 ↔ vp d n = 0 := by
  constructor
  · intro e; subst e; rfl
  · intro e
    by_cases hn : 0 < n
    · have h1 := h.lb hn
      have h2 := bpos (n - 1)
      omega
    · omega
theorem Dg.shorter {n m : Nat} {a b : Nat → Nat} (ha : Dg n a) (hb : Dg m b) (h : n < m) : vp a n < vp b m := by
  have h1 := ha.ub
  have h2 := hb.lb (by omega)
  have h3 := ble (show n ≤ m - 1 by omega)
  omega
theorem Dg.inj {n m : Nat} {a b : Nat → Nat} (ha : Dg n a) (hb : Dg m b) (e : vp a n = vp b m) : n = m ∧ ∀ j, a j = b j := by
  have hnm : n = m := by
    rcases Nat.lt_trichotomy n m with h | h | h
    · have := ha.shorter hb h; omega
    · exact h
    · have := hb.shorter ha h; omega
  subst hnm
  refine ⟨rfl, fun j => ?_⟩
  by_cases hj : j < n
  · exact vp_inj (fun j _ => ha.lt j) (fun j _ => hb.lt j) e j hj
  · rw [ha.out j (by omega), hb.out j (by omega)]
/-- The digits of a number. -/
theorem vp_shift (d : Nat → Nat) : ∀ k, vp d (k + 1) = d 0 + 4294967296 * vp (fun j => d (j + 1)) k
  | 0 => by simp [vp]
  | k + 1 => by
    rw [show vp d (k + 1 + 1) = vp d (k + 1) + d (k + 1) * 4294967296 ^ (k + 1) from rfl, vp_shift d k]
    rw [show vp (fun j => d (j + 1)) (k + 1) = vp (fun j => d (j + 1)) k + d (k + 1) * 4294967296 ^ k from rfl, bsucc]
    rw [Nat.mul_add, Nat.mul_left_comm, Nat.add_assoc]
theorem vp_split (d : Nat → Nat) (s : Nat) : ∀ k, vp d (s + k) = vp d s + 4294967296 ^ s * vp (fun j => d (s + j)) k
  | 0 => by simp [vp]
  | k + 1 => by
    rw [show s + (k + 1) = (s + k) + 1 from rfl]
    rw [show vp d (s + k + 1) = vp d (s + k) + d (s + k) * 4294967296 ^ (s + k) from rfl, vp_split d s k]
    rw [show vp (fun j => d (s + j)) (k + 1) = vp (fun j => d (s + j)) k + d (s + k) * 4294967296 ^ k from rfl, badd]
    rw [Nat.mul_add, Nat.mul_left_comm, Nat.add_assoc]
end Go.Proofs.Ytlajalfdcfkmpaa
