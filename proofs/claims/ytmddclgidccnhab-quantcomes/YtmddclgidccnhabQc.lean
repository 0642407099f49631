/- States one behind the other, and when they come again: as mathematics. -/
import Derived.Test.YtmddclgidccnhabNum
namespace Go.Proofs.Ytmddclgidccnhab

/-- The states behind s, when each is followed by g of it. -/
def orb {α : Type} (g : α → α) (s : α) : Nat → α
  | 0 => s
  | n + 1 => g (orb g s n)

theorem orb_shift {α : Type} (g : α → α) (s : α) (m n : Nat) : orb g s (m + n) = orb g (orb g s m) n := by
  induction n with
  | zero => rfl
  | succ n ih => exact congrArg g ih

theorem orb_eq {α : Type} {g : α → α} {s : α} {i j : Nat} (h : orb g s i = orb g s j) (n : Nat) : orb g s (i + n) = orb g s (j + n) := by
  rw [orb_shift, orb_shift, h]

theorem orb_back {α : Type} {g : α → α} {s : α} {p b : Nat} (h : orb g s (p + b) = orb g s p) (q : Nat) (hq : p ≤ q) : orb g s (q + b) = orb g s q := by
  obtain ⟨n, rfl⟩ : ∃ n, q = p + n := ⟨q - p, by omega⟩
  rw [show p + n + b = p + b + n by omega]
  exact orb_eq h n

theorem orb_round {α : Type} {g : α → α} {s : α} {p b : Nat} (h : orb g s (p + b) = orb g s p) (q m : Nat) (hq : p ≤ q) : orb g s (q + m * b) = orb g s q := by
  induction m with
  | zero => simp
  | succ m ih =>
    rw [show q + (m + 1) * b = q + m * b + b by rw [Nat.succ_mul, Nat.add_assoc]]
    rw [orb_back h _ (by omega), ih]

/-- All states ahead of the one that comes again, and round its cycle, are unlike. -/
theorem orb_unlike {α : Type} {g : α → α} {s : α} {p a b : Nat} (hb : 0 < b) (h1 : orb g s (p + b) = orb g s p) (h2 : ∀ c, 0 < c → c < b → orb g s (p + c) ≠ orb g s p)
    (h4 : ∀ i, i < a → orb g s (i + b) ≠ orb g s i) (i j : Nat) (hij : i < j) (hj : j < a + b) : orb g s i ≠ orb g s j := by
  intro h
  obtain ⟨d, rfl⟩ : ∃ d, j = i + d := ⟨j - i, by omega⟩
  -- the way d leads round the cycle too
  have hd : orb g s (p + d) = orb g s p := by
    have e1 := orb_back (g := g) (s := s) (p := i) (b := d) h.symm (p + i * b) (by have := Nat.le_mul_of_pos_right i hb; omega)
    rw [show p + i * b + d = p + d + i * b by omega, orb_round h1 (p + d) i (by omega), orb_round h1 p i (by omega)] at e1
    exact e1
  have hm : d % b = 0 := by
    refine Classical.byContradiction fun hne => ?_
    refine h2 (d % b) (by omega) (Nat.mod_lt _ hb) ?_
    have e2 := orb_round h1 (p + d % b) (d / b) (by omega)
    rw [show p + d % b + d / b * b = p + d by have := Nat.mod_add_div d b; rw [Nat.mul_comm] at this; omega] at e2
    rw [← e2, hd]
  have hdb : b ≤ d := Nat.le_of_dvd (by omega) (Nat.dvd_of_mod_eq_zero hm)
  refine h4 i (by omega) ?_
  -- far round, i stands in the cycle
  have e3 := orb_round (g := g) (s := s) (p := i) (b := d) h.symm i (p + 1) (by omega)
  have e4 := orb_eq e3 b
  have hle : p ≤ i + (p + 1) * d := by
    have := Nat.le_mul_of_pos_right (p + 1) (show 0 < d by omega)
    omega
  rw [orb_back h1 _ hle, e3] at e4
  exact e4.symm

end Go.Proofs.Ytmddclgidccnhab
