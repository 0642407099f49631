/- Plain facts on the document's own road to the nearest float: halving bit by bit. -/
import Derived.Test.YtdifckiemmldoabJoinNum
namespace Go.Proofs.Ytdifckiemmldoab
open Go.RowKit

theorem bitLen_zero : Lib.bitLen 0 = 0 := by decide

theorem kept_ge (m : Nat) (e : Int) (hm : m < 18446744073709551616) (h0 : m ≠ 0) (hs : stepOf m e = e + (Lib.bitLen m : Int) - 53) : 4503599627370496 ≤ kept m e := by
  obtain ⟨_, b2⟩ := bitLen_bounds m hm
  obtain ⟨b3, b4⟩ := b2 h0
  unfold kept
  rw [hs]
  split
  · rename_i h
    have h1 : 2 ^ (Lib.bitLen m - 1) * 2 ^ (e - (e + (Lib.bitLen m : Int) - 53)).toNat ≤ m * 2 ^ (e - (e + (Lib.bitLen m : Int) - 53)).toNat := Nat.mul_le_mul_right _ b3
    rw [← Nat.pow_add, show Lib.bitLen m - 1 + (e - (e + (Lib.bitLen m : Int) - 53)).toNat = 52 by omega] at h1
    exact h1
  · rename_i h
    have h1 : 2 ^ 52 ≤ m / 2 ^ (e + (Lib.bitLen m : Int) - 53 - e).toNat := by
      rw [Nat.le_div_iff_mul_le (Nat.two_pow_pos _), ← Nat.pow_add, show 52 + (e + (Lib.bitLen m : Int) - 53 - e).toNat = Lib.bitLen m - 1 by omega]
      exact b3
    unfold rne
    omega

/-- The nearest float's bits as the document's own function has them, out of the number that is kept. -/
theorem near_ref (m : Nat) (e : Int) (hm : m < 18446744073709551616) (h0 : m ≠ 0) (he : -1200 ≤ e) (_he' : e ≤ 1100) :
    (kept m e < 4503599627370496 → joinRung m e = kept m e) ∧
    (4503599627370496 ≤ kept m e → (kept m e : Int) - 4503599627370496 + (stepOf m e + 1075) * 4503599627370496 ≤ 9218868437227405312 → (joinRung m e : Int) = (kept m e : Int) - 4503599627370496 + (stepOf m e + 1075) * 4503599627370496) ∧
    (4503599627370496 ≤ kept m e → 9218868437227405312 < (kept m e : Int) - 4503599627370496 + (stepOf m e + 1075) * 4503599627370496 → joinRung m e = 9218868437227405312) := by
  have hL := bitLen_le64 m hm
  have hL1 := ((bitLen_bounds m hm).2 h0).2
  have hs := step_ge m e
  have hk := kept_le m e hm
  by_cases h1 : e < -1139
  · have hst : stepOf m e = -1074 := by unfold stepOf; omega
    have hz : kept m e = 0 := by
      unfold kept
      rw [if_neg (by omega)]
      exact rne_far m _ hm (by omega)
    have hj : joinRung m e = 0 := by unfold joinRung; rw [if_pos (Or.inr h1)]
    rw [hz, hj]
    refine ⟨fun _ => rfl, fun h => by omega, fun h => by omega⟩
  · by_cases h2 : 1023 < e
    · have hst : stepOf m e = e + (Lib.bitLen m : Int) - 53 := by unfold stepOf; omega
      have hg := kept_ge m e hm h0 hst
      have hj : joinRung m e = 9218868437227405312 := by unfold joinRung; rw [if_neg (by omega), if_pos h2]
      rw [hj, hst]
      refine ⟨fun h => by omega, fun _ h => by omega, fun _ _ => rfl⟩
    · have hj : joinRung m e = min ((stepOf m e + 1074).toNat * 4503599627370496 + kept m e) 9218868437227405312 := by
        unfold joinRung; rw [if_neg (by omega), if_neg h2]
      have hst : stepOf m e = -1074 ∨ stepOf m e = e + (Lib.bitLen m : Int) - 53 := by unfold stepOf; omega
      have hg : kept m e < 4503599627370496 → stepOf m e = -1074 := by
        intro h
        rcases hst with h' | h'
        · exact h'
        · have := kept_ge m e hm h0 h'; omega
      rw [hj]
      generalize kept m e = K at *
      generalize stepOf m e = S at *
      refine ⟨fun h => ?_, fun h h' => by omega, fun h h' => by omega⟩
      have := hg h
      omega

/-- What the loop holds after j halvings. -/
def St (m j : Nat) (n r : Int) (h : Bool) : Prop :=
  n = ((m / 2 ^ j : Nat) : Int) ∧ (r = 0 ∨ r = 1) ∧ ((h = true ∨ r = 1) ↔ m % 2 ^ j ≠ 0) ∧ (1 ≤ j → r = ((m / 2 ^ (j - 1) % 2 : Nat) : Int) ∧ (h = true ↔ m % 2 ^ (j - 1) ≠ 0))

theorem St.start (m : Nat) : St m 0 (m : Int) 0 false := by
  refine ⟨by simp, Or.inl rfl, ?_, by omega⟩
  simp [Nat.mod_one]

theorem low_succ (m j : Nat) : m % 2 ^ (j + 1) = m / 2 ^ j % 2 * 2 ^ j + m % 2 ^ j := by
  rw [Nat.pow_succ, Nat.mod_mul, Nat.mul_comm (2 ^ j) (m / 2 ^ j % 2), Nat.add_comm]

theorem St.succ {m j : Nat} {n r : Int} {h : Bool} (s : St m j n r h) : St m (j + 1) (n / 2) (n % 2) (h || (r == 1)) := by
  obtain ⟨s1, s2, s3, s4⟩ := s
  have hl := low_succ m j
  have hp := Nat.two_pow_pos j
  have ho : (h || (r == 1)) = true ↔ m % 2 ^ j ≠ 0 := by
    rw [← s3]; simp
  refine ⟨?_, by omega, ?_, fun _ => ⟨?_, ?_⟩⟩
  · rw [s1, Nat.pow_succ, ← Nat.div_div_eq_div_mul]; omega
  · rw [ho, hl, s1]
    generalize m / 2 ^ j = q at *
    generalize m % 2 ^ j = l at *
    generalize 2 ^ j = p at *
    have hq : q % 2 = 0 ∨ q % 2 = 1 := by omega
    constructor
    · rintro (g | g)
      · omega
      · have : q % 2 = 1 := by omega
        rw [this]; omega
    · intro g
      rcases hq with hq | hq
      · left; rw [hq] at g; omega
      · right; omega
  · rw [s1, Nat.add_sub_cancel]; omega
  · rw [ho, Nat.add_sub_cancel]

/-- Where the loop ends: what is kept. -/
theorem St.kept {m k : Nat} {n r : Int} {h : Bool} (s : St m k n r h) (hk : 1 ≤ k) :
    (rne m k : Int) = if r = 1 ∧ (h = true ∨ n % 2 = 1) then n + 1 else n := by
  obtain ⟨s1, s2, s3, s4⟩ := s
  obtain ⟨t1, t2⟩ := s4 hk
  obtain ⟨j, rfl⟩ : ∃ j, k = j + 1 := ⟨k - 1, by omega⟩
  rw [Nat.add_sub_cancel] at t1 t2
  have hl := low_succ m j
  have hp := Nat.two_pow_pos j
  have hlt : m % 2 ^ j < 2 ^ j := Nat.mod_lt _ hp
  have hd : m / 2 ^ (j + 1) = m / 2 ^ j / 2 := by rw [Nat.pow_succ, ← Nat.div_div_eq_div_mul]
  unfold rne
  rw [hl, hd, s1, hd, Nat.pow_succ]
  generalize m / 2 ^ j = q at *
  generalize m % 2 ^ j = l at *
  generalize 2 ^ j = p at *
  rcases (by omega : q % 2 = 0 ∨ q % 2 = 1) with hq | hq
  · rw [hq] at t1 ⊢
    rw [if_neg (by rintro (g | ⟨g, _⟩) <;> omega), if_neg (by rintro ⟨g, _⟩; omega)]; omega
  · rw [hq] at t1 ⊢
    by_cases c : l ≠ 0 ∨ q / 2 % 2 = 1
    · rw [if_pos (by rcases c with c | c <;> omega), if_pos ⟨by omega, by
        rcases c with c | c
        · exact Or.inl (t2.2 c)
        · exact Or.inr (by omega)⟩]
      omega
    · rw [if_neg (by rintro (g | ⟨g, _⟩) <;> omega), if_neg (by
        rintro ⟨_, g | g⟩
        · have := t2.1 g; omega
        · omega)]
      omega

end Go.Proofs.Ytdifckiemmldoab
