/- The numbers that a stream saves, as they are read again. -/
import Derived.Test.YtnfgdhnoidpncaaSpl
import Derived.Test.YtnfgdhnoidpncaaSsv
namespace Go.Proofs.Ytnfgdhnoidpncaa
open Go.RowKit

theorem cb_lf (b : Nat) (hb : b < 18446744073709551616) : cbits (lf b) < 18446744073709551616 ∧ lf (cbits (lf b)) = lf b ∧ (isnan (cbits (lf b)) = true → cbits (lf b) = 9221120237041090561) := by
  have hq : isnan 9221120237041090561 = true := by decide
  unfold lf
  cases h : isnan b
  · simp [cbits, h, hb]
  · simp [cbits, hq]
theorem cb_fin (b : Nat) (h : cls b < 3) : cbits (lf b) = b := by
  have hn : isnan b = false := by
    cases hx : isnan b
    · rfl
    · have := (cls_rg b).1.2 (by simpa [isnan] using hx)
      omega
  unfold lf
  simp [hn, cbits]
def secC (s : Sec) (i : Nat) : C2 := if i = 0 then s.b0 else if i = 1 then s.b1 else if i = 2 then s.b2 else if i = 3 then s.a1 else s.a2
structure Words (n : Nat) (G : C2) (sec : Nat → Sec) (st : Nat → C2 × C2) (t c : Nat) (X : Nat → Nat) : Prop where
  gain : FinV (.complex .f64 (X 0) (X 1)) ∧ CIs (.complex .f64 (X 0) (X 1)) G
  sect : ∀ k, k < n → ∀ i, i < 5 → FinV (.complex .f64 (X (2 + 10 * k + 2 * i)) (X (2 + 10 * k + 2 * i + 1))) ∧ CIs (.complex .f64 (X (2 + 10 * k + 2 * i)) (X (2 + 10 * k + 2 * i + 1))) (secC (sec k) i)
  at_ : X (2 + 10 * n) = t
  chg : X (3 + 10 * n) = c
  stat : ∀ k, k < n → CIs (.complex .f64 (X (4 + 10 * n + 4 * k)) (X (4 + 10 * n + 4 * k + 1))) (st k).1 ∧ CIs (.complex .f64 (X (4 + 10 * n + 4 * k + 2)) (X (4 + 10 * n + 4 * k + 3))) (st k).2
  small : ∀ j, j < 4 + 14 * n → X j < 18446744073709551616
  nan : ∀ j, j < 4 * n → isnan (X (4 + 10 * n + j)) = true → X (4 + 10 * n + j) = 9221120237041090561
theorem cb_pair {r i : Nat} {z : C2} (h : CIs (.complex .f64 r i) z) : CIs (.complex .f64 (cbits z.1) (cbits z.2)) z := by
  obtain ⟨h1, h2, h3, h4⟩ := h.dest
  rw [← h3, ← h4]
  exact ⟨_, _, rfl, (cb_lf r h1).1, (cb_lf i h2).1, by rw [(cb_lf r h1).2.1, h3], by rw [(cb_lf i h2).2.1, h4]⟩
theorem cb_finp {r i : Nat} {z : C2} (h : CIs (.complex .f64 r i) z) (hf : FinV (.complex .f64 r i)) : FinV (.complex .f64 (cbits z.1) (cbits z.2)) := by
  obtain ⟨h1, h2, h3, h4⟩ := h.dest
  obtain ⟨r', i', e, g1, g2, g3⟩ := hf
  injection e with _ e1 e2
  subst e1; subst e2
  rw [← h3, ← h4, cb_fin r (by omega), cb_fin i (by omega)]
  exact ⟨_, _, rfl, g1, g2, g3⟩
theorem secP_pair (s : Sec) (i : Nat) (hi : i < 5) : secP s (2 * i) = (secC s i).1 ∧ secP s (2 * i + 1) = (secC s i).2 := by
  rcases (by omega : i = 0 ∨ i = 1 ∨ i = 2 ∨ i = 3 ∨ i = 4) with rfl | rfl | rfl | rfl | rfl <;> exact ⟨rfl, rfl⟩
theorem words_of {w : World} {O : Nat → Prop} {B A n cA gr gi : Nat} {sv : Value} {G : C2} {sec : Nat → Sec} {g : Gu} {st : Nat → C2 × C2} {t c : Nat} (h : SA w O B A n cA gr gi sv G sec g st t c) : Words n G sec st t c (svN n G sec st t c) := by
  have hsec : ∀ k, k < n → ∀ i, i < 5 → ∃ r j, FinV (.complex .f64 r j) ∧ CIs (.complex .f64 r j) (secC (sec k) i) := fun k hk i hi => by
    obtain ⟨ad, cc, _, hs⟩ := h.secs
    obtain ⟨b, u0, u1, u2, u3, u4, _, _, _, f0, f1, f2, f3, f4, g0, g1, g2, g3, g4⟩ := hs k hk
    rcases (by omega : i = 0 ∨ i = 1 ∨ i = 2 ∨ i = 3 ∨ i = 4) with rfl | rfl | rfl | rfl | rfl
    · obtain ⟨r, j, rfl, _⟩ := id g0; exact ⟨r, j, f0, g0⟩
    · obtain ⟨r, j, rfl, _⟩ := id g1; exact ⟨r, j, f1, g1⟩
    · obtain ⟨r, j, rfl, _⟩ := id g2; exact ⟨r, j, f2, g2⟩
    · obtain ⟨r, j, rfl, _⟩ := id g3; exact ⟨r, j, f3, g3⟩
    · obtain ⟨r, j, rfl, _⟩ := id g4; exact ⟨r, j, f4, g4⟩
  have hst : ∀ k, k < n → ∃ r j r' j', CIs (.complex .f64 r j) (st k).1 ∧ CIs (.complex .f64 r' j') (st k).2 := fun k hk => by
    obtain ⟨p, q, _, h1, h2⟩ := h.row k hk
    obtain ⟨r, j, rfl, _⟩ := id h1
    obtain ⟨r', j', rfl, _⟩ := id h2
    exact ⟨r, j, r', j', h1, h2⟩
  have hstP : ∀ k r, k < n → r < 4 → ∃ b, b < 18446744073709551616 ∧ stP (st k) r = lf b := fun k r hk hr => by
    obtain ⟨a, b, c', d, h1, h2⟩ := hst k hk
    obtain ⟨a1, a2, a3, a4⟩ := h1.dest
    obtain ⟨b1, b2, b3, b4⟩ := h2.dest
    rcases (by omega : r = 0 ∨ r = 1 ∨ r = 2 ∨ r = 3) with rfl | rfl | rfl | rfl
    · exact ⟨a, a1, a3.symm⟩
    · exact ⟨b, a2, a4.symm⟩
    · exact ⟨c', b1, b3.symm⟩
    · exact ⟨d, b2, b4.symm⟩
  have hsx : ∀ k, k < n → ∀ i, i < 5 → svN n G sec st t c (2 + 10 * k + 2 * i) = cbits (secC (sec k) i).1 ∧ svN n G sec st t c (2 + 10 * k + 2 * i + 1) = cbits (secC (sec k) i).2 := fun k hk i hi => by
    rw [svN_sec _ _ _ _ _ _ _ _ hk (by omega), Nat.add_assoc (2 + 10 * k), svN_sec _ _ _ _ _ _ _ _ hk (by omega), (secP_pair _ i hi).1, (secP_pair _ i hi).2]
    exact ⟨rfl, rfl⟩
  have htx : ∀ k r, k < n → r < 4 → svN n G sec st t c (4 + 10 * n + (4 * k + r)) = cbits (stP (st k) r) := fun k r hk hr => by rw [← Nat.add_assoc]; exact svN_st _ _ _ _ _ _ _ _ hr
  refine ⟨⟨cb_finp h.gain h.fin, cb_pair h.gain⟩, fun k hk i hi => ?_, svN_t _ _ _ _ _ _, svN_c _ _ _ _ _ _, fun k hk => ?_, fun j hj => ?_, fun j hj => ?_⟩
  · rw [(hsx k hk i hi).1, (hsx k hk i hi).2]
    obtain ⟨r, j, h1, h2⟩ := hsec k hk i hi
    exact ⟨cb_finp h2 h1, cb_pair h2⟩
  · obtain ⟨a, b, c', d, h1, h2⟩ := hst k hk
    have e0 := htx k 0 hk (by omega)
    have e1 := htx k 1 hk (by omega)
    have e2 := htx k 2 hk (by omega)
    have e3 := htx k 3 hk (by omega)
    simp only [← Nat.add_assoc, Nat.add_zero] at e0 e1 e2 e3
    rw [e0, e1, e2, e3]
    exact ⟨cb_pair h1, cb_pair h2⟩
  · by_cases h0 : j < 2
    · obtain ⟨h1, h2, h3, h4⟩ := (cb_pair h.gain).dest
      rcases (by omega : j = 0 ∨ j = 1) with rfl | rfl
      · exact h1
      · exact h2
    · by_cases h10 : j < 2 + 10 * n
      · obtain ⟨r, i, _, h2⟩ := hsec ((j - 2) / 10) (by omega) ((j - 2) % 10 / 2) (by omega)
        obtain ⟨e1, e2⟩ := hsx ((j - 2) / 10) (by omega) ((j - 2) % 10 / 2) (by omega)
        obtain ⟨k1, k2, _, _⟩ := (cb_pair h2).dest
        by_cases hp : (j - 2) % 10 % 2 = 0
        · rw [show j = 2 + 10 * ((j - 2) / 10) + 2 * ((j - 2) % 10 / 2) by omega, e1]; exact k1
        · rw [show j = 2 + 10 * ((j - 2) / 10) + 2 * ((j - 2) % 10 / 2) + 1 by omega, e2]; exact k2
      · by_cases ht : j = 2 + 10 * n
        · rw [ht, svN_t]; have := h.tle; omega
        · by_cases hc : j = 3 + 10 * n
          · rw [hc, svN_c]; have := h.cle; omega
          · obtain ⟨b, hb, e⟩ := hstP ((j - (4 + 10 * n)) / 4) ((j - (4 + 10 * n)) % 4) (by omega) (by omega)
            rw [show j = 4 + 10 * n + (4 * ((j - (4 + 10 * n)) / 4) + (j - (4 + 10 * n)) % 4) by omega, htx _ _ (by omega) (by omega), e]
            exact (cb_lf b hb).1
  · obtain ⟨b, hb, e⟩ := hstP (j / 4) (j % 4) (by omega) (by omega)
    rw [show j = 4 * (j / 4) + j % 4 by omega, htx _ _ (by omega) (by omega), e]
    exact (cb_lf b hb).2.2
end Go.Proofs.Ytnfgdhnoidpncaa
