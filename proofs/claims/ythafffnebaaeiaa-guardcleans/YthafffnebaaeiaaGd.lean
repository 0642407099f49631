/- Guards, NaNs as one: what cleaning makes of a part and of a number, and the steps of a guarded filter as a fold. (Laid ahead of layer 19's landing, from the document alone.) -/
import Derived.Test.YthafffnebaaeiaaCrun
namespace Go.Proofs.Ythafffnebaaeiaa

/-- A guard's flags. -/
structure Gu where
  flush : Bool
  clip : Bool
  mute : Bool
def gNone : Gu := ⟨false, false, false⟩
def gAll : Gu := ⟨true, true, true⟩
/-- The nought of the sign of b. -/
def sgb (b : Nat) : Nat := if ng b then 9223372036854775808 else 0
/-- A part as the guard leaves it, and whether it was changed. -/
def cl1 (g : Gu) : Option Nat → Option Nat × Nat
  | none => if g.mute then (some 0, 1) else (none, 0)
  | some b =>
    if rg b = 9218868437227405312 then (if g.clip then (some (sgb b + 9218868437227405311), 1) else (some b, 0))
    else if 0 < rg b ∧ rg b < 4503599627370496 then (if g.flush then (some (sgb b), 1) else (some b, 0))
    else (some b, 0)
def cl2 (g : Gu) (z : C2) : C2 × Nat := (((cl1 g z.1).1, (cl1 g z.2).1), (cl1 g z.1).2 + (cl1 g z.2).2)

theorem rg_sgb (b : Nat) : rg (sgb b) = 0 := by unfold sgb; split <;> decide
theorem rg_top (b : Nat) : rg (sgb b + 9218868437227405311) = 9218868437227405311 := by unfold sgb; split <;> decide
theorem sgb_lt (b : Nat) : sgb b + 9218868437227405311 < 18446744073709551616 ∧ sgb b < 18446744073709551616 := by unfold sgb; split <;> omega
theorem cl1_plain (g : Gu) {b : Nat} (h : rg b ≠ 9218868437227405312) (h' : ¬ (0 < rg b ∧ rg b < 4503599627370496)) : cl1 g (some b) = (some b, 0) := by simp [cl1, h, h']
theorem cl1_idem (g : Gu) (x : Option Nat) : cl1 g (cl1 g x).1 = ((cl1 g x).1, 0) := by
  cases x with
  | none =>
    cases hm : g.mute with
    | true => simp only [cl1, hm, if_true]; exact cl1_plain g (b := 0) (by decide) (by decide)
    | false => simp [cl1, hm]
  | some b =>
    by_cases h1 : rg b = 9218868437227405312
    · cases hc : g.clip with
      | true =>
        have e : cl1 g (some b) = (some (sgb b + 9218868437227405311), 1) := by simp [cl1, h1, hc]
        rw [e]
        exact cl1_plain g (by rw [rg_top]; omega) (by rw [rg_top]; omega)
      | false =>
        have e : cl1 g (some b) = (some b, 0) := by simp [cl1, h1, hc]
        rw [e]; exact e
    · by_cases h2 : 0 < rg b ∧ rg b < 4503599627370496
      · cases hc : g.flush with
        | true =>
          have e : cl1 g (some b) = (some (sgb b), 1) := by simp [cl1, h1, h2, hc]
          rw [e]
          exact cl1_plain g (by rw [rg_sgb]; omega) (by rw [rg_sgb]; omega)
        | false =>
          have e : cl1 g (some b) = (some b, 0) := by simp [cl1, h1, h2, hc]
          rw [e]; exact e
      · have e := cl1_plain g h1 h2
        rw [e]; exact e
theorem cl2_idem (g : Gu) (z : C2) : cl2 g (cl2 g z).1 = ((cl2 g z).1, 0) := by simp [cl2, cl1_idem]
theorem cl1_count (g : Gu) (x : Option Nat) : (cl1 g x).2 ≤ 1 ∧ ((cl1 g x).2 = 0 → (cl1 g x).1 = x) := by
  cases x with
  | none => cases hm : g.mute <;> simp [cl1, hm]
  | some b =>
    by_cases h1 : rg b = 9218868437227405312
    · cases hc : g.clip <;> simp [cl1, h1, hc]
    · by_cases h2 : 0 < rg b ∧ rg b < 4503599627370496
      · cases hc : g.flush <;> simp [cl1, h1, h2, hc]
      · simp [cl1_plain g h1 h2]
theorem cl2_count (g : Gu) (z : C2) : (cl2 g z).2 ≤ 2 ∧ ((cl2 g z).2 = 0 → (cl2 g z).1 = z) := by
  have h1 := cl1_count g z.1
  have h2 := cl1_count g z.2
  refine ⟨by simp only [cl2]; omega, fun h => ?_⟩
  simp only [cl2] at h ⊢
  rw [h1.2 (by omega), h2.2 (by omega)]
theorem cl1_none (x : Option Nat) : cl1 gNone x = (x, 0) := by
  cases x with
  | none => rfl
  | some b => simp [cl1, gNone]
theorem cl2_none (z : C2) : cl2 gNone z = (z, 0) := by simp [cl2, cl1_none]

/-- Bits of a float64 that is no NaN, or a NaN. -/
def Ok1 (x : Option Nat) : Prop := ∀ b, x = some b → b < 18446744073709551616 ∧ isnan b = false
def Ok2 (z : C2) : Prop := Ok1 z.1 ∧ Ok1 z.2
/-- A nought or a normal number. -/
def Calm1 (x : Option Nat) : Prop := ∃ b, x = some b ∧ b < 18446744073709551616 ∧ (rg b = 0 ∨ 4503599627370496 ≤ rg b ∧ rg b < 9218868437227405312)
def Calm2 (z : C2) : Prop := Calm1 z.1 ∧ Calm1 z.2
theorem cl1_all {x : Option Nat} (h : Ok1 x) : Calm1 (cl1 gAll x).1 := by
  cases x with
  | none => exact ⟨0, rfl, by omega, .inl (by decide)⟩
  | some b =>
    obtain ⟨hb, hn⟩ := h b rfl
    have hn' : rg b ≤ 9218868437227405312 := by
      unfold isnan at hn
      have := of_decide_eq_false hn
      omega
    by_cases h1 : rg b = 9218868437227405312
    · have e : cl1 gAll (some b) = (some (sgb b + 9218868437227405311), 1) := by simp [cl1, h1, gAll]
      rw [e]
      exact ⟨_, rfl, (sgb_lt b).1, .inr (by rw [rg_top]; omega)⟩
    · by_cases h2 : 0 < rg b ∧ rg b < 4503599627370496
      · have e : cl1 gAll (some b) = (some (sgb b), 1) := by simp [cl1, h1, h2, gAll]
        rw [e]
        exact ⟨_, rfl, (sgb_lt b).2, .inl (rg_sgb b)⟩
      · rw [cl1_plain gAll h1 h2]
        exact ⟨b, rfl, hb, by omega⟩
theorem cl2_all {z : C2} (h : Ok2 z) : Calm2 (cl2 gAll z).1 := ⟨cl1_all h.1, cl1_all h.2⟩
theorem fop_ok (op : BinOp) (hop : op = .add ∨ op = .sub ∨ op = .mul) (x y : Option Nat) : Ok1 (fop op x y) := by
  intro b hb
  unfold fop at hb
  obtain ⟨p, _, h1⟩ := Option.bind_eq_some_iff.1 hb
  obtain ⟨q, _, h2⟩ := Option.bind_eq_some_iff.1 h1
  exact ⟨bound_f b (floatBits_wf h2), bits_kind op hop p q b h2⟩
theorem cadd_ok (a b : C2) : Ok2 (cadd a b) := ⟨fop_ok .add (.inl rfl) _ _, fop_ok .add (.inl rfl) _ _⟩
theorem csub_ok (a b : C2) : Ok2 (csub a b) := ⟨fop_ok .sub (.inr (.inl rfl)) _ _, fop_ok .sub (.inr (.inl rfl)) _ _⟩

/-! The steps. -/
/-- The number behind k sections, cleaned. -/
def wY (g : Gu) (sec : Nat → Sec) (st : Nat → C2 × C2) (x : C2) : Nat → C2
  | 0 => x
  | k + 1 => (cl2 g (rY (sec k) (st k).1 (wY g sec st x k))).1
/-- Section k's answer ahead of cleaning. -/
def wRaw (g : Gu) (sec : Nat → Sec) (st : Nat → C2 × C2) (x : C2) (k : Nat) : C2 := rY (sec k) (st k).1 (wY g sec st x k)
def wS1 (g : Gu) (sec : Nat → Sec) (st : Nat → C2 × C2) (x : C2) (k : Nat) : C2 := rS1 (sec k) (st k).2 (wY g sec st x k) (wRaw g sec st x k)
def wS2 (g : Gu) (sec : Nat → Sec) (st : Nat → C2 × C2) (x : C2) (k : Nat) : C2 := rS2 (sec k) (wY g sec st x k) (wRaw g sec st x k)
/-- What section k keeps then. -/
def wSt (g : Gu) (sec : Nat → Sec) (st : Nat → C2 × C2) (x : C2) (k : Nat) : C2 × C2 := ((cl2 g (wS1 g sec st x k)).1, (cl2 g (wS2 g sec st x k)).1)
def wUp (g : Gu) (sec : Nat → Sec) (st : Nat → C2 × C2) (x : C2) (k : Nat) : Nat → C2 × C2 := fun i => if i < k then wSt g sec st x i else st i
/-- How many parts were changed up to section k. -/
def wCnt (g : Gu) (sec : Nat → Sec) (st : Nat → C2 × C2) (x : C2) : Nat → Nat
  | 0 => 0
  | k + 1 => wCnt g sec st x k + ((cl2 g (wRaw g sec st x k)).2 + (cl2 g (wS1 g sec st x k)).2 + (cl2 g (wS2 g sec st x k)).2)
def wStN (g : Gu) (G : C2) (n : Nat) (sec : Nat → Sec) (st : Nat → C2 × C2) (X : Nat → C2) : Nat → (Nat → C2 × C2)
  | 0 => st
  | k + 1 => wUp g sec (wStN g G n sec st X k) (cmul G (X k)) n
def wAnsN (g : Gu) (G : C2) (n : Nat) (sec : Nat → Sec) (st : Nat → C2 × C2) (X : Nat → C2) (k : Nat) : C2 := wY g sec (wStN g G n sec st X k) (cmul G (X k)) n
def wCntN (g : Gu) (G : C2) (n : Nat) (sec : Nat → Sec) (st : Nat → C2 × C2) (X : Nat → C2) : Nat → Nat
  | 0 => 0
  | k + 1 => wCntN g G n sec st X k + wCnt g sec (wStN g G n sec st X k) (cmul G (X k)) n

/-! Without flags it is the cascade. -/
theorem wY_none (sec : Nat → Sec) (st : Nat → C2 × C2) (x : C2) : ∀ k, wY gNone sec st x k = yAt sec st x k
  | 0 => rfl
  | k + 1 => by rw [wY, cl2_none, wY_none sec st x k]; rfl
theorem wSt_none (sec : Nat → Sec) (st : Nat → C2 × C2) (x : C2) (k : Nat) : wSt gNone sec st x k = stAt sec st x k := by
  simp only [wSt, wS1, wS2, wRaw, cl2_none, wY_none]
  rfl
theorem wUp_none (sec : Nat → Sec) (st : Nat → C2 × C2) (x : C2) (n : Nat) : wUp gNone sec st x n = upTo sec st x n := by
  funext i
  simp only [wUp, upTo, wSt_none]
theorem wCnt_none (sec : Nat → Sec) (st : Nat → C2 × C2) (x : C2) : ∀ k, wCnt gNone sec st x k = 0
  | 0 => rfl
  | k + 1 => by simp [wCnt, wCnt_none sec st x k, cl2_none]
theorem wStN_none (G : C2) (n : Nat) (sec : Nat → Sec) (st : Nat → C2 × C2) (X : Nat → C2) : ∀ k, wStN gNone G n sec st X k = stN G n sec st X k
  | 0 => rfl
  | k + 1 => by rw [wStN, stN, wUp_none, wStN_none G n sec st X k]
theorem wAnsN_none (G : C2) (n : Nat) (sec : Nat → Sec) (st : Nat → C2 × C2) (X : Nat → C2) (k : Nat) : wAnsN gNone G n sec st X k = ansN G n sec st X k := by
  rw [wAnsN, ansN, wY_none, wStN_none]
theorem wCntN_none (G : C2) (n : Nat) (sec : Nat → Sec) (st : Nat → C2 × C2) (X : Nat → C2) : ∀ k, wCntN gNone G n sec st X k = 0
  | 0 => rfl
  | k + 1 => by simp [wCntN, wCntN_none G n sec st X k, wCnt_none]

/-! With all flags nothing is kept or answered but noughts and normal numbers. -/
theorem wY_all (sec : Nat → Sec) (st : Nat → C2 × C2) (x : C2) (k : Nat) : Calm2 (wY gAll sec st x (k + 1)) := cl2_all (cadd_ok _ _)
theorem wSt_all (sec : Nat → Sec) (st : Nat → C2 × C2) (x : C2) (k : Nat) : Calm2 (wSt gAll sec st x k).1 ∧ Calm2 (wSt gAll sec st x k).2 := ⟨cl2_all (csub_ok _ _), cl2_all (csub_ok _ _)⟩
theorem wAnsN_all (G : C2) (n : Nat) (sec : Nat → Sec) (st : Nat → C2 × C2) (X : Nat → C2) (k : Nat) (hn : 0 < n) : Calm2 (wAnsN gAll G n sec st X k) := by
  obtain ⟨m, rfl⟩ : ∃ m, n = m + 1 := ⟨n - 1, by omega⟩
  exact wY_all _ _ _ m
theorem wStN_all (G : C2) (n : Nat) (sec : Nat → Sec) (st : Nat → C2 × C2) (X : Nat → C2) (h : ∀ i, i < n → Calm2 (st i).1 ∧ Calm2 (st i).2) : ∀ k i, i < n → Calm2 (wStN gAll G n sec st X k i).1 ∧ Calm2 (wStN gAll G n sec st X k i).2
  | 0, i, hi => h i hi
  | k + 1, i, hi => by
    rw [wStN]
    simp only [wUp, if_pos hi]
    exact wSt_all _ _ _ i
/-! Cuts. -/
theorem wStN_add (g : Gu) (G : C2) (n : Nat) (sec : Nat → Sec) (st : Nat → C2 × C2) (X : Nat → C2) (a : Nat) : ∀ b, wStN g G n sec st X (a + b) = wStN g G n sec (wStN g G n sec st X a) (fun j => X (a + j)) b
  | 0 => rfl
  | b + 1 => by
    show wUp g sec (wStN g G n sec st X (a + b)) (cmul G (X (a + b))) n = _
    rw [wStN_add g G n sec st X a b]
    rfl
theorem wAnsN_add (g : Gu) (G : C2) (n : Nat) (sec : Nat → Sec) (st : Nat → C2 × C2) (X : Nat → C2) (a b : Nat) : wAnsN g G n sec st X (a + b) = wAnsN g G n sec (wStN g G n sec st X a) (fun j => X (a + j)) b := by
  unfold wAnsN
  rw [wStN_add]
theorem wCntN_add (g : Gu) (G : C2) (n : Nat) (sec : Nat → Sec) (st : Nat → C2 × C2) (X : Nat → C2) (a : Nat) : ∀ b, wCntN g G n sec st X (a + b) = wCntN g G n sec st X a + wCntN g G n sec (wStN g G n sec st X a) (fun j => X (a + j)) b
  | 0 => rfl
  | b + 1 => by
    show wCntN g G n sec st X (a + b) + wCnt g sec (wStN g G n sec st X (a + b)) (cmul G (X (a + b))) n = _
    rw [wCntN_add g G n sec st X a b, wStN_add g G n sec st X a b, Nat.add_assoc]
    rfl
end Go.Proofs.Ythafffnebaaeiaa
