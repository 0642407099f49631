/- Plain facts: what a text of digits says; the text of a float says that float. -/
import Derived.Test.YtbkjmnopljmanaaGreatDoorVd
import Derived.Lib.AtoiTie
namespace Go.Proofs.YtbkjmnopljmanaaGreatDoor
open Go.RowKit

def hvL (l : List UInt8) : Nat := l.foldl (fun a c => 16 * a + hexV c.toNat) 0
def dvF (a : Nat) (l : List UInt8) : Nat := l.foldl (fun a c => 10 * a + (c.toNat - 48)) a
def dvL (l : List UInt8) : Nat := dvF 0 l
theorem hvL_app (l : List UInt8) (c : UInt8) : hvL (l ++ [c]) = 16 * hvL l + hexV c.toNat := by unfold hvL; rw [List.foldl_append]; rfl
theorem dvL_app (l : List UInt8) (c : UInt8) : dvL (l ++ [c]) = 10 * dvL l + (c.toNat - 48) := by unfold dvL dvF; rw [List.foldl_append]; rfl
theorem take_bt {m : ByteArray} {k : Nat} (h : k < m.size) : ∃ c : UInt8, m.toList.take (k + 1) = m.toList.take k ++ [c] ∧ bt m k = c.toNat := by
  refine ⟨m[k]'h, ?_, bt_of h⟩
  rw [Go.ByteArray.toList_eq]
  have h' : k < m.data.toList.length := by simpa using h
  rw [List.take_succ_eq_append_getElem h']
  rfl
theorem hvN_hvL (m : ByteArray) : ∀ k, k ≤ m.size → hvN (bt m) k = hvL (m.toList.take k)
  | 0, _ => rfl
  | k + 1, h => by
    obtain ⟨c, h1, h2⟩ := take_bt (m := m) (k := k) (by omega)
    rw [h1, hvL_app, ← hvN_hvL m k (by omega), ← h2]
    rfl
theorem dvN_dvL (m : ByteArray) : ∀ k, k ≤ m.size → dvN (bt m) k = dvL (m.toList.take k)
  | 0, _ => rfl
  | k + 1, h => by
    obtain ⟨c, h1, h2⟩ := take_bt (m := m) (k := k) (by omega)
    rw [h1, dvL_app, ← dvN_dvL m k (by omega), ← h2]
    rfl
theorem bl_len (m : ByteArray) : m.toList.length = m.size := by rw [Go.ByteArray.toList_eq]; simp
theorem hv_all (m : ByteArray) : hvN (bt m) m.size = hvL m.toList := by
  rw [hvN_hvL m m.size (Nat.le_refl _), ← bl_len, List.take_length]
theorem dv_all (m : ByteArray) : dvN (bt m) m.size = dvL m.toList := by
  rw [dvN_dvL m m.size (Nat.le_refl _), ← bl_len, List.take_length]
theorem mem_bt {m : ByteArray} {c : UInt8} (h : c ∈ m.toList) : ∃ i, i < m.size ∧ bt m i = c.toNat := by
  obtain ⟨i, hi, e⟩ := List.getElem_of_mem h
  rw [bl_len] at hi
  refine ⟨i, hi, ?_⟩
  rw [bt_of hi, ← e]
  congr 1
  simp only [Go.ByteArray.toList_eq]
  rfl

/-! Digits written. -/
theorem dgc_hex {d : Nat} (h : d < 16) : hexV (dgc d).toNat = d ∧ IsHex (dgc d).toNat := by
  have : ∀ d : Fin 16, hexV (dgc d.val).toNat = d.val ∧ ((48 ≤ (dgc d.val).toNat ∧ (dgc d.val).toNat ≤ 57) ∨ (97 ≤ (dgc d.val).toNat ∧ (dgc d.val).toNat ≤ 102)) := by decide
  exact this ⟨d, h⟩
theorem hexL_ok (n : Nat) : hvL (hexL n) = n ∧ ∀ c ∈ hexL n, IsHex c.toNat := by
  induction n using Nat.strongRecOn with
  | ind n ih =>
    by_cases h : n < 16
    · rw [hexL_small h]
      have := dgc_hex h
      refine ⟨?_, ?_⟩
      · show 16 * 0 + hexV (dgc n).toNat = n
        rw [this.1]; omega
      · intro c hc
        rw [List.mem_singleton] at hc
        rw [hc]; exact this.2
    · rw [hexL_step h]
      have i := ih (n / 16) (by omega)
      have := dgc_hex (Nat.mod_lt n (show 0 < 16 by decide))
      refine ⟨?_, ?_⟩
      · rw [hvL_app, i.1, this.1]; omega
      · intro c hc
        rw [List.mem_append, List.mem_singleton] at hc
        rcases hc with hc | hc
        · exact i.2 c hc
        · rw [hc]; exact this.2
theorem hexL_len16 : ∀ (k n : Nat), n < 16 ^ (k + 1) → (hexL n).length ≤ k + 1
  | 0, n, h => by rw [hexL_small (by simpa using h)]; exact Nat.le_refl 1
  | k + 1, n, h => by
    by_cases g : n < 16
    · rw [hexL_small g]; simp
    · rw [hexL_step g, List.length_append]
      have := hexL_len16 k (n / 16) (by rw [Nat.pow_succ] at h; omega)
      simp only [List.length_cons, List.length_nil]
      omega
theorem dd_digit {d : Nat} (h : d < 10) : (UInt8.ofNat (48 + d)).toNat = 48 + d := by
  rw [UInt8.toNat_ofNat']; omega
theorem decd_ok (n : Nat) : dvL (Lib.decDigits n) = n ∧ ∀ c ∈ Lib.decDigits n, 48 ≤ c.toNat ∧ c.toNat ≤ 57 := by
  induction n using Nat.strongRecOn with
  | ind n ih =>
    by_cases h : n < 10
    · rw [Lib.decDigits, dif_pos h]
      have := dd_digit h
      refine ⟨?_, ?_⟩
      · show 10 * 0 + ((UInt8.ofNat (48 + n)).toNat - 48) = n
        rw [this]; omega
      · intro c hc
        rw [List.mem_singleton] at hc
        rw [hc, this]; omega
    · rw [Lib.decDigits, dif_neg h]
      have i := ih (n / 10) (by omega)
      have := dd_digit (Nat.mod_lt n (show 0 < 10 by decide))
      refine ⟨?_, ?_⟩
      · rw [dvL_app, i.1, this]; omega
      · intro c hc
        rw [List.mem_append, List.mem_singleton] at hc
        rcases hc with hc | hc
        · exact i.2 c hc
        · rw [hc, this]; omega
theorem dec_len10 : ∀ (k n : Nat), n < 10 ^ (k + 1) → (Lib.decDigits n).length ≤ k + 1
  | 0, n, h => by rw [Lib.decDigits, dif_pos (by simpa using h)]; exact Nat.le_refl 1
  | k + 1, n, h => by
    by_cases g : n < 10
    · rw [Lib.decDigits, dif_pos g]; simp
    · rw [Lib.decDigits, dif_neg g, List.length_append]
      have := dec_len10 k (n / 10) (by rw [Nat.pow_succ] at h; omega)
      simp only [List.length_cons, List.length_nil]
      omega
theorem dec_ne (n : Nat) : Lib.decDigits n ≠ [] := by
  by_cases h : n < 10
  · rw [Lib.decDigits, dif_pos h]; simp
  · rw [Lib.decDigits, dif_neg h]; simp

/-! A text taken apart. -/
theorem cut_at {x : UInt8} : ∀ {A C B D : List UInt8}, x ∉ A → x ∉ C → A ++ x :: B = C ++ x :: D → A = C ∧ B = D
  | [], [], B, D, _, _, h => by simpa using h
  | [], c :: C, B, D, _, h2, h => by
    simp only [List.nil_append, List.cons_append, List.cons.injEq] at h
    exact absurd (by rw [h.1]; exact List.mem_cons_self) h2
  | a :: A, [], B, D, h1, _, h => by
    simp only [List.nil_append, List.cons_append, List.cons.injEq] at h
    exact absurd (by rw [h.1]; exact List.mem_cons_self) h1
  | a :: A, c :: C, B, D, h1, h2, h => by
    simp only [List.cons_append, List.cons.injEq] at h
    have i := cut_at (fun k => h1 (List.mem_cons_of_mem _ k)) (fun k => h2 (List.mem_cons_of_mem _ k)) h.2
    exact ⟨by rw [h.1, i.1], i.2⟩
theorem itoa_apart {n : Int} {below : Bool} {e : List UInt8} (hE : ∀ c ∈ e, 48 ≤ c.toNat ∧ c.toNat ≤ 57) (h : Lib.itoa n = (if below then [45] else []) ++ e) :
    n = (if below then -(dvL e : Int) else (dvL e : Int)) ∧ e = Lib.decDigits n.natAbs := by
  unfold Lib.itoa at h
  by_cases hn : n < 0
  · rw [if_pos hn] at h
    cases below
    · simp only [Bool.false_eq_true, if_false, List.nil_append] at h
      have := hE 45 (by rw [← h]; exact List.mem_cons_self)
      exact absurd this (by decide)
    · simp only [if_true, List.cons_append, List.nil_append, List.cons.injEq, true_and] at h
      rw [← h, (decd_ok _).1]
      exact ⟨by simp only [if_true]; omega, rfl⟩
  · rw [if_neg hn] at h
    cases below
    · simp only [Bool.false_eq_true, if_false, List.nil_append] at h
      rw [← h, (decd_ok _).1]
      exact ⟨by simp only [Bool.false_eq_true, if_false]; omega, by rw [show n.natAbs = n.toNat by omega]⟩
    · simp only [if_true, List.cons_append, List.nil_append] at h
      have := (decd_ok n.toNat).2 45 (by rw [h]; exact List.mem_cons_self)
      exact absurd this (by decide)
/-- A finite float's text, taken apart. -/
theorem flt_apart {y : Nat} (hy : pw y ≠ 2047) {neg below : Bool} {m e : ByteArray} (HX : ∀ i, i < m.size → IsHex (bt m i)) (HE : ∀ i, i < e.size → 48 ≤ bt e i ∧ bt e i ≤ 57)
    (h : flt y = txt neg m below e) : ng y = neg ∧ m.toList = hexL (om (mant y)) ∧ oe (mant y) (expo y) = (if below then -(dvL e.toList : Int) else (dvL e.toList : Int)) ∧ e.toList = Lib.decDigits (oe (mant y) (expo y)).natAbs := by
  have hn : ¬ isnan y = true := by
    unfold isnan; rw [decide_eq_true_iff]; unfold pw at hy; unfold rg; omega
  unfold flt txt at h
  rw [if_neg hn, if_neg hy] at h
  unfold fltN at h
  have hx1 : (112 : UInt8) ∉ hexL (om (mant y)) := fun k => absurd ((hexL_ok _).2 _ k) (by unfold IsHex; decide)
  have hx2 : (112 : UInt8) ∉ m.toList := fun k => by
    obtain ⟨i, hi, e⟩ := mem_bt k
    exact absurd (e ▸ HX i hi) (by unfold IsHex; decide)
  have hd : ∀ c ∈ e.toList, 48 ≤ c.toNat ∧ c.toNat ≤ 57 := fun c hc => by
    obtain ⟨i, hi, e⟩ := mem_bt hc
    rw [← e]; exact HE i hi
  have hs : ng y = neg := by
    cases hh : ng y <;> cases neg <;> simp [hh] at h ⊢
  rw [hs] at h
  have h2 : hexL (om (mant y)) ++ 112 :: Lib.itoa (oe (mant y) (expo y)) = m.toList ++ 112 :: ((if below then [45] else []) ++ e.toList) := by
    cases neg <;> simpa using h
  have h3 := cut_at hx1 hx2 h2
  have h4 := itoa_apart hd h3.2
  exact ⟨hs, h3.1.symm, h4.1, h4.2⟩

/-! The float that its parts make. -/
theorem om_parts {m : Nat} (h0 : m ≠ 0) (hm : m < 18446744073709551616) : om m ≠ 0 ∧ om m * 2 ^ Lib.ctz 64 m = m := by
  obtain ⟨t, h1, h2⟩ := Lib.ctzFrom_spec 64 m (by omega) (by simpa using hm)
  have e : Lib.ctz 64 m = Lib.ctzFrom 64 m := by unfold Lib.ctz; rw [if_neg h0]
  unfold om
  rw [if_neg h0, e]
  have hp := Nat.two_pow_pos (Lib.ctzFrom 64 m)
  have hd : m / 2 ^ Lib.ctzFrom 64 m = 2 * t + 1 := by
    generalize Lib.ctzFrom 64 m = k at *
    rw [h1, Nat.mul_div_cancel_left _ hp]
  rw [hd]
  exact ⟨by omega, by rw [Nat.mul_comm]; exact h1.symm⟩
theorem top_min (P f : Nat) (h : P ≠ 0) (hP : P ≤ 2046) (hf : f < 4503599627370496) : min ((P - 1) * 4503599627370496 + (f + 4503599627370496)) 9218868437227405312 = P * 4503599627370496 + f := by
  obtain ⟨k, rfl⟩ : ∃ k, P = k + 1 := ⟨P - 1, by omega⟩
  rw [Nat.add_sub_cancel]
  have e : k * 4503599627370496 + (f + 4503599627370496) = (k + 1) * 4503599627370496 + f := by omega
  rw [e]
  exact Nat.min_eq_left (by omega)
theorem low_min (f : Nat) (hf : f < 4503599627370496) : min (((-1074 : Int) + 1074).toNat * 4503599627370496 + f) 9218868437227405312 = 0 * 4503599627370496 + f := by
  rw [show ((-1074 : Int) + 1074).toNat = 0 by decide, Nat.zero_mul, Nat.zero_add, Nat.min_eq_left (by omega)]
theorem flt_number (y : Nat) (hy : pw y ≠ 2047) :
    stepOf (om (mant y)) (oe (mant y) (expo y)) ≤ oe (mant y) (expo y) ∧ oe (mant y) (expo y) + Lib.bitLen (om (mant y)) ≤ 1024 ∧ joinRung (om (mant y)) (oe (mant y) (expo y)) = rg y ∧
    -1074 ≤ oe (mant y) (expo y) ∧ oe (mant y) (expo y) ≤ 1024 := by
  have hml := mant_lt y
  have hpw := pw_le y
  have hrg := rg_eq y
  have hfr := fr_lt y
  by_cases h0 : mant y = 0
  · have hp0 : pw y = 0 ∧ fr y = 0 := by
      unfold mant at h0
      split at h0 <;> omega
    have e1 : om (mant y) = 0 := by unfold om; rw [if_pos h0]
    have e2 : oe (mant y) (expo y) = 0 := by unfold oe; rw [if_pos h0]
    rw [e1, e2]
    refine ⟨by decide, by decide, ?_, by omega, by omega⟩
    unfold joinRung
    rw [if_pos (.inl rfl), hrg, hp0.1, hp0.2]
  · obtain ⟨o1, o2⟩ := om_parts h0 (by omega)
    have hol := om_lt y
    have e2 : oe (mant y) (expo y) = expo y + (Lib.ctz 64 (mant y) : Int) := by unfold oe; rw [if_neg h0]
    rw [e2]
    have lg := log2_pow (om (mant y)) (Lib.ctz 64 (mant y)) o1
    rw [o2] at lg
    have lb := log2_bitLen (om (mant y)) o1 (by omega)
    have hs := step_ge (om (mant y)) (expo y + (Lib.ctz 64 (mant y) : Int))
    have hS : stepOf (om (mant y)) (expo y + (Lib.ctz 64 (mant y) : Int)) = expo y := by
      unfold stepOf
      rw [lb]
      by_cases hp : pw y = 0
      · have e3 : expo y = -1074 := by unfold expo; rw [if_pos hp]
        have e4 : mant y = fr y := by unfold mant; rw [if_pos hp]
        have : (mant y).log2 < 52 := (Nat.log2_lt h0).2 (by rw [e4]; exact hfr)
        omega
      · have e3 : expo y = (pw y : Int) - 1075 := by unfold expo; rw [if_neg hp]
        have e4 : mant y = fr y + 4503599627370496 := by unfold mant; rw [if_neg hp]
        have l1 : (mant y).log2 = 52 := (Nat.log2_eq_iff h0).2 ⟨by rw [e4]; exact Nat.le_add_left _ _, by rw [e4]; show _ < 9007199254740992; omega⟩
        omega
    have hE : -1074 ≤ expo y ∧ expo y ≤ 971 := by unfold expo; split <;> omega
    have hL52 : (mant y).log2 ≤ 52 := by
      have := (Nat.log2_lt h0 (k := 53)).2 hml
      omega
    refine ⟨by rw [hS]; omega, by omega, ?_, by omega, by omega⟩
    unfold joinRung kept
    rw [hS, if_neg (by omega), if_neg (by omega), if_pos (by omega), show (expo y + (Lib.ctz 64 (mant y) : Int) - expo y).toNat = Lib.ctz 64 (mant y) by omega, o2, hrg]
    by_cases hp : pw y = 0
    · have e3 : expo y = -1074 := by unfold expo; rw [if_pos hp]
      have e4 : mant y = fr y := by unfold mant; rw [if_pos hp]
      rw [e3, e4, hp]
      exact low_min (fr y) hfr
    · have e3 : expo y = (pw y : Int) - 1075 := by unfold expo; rw [if_neg hp]
      have e4 : mant y = fr y + 4503599627370496 := by unfold mant; rw [if_neg hp]
      rw [e3, e4, show ((pw y : Int) - 1075 + 1074).toNat = pw y - 1 by omega]
      exact top_min (pw y) (fr y) hp (by omega) hfr
theorem put_rg (y : Nat) (hy : y < 18446744073709551616) : putBits (ng y) (rg y : Nat) = y ∧ sgd (ng y) (rg y) = y := by
  have hg : rg y = y % 9223372036854775808 := rfl
  cases hn : ng y with
  | true =>
    have h : 9223372036854775808 ≤ y := of_decide_eq_true hn
    have e : rg y + 9223372036854775808 = y := by omega
    refine ⟨?_, e⟩
    show ((9223372036854775808 : Int) + (rg y : Int)).toNat = y
    omega
  | false =>
    have h : ¬ 9223372036854775808 ≤ y := of_decide_eq_false hn
    have e : rg y = y := by omega
    refine ⟨?_, e⟩
    show ((0 : Int) + (rg y : Int)).toNat = y
    omega
end Go.Proofs.YtbkjmnopljmanaaGreatDoor
