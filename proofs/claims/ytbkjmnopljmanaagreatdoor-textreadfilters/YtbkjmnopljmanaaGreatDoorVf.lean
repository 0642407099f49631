/- What the digits of a text are worth to the reference and to the program: where a float is written so, both read that float. -/
import Derived.Test.YtbkjmnopljmanaaGreatDoorVe
import Derived.Test.YtbkjmnopljmanaaGreatDoorUp
namespace Go.Proofs.YtbkjmnopljmanaaGreatDoor
open Go.RowKit

theorem rvalue_any (neg below : Bool) (m e : ByteArray) (HX : ∀ i, i < m.size → IsHex (bt m i)) (HE : ∀ i, i < e.size → 48 ≤ bt e i ∧ bt e i ≤ 57) :
    ∃ x ok, x < 18446744073709551616 ∧ (∀ w, Calls Tryz.prog 71 #[.bool neg, .string m, .bool below, .string e] w fun r w' => r = .returned (.tuple #[.float .f64 x, .bool ok]) ∧ Below w.heap.size w w') ∧
      (ok = true → flt x = txt neg m below e) ∧ (∀ y, y < 18446744073709551616 → pw y ≠ 2047 → flt y = txt neg m below e → x = y ∧ ok = true) := by
  by_cases hs : m.size ≤ 14 ∧ e.size ≤ 4
  · obtain ⟨hm, he⟩ := hs
    have hb : hvN (bt m) m.size < 72057594037927936 := Nat.lt_of_lt_of_le (hvN_lt (bt m) m.size HX) (by
      have : 16 ^ m.size ≤ 16 ^ 14 := Nat.pow_le_pow_right (by decide) hm
      exact this)
    have hd : dvN (bt e) e.size < 10000 := Nat.lt_of_lt_of_le (dvN_lt (bt e) e.size HE) (by
      have : 10 ^ e.size ≤ 10 ^ 4 := Nat.pow_le_pow_right (by decide) he
      exact this)
    obtain ⟨x, hx, hcan, HL⟩ := ldexp_nat (hvN (bt m) m.size) hb (if below then -(dvN (bt e) e.size : Int) else (dvN (bt e) e.size : Int)) (by split <;> omega) (by split <;> omega)
    refine ⟨sgd neg x, decide (flt (sgd neg x) = txt neg m below e), (by unfold sgd; split <;> omega), fun w => rvalue_in neg below m e hm he HX HE x hx HL w, of_decide_eq_true, fun y hy hp hf => ?_⟩
    obtain ⟨a1, a2, a3, a4⟩ := flt_apart hp HX HE hf
    obtain ⟨n1, n2, n3, n4, n5⟩ := flt_number y hp
    have hn : hvN (bt m) m.size = om (mant y) := by rw [hv_all, a2, (hexL_ok _).1]
    have hq : (if below then -(dvN (bt e) e.size : Int) else (dvN (bt e) e.size : Int)) = oe (mant y) (expo y) := by rw [dv_all, a3]
    rw [hn, hq] at hcan
    have hxr := hcan (om_lt y) n1 n2
    rw [n3] at hxr
    have hxy : sgd neg x = y := by rw [hxr, ← a1]; exact (put_rg y hy).2
    rw [hxy]
    exact ⟨rfl, decide_eq_true hf⟩
  · refine ⟨0, false, (by omega), fun w => (rvalue_long neg below m e (by omega) w).mono fun _ _ ⟨h1, h2⟩ => ⟨h1, by rw [h2]; exact Below.refl _ _⟩, (fun h => absurd h (by decide)), fun y hy hp hf => ?_⟩
    exfalso
    obtain ⟨a1, a2, a3, a4⟩ := flt_apart hp HX HE hf
    obtain ⟨n1, n2, n3, n4, n5⟩ := flt_number y hp
    have l1 : m.size ≤ 14 := by rw [← bl_len, a2]; exact hexL_len _ (om_lt y)
    have l2 : e.size ≤ 4 := by rw [← bl_len, a4]; exact dec_len10 3 _ (by show _ < 10000; omega)
    exact hs ⟨l1, l2⟩

/-! Atoi of such digits. -/
theorem decFrom_digits : ∀ (l : List UInt8) (acc : Nat), (∀ c ∈ l, 48 ≤ c.toNat ∧ c.toNat ≤ 57) → Lib.decFrom acc l = some (dvF acc l)
  | [], acc, _ => rfl
  | c :: r, acc, h => by
    have hc := h c List.mem_cons_self
    have e : Lib.digitVal c = some (c.toNat - 48) := by unfold Lib.digitVal; rw [if_pos hc]
    simp only [Lib.decFrom, e]
    rw [decFrom_digits r _ (fun c hc => h c (List.mem_cons_of_mem _ hc)), Nat.mul_comm acc 10]
    rfl
theorem parse_digits : ∀ (l : List UInt8) (acc : Nat), (∀ c ∈ l, 48 ≤ c.toNat ∧ c.toNat ≤ 57) → Lib.parseUint10 acc l ≠ .syntax
  | [], acc, _, h => by cases h
  | c :: r, acc, hd, h => by
    have hc := hd c List.mem_cons_self
    simp only [Lib.parseUint10] at h
    rw [if_pos hc] at h
    split at h
    · cases h
    · split at h
      · cases h
      · exact parse_digits r _ (fun c hc => hd c (List.mem_cons_of_mem _ hc)) h
theorem mag_digits {l : List UInt8} (hne : l ≠ []) (hd : ∀ c ∈ l, 48 ≤ c.toNat ∧ c.toNat ≤ 57) : Lib.parseMag l ≠ .syntax := by
  unfold Lib.parseMag
  rw [if_neg hne]
  exact parse_digits l 0 hd
theorem atoi_digits (below : Bool) {l : List UInt8} (hne : l ≠ []) (hd : ∀ c ∈ l, 48 ≤ c.toNat ∧ c.toNat ≤ 57) : Lib.atoiAll ((if below then [45] else []) ++ l) ≠ .syntax := by
  have hm := mag_digits hne hd
  cases below
  · cases l with
    | nil => exact absurd rfl hne
    | cons c r =>
      have hc := hd c List.mem_cons_self
      show Lib.atoiAll (c :: r) ≠ _
      rw [Lib.atoiAll_plain c r (by omega) (by omega)]
      cases h : Lib.parseMag (c :: r) with
      | «syntax» => exact absurd h hm
      | range => intro k; cases k
      | ok u => simp only [Lib.signless]; split <;> (intro k; cases k)
  · show Lib.atoiAll (45 :: l) ≠ _
    rw [Lib.atoiAll_minus]
    cases h : Lib.parseMag l with
    | «syntax» => exact absurd h hm
    | range => intro k; cases k
    | ok u => simp only [Lib.signed]; split <;> (intro k; cases k)
theorem atoi_short (below : Bool) {l : List UInt8} (hne : l ≠ []) (hd : ∀ c ∈ l, 48 ≤ c.toNat ∧ c.toNat ≤ 57) (hl : l.length ≤ 17) :
    Lib.atoiAll ((if below then [45] else []) ++ l) = .ok (if below then -(dvL l : Int) else (dvL l : Int)) := by
  have hn : Lib.decNat l = some (dvL l) := by
    unfold Lib.decNat
    rw [if_neg (by cases l with | nil => exact absurd rfl hne | cons c r => simp), decFrom_digits l 0 hd]
    rfl
  cases below
  · cases l with
    | nil => exact absurd rfl hne
    | cons c r =>
      have hc := hd c List.mem_cons_self
      show Lib.atoiAll (c :: r) = _
      rw [Lib.atoiAll_short _ (by omega)]
      have c1 : (c == 45) = false := by rw [beq_eq_false_iff_ne]; intro e; rw [e] at hc; exact absurd hc (by decide)
      have c2 : (c == 43) = false := by rw [beq_eq_false_iff_ne]; intro e; rw [e] at hc; exact absurd hc (by decide)
      have : Lib.atoi (c :: r) = some (dvL (c :: r) : Int) := by
        simp only [Lib.atoi, c1, c2, hn]
        rfl
      rw [this]; rfl
  · show Lib.atoiAll (45 :: l) = _
    rw [Lib.atoiAll_short _ (by simp only [List.length_cons]; omega)]
    have : Lib.atoi (45 :: l) = some (-(dvL l : Int)) := by
      simp only [Lib.atoi, hn]
      rfl
    rw [this]; rfl

theorem pvalue_any (neg below : Bool) (m e e' : ByteArray) (HX : ∀ i, i < m.size → IsHex (bt m i)) (HE : ∀ i, i < e.size → 48 ≤ bt e i ∧ bt e i ≤ 57) (hm0 : m.size ≠ 0) (hm : m.size ≤ 65536) (he0 : e.size ≠ 0) (he : e'.size ≤ 65537)
    (hE : e'.toList = (if below then [45] else []) ++ e.toList) :
    ∃ (much : Nat) (power : Int), much < 18446744073709551616 ∧
      (∀ B w', Gl B w' → B ≤ w'.heap.size → Calls Tryz.prog 83 #[.string m, .int .i64 16, .int .i64 64] w' fun e w'' => ∃ ev, e = .returned (.tuple #[.int .u64 (much : Nat), ev]) ∧ Below w'.heap.size w' w'') ∧
      (∀ B w', Gl B w' → B ≤ w'.heap.size → Calls Tryz.prog 84 #[.string e'] w' fun e w'' => ∃ ev, e = .returned (.tuple #[.int .i64 power, ev]) ∧ Below w'.heap.size w' w'') ∧
      (∀ y, y < 18446744073709551616 → pw y ≠ 2047 → flt y = txt neg m below e → putBits neg (joinRung much power) = y) := by
  have hd : ∀ c ∈ e.toList, 48 ≤ c.toNat ∧ c.toNat ≤ 57 := fun c hc => by
    obtain ⟨i, hi, k⟩ := mem_bt hc
    rw [← k]; exact HE i hi
  have hne : e.toList ≠ [] := fun k => he0 (by rw [← bl_len, k]; rfl)
  have hE' : e'.data.toList = (if below then [45] else []) ++ e.toList := by rw [← hE, Go.ByteArray.toList_eq]
  have hns := atoi_digits below hne hd
  rw [← hE'] at hns
  have hA : ∃ power : Int, (∀ B w', Gl B w' → B ≤ w'.heap.size → Calls Tryz.prog 84 #[.string e'] w' fun e w'' => ∃ ev, e = .returned (.tuple #[.int .i64 power, ev]) ∧ Below w'.heap.size w' w'') ∧
      (∀ v, Lib.atoiAll e'.data.toList = .ok v → power = v) := by
    cases h : Lib.atoiAll e'.data.toList with
    | «syntax» => exact absurd h hns
    | ok v =>
      refine ⟨v, fun B w' _ _ => (Tryz.strconv_Atoi_ok e' (by omega) v h w').mono fun r w'' ⟨h1, h2⟩ => ⟨_, h1, ?_⟩, fun v' hv => by injection hv⟩
      rcases h2 with h2 | ⟨t, h2⟩
      · rw [h2]; exact Below.refl _ _
      · rw [h2]; exact Lib.bytesWorld_below _ _ _
    | range =>
      refine ⟨Lib.atoiSat e'.data.toList, fun B w' hG hB => ?_, fun v' hv => by cases hv⟩
      obtain ⟨te, pe, hc⟩ := hG.err
      exact (Tryz.strconv_Atoi_range e' (by omega) h _ w' hc (.inr ⟨te, pe, rfl⟩)).mono fun r w'' ⟨T, N, h1, _, h2⟩ => ⟨_, h1, h2⟩
  obtain ⟨power, hP, hv⟩ := hA
  have hwl : hvW (bt m) m.size < 18446744073709551616 := by unfold hvW; split <;> omega
  refine ⟨hvW (bt m) m.size, power, hwl, fun B w' hG hB => parse16_any m hm0 hm HX w' (Nat.lt_of_lt_of_le hG.g1 hB) hG.err, hP, fun y hy hp hf => ?_⟩
  obtain ⟨a1, a2, a3, a4⟩ := flt_apart hp HX HE hf
  obtain ⟨n1, n2, n3, n4, n5⟩ := flt_number y hp
  have hn : hvN (bt m) m.size = om (mant y) := by rw [hv_all, a2, (hexL_ok _).1]
  have l2 : e.toList.length ≤ 4 := by rw [a4]; exact dec_len10 3 _ (by show _ < 10000; omega)
  have hpw : power = oe (mant y) (expo y) := by
    rw [a3]
    exact hv _ (by rw [hE']; exact atoi_short below hne hd (by omega))
  have hmu : hvW (bt m) m.size = om (mant y) := by
    have := om_lt y
    unfold hvW; rw [hn, if_pos (by omega)]
  rw [hmu, hpw, n3, ← a1]
  exact (put_rg y hy).1
end Go.Proofs.YtbkjmnopljmanaaGreatDoor
