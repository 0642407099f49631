/- Every text goes one of the ways: the program's value and the reference's float at a place of a text. -/
import Derived.Test.YtbkjmnopljmanaaGreatDoorVg
namespace Go.Proofs.YtbkjmnopljmanaaGreatDoor
open Go.RowKit

def PBad (B b : Nat) (s : ByteArray) (p q : Nat) : Prop := ∀ w, RdAt w b s p → Gl B w → Calls Tryz.prog 67 #[.pointer (some ⟨b, 0, none⟩)] w fun e w' => e = .panicked (pan q 12) ∧ But (fun k => k = b) w w'
def PVal (B b : Nat) (s : ByteArray) (p x p' : Nat) : Prop := ∀ w, RdAt w b s p → Gl B w → Calls Tryz.prog 67 #[.pointer (some ⟨b, 0, none⟩)] w fun e w' => e = .returned (.float .f64 x) ∧ RdAt w' b s p' ∧ But (fun k => k = b) w w'
def QBad (b : Nat) (s : ByteArray) (p q : Nat) : Prop := ∀ w, QdAt w b s p 0 0 → Calls Tryz.prog 56 #[.pointer (some ⟨b, 0, none⟩)] w fun e w' => ∃ x ok a', e = .returned (.tuple #[.float .f64 x, .bool ok]) ∧ QdAt w' b s a' 12 q ∧ But (fun k => k = b) w w'
def QVal (b : Nat) (s : ByteArray) (p x : Nat) (ok : Bool) (p' : Nat) : Prop := ∀ w, QdAt w b s p 0 0 → Calls Tryz.prog 56 #[.pointer (some ⟨b, 0, none⟩)] w fun e w' => e = .returned (.tuple #[.float .f64 x, .bool ok]) ∧ QdAt w' b s p' 0 0 ∧ But (fun k => k = b) w w'
/-- Both end alike at this place. -/
def Both (s : ByteArray) (p : Nat) : Prop :=
  (∃ q, (∀ B b, B ≤ b → PBad B b s p q) ∧ ∀ rb, QBad rb s p q) ∨
  (∃ x x' ok p', p ≤ p' ∧ x < 18446744073709551616 ∧ (∀ B b, B ≤ b → PVal B b s p x p') ∧ (∀ rb, QVal rb s p x' ok p') ∧
    (ok = true → x' = x ∧ flt x = (s.extract p p').toList) ∧ (flt x = (s.extract p p').toList → ok = true))
theorem flt_fin {y : Nat} {neg below : Bool} {m e : ByteArray} (h : flt y = txt neg m below e) : pw y ≠ 2047 := by
  intro hp
  unfold flt txt at h
  by_cases hn : isnan y = true
  · rw [if_pos hn] at h
    cases neg <;> simp at h
  · rw [if_neg hn, if_pos hp] at h
    cases neg <;> cases hh : ng y <;> rw [hh] at h <;> simp at h
theorem put_lt (neg : Bool) (m : Nat) (e : Int) : putBits neg (joinRung m e : Nat) < 18446744073709551616 := by
  have := joinRung_le m e
  unfold putBits
  cases neg <;> simp <;> omega
theorem both_fin {s : ByteArray} {p p2 p3 p4 p5 p6 : Nat} (hs : s.size ≤ 65536) (neg below : Bool) (hT : (s.extract p p6).toList = txt neg (s.extract p2 p3) below (s.extract p5 p6)) (hX : ∀ i, p2 ≤ i → i < p3 → IsHex (bt s i))
    (hD : ∀ i, p5 ≤ i → i < p6 → 48 ≤ bt s i ∧ bt s i ≤ 57) (h23 : p2 < p3) (h3 : p3 ≤ s.size) (h56 : p5 < p6) (h6 : p6 ≤ s.size) (hpp : p ≤ p6) (h4 : (s.extract p4 p6).toList = (if below then [45] else []) ++ (s.extract p5 p6).toList)
    (HP : ∀ (much : Nat) (power : Int) (B b : Nat), much < 18446744073709551616 → B ≤ b →
      (∀ w', Gl B w' → B ≤ w'.heap.size → Calls Tryz.prog 83 #[.string (s.extract p2 p3), .int .i64 16, .int .i64 64] w' fun e w'' => ∃ ev, e = .returned (.tuple #[.int .u64 (much : Nat), ev]) ∧ Below w'.heap.size w' w'') →
      (∀ w', Gl B w' → B ≤ w'.heap.size → Calls Tryz.prog 84 #[.string (s.extract p4 p6)] w' fun e w'' => ∃ ev, e = .returned (.tuple #[.int .i64 power, ev]) ∧ Below w'.heap.size w' w'') →
      PVal B b s p (putBits neg (joinRung much power)) p6)
    (HR : ∀ (x : Nat) (ok : Bool) (rb : Nat), (∀ w', Calls Tryz.prog 71 #[.bool neg, .string (s.extract p2 p3), .bool below, .string (s.extract p5 p6)] w' fun e w'' => e = .returned (.tuple #[.float .f64 x, .bool ok]) ∧ Below w'.heap.size w' w'') →
      QVal rb s p x ok p6) : Both s p := by
  have s1 := ex_size s (i := p2) h3
  have s2 := ex_size s (i := p5) h6
  have KX : ∀ i, i < (s.extract p2 p3).size → IsHex (bt (s.extract p2 p3) i) := fun i hi => by
    rw [s1] at hi
    rw [bt_ex s h3 hi]; exact hX _ (by omega) (by omega)
  have KD : ∀ i, i < (s.extract p5 p6).size → 48 ≤ bt (s.extract p5 p6) i ∧ bt (s.extract p5 p6) i ≤ 57 := fun i hi => by
    rw [s2] at hi
    rw [bt_ex s h6 hi]; exact hD _ (by omega) (by omega)
  obtain ⟨x', ok, hx', HV, r1, r2⟩ := rvalue_any neg below (s.extract p2 p3) (s.extract p5 p6) KX KD
  obtain ⟨much, power, hmu, HPU, HAT, r3⟩ := pvalue_any neg below (s.extract p2 p3) (s.extract p5 p6) (s.extract p4 p6) KX KD (by omega) (by omega) (by omega) (by rw [ByteArray.size_extract]; omega) h4
  refine .inr ⟨putBits neg (joinRung much power), x', ok, p6, hpp, put_lt _ _ _, fun B b hB => HP much power B b hmu hB (HPU B) (HAT B), fun rb => HR x' ok rb HV, fun hok => ?_, fun hf => ?_⟩
  · have e := r1 hok
    have := r3 x' hx' (flt_fin e) e
    exact ⟨this.symm, by rw [this, hT]; exact e⟩
  · rw [hT] at hf
    exact (r2 _ (put_lt _ _ _) (flt_fin hf) hf).2
theorem b2_cases (f : Nat → Nat) (p c d : Nat) : (∃ q, Bad2 f p c d q) ∨ (f p = c ∧ f (p + 1) = d) := by
  by_cases h : f p = c
  · by_cases k : f (p + 1) = d
    · exact .inr ⟨h, k⟩
    · exact .inl ⟨p + 1, .inr ⟨h, k, rfl⟩⟩
  · exact .inl ⟨p, .inl ⟨h, rfl⟩⟩
theorem flt_pinf : flt 9218868437227405312 = [105, 110, 102] := by decide
theorem flt_ninf : flt 18442240474082181120 = [45, 105, 110, 102] := by decide
theorem flt_qnan : flt 9221120237041090561 = [110, 97, 110] := by decide
theorem ex_three {s : ByteArray} {p : Nat} (c d e : UInt8) (h1 : bt s p = c.toNat) (h2 : bt s (p + 1) = d.toNat) (h3 : bt s (p + 2) = e.toNat) : (s.extract p (p + 3)).toList = [c, d, e] := by
  rw [ex_cat s (show p ≤ p + 1 by omega) (show p + 1 ≤ p + 3 by omega), ex_cat s (show p + 1 ≤ p + 1 + 1 by omega) (show p + 1 + 1 ≤ p + 3 by omega), ex_one c h1, ex_one d h2]
  have : (s.extract (p + 1 + 1) (p + 3)).toList = [e] := ex_one (p := p + 2) e h3
  rw [this]; rfl
theorem both_nan {s : ByteArray} {p : Nat} (hn : bt s p = 110) : Both s p := by
  rcases b2_cases (bt s) (p + 1) 97 110 with ⟨q, hq⟩ | ⟨h1, h2⟩
  · exact .inl ⟨q, fun B b _ w hr _ => value_nan_bad hr hn q hq, fun rb w hr => rdfloat_nan_bad hr hn q hq⟩
  · refine .inr ⟨9221120237041090561, 9221120237041090561, true, p + 3, by omega, by omega, fun B b _ w hr _ => value_nan hr hn h1 h2, fun rb w hr => rdfloat_nan hr hn h1 h2, fun _ => ⟨rfl, ?_⟩, fun _ => rfl⟩
    rw [flt_qnan]; exact (ex_three 110 97 110 hn h1 h2).symm
theorem both_inf {s : ByteArray} {p : Nat} (hi : bt s p = 105) : Both s p := by
  rcases b2_cases (bt s) (p + 1) 110 102 with ⟨q, hq⟩ | ⟨h1, h2⟩
  · exact .inl ⟨q, fun B b _ w hr _ => value_inf_bad hr hi q hq, fun rb w hr => rdfloat_inf_bad hr hi q hq⟩
  · refine .inr ⟨9218868437227405312, 9218868437227405312, true, p + 3, by omega, by omega, fun B b _ w hr _ => value_inf hr hi h1 h2, fun rb w hr => rdfloat_inf hr hi h1 h2, fun _ => ⟨rfl, ?_⟩, fun _ => rfl⟩
    rw [flt_pinf]; exact (ex_three 105 110 102 hi h1 h2).symm
theorem both_infN {s : ByteArray} {p : Nat} (hm : bt s p = 45) (hi : bt s (p + 1) = 105) : Both s p := by
  rcases b2_cases (bt s) (p + 1 + 1) 110 102 with ⟨q, hq⟩ | ⟨h1, h2⟩
  · exact .inl ⟨q, fun B b _ w hr _ => value_inf_badN hr hm hi q hq, fun rb w hr => rdfloat_inf_badN hr hm hi q hq⟩
  · refine .inr ⟨18442240474082181120, 18442240474082181120, true, p + 1 + 3, by omega, by omega, fun B b _ w hr _ => value_infN hr hm hi h1 h2, fun rb w hr => rdfloat_infN hr hm hi h1 h2, fun _ => ⟨rfl, ?_⟩, fun _ => rfl⟩
    rw [flt_ninf, ex_cat s (show p ≤ p + 1 by omega) (show p + 1 ≤ p + 1 + 3 by omega), ex_one 45 hm, ex_three 105 110 102 hi h1 h2]; rfl
theorem both_num {s : ByteArray} {p : Nat} (hs : s.size ≤ 65536) (hm : bt s p ≠ 45) (hn : bt s p ≠ 110) (hi : bt s p ≠ 105) : Both s p := by
  rcases b2_cases (bt s) p 48 120 with ⟨q, hq⟩ | ⟨h0, hx⟩
  · exact .inl ⟨q, fun B b _ w hr _ => value_0x_bad hr hm hn hi q hq, fun rb w hr => rdfloat_0x_bad hr hm hn hi q hq⟩
  by_cases h4 : isHexB (bt s (p + 2)) = true
  rotate_left
  · have h4 : isHexB (bt s (p + 2)) = false := by simpa using h4
    exact .inl ⟨p + 2, fun B b _ w hr _ => value_m_bad hr hm hn hi h0 hx h4, fun rb w hr => rdfloat_m_bad hr hm hn hi h0 hx h4⟩
  obtain ⟨p3, hM, hlt, hle3, hX⟩ := md_any s (p + 2) h4
  by_cases h6 : bt s p3 = 112
  rotate_left
  · exact .inl ⟨p3, fun B b _ w hr _ => value_p_bad hr hm hn hi h0 hx _ p3 rfl hM (by omega) h6, fun rb w hr => rdfloat_p_bad hr hm hn hi h0 hx p3 hM h6⟩
  have hl3 : p3 < s.size := bt_lt.1 (by omega)
  by_cases h7 : bt s (p3 + 1) = 48
  · -- a nought
    have hl4 : p3 + 1 < s.size := bt_lt.1 (by omega)
    refine both_fin (p2 := p + 2) (p3 := p3) (p4 := p3 + 1) (p5 := p3 + 1) (p6 := p3 + 1 + 1) hs false false ?_ hX (fun i h1 h2 => ?_) hlt hle3 (by omega) (by omega) (by omega) rfl ?_ ?_
    · rw [ex_cat s (show p ≤ p + 1 by omega) (show p + 1 ≤ p3 + 1 + 1 by omega), ex_one 48 h0, ex_cat s (show p + 1 ≤ p + 1 + 1 by omega) (show p + 1 + 1 ≤ p3 + 1 + 1 by omega), ex_one 120 hx, ex_cat s (show p + 1 + 1 ≤ p3 by omega) (show p3 ≤ p3 + 1 + 1 by omega), ex_cat s (show p3 ≤ p3 + 1 by omega) (show p3 + 1 ≤ p3 + 1 + 1 by omega), ex_one 112 h6]; simp [txt]
    · obtain rfl : i = p3 + 1 := by omega
      omega
    · intro much power B b hmu hB HPU HAT w hr hG
      exact value_num hr hm hn hi h0 hx _ p3 rfl hM (by omega) h6 _ rfl _ (.inl ⟨h7, rfl⟩) (by omega) much power hmu B hB hG HPU HAT
    · intro x ok rb HV w hr
      exact rdfloat_num1 hr hm hn hi h0 hx p3 hM h6 h7 x ok (fun w' _ => HV w')
  by_cases h8 : bt s (p3 + 1) = 45
  · have h7 := h8
    have hl4 : p3 + 1 < s.size := bt_lt.1 (by omega)
    by_cases h9 : bt s (p3 + 1 + 1) = 48
    · exact .inl ⟨p3 + 1 + 1, fun B b _ w hr _ => value_e_bad hr hm hn hi h0 hx _ p3 rfl hM (by omega) h6 _ rfl _ (.inl ⟨h7, .inr h9, rfl⟩), fun rb w hr => rdfloat_e_bad3 hr hm hn hi h0 hx p3 hM h6 h7 h9⟩
    by_cases h10 : isDecB (bt s (p3 + 1 + 1)) = true
    rotate_left
    · have h10 : isDecB (bt s (p3 + 1 + 1)) = false := by simpa using h10
      exact .inl ⟨p3 + 1 + 1, fun B b _ w hr _ => value_e_bad hr hm hn hi h0 hx _ p3 rfl hM (by omega) h6 _ rfl _ (.inl ⟨h7, .inl h10, rfl⟩), fun rb w hr => rdfloat_e_bad2 hr hm hn hi h0 hx p3 hM h6 h7 h10⟩
    obtain ⟨p6, hR, hl6⟩ := run_text s isDecB (by decide) (p3 + 1 + 1) h10
    have hlt6 := hR.1
    refine both_fin (p2 := p + 2) (p3 := p3) (p4 := p3 + 1) (p5 := p3 + 1 + 1) (p6 := p6) hs false true ?_ hX (fun i h1 h2 => dec_is (hR.2.1 i h1 h2)) hlt hle3 (by omega) (by omega) (by omega) ?_ ?_ ?_
    · rw [ex_cat s (show p ≤ p + 1 by omega) (show p + 1 ≤ p6 by omega), ex_one 48 h0, ex_cat s (show p + 1 ≤ p + 1 + 1 by omega) (show p + 1 + 1 ≤ p6 by omega), ex_one 120 hx, ex_cat s (show p + 1 + 1 ≤ p3 by omega) (show p3 ≤ p6 by omega), ex_cat s (show p3 ≤ p3 + 1 by omega) (show p3 + 1 ≤ p6 by omega), ex_one 112 h6, ex_cat s (show p3 + 1 ≤ p3 + 1 + 1 by omega) (show p3 + 1 + 1 ≤ p6 by omega), ex_one 45 h7]; simp [txt]
    · rw [ex_cat s (show p3 + 1 ≤ p3 + 1 + 1 by omega) (show p3 + 1 + 1 ≤ p6 by omega), ex_one 45 h7]; rfl
    · intro much power B b hmu hB HPU HAT w hr hG
      exact value_num hr hm hn hi h0 hx _ p3 rfl hM (by omega) h6 _ rfl _ (.inr (.inl ⟨h7, h9, hR⟩)) (by omega) much power hmu B hB hG HPU HAT
    · intro x ok rb HV w hr
      exact rdfloat_num2 hr hm hn hi h0 hx p3 hM h6 p6 h7 h9 hR x ok (fun w' _ => HV w')
  · by_cases h10 : isDecB (bt s (p3 + 1)) = true
    rotate_left
    · have h10 : isDecB (bt s (p3 + 1)) = false := by simpa using h10
      exact .inl ⟨p3 + 1, fun B b _ w hr _ => value_e_bad hr hm hn hi h0 hx _ p3 rfl hM (by omega) h6 _ rfl _ (.inr ⟨h8, h10, rfl⟩), fun rb w hr => rdfloat_e_bad1 hr hm hn hi h0 hx p3 hM h6 h8 h10⟩
    obtain ⟨p6, hR, hl6⟩ := run_text s isDecB (by decide) (p3 + 1) h10
    have hlt6 := hR.1
    refine both_fin (p2 := p + 2) (p3 := p3) (p4 := p3 + 1) (p5 := p3 + 1) (p6 := p6) hs false false ?_ hX (fun i h1 h2 => dec_is (hR.2.1 i h1 h2)) hlt hle3 (by omega) (by omega) (by omega) rfl ?_ ?_
    · rw [ex_cat s (show p ≤ p + 1 by omega) (show p + 1 ≤ p6 by omega), ex_one 48 h0, ex_cat s (show p + 1 ≤ p + 1 + 1 by omega) (show p + 1 + 1 ≤ p6 by omega), ex_one 120 hx, ex_cat s (show p + 1 + 1 ≤ p3 by omega) (show p3 ≤ p6 by omega), ex_cat s (show p3 ≤ p3 + 1 by omega) (show p3 + 1 ≤ p6 by omega), ex_one 112 h6]; simp [txt]
    · intro much power B b hmu hB HPU HAT w hr hG
      exact value_num hr hm hn hi h0 hx _ p3 rfl hM (by omega) h6 _ rfl _ (.inr (.inr ⟨h7, h8, hR⟩)) (by omega) much power hmu B hB hG HPU HAT
    · intro x ok rb HV w hr
      exact rdfloat_num3 hr hm hn hi h0 hx p3 hM h6 p6 h7 h8 hR x ok (fun w' _ => HV w')
theorem both_numN {s : ByteArray} {p : Nat} (hs : s.size ≤ 65536) (hm : bt s p = 45) (hn : bt s (p + 1) ≠ 110) (hi : bt s (p + 1) ≠ 105) : Both s p := by
  rcases b2_cases (bt s) (p + 1) 48 120 with ⟨q, hq⟩ | ⟨h0, hx⟩
  · exact .inl ⟨q, fun B b _ w hr _ => value_0x_badN hr hm hi q hq, fun rb w hr => rdfloat_0x_badN hr hm rfl hn hi q hq⟩
  by_cases h4 : isHexB (bt s ((p + 1) + 2)) = true
  rotate_left
  · have h4 : isHexB (bt s ((p + 1) + 2)) = false := by simpa using h4
    exact .inl ⟨(p + 1) + 2, fun B b _ w hr _ => value_m_badN hr hm hi h0 hx h4, fun rb w hr => rdfloat_m_badN hr hm rfl hn hi h0 hx h4⟩
  obtain ⟨p3, hM, hlt, hle3, hX⟩ := md_any s ((p + 1) + 2) h4
  by_cases h6 : bt s p3 = 112
  rotate_left
  · exact .inl ⟨p3, fun B b _ w hr _ => value_p_badN hr hm hi h0 hx _ p3 rfl hM (by omega) h6, fun rb w hr => rdfloat_p_badN hr hm rfl hn hi h0 hx p3 hM h6⟩
  have hl3 : p3 < s.size := bt_lt.1 (by omega)
  by_cases h7 : bt s (p3 + 1) = 48
  · -- a nought
    have hl4 : p3 + 1 < s.size := bt_lt.1 (by omega)
    refine both_fin (p2 := (p + 1) + 2) (p3 := p3) (p4 := p3 + 1) (p5 := p3 + 1) (p6 := p3 + 1 + 1) hs true false ?_ hX (fun i h1 h2 => ?_) hlt hle3 (by omega) (by omega) (by omega) rfl ?_ ?_
    · rw [ex_cat s (show p ≤ p + 1 by omega) (show p + 1 ≤ p3 + 1 + 1 by omega), ex_one 45 hm, ex_cat s (show p + 1 ≤ p + 1 + 1 by omega) (show p + 1 + 1 ≤ p3 + 1 + 1 by omega), ex_one 48 h0, ex_cat s (show p + 1 + 1 ≤ p + 1 + 1 + 1 by omega) (show p + 1 + 1 + 1 ≤ p3 + 1 + 1 by omega), ex_one 120 hx, ex_cat s (show (p + 1) + 1 + 1 ≤ p3 by omega) (show p3 ≤ p3 + 1 + 1 by omega), ex_cat s (show p3 ≤ p3 + 1 by omega) (show p3 + 1 ≤ p3 + 1 + 1 by omega), ex_one 112 h6]; simp [txt]
    · obtain rfl : i = p3 + 1 := by omega
      omega
    · intro much power B b hmu hB HPU HAT w hr hG
      exact value_numN hr hm hi h0 hx _ p3 rfl hM (by omega) h6 _ rfl _ (.inl ⟨h7, rfl⟩) (by omega) much power hmu B hB hG HPU HAT
    · intro x ok rb HV w hr
      exact rdfloat_num1N hr hm rfl hn hi h0 hx p3 hM h6 h7 x ok (fun w' _ => HV w')
  by_cases h8 : bt s (p3 + 1) = 45
  · have h7 := h8
    have hl4 : p3 + 1 < s.size := bt_lt.1 (by omega)
    by_cases h9 : bt s (p3 + 1 + 1) = 48
    · exact .inl ⟨p3 + 1 + 1, fun B b _ w hr _ => value_e_badN hr hm hi h0 hx _ p3 rfl hM (by omega) h6 _ rfl _ (.inl ⟨h7, .inr h9, rfl⟩), fun rb w hr => rdfloat_e_bad3N hr hm rfl hn hi h0 hx p3 hM h6 h7 h9⟩
    by_cases h10 : isDecB (bt s (p3 + 1 + 1)) = true
    rotate_left
    · have h10 : isDecB (bt s (p3 + 1 + 1)) = false := by simpa using h10
      exact .inl ⟨p3 + 1 + 1, fun B b _ w hr _ => value_e_badN hr hm hi h0 hx _ p3 rfl hM (by omega) h6 _ rfl _ (.inl ⟨h7, .inl h10, rfl⟩), fun rb w hr => rdfloat_e_bad2N hr hm rfl hn hi h0 hx p3 hM h6 h7 h10⟩
    obtain ⟨p6, hR, hl6⟩ := run_text s isDecB (by decide) (p3 + 1 + 1) h10
    have hlt6 := hR.1
    refine both_fin (p2 := (p + 1) + 2) (p3 := p3) (p4 := p3 + 1) (p5 := p3 + 1 + 1) (p6 := p6) hs true true ?_ hX (fun i h1 h2 => dec_is (hR.2.1 i h1 h2)) hlt hle3 (by omega) (by omega) (by omega) ?_ ?_ ?_
    · rw [ex_cat s (show p ≤ p + 1 by omega) (show p + 1 ≤ p6 by omega), ex_one 45 hm, ex_cat s (show p + 1 ≤ p + 1 + 1 by omega) (show p + 1 + 1 ≤ p6 by omega), ex_one 48 h0, ex_cat s (show p + 1 + 1 ≤ p + 1 + 1 + 1 by omega) (show p + 1 + 1 + 1 ≤ p6 by omega), ex_one 120 hx, ex_cat s (show (p + 1) + 1 + 1 ≤ p3 by omega) (show p3 ≤ p6 by omega), ex_cat s (show p3 ≤ p3 + 1 by omega) (show p3 + 1 ≤ p6 by omega), ex_one 112 h6, ex_cat s (show p3 + 1 ≤ p3 + 1 + 1 by omega) (show p3 + 1 + 1 ≤ p6 by omega), ex_one 45 h7]; simp [txt]
    · rw [ex_cat s (show p3 + 1 ≤ p3 + 1 + 1 by omega) (show p3 + 1 + 1 ≤ p6 by omega), ex_one 45 h7]; rfl
    · intro much power B b hmu hB HPU HAT w hr hG
      exact value_numN hr hm hi h0 hx _ p3 rfl hM (by omega) h6 _ rfl _ (.inr (.inl ⟨h7, h9, hR⟩)) (by omega) much power hmu B hB hG HPU HAT
    · intro x ok rb HV w hr
      exact rdfloat_num2N hr hm rfl hn hi h0 hx p3 hM h6 p6 h7 h9 hR x ok (fun w' _ => HV w')
  · by_cases h10 : isDecB (bt s (p3 + 1)) = true
    rotate_left
    · have h10 : isDecB (bt s (p3 + 1)) = false := by simpa using h10
      exact .inl ⟨p3 + 1, fun B b _ w hr _ => value_e_badN hr hm hi h0 hx _ p3 rfl hM (by omega) h6 _ rfl _ (.inr ⟨h8, h10, rfl⟩), fun rb w hr => rdfloat_e_bad1N hr hm rfl hn hi h0 hx p3 hM h6 h8 h10⟩
    obtain ⟨p6, hR, hl6⟩ := run_text s isDecB (by decide) (p3 + 1) h10
    have hlt6 := hR.1
    refine both_fin (p2 := (p + 1) + 2) (p3 := p3) (p4 := p3 + 1) (p5 := p3 + 1) (p6 := p6) hs true false ?_ hX (fun i h1 h2 => dec_is (hR.2.1 i h1 h2)) hlt hle3 (by omega) (by omega) (by omega) rfl ?_ ?_
    · rw [ex_cat s (show p ≤ p + 1 by omega) (show p + 1 ≤ p6 by omega), ex_one 45 hm, ex_cat s (show p + 1 ≤ p + 1 + 1 by omega) (show p + 1 + 1 ≤ p6 by omega), ex_one 48 h0, ex_cat s (show p + 1 + 1 ≤ p + 1 + 1 + 1 by omega) (show p + 1 + 1 + 1 ≤ p6 by omega), ex_one 120 hx, ex_cat s (show (p + 1) + 1 + 1 ≤ p3 by omega) (show p3 ≤ p6 by omega), ex_cat s (show p3 ≤ p3 + 1 by omega) (show p3 + 1 ≤ p6 by omega), ex_one 112 h6]; simp [txt]
    · intro much power B b hmu hB HPU HAT w hr hG
      exact value_numN hr hm hi h0 hx _ p3 rfl hM (by omega) h6 _ rfl _ (.inr (.inr ⟨h7, h8, hR⟩)) (by omega) much power hmu B hB hG HPU HAT
    · intro x ok rb HV w hr
      exact rdfloat_num3N hr hm rfl hn hi h0 hx p3 hM h6 p6 h7 h8 hR x ok (fun w' _ => HV w')
theorem both_any {s : ByteArray} (hs : s.size ≤ 65536) (p : Nat) : Both s p := by
  by_cases hn : bt s p = 110
  · exact both_nan hn
  by_cases hi : bt s p = 105
  · exact both_inf hi
  by_cases hm : bt s p = 45
  · by_cases hi2 : bt s (p + 1) = 105
    · exact both_infN hm hi2
    by_cases hn2 : bt s (p + 1) = 110
    · have hq : Bad2 (bt s) (p + 1) 48 120 (p + 1) := .inl ⟨by omega, rfl⟩
      exact .inl ⟨p + 1, fun B b _ w hr _ => value_0x_badN hr hm hi2 _ hq, fun rb w hr => rdfloat_0x_badM hr hm rfl hn2 _ hq⟩
    · exact both_numN hs hm hn2 hi2
  · exact both_num hs hm hn hi
end Go.Proofs.YtbkjmnopljmanaaGreatDoor
