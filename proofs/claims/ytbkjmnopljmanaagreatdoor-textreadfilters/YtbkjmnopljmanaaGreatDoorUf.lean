/- The reference's Float: numbers. -/
import Derived.Test.YtbkjmnopljmanaaGreatDoorUe
import Derived.Deep.DeepCutAuto
import Derived.Deep.CutBlock
import Derived.Deep.RegionWith
namespace Go.Proofs.YtbkjmnopljmanaaGreatDoor
open Go.RowKit

theorem ctzFrom_odd (f : Nat) : ∀ (k t : Nat), k < f → Lib.ctzFrom f (2 ^ k * (2 * t + 1)) = k := by
  induction f with
  | zero => intro k t h; omega
  | succ f ih =>
    intro k t h
    cases k with
    | zero => simp [Lib.ctzFrom]
    | succ k =>
      have e : 2 ^ (k + 1) * (2 * t + 1) = 2 * (2 ^ k * (2 * t + 1)) := by rw [Nat.pow_succ, Nat.mul_comm (2 ^ k) 2, Nat.mul_assoc]
      rw [e, Lib.ctzFrom, if_neg (by omega), Nat.mul_div_cancel_left _ (by decide), ih k t (by omega)]; omega
/-- Halved k times it is odd: so many are its halvings. -/
theorem odd_end {m0 m k : Nat} (h0 : m0 < 9007199254740992) (hm : m0 = m * 2 ^ k) (ho : m % 2 = 1) (e0 : Int) : om m0 = m ∧ oe m0 e0 = e0 + (k : Int) := by
  have hk : k < 64 := by
    apply Nat.lt_of_not_le
    intro h
    have h1 : 2 ^ 64 ≤ 2 ^ k := Nat.pow_le_pow_right (by decide) h
    have h2 : 2 ^ k ≤ m * 2 ^ k := Nat.le_mul_of_pos_left _ (by omega)
    omega
  have hp : 0 < 2 ^ k := Nat.two_pow_pos _
  have hne : m0 ≠ 0 := by
    rw [hm]; exact Nat.ne_of_gt (Nat.mul_pos (by omega) hp)
  have hc : Lib.ctz 64 m0 = k := by
    unfold Lib.ctz
    rw [if_neg hne, hm, Nat.mul_comm, show m = 2 * (m / 2) + 1 by omega]
    exact ctzFrom_odd 64 k _ hk
  unfold om oe
  rw [if_neg hne, if_neg hne, hc]
  refine ⟨?_, rfl⟩
  rw [hm, Nat.mul_div_cancel _ hp]

set_option maxHeartbeats 2000000 in
set_option maxRecDepth 100000 in
theorem rfloat_pos (b : Nat) (hb : b < 18446744073709551616) (h : rg b < 9218868437227405312) (h0 : rg b ≠ 0) (hg : ¬ 9223372036854775808 ≤ b) (w : World) :
    Calls Tryz.prog 90 #[.float .f64 b] w fun e w' => e = .returned (.string ⟨(fltN b).toArray⟩) ∧ Below w.heap.size w w' := by
  have hx := run_bits
  have hP : (rg b : Int) / 4503599627370496 = (pw b : Int) := by unfold rg pw; omega
  have hF : (rg b : Int) % 4503599627370496 = (fr b : Int) := by unfold rg fr; omega
  have hM := mant_lt b
  have hM0 : 0 < mant b := by unfold mant; unfold rg at h0 h; unfold fr pw; split <;> omega
  have hmant : (pw b = 0 ∧ mant b = fr b ∧ expo b = -1074) ∨ (0 < pw b ∧ mant b = fr b + 4503599627370496 ∧ expo b = (pw b : Int) - 1075) := by
    unfold mant expo
    by_cases e : pw b = 0
    · simp [e]
    · simp [e]; omega
  have hpw : pw b < 2048 := by unfold pw; omega
  have hfr : fr b < 4503599627370496 := by unfold fr; omega
  have EX : Hid (fltN b = [48, 120] ++ hexL (om (mant b)) ++ [112] ++ Lib.itoa (oe (mant b) (expo b))) := rfl
  have hE := expo_in b
  have hr : rg b = b := by unfold rg; omega
  rw [hr] at hP hF h h0
  have h1 : (b : Int) / 9223372036854775808 = 0 := by omega
  have h2 : IntKind.u64.wrap ((b : Int) * 2) = (b : Int) * 2 := by rw [IntKind.wrap_u64]; omega
  have h3 : (b : Int) * 2 / 2 = (b : Int) := by omega
  have i1 : ¬ (9218868437227405312 : Int) < (b : Int) := by omega
  have i2 : ((b : Int) == 9218868437227405312) = false := by rw [beq_eq_false_iff_ne]; omega
  have i3 : ((b : Int) == 0) = false := by rw [beq_eq_false_iff_ne]; omega
  generalize fltN b = FF at *
  generalize mant b = m0 at *
  generalize expo b = e0 at *
  generalize fr b = f at *
  generalize pw b = p at *
  have HM := hide hmant
  clear hmant hg h h0 hb
  go_enter Tryz.func90, Tryz.ntmps90
  go_upto_if 35 with fail
  rw [hF]
  go_cut [5, 6] (fun mv ev wx => mv = .int .u64 (m0 : Nat) ∧ ev = .int .i64 (e0 + 1074) ∧ w = wx)
  case first =>
    rcases unhide HM with ⟨k1, k2, k3⟩ | ⟨k1, k2, k3⟩
    · have K := hide (And.intro k2 k3)
      subst k1
      clear k2 k3
      go_wp2_with fail
      go_meet
      exact ⟨by rw [(unhide K).1], by rw [(unhide K).2]; rfl, rfl⟩
    · have K := hide (And.intro k2 k3)
      have j1 : decide (0 < p) = true := decide_eq_true k1
      clear k2 k3
      go_wp2_with fail
      go_meet
      exact ⟨by rw [(unhide K).1]; rfl, by rw [(unhide K).2]; congr 1; omega, rfl⟩
  case rest =>
  obtain ⟨rfl, rfl, rfl⟩ := hcut
  have ee : e0 + 1074 - 1074 = e0 := by omega
  clear HM hF hP
  go_wp2_with fail
  go_loopw [5, 6] (fun mv ev wx => ∃ (m k : Nat) (e : Int), mv = .int .u64 (m : Nat) ∧ ev = .int .i64 e ∧ Hid (m0 = m * 2 ^ k ∧ 0 < m ∧ e = e0 + (k : Int)) ∧ m < 9007199254740992 ∧ -1074 ≤ e ∧ e ≤ 1100 ∧ w = wx)
    (fun mv _ _ => (intOf mv).toNat)
  case atStart => exact ⟨m0, 0, e0, rfl, rfl, ⟨by simp, hM0, by simp⟩, hM, hE.1, by omega, rfl⟩
  case round =>
    obtain ⟨m, k, e, rfl, rfl, hk, hm, he1, he2, rfl⟩ := hrel
    rcases (by omega : m % 2 = 1 ∨ m % 2 = 0) with ho | ho
    · have hI : ((m : Int) % 2 == 0) = false := by rw [beq_eq_false_iff_ne]; omega
      have HO := hide (odd_end hM (unhide hk).1 ho e0)
      by_cases hs : e < 0
      · obtain ⟨E, hEe⟩ : ∃ E : Nat, -e = (E : Int) := ⟨(-e).toNat, by omega⟩
        have HEe := hide hEe
        have hmax : max e (-e) = (E : Int) := by omega
        have hwn : IntKind.i64.wrap (-e) = -e := by simp [IntKind.wrap_i64]; omega
        have hwe : IntKind.u64.wrap (E : Int) = (E : Int) := by rw [IntKind.wrap_u64]; omega
        have HD := hide (digits10 E (by omega))
        have HX := hide (digits16 m (by omega))
        have hit : Hid (Lib.itoa e = 45 :: Lib.decDigits E) := by
          show _ = _
          unfold Lib.itoa
          rw [if_pos hs, show e.natAbs = E by omega]
        have l1 := hexL_len m hm
        have l2 := dec_len E (by omega)
        clear hEe
        go_wp2_with (first
          | (go_at_call_of 105 (Value.int IntKind.u64 10); refine (unhide HD _).mono ?_; rintro x w1 ⟨rfl, hb⟩; have B1 := hide hb; clear hb)
          | (go_at_call_of 105 (Value.int IntKind.u64 16); refine (unhide HX _).mono ?_; rintro x w2 ⟨rfl, hb⟩; have B2 := hide hb; clear hb))
        go_ret
        refine ⟨?_, (unhide B1).trans ((unhide B2).mono (unhide B1).size)⟩
        rw [unhide EX, (unhide HO).1, (unhide HO).2, ← (unhide hk).2.2, unhide hit]
        exact congrArg (fun x => Ending.returned (Value.string x)) (by apply ByteArray.ext; simp)
      · obtain ⟨E, hEe⟩ : ∃ E : Nat, e = (E : Int) := ⟨e.toNat, by omega⟩
        have HEe := hide hEe
        have hmax : max e (-e) = (E : Int) := by omega
        have hwn : IntKind.i64.wrap (-e) = -e := by simp [IntKind.wrap_i64]; omega
        have hwe : IntKind.u64.wrap (E : Int) = (E : Int) := by rw [IntKind.wrap_u64]; omega
        have HD := hide (digits10 E (by omega))
        have HX := hide (digits16 m (by omega))
        have hit : Hid (Lib.itoa e = Lib.decDigits E) := by
          show _ = _
          unfold Lib.itoa
          rw [if_neg hs, show e.toNat = E by omega]
        have l1 := hexL_len m hm
        have l2 := dec_len E (by omega)
        clear hEe
        go_wp2_with (first
          | (go_at_call_of 105 (Value.int IntKind.u64 10); refine (unhide HD _).mono ?_; rintro x w1 ⟨rfl, hb⟩; have B1 := hide hb; clear hb)
          | (go_at_call_of 105 (Value.int IntKind.u64 16); refine (unhide HX _).mono ?_; rintro x w2 ⟨rfl, hb⟩; have B2 := hide hb; clear hb))
        go_ret
        refine ⟨?_, (unhide B1).trans ((unhide B2).mono (unhide B1).size)⟩
        rw [unhide EX, (unhide HO).1, (unhide HO).2, ← (unhide hk).2.2, unhide hit]
        exact congrArg (fun x => Ending.returned (Value.string x)) (by apply ByteArray.ext; simp)
    · have hI : ((m : Int) % 2 == 0) = true := by rw [beq_iff_eq]; omega
      obtain ⟨m', hm'⟩ : ∃ m' : Nat, (m : Int) / 2 = (m' : Int) := ⟨m / 2, by omega⟩
      have hwe : IntKind.i64.wrap (e + 1) = e + 1 := by simp [IntKind.wrap_i64]; omega
      have hke : k < 64 := by
        apply Nat.lt_of_not_le
        intro h
        have h1 : 2 ^ 64 ≤ 2 ^ k := Nat.pow_le_pow_right (by decide) h
        have h2 : 2 ^ k ≤ m * 2 ^ k := Nat.le_mul_of_pos_left _ (unhide hk).2.1
        have := (unhide hk).1
        omega
      have HN : Hid (m0 = m' * 2 ^ (k + 1) ∧ 0 < m' ∧ e + 1 = e0 + ((k + 1 : Nat) : Int)) := by
        obtain ⟨q1, q2, q3⟩ := unhide hk
        refine ⟨?_, by omega, by push_cast; omega⟩
        rw [Nat.pow_succ, Nat.mul_comm (2 ^ k) 2, ← Nat.mul_assoc, show m' * 2 = m by omega]; exact q1
      have hb : -1074 ≤ e + 1 ∧ e + 1 ≤ 1100 := by have := (unhide HN).2.2; omega
      have HL : Hid (m' < m) := by show m' < m; have := (unhide hk).2.1; omega
      clear ho
      go_wp2_with fail
      exact ⟨⟨m', k + 1, e + 1, rfl, rfl, HN, by omega, hb.1, hb.2, trivial⟩, by have := unhide HL; simp only [intOf]; omega⟩

set_option maxHeartbeats 2000000 in
set_option maxRecDepth 100000 in
theorem rfloat_neg (b : Nat) (hb : b < 18446744073709551616) (h : rg b < 9218868437227405312) (h0 : rg b ≠ 0) (hg : 9223372036854775808 ≤ b) (w : World) :
    Calls Tryz.prog 90 #[.float .f64 b] w fun e w' => e = .returned (.string ⟨([45] ++ fltN b).toArray⟩) ∧ Below w.heap.size w w' := by
  have hx := run_bits
  have hP : (rg b : Int) / 4503599627370496 = (pw b : Int) := by unfold rg pw; omega
  have hF : (rg b : Int) % 4503599627370496 = (fr b : Int) := by unfold rg fr; omega
  have hM := mant_lt b
  have hM0 : 0 < mant b := by unfold mant; unfold rg at h0 h; unfold fr pw; split <;> omega
  have hmant : (pw b = 0 ∧ mant b = fr b ∧ expo b = -1074) ∨ (0 < pw b ∧ mant b = fr b + 4503599627370496 ∧ expo b = (pw b : Int) - 1075) := by
    unfold mant expo
    by_cases e : pw b = 0
    · simp [e]
    · simp [e]; omega
  have hpw : pw b < 2048 := by unfold pw; omega
  have hfr : fr b < 4503599627370496 := by unfold fr; omega
  have EX : Hid (fltN b = [48, 120] ++ hexL (om (mant b)) ++ [112] ++ Lib.itoa (oe (mant b) (expo b))) := rfl
  have hE := expo_in b
  have h1 : (b : Int) / 9223372036854775808 = 1 := by omega
  have h2 := rg_fact b hb
  have i1 : ¬ (9218868437227405312 : Int) < (rg b : Int) := by omega
  have i2 : ((rg b : Int) == 9218868437227405312) = false := by rw [beq_eq_false_iff_ne]; omega
  have i3 : ((rg b : Int) == 0) = false := by rw [beq_eq_false_iff_ne]; omega
  generalize fltN b = FF at *
  generalize mant b = m0 at *
  generalize expo b = e0 at *
  generalize fr b = f at *
  generalize pw b = p at *
  generalize rg b = r at *
  have HM := hide hmant
  clear hmant hg h h0 hb
  go_enter Tryz.func90, Tryz.ntmps90
  go_upto_if 35 with fail
  rw [hF]
  go_cut [5, 6] (fun mv ev wx => mv = .int .u64 (m0 : Nat) ∧ ev = .int .i64 (e0 + 1074) ∧ w = wx)
  case first =>
    rcases unhide HM with ⟨k1, k2, k3⟩ | ⟨k1, k2, k3⟩
    · have K := hide (And.intro k2 k3)
      subst k1
      clear k2 k3
      go_wp2_with fail
      go_meet
      exact ⟨by rw [(unhide K).1], by rw [(unhide K).2]; rfl, rfl⟩
    · have K := hide (And.intro k2 k3)
      have j1 : decide (0 < p) = true := decide_eq_true k1
      clear k2 k3
      go_wp2_with fail
      go_meet
      exact ⟨by rw [(unhide K).1]; rfl, by rw [(unhide K).2]; congr 1; omega, rfl⟩
  case rest =>
  obtain ⟨rfl, rfl, rfl⟩ := hcut
  have ee : e0 + 1074 - 1074 = e0 := by omega
  clear HM hF hP
  go_wp2_with fail
  go_loopw [5, 6] (fun mv ev wx => ∃ (m k : Nat) (e : Int), mv = .int .u64 (m : Nat) ∧ ev = .int .i64 e ∧ Hid (m0 = m * 2 ^ k ∧ 0 < m ∧ e = e0 + (k : Int)) ∧ m < 9007199254740992 ∧ -1074 ≤ e ∧ e ≤ 1100 ∧ w = wx)
    (fun mv _ _ => (intOf mv).toNat)
  case atStart => exact ⟨m0, 0, e0, rfl, rfl, ⟨by simp, hM0, by simp⟩, hM, hE.1, by omega, rfl⟩
  case round =>
    obtain ⟨m, k, e, rfl, rfl, hk, hm, he1, he2, rfl⟩ := hrel
    rcases (by omega : m % 2 = 1 ∨ m % 2 = 0) with ho | ho
    · have hI : ((m : Int) % 2 == 0) = false := by rw [beq_eq_false_iff_ne]; omega
      have HO := hide (odd_end hM (unhide hk).1 ho e0)
      by_cases hs : e < 0
      · obtain ⟨E, hEe⟩ : ∃ E : Nat, -e = (E : Int) := ⟨(-e).toNat, by omega⟩
        have HEe := hide hEe
        have hmax : max e (-e) = (E : Int) := by omega
        have hwn : IntKind.i64.wrap (-e) = -e := by simp [IntKind.wrap_i64]; omega
        have hwe : IntKind.u64.wrap (E : Int) = (E : Int) := by rw [IntKind.wrap_u64]; omega
        have HD := hide (digits10 E (by omega))
        have HX := hide (digits16 m (by omega))
        have hit : Hid (Lib.itoa e = 45 :: Lib.decDigits E) := by
          show _ = _
          unfold Lib.itoa
          rw [if_pos hs, show e.natAbs = E by omega]
        have l1 := hexL_len m hm
        have l2 := dec_len E (by omega)
        clear hEe
        go_wp2_with (first
          | (go_at_call_of 105 (Value.int IntKind.u64 10); refine (unhide HD _).mono ?_; rintro x w1 ⟨rfl, hb⟩; have B1 := hide hb; clear hb)
          | (go_at_call_of 105 (Value.int IntKind.u64 16); refine (unhide HX _).mono ?_; rintro x w2 ⟨rfl, hb⟩; have B2 := hide hb; clear hb))
        go_ret
        refine ⟨?_, (unhide B1).trans ((unhide B2).mono (unhide B1).size)⟩
        rw [unhide EX, (unhide HO).1, (unhide HO).2, ← (unhide hk).2.2, unhide hit]
        exact congrArg (fun x => Ending.returned (Value.string x)) (by apply ByteArray.ext; simp)
      · obtain ⟨E, hEe⟩ : ∃ E : Nat, e = (E : Int) := ⟨e.toNat, by omega⟩
        have HEe := hide hEe
        have hmax : max e (-e) = (E : Int) := by omega
        have hwn : IntKind.i64.wrap (-e) = -e := by simp [IntKind.wrap_i64]; omega
        have hwe : IntKind.u64.wrap (E : Int) = (E : Int) := by rw [IntKind.wrap_u64]; omega
        have HD := hide (digits10 E (by omega))
        have HX := hide (digits16 m (by omega))
        have hit : Hid (Lib.itoa e = Lib.decDigits E) := by
          show _ = _
          unfold Lib.itoa
          rw [if_neg hs, show e.toNat = E by omega]
        have l1 := hexL_len m hm
        have l2 := dec_len E (by omega)
        clear hEe
        go_wp2_with (first
          | (go_at_call_of 105 (Value.int IntKind.u64 10); refine (unhide HD _).mono ?_; rintro x w1 ⟨rfl, hb⟩; have B1 := hide hb; clear hb)
          | (go_at_call_of 105 (Value.int IntKind.u64 16); refine (unhide HX _).mono ?_; rintro x w2 ⟨rfl, hb⟩; have B2 := hide hb; clear hb))
        go_ret
        refine ⟨?_, (unhide B1).trans ((unhide B2).mono (unhide B1).size)⟩
        rw [unhide EX, (unhide HO).1, (unhide HO).2, ← (unhide hk).2.2, unhide hit]
        exact congrArg (fun x => Ending.returned (Value.string x)) (by apply ByteArray.ext; simp)
    · have hI : ((m : Int) % 2 == 0) = true := by rw [beq_iff_eq]; omega
      obtain ⟨m', hm'⟩ : ∃ m' : Nat, (m : Int) / 2 = (m' : Int) := ⟨m / 2, by omega⟩
      have hwe : IntKind.i64.wrap (e + 1) = e + 1 := by simp [IntKind.wrap_i64]; omega
      have hke : k < 64 := by
        apply Nat.lt_of_not_le
        intro h
        have h1 : 2 ^ 64 ≤ 2 ^ k := Nat.pow_le_pow_right (by decide) h
        have h2 : 2 ^ k ≤ m * 2 ^ k := Nat.le_mul_of_pos_left _ (unhide hk).2.1
        have := (unhide hk).1
        omega
      have HN : Hid (m0 = m' * 2 ^ (k + 1) ∧ 0 < m' ∧ e + 1 = e0 + ((k + 1 : Nat) : Int)) := by
        obtain ⟨q1, q2, q3⟩ := unhide hk
        refine ⟨?_, by omega, by push_cast; omega⟩
        rw [Nat.pow_succ, Nat.mul_comm (2 ^ k) 2, ← Nat.mul_assoc, show m' * 2 = m by omega]; exact q1
      have hb : -1074 ≤ e + 1 ∧ e + 1 ≤ 1100 := by have := (unhide HN).2.2; omega
      have HL : Hid (m' < m) := by show m' < m; have := (unhide hk).2.1; omega
      clear ho
      go_wp2_with fail
      exact ⟨⟨m', k + 1, e + 1, rfl, rfl, HN, by omega, hb.1, hb.2, trivial⟩, by have := unhide HL; simp only [intOf]; omega⟩
end Go.Proofs.YtbkjmnopljmanaaGreatDoor
