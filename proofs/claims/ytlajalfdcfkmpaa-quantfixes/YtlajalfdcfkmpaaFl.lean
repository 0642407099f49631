/- What quaverref02's Float and Finite answer. -/
import Derived.Test.YtlajalfdcfkmpaaXu
import Derived.Test.YtlajalfdcfkmpaaQf
namespace Go.Proofs.Ytlajalfdcfkmpaa
open Go.RowKit Go.Maps

/-- A float's magnitude in units of its last place. -/
def mg (b : Nat) : Nat := if pw b = 0 then fr b else fr b + 4503599627370496
theorem sig_mg (b : Nat) : sig b = sg (ng b) (mg b) := by
  unfold sig sg mg
  by_cases h : pw b = 0
  · rw [if_pos h, if_pos h]
  · rw [if_neg h, if_neg h]
    split <;> simp
theorem mg_lt (b : Nat) : mg b < 9007199254740992 := by
  have := fr_lt b
  unfold mg; split <;> omega
theorem run_results_F {w : World} {tmps : Array Value} {b : Nat} {c0 c1 c2 : Value} (h6 : tmps.getD 2 undef = .pointer (some ⟨b, 0, none⟩)) (hr : Blk w b #[c0, c1, c2] 68) :
    (results Try.f33 tmps).run Try.prog w = .ok (.agg #[c0, c1, c2]) w := by
  have hl := run_loadVar_mid (P := Try.prog) w b 0 68 [c0, c1, c2] _ hr.range Try.underlying68 rfl infoQ
  rw [Array.getD_eq_getD_getElem?] at h6
  simp [results, h6, asAddr, hl]

set_option maxRecDepth 100000 in
set_option maxHeartbeats 1000000 in
theorem float_any (b : Nat) (hb : b < 18446744073709551616) (hf : pw b ≠ 2047) (w : World) :
    Calls Try.prog 33 #[.float .f64 b] w fun e w' => ∃ v z t, e = .returned v ∧ QA w' v z t ∧ t ≤ (-pwr b).toNat ∧ z * 2 ^ ((-pwr b).toNat - t) = sig b * 2 ^ (pwr b).toNat ∧ Below w.heap.size w w' := by
  obtain ⟨Z, hZ⟩ : ∃ Z : Int, Z = b := ⟨_, rfl⟩
  have hxb : ∀ w, (callFunc 15 #[.float .f64 b]).run Try.prog w = .ok (.value (.int .u64 Z)) w := fun w => by rw [hZ]; exact run_bits b w
  have hpl := pw_le b
  obtain ⟨p, hp⟩ : ∃ p, pw b = p := ⟨_, rfl⟩
  obtain ⟨f, hfr⟩ : ∃ f, fr b = f := ⟨_, rfl⟩
  obtain ⟨s, hs⟩ : ∃ s, ng b = s := ⟨_, rfl⟩
  obtain ⟨M, hM⟩ : ∃ M, mg b = M := ⟨_, rfl⟩
  obtain ⟨E, hE⟩ : ∃ E, pwr b = E := ⟨_, rfl⟩
  have hMb : M < 9007199254740992 := by rw [← hM]; exact mg_lt b
  have hEb : -1074 ≤ E ∧ E ≤ 971 := by rw [← hE]; unfold pwr; split <;> omega
  have e1 : Z / 4503599627370496 % 2048 = (p : Int) := by rw [hZ, ← hp]; unfold pw; omega
  obtain ⟨FI, hFI⟩ : ∃ FI : Int, FI = (f : Int) := ⟨_, rfl⟩
  have e2 : Z % 4503599627370496 = FI := by rw [hFI, hZ, ← hfr]; unfold fr; omega
  have HFI := hide hFI
  have e3 : (Z / 9223372036854775808 == 1) = s := by
    rw [hZ, ← hs]; unfold ng
    by_cases h : 9223372036854775808 ≤ b
    · rw [decide_eq_true h]; simp; omega
    · rw [decide_eq_false h]; simp; omega
  have hfl : f < 4503599627370496 := by rw [← hfr]; exact fr_lt b
  have HS := hide (show sig b = sg s M by rw [← hs, ← hM]; exact sig_mg b)
  have z0 : 0 ≤ Z := by omega
  have z1 : Z ≤ 18446744073709551615 := by omega
  have HE := hide (show (p = 0 ∧ E = -1074 ∧ M = f) ∨ (0 < p ∧ E = (p : Int) - 1075 ∧ M = f + 4503599627370496) by
    rw [← hE, ← hM]; unfold pwr mg; rw [hp, hfr]
    by_cases h : p = 0
    · rw [if_pos h, if_pos h]; exact .inl ⟨h, rfl, rfl⟩
    · rw [if_neg h, if_neg h]; exact .inr ⟨by omega, rfl, rfl⟩)
  obtain ⟨NB, hNB⟩ : ∃ b, b = w.heap.size := ⟨_, rfl⟩
  obtain ⟨W, hW⟩ : ∃ W, W = w.alloc (Obj.cells #[.bool false, .slice none 0 0, .slice none 0 0] 68) := ⟨_, rfl⟩
  have hBW : Below w.heap.size w W := by rw [hW]; exact Joins.below_alloc1 _ _
  have hBl : Blk W NB #[.bool false, .slice none 0 0, .slice none 0 0] 68 := by rw [hW, hNB]; exact Blk.alloc
  have HB := hide (And.intro hBW (And.intro hBl hNB))
  rw [hE]
  have f0 : 0 ≤ FI := by omega
  have f1 : FI < 4503599627370496 := by omega
  clear hBW hBl hE hM hs hfr hp hZ hf hb hFI
  go_enter Try.func33, Try.ntmps33
  go_upto_region 3 with fail
  rw [← hW, ← hNB]
  rw [e2]
  clear hW hNB e1 e2
  go_upto_if 15 with fail
  go_cut [4, 5] (fun ev mv wx => ev = .int .i64 (E + 1075) ∧ mv = .int .u64 (M : Nat) ∧ W = wx)
  case first =>
    rcases unhide HE with ⟨h1, h2, h3⟩ | ⟨h1, h2, h3⟩
    · subst h1
      go_wp2_with fail
      go_meet
      exact ⟨by rw [h2]; rfl, by rw [h3, unhide HFI], rfl⟩
    · have t1 : (0 : Int) < (p : Int) := by omega
      have t2 : decide (0 < p) = true := decide_eq_true h1
      have t3 : FI + 4503599627370496 = (M : Int) := by have := unhide HFI; omega
      have T3 := hide t3
      clear t3
      go_wp2_with fail
      go_meet
      exact ⟨by rw [h2]; congr 1; omega, by first | rfl | rw [unhide T3], rfl⟩
  case rest =>
  obtain ⟨rfl, rfl, rfl⟩ := hcut
  clear HE hfl
  have HWm := hide (word_any M (by omega))
  have HW1 := hide (word_any 1 (by omega))
  by_cases hE0 : 0 ≤ E
  · obtain ⟨A, rfl⟩ := Int.eq_ofNat_of_zero_le hE0
    have ha : ((A : Nat) : Int) + 1075 - 1075 = (A : Int) := by omega
    go_wp2_with fail
    refine (unhide HWm _).mono ?_
    rintro e w1 ⟨v1, rfl, hv1, hb1⟩
    have HS1 := hide (shlN_b hv1 (Nat.lt_of_lt_of_le (by omega : M < 18446744073709551616) (by have := ble (i := 2) (k := 990) (by omega); exact Nat.le_trans (by decide) this)) A (by omega))
    clear hv1
    go_wp2_with fail
    refine (unhide HS1).mono ?_
    rintro e w2 ⟨v2, rfl, hv2, hb2⟩
    clear HS1
    go_wp2_with fail
    refine (unhide HW1 _).mono ?_
    rintro e w3 ⟨v3, rfl, hv3, hb3⟩
    have hb13 := (hb1.trans (hb2.mono hb1.size)).trans (hb3.mono (Nat.le_trans hb1.size hb2.size))
    have HBx := hide hb13
    have HL := hide (lay_any (t := 0) s (hv2.below hb3) hv3 (mul_lt (i := 2) (j := 40) (k := 990) (Nat.lt_of_lt_of_le hMb (by decide)) (pow_lt (k := 40) (by omega)) (by decide)) (by omega))
    clear hv2 hv3 hb1 hb2 hb3 hb13
    go_wp2_with fail
    refine (unhide HL).mono ?_
    rintro e w5 ⟨v5, z, t, rfl, hq5, ht5, hz5, hb5⟩
    clear HL
    obtain ⟨a3, n3, c3, a4, n4, c4, hv5⟩ := hq5.form
    subst hv5
    obtain ⟨sz, hsz⟩ : ∃ sz, decide (z < 0) = sz := ⟨_, rfl⟩
    rw [hsz] at hq5 ⊢
    have hb05 := (unhide HBx).trans (hb5.mono (unhide HBx).size)
    have hBl5 := (unhide HB).2.1.below hb05 (unhide HB).2.1.lt
    have c0 := hBl5.cell 0 rfl
    have c1 := hBl5.cell 1 rfl
    have c2 := hBl5.cell 2 rfl
    have u0 := hBl5.unfrozen 0
    have u1 := hBl5.unfrozen 1
    have u2 := hBl5.unfrozen 2
    have H5 := hide (And.intro hBl5 (And.intro hq5 (And.intro hb05 (And.intro ht5 (And.intro hz5 hsz)))))
    clear hBl5 hq5 hb05 ht5 hz5 hsz hb5 HBx
    go_wp2_with fail
    have hq := (((unhide H5).1.put 0 (.bool sz)).put 1 (.slice a3 n3 c3)).put 2 (.slice a4 n4 c4)
    refine bodyPost_ret (run_results_F rfl hq) rfl ?_
    obtain ⟨vN, vD, eQ, nN, nD, lQ⟩ := (unhide H5).2.1
    obtain ⟨eQ1, eQ2, eQ3⟩ : sz = decide (z < 0) ∧ Value.slice a3 n3 c3 = vN ∧ Value.slice a4 n4 c4 = vD := by
      injection eQ with e; simpa using e
    subst eQ2 eQ3
    refine ⟨_, z, t, rfl, ⟨_, _, by rw [eQ1], nN.storeQ (unhide H5).1 _ _ _, nD.storeQ (unhide H5).1 _ _ _, lQ⟩, ?_, ?_, ?_⟩
    · have := (unhide H5).2.2.2.1; omega
    · obtain rfl : t = 0 := by have := (unhide H5).2.2.2.1; omega
      have h6 := (unhide H5).2.2.2.2.1
      rw [Nat.sub_zero, Int.pow_zero, Int.mul_one] at h6
      rw [show (-((A : Nat) : Int)).toNat - 0 = 0 by omega, Int.pow_zero, Int.mul_one, unhide HS, h6, Int.toNat_natCast]
      unfold sg
      split <;> simp [Int.neg_mul]
    · exact (((((unhide HB).1.trans ((unhide H5).2.2.1.mono (unhide HB).1.size)).setCell (by rw [(unhide HB).2.2]; exact Nat.le_refl _) _).setCell (by rw [(unhide HB).2.2]; exact Nat.le_refl _) _).setCell (by rw [(unhide HB).2.2]; exact Nat.le_refl _) _)
  · obtain ⟨A, hA⟩ : ∃ A : Nat, E = -(A : Int) := ⟨(-E).toNat, by omega⟩
    subst hA
    have ha : -((A : Nat) : Int) + 1075 - 1075 = -(A : Int) := by omega
    have ha2 : ¬ (0 : Int) ≤ -(A : Int) := by omega
    have ha3 : - -(A : Int) = (A : Int) := by omega
    go_wp2_with fail
    refine (unhide HWm _).mono ?_
    rintro e w1 ⟨v1, rfl, hv1, hb1⟩
    go_wp2_with fail
    refine (unhide HW1 _).mono ?_
    rintro e w2 ⟨v2, rfl, hv2, hb2⟩
    have HS1 := hide (shlN_b hv2 (lt990 (by decide)) A (by omega))
    have HV1 := hide (And.intro (hv1.below hb2) (hb1.trans (hb2.mono hb1.size)))
    clear hv1 hb1 hv2 hb2
    go_wp2_with fail
    refine (unhide HS1).mono ?_
    rintro e w3 ⟨v3, rfl, hv3, hb3⟩
    rw [Nat.one_mul] at hv3
    have hb13 := (unhide HV1).2.trans (hb3.mono (unhide HV1).2.size)
    have HBx := hide hb13
    have HL := hide (lay_any (t := A) s ((unhide HV1).1.below hb3) hv3 (Nat.lt_of_lt_of_le (by omega : M < 18446744073709551616) (by have := ble (i := 2) (k := 990) (by omega); exact Nat.le_trans (by decide) this)) (by omega))
    clear HS1 HV1 hv3 hb3 hb13
    go_wp2_with fail
    refine (unhide HL).mono ?_
    rintro e w5 ⟨v5, z, t, rfl, hq5, ht5, hz5, hb5⟩
    clear HL
    obtain ⟨a3, n3, c3, a4, n4, c4, hv5⟩ := hq5.form
    subst hv5
    obtain ⟨sz, hsz⟩ : ∃ sz, decide (z < 0) = sz := ⟨_, rfl⟩
    rw [hsz] at hq5 ⊢
    have hb05 := (unhide HBx).trans (hb5.mono (unhide HBx).size)
    have hBl5 := (unhide HB).2.1.below hb05 (unhide HB).2.1.lt
    have c0 := hBl5.cell 0 rfl
    have c1 := hBl5.cell 1 rfl
    have c2 := hBl5.cell 2 rfl
    have u0 := hBl5.unfrozen 0
    have u1 := hBl5.unfrozen 1
    have u2 := hBl5.unfrozen 2
    have H5 := hide (And.intro hBl5 (And.intro hq5 (And.intro hb05 (And.intro ht5 (And.intro hz5 hsz)))))
    clear hBl5 hq5 hb05 ht5 hz5 hsz hb5 HBx
    go_wp2_with fail
    have hq := (((unhide H5).1.put 0 (.bool sz)).put 1 (.slice a3 n3 c3)).put 2 (.slice a4 n4 c4)
    refine bodyPost_ret (run_results_F rfl hq) rfl ?_
    obtain ⟨vN, vD, eQ, nN, nD, lQ⟩ := (unhide H5).2.1
    obtain ⟨eQ1, eQ2, eQ3⟩ : sz = decide (z < 0) ∧ Value.slice a3 n3 c3 = vN ∧ Value.slice a4 n4 c4 = vD := by
      injection eQ with e; simpa using e
    subst eQ2 eQ3
    refine ⟨_, z, t, rfl, ⟨_, _, by rw [eQ1], nN.storeQ (unhide H5).1 _ _ _, nD.storeQ (unhide H5).1 _ _ _, lQ⟩, ?_, ?_, ?_⟩
    · have := (unhide H5).2.2.2.1; omega
    · have h6 := (unhide H5).2.2.2.2.1
      rw [show (- -(A : Int)).toNat = A by omega, show (-(A : Int)).toNat = 0 by omega, Int.pow_zero, Int.mul_one, unhide HS]
      exact h6
    · exact (((((unhide HB).1.trans ((unhide H5).2.2.1.mono (unhide HB).1.size)).setCell (by rw [(unhide HB).2.2]; exact Nat.le_refl _) _).setCell (by rw [(unhide HB).2.2]; exact Nat.le_refl _) _).setCell (by rw [(unhide HB).2.2]; exact Nat.le_refl _) _)
end Go.Proofs.Ytlajalfdcfkmpaa
