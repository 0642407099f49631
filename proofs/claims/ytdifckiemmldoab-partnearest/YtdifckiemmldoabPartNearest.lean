/- For every sign, every uint64 m and every int e, PartNearest(neg, m, e) is true: what Join answers is no farther than its neighbours, and even at a tie. No condition. -/
import Derived.Test.YtdifckiemmldoabNearWalks
import Derived.ProofKit
namespace Go.Proofs.Ytdifckiemmldoab
open Go.ChangeShapes Go.WideShapes Go.ChangeAt Go.RowKit

theorem wrap_pow (n : Nat) (t : Nat) (h : n * 2 ^ t ≤ 4611686018427387904) : IntKind.u64.wrap ((n : Int) * 2 ^ t) = ((n * 2 ^ t : Nat) : Int) := by
  have e : (n : Int) * 2 ^ t = ((n * 2 ^ t : Nat) : Int) := by rw [Int.natCast_mul, Int.natCast_pow]; rfl
  rw [e, IntKind.wrap_u64]
  generalize n * 2 ^ t = X at *
  omega
theorem wrap_two (t : Nat) (h : 2 ^ t ≤ 4611686018427387904) : IntKind.u64.wrap (2 ^ t) = ((2 ^ t : Nat) : Int) := by
  have := wrap_pow 1 t (by omega)
  rw [Nat.one_mul] at this
  rw [← this]; simp

set_option maxRecDepth 10000 in
theorem partNearest_any (neg : Bool) (m e : Int) (hm : 0 ≤ m ∧ m ≤ 18446744073709551615) (_he : -9223372036854775808 ≤ e ∧ e ≤ 9223372036854775807) (w : World) :
    Calls Try.prog 3 #[.bool neg, .int .u64 m, .int .i64 e] w fun e w' => e = .returned (.bool true) ∧ w' = w := by
  obtain ⟨h0, h1⟩ := hm
  have e1 : e.tmod 900 < 900 := Int.tmod_lt_of_pos e (by decide)
  have e0 : -900 < e.tmod 900 := Int.lt_tmod_of_pos e (by decide)
  have HJ := join_any neg (m / 4) (e.tmod 900) (by omega) (by omega)
  obtain ⟨M, hM⟩ : ∃ M : Nat, M = (m / 4).toNat := ⟨_, rfl⟩
  have hMi : m / 4 = (M : Int) := by omega
  rw [← hM] at HJ
  have hMlt : M < 4611686018427387904 := by omega
  generalize hE : e.tmod 900 = E at *
  have hr := joinRung_le M E
  generalize hR : joinRung M E = r at *
  obtain ⟨f1, f2, f3, f4, f5⟩ := put_fields neg r (by omega)
  by_cases hz : M = 0
  · have hr0 : r = 0 := by rw [← hR]; unfold joinRung; rw [if_pos (Or.inl hz)]
    have hpw : pw (putBits neg r) = 0 := by rw [f3, hr0]
    have HS := split_sub _ f1 hpw
    have HB := signbit_any _ f1
    rw [f2] at HS HB
    have ho : (FloatKind.f64.format.order (putBits neg r) 0 == some .eq) = true := by rw [hr0]; cases neg <;> decide
    subst hE
    exact near_zero neg m e _ _ _ h0 h1 (by omega) (by omega) (by rw [hMi, hz]; rfl) HJ HS HB ho w
  · obtain ⟨s1, s2, s3, s4, s5, s6⟩ := rung_mid M E hMlt hz (by omega) (by omega)
    rw [hR] at s2
    have ho := put_nonzero neg r (by omega) (by omega)
    have t0 : (m / 4 == 0) = false := by rw [hMi]; simp; omega
    have hb := bitLen_bounds M (by omega)
    by_cases hk : kept M E = 9007199254740992
    · -- rounded up to the next power of two
      have hpw : pw (putBits neg r) = (stepOf M E + 1076).toNat := by rw [f3]; omega
      have hfr : fr (putBits neg r) = 0 := by rw [f4]; omega
      have HS := split_norm _ f1 (by omega) (by omega)
      have HB := signbit_any _ f1
      rw [f2] at HS HB
      rw [hfr, hpw, show (((stepOf M E + 1076).toNat : Nat) : Int) - 1075 = stepOf M E + 1 by omega, show ((0 : Nat) : Int) + 4503599627370496 = 4503599627370496 by omega] at HS
      have hdn : E < stepOf M E := by
        apply Int.lt_of_not_ge
        intro h
        have hu : kept M E = M * 2 ^ (E - stepOf M E).toNat := by unfold kept; rw [if_pos h]
        have := up_lt M (E - stepOf M E).toNat (by omega) (by omega)
        omega
      have hkr : kept M E = rne M (stepOf M E - E).toNat := by unfold kept; rw [if_neg (by omega)]
      obtain ⟨k, hkk⟩ : ∃ k : Nat, (k : Int) = stepOf M E - E := ⟨(stepOf M E - E).toNat, by omega⟩
      obtain ⟨j, rfl⟩ : ∃ j, k = j + 1 := ⟨k - 1, by omega⟩
      rw [show (stepOf M E - E).toNat = j + 1 by omega] at hkr
      obtain ⟨c1, c2, c3⟩ := rne_close M (j + 1) (by omega)
      rw [← hkr, hk] at c1 c2 c3
      have hMb : M < 9007199254740992 * 2 ^ (j + 1) := by
        have h2 : 2 ^ Lib.bitLen M ≤ 2 ^ (53 + (j + 1)) := Nat.pow_le_pow_right (by decide) (by omega)
        rw [Nat.pow_add] at h2
        exact Nat.lt_of_lt_of_le hb.1 h2
      have hj : 2 ^ (j + 1) ≤ 2 ^ 9 := Nat.pow_le_pow_right (by decide) (by omega)
      have D : (stepOf M E + 1 - E).toNat = j + 1 + 1 := by omega
      have q1 : IntKind.u64.wrap (4503599627370496 * 2 ^ (j + 1 + 1)) = ((4503599627370496 * 2 ^ (j + 1 + 1) : Nat) : Int) := wrap_pow 4503599627370496 (j + 1 + 1) (by rw [Nat.pow_succ]; omega)
      have q2 := wrap_two (j + 1) (by omega)
      have hdb : 4503599627370496 * 2 ^ (j + 1 + 1) = 9007199254740992 * 2 ^ (j + 1) := by rw [Nat.pow_succ 2 (j + 1)]; omega
      have hh : 2 ^ (j + 1) = 2 * 2 ^ j := by rw [Nat.pow_succ]; omega
      have hp := Nat.two_pow_pos j
      rw [hdb] at q1
      subst hE
      rw [hMi] at HJ
      by_cases hcmp : 2 * (((9007199254740992 * 2 ^ (j + 1) : Nat) : Int) - M) = ((2 ^ (j + 1) : Nat) : Int)
      · exact near_one_gt_eq neg m e _ _ h0 h1 (by omega) (by omega) t0 (by omega) (by omega) ((9007199254740992 * 2 ^ (j + 1) : Nat) : Int) ((2 ^ (j + 1) : Nat) : Int) (by omega) (by omega) (by omega) (by omega) (by rw [D]; exact q1) (by rw [D, Nat.add_sub_cancel]; exact q2) (by omega) (by omega) (by rw [hMi]; exact HJ) HS HB ho w
      · exact near_one_gt_lt neg m e _ _ h0 h1 (by omega) (by omega) t0 (by omega) (by omega) ((9007199254740992 * 2 ^ (j + 1) : Nat) : Int) ((2 ^ (j + 1) : Nat) : Int) (by omega) (by omega) (by omega) (by omega) (by rw [D]; exact q1) (by rw [D, Nat.add_sub_cancel]; exact q2) (by omega) (by omega) (by rw [hMi]; exact HJ) HS HB ho w
    · have hpw : pw (putBits neg r) = (stepOf M E + 1075).toNat := by rw [f3]; omega
      have hfr : fr (putBits neg r) = kept M E - 4503599627370496 := by rw [f4]; omega
      have HS := split_norm _ f1 (by omega) (by omega)
      have HB := signbit_any _ f1
      rw [f2] at HS HB
      rw [hfr, hpw, show (((stepOf M E + 1075).toNat : Nat) : Int) - 1075 = stepOf M E by omega, show ((kept M E - 4503599627370496 : Nat) : Int) + 4503599627370496 = (kept M E : Int) by omega] at HS
      by_cases hup : stepOf M E ≤ E
      · have hu : kept M E = M * 2 ^ (E - stepOf M E).toNat := by unfold kept; rw [if_pos hup]
        have q4 := wrap_pow M (E - stepOf M E).toNat (by omega)
        have q3 : (kept M E : Int) / 2 ^ (E - stepOf M E).toNat = m / 4 := by
          rw [hu, hMi]
          have : (2 : Int) ^ (E - stepOf M E).toNat = ((2 ^ (E - stepOf M E).toNat : Nat) : Int) := by rw [Int.natCast_pow]; rfl
          rw [this, ← Int.natCast_ediv, Nat.mul_div_cancel _ (Nat.two_pow_pos _)]
        rw [← hu] at q4
        subst hE
        exact near_up neg m e _ _ _ h0 h1 (by omega) (by omega) t0 hup (by omega) (by omega) (by omega) q3 (by rw [hMi]; exact q4) (by rw [hMi]; exact (by rw [hMi] at HJ; exact HJ)) HS HB ho w
      · have hkr : kept M E = rne M (stepOf M E - E).toNat := by unfold kept; rw [if_neg hup]
        obtain ⟨k, hkk⟩ : ∃ k : Nat, (k : Int) = stepOf M E - E := ⟨(stepOf M E - E).toNat, by omega⟩
        obtain ⟨j, rfl⟩ : ∃ j, k = j + 1 := ⟨k - 1, by omega⟩
        have D : (stepOf M E - E).toNat = j + 1 := by omega
        rw [D] at hkr
        obtain ⟨c1, c2, c3⟩ := rne_close M (j + 1) (by omega)
        rw [← hkr] at c1 c2 c3
        have hj : 2 ^ (j + 1) ≤ 2 ^ 9 := Nat.pow_le_pow_right (by decide) (by omega)
        have hMb : 4503599627370496 * 2 ^ (j + 1) ≤ M := by
          have h2 : 2 ^ (52 + (j + 1)) ≤ 2 ^ (Lib.bitLen M - 1) := Nat.pow_le_pow_right (by decide) (by omega)
          rw [Nat.pow_add] at h2
          exact Nat.le_trans h2 (hb.2 hz).1
        have hWb : kept M E * 2 ^ (j + 1) ≤ 4611686018427387904 := by
          have := Nat.mul_le_mul s4 hj
          omega
        have q1 := wrap_pow (kept M E) (j + 1) hWb
        have hh : 2 ^ (j + 1) = 2 * 2 ^ j := by rw [Nat.pow_succ]; omega
        have hp := Nat.two_pow_pos j
        have q2 := wrap_two j (by omega)
        subst hE
        have HJ' : ∀ w, Calls Try.prog 6 #[.bool neg, .int .u64 (m / 4), .int .i64 (e.tmod 900)] w fun e w' => e = .returned (.float .f64 (putBits neg r)) ∧ w' = w := HJ
        by_cases hone : kept M (e.tmod 900) = 4503599627370496
        · rw [hone] at HS q1 c1 c2 c3
          by_cases g1 : 4503599627370496 * 2 ^ (j + 1) = M
          · exact near_one_same neg m e _ _ h0 h1 (by omega) (by omega) t0 (by omega) (by omega) ((4503599627370496 * 2 ^ (j + 1) : Nat) : Int) ((2 ^ j : Nat) : Int) (by omega) (by omega) (by omega) (by omega) (by rw [D]; exact q1) (by rw [D, Nat.add_sub_cancel]; exact q2) (by omega) (by omega) HJ' HS HB ho w
          · by_cases g2 : 2 * (((4503599627370496 * 2 ^ (j + 1) : Nat) : Int) - M) = -((2 ^ (j + 1) : Nat) : Int)
            · exact near_one_le_eq neg m e _ _ h0 h1 (by omega) (by omega) t0 (by omega) (by omega) ((4503599627370496 * 2 ^ (j + 1) : Nat) : Int) ((2 ^ j : Nat) : Int) (by omega) (by omega) (by omega) (by omega) (by rw [D]; exact q1) (by rw [D, Nat.add_sub_cancel]; exact q2) (by omega) (by omega) HJ' HS HB ho w
            · exact near_one_le_lt neg m e _ _ h0 h1 (by omega) (by omega) t0 (by omega) (by omega) ((4503599627370496 * 2 ^ (j + 1) : Nat) : Int) ((2 ^ j : Nat) : Int) (by omega) (by omega) (by omega) (by omega) (by rw [D]; exact q1) (by rw [D, Nat.add_sub_cancel]; exact q2) (by omega) (by omega) HJ' HS HB ho w
        · have tn : ((kept M (e.tmod 900) : Int) == 4503599627370496) = false := by simp; omega
          have hev : ((2 * (((kept M (e.tmod 900) * 2 ^ (j + 1) : Nat) : Int) - M) = ((2 ^ (j + 1) : Nat) : Int) ∨ 2 * (((kept M (e.tmod 900) * 2 ^ (j + 1) : Nat) : Int) - M) = -((2 ^ (j + 1) : Nat) : Int)) → ((kept M (e.tmod 900) : Int) % 2 == 0) = true) := by
            intro h
            have := c3 h
            simp; omega
          generalize hX : kept M (e.tmod 900) * 2 ^ (j + 1) = X at *
          rcases Int.lt_trichotomy (X : Int) (M : Int) with g | g | g
          · by_cases g2 : 2 * ((X : Int) - M) = -((2 ^ (j + 1) : Nat) : Int)
            · exact near_le_eq neg m e _ _ _ h0 h1 (by omega) (by omega) t0 (by omega) (by omega) (X : Int) ((2 ^ j : Nat) : Int) (by omega) (by omega) (by omega) (by omega) (by rw [D]; exact q1) (by rw [D, Nat.add_sub_cancel]; exact q2) (by omega) (by omega) tn (by omega) (by omega) (hev (Or.inr g2)) HJ' HS HB ho w
            · exact near_le_lt neg m e _ _ _ h0 h1 (by omega) (by omega) t0 (by omega) (by omega) (X : Int) ((2 ^ j : Nat) : Int) (by omega) (by omega) (by omega) (by omega) (by rw [D]; exact q1) (by rw [D, Nat.add_sub_cancel]; exact q2) (by omega) (by omega) tn (by omega) (by omega) HJ' HS HB ho w
          · exact near_same neg m e _ _ _ h0 h1 (by omega) (by omega) t0 (by omega) (by omega) (X : Int) ((2 ^ j : Nat) : Int) (by omega) (by omega) (by omega) (by omega) (by rw [D]; exact q1) (by rw [D, Nat.add_sub_cancel]; exact q2) (by omega) (by omega) tn (by omega) (by omega) HJ' HS HB ho w
          · by_cases g2 : 2 * ((X : Int) - M) = ((2 ^ (j + 1) : Nat) : Int)
            · exact near_gt_eq neg m e _ _ _ h0 h1 (by omega) (by omega) t0 (by omega) (by omega) (X : Int) ((2 ^ j : Nat) : Int) (by omega) (by omega) (by omega) (by omega) (by rw [D]; exact q1) (by rw [D, Nat.add_sub_cancel]; exact q2) (by omega) (by omega) tn (by omega) (by omega) (hev (Or.inl g2)) HJ' HS HB ho w
            · exact near_gt_lt neg m e _ _ _ h0 h1 (by omega) (by omega) t0 (by omega) (by omega) (X : Int) ((2 ^ j : Nat) : Int) (by omega) (by omega) (by omega) (by omega) (by rw [D]; exact q1) (by rw [D, Nat.add_sub_cancel]; exact q2) (by omega) (by omega) tn (by omega) (by omega) HJ' HS HB ho w

set_option maxRecDepth 100000 in
theorem partNearest_lifted (os : Os) (started : os.Started) (H : Type) (enc : TypeId × Value → H) :
    ReturnsInHanded {} Try.checked os 3 .any (Rows.partNearestSpec.pre6 enc Try.prog Try.f3 Rows.partNearestRow.domain false) (Rows.partNearestSpec.post enc Try.prog Try.f3 false true false false) := by
  refine returnsInHanded_of_change (C := Try.checked) (by kernel_rfl) started (by kernel_rfl) Try.func3
    (ChangeSpec.witness6 (enc := enc) (C := Try.checked) false ⟨#[], #[.bool false, .int .u64 0, .int .i64 0], []⟩ 8 (by kernel_rfl) (by kernel_rfl) (by kernel_rfl) (by kernel_rfl)) ?_
  intro W base args ds gs before hval0 hW hcnd _
  have hval : ∀ (j : Nat) t v, Try.f3.params[j]? = some t → args[j]? = some v → Value.okWide Try.prog W .any base t v := hval0
  have hW' := hW
  obtain ⟨p, q, hA0, hV, rfl, hfz, hnd⟩ := hW
  have hA : DataW.TrodAll enc Try.prog W 0 (fun _ => true) true Try.f3.params.toList args.toList ds p := hA0
  rw [Try.params3] at hA hval
  obtain ⟨v0, v1, v2, d0, d1, d2, p0, p1, p2, rfl, rfl, rfl, h0, h1, h2⟩ := trodAll_three hA
  obtain ⟨rfl, rfl⟩ := trodVars_none hV
  obtain ⟨x0, rfl, rfl, rfl⟩ := open_bool Try.underlying4 (hval 0 4 v0 rfl rfl) h0
  obtain ⟨x1, rfl, rfl, rfl, w1⟩ := open_int Try.underlying22 (hval 1 22 v1 rfl rfl) h1
  obtain ⟨x2, rfl, rfl, rfl, w2⟩ := open_int Try.underlying3 (hval 2 3 v2 rfl rfl) h2
  clear hA0 hval0
  simp only [List.append_nil] at hW'
  refine (partNearest_any x0 x1 x2 (bound_u x1 w1) (bound_i x2 w2) W).mono fun e W' ⟨he, hw⟩ => ?_
  subst he; subst hw
  exact ⟨_, rfl, post_of_same (pa := []) (pv := []) hW' (fun _ _ _ => trodAll_mk1 (shut_bool Try.underlying4 true)) (fun sp _ => trodAll_mk3 (shut_bool Try.underlying4 x0) (shut_int Try.underlying22 w1) (shut_int Try.underlying3 w2)) (fun _ _ => rfl) rfl
    (World.keptBut_refl _ _) (fun _ => rfl) (ok_one (by kernel_rfl) rfl (okWide_bool_mk Try.underlying4 true))⟩

theorem partNearest_holds : Rows.PartNearestSaid :=
  OpenClaim.holds_of_wide 3 Try.f3 rfl rfl rfl rfl rfl rfl rfl ⟨rfl, rfl, rfl, rfl, rfl⟩ rfl rfl rfl rfl rfl (by kernel_rfl) Try.func3 (by kernel_rfl)
    (of_decide_eq_true (by kernel_rfl)) (by unfold Func.isWrapper; first | (rw [if_pos (by decide +kernel)]; kernel_rfl) | (rw [if_neg (by decide +kernel)]; exact ⟨rfl, rfl⟩))
    (fun os started H enc _ => partNearest_lifted os started H enc)

end Go.Proofs.Ytdifckiemmldoab
