/- Fractions over powers of two; Lay. -/
import Derived.Test.YtlajalfdcfkmpaaXk
import Derived.Test.YtlajalfdcfkmpaaOpi
namespace Go.Proofs.Ytlajalfdcfkmpaa
open Go.RowKit Go.Maps

/-- The number n with a sign. -/
def sg (neg : Bool) (n : Nat) : Int := if neg then -(n : Int) else n
/-- The fraction z over 2^t lies there, in lowest terms. -/
def QA (w : World) (v : Value) (z : Int) (t : Nat) : Prop := ∃ vN vD, v = .agg #[.bool (decide (z < 0)), vN, vD] ∧ NA w vN z.natAbs ∧ NA w vD (2 ^ t) ∧ (t = 0 ∨ z % 2 = 1)
theorem QA.below {w w' : World} {v : Value} {z : Int} {t : Nat} (h : QA w v z t) (hb : Below w.heap.size w w') : QA w' v z t := by
  obtain ⟨a, b, h1, h2, h3, h4⟩ := h
  exact ⟨a, b, h1, h2.below hb, h3.below hb, h4⟩
theorem infoQ : (Try.prog.info? 68).map (·.size) = some 3 := by kernel_rfl
theorem run_results_Q {w : World} {tmps : Array Value} {b : Nat} {c0 c1 c2 : Value} (h6 : tmps.getD 6 undef = .pointer (some ⟨b, 0, none⟩)) (hr : Blk w b #[c0, c1, c2] 68) :
    (results Try.f52 tmps).run Try.prog w = .ok (.agg #[c0, c1, c2]) w := by
  have hl := run_loadVar_mid (P := Try.prog) w b 0 68 [c0, c1, c2] _ hr.range Try.underlying68 rfl infoQ
  rw [Array.getD_eq_getD_getElem?] at h6
  simp [results, h6, asAddr, hl]

/-- A number stays where a block of another kind is written. -/
theorem NA.storeQ {w : World} {v : Value} {x NB : Nat} {f : Bool} {a b : Option Addr} {m n c d : Nat} (h : NA w v x) (hB : Blk w NB #[.bool f, .slice a m c, .slice b n d] 68) (p q r : Value) :
    NA (((w.setCell ⟨NB, 0, none⟩ p).setCell ⟨NB, 1, none⟩ q).setCell ⟨NB, 2, none⟩ r) v x := by
  obtain ⟨ad, n, cap, d, rfl, h1, h2, h3, h4⟩ := h
  refine ⟨ad, n, cap, d, rfl, h1, fun j hj => ?_, h3, h4⟩
  obtain ⟨b, off, e, k1, k2⟩ := h2 j hj
  have hne : b ≠ NB := by
    rintro rfl
    rw [Joins.cell_of_block hB] at k2
    rcases (by omega : off + j = 0 ∨ off + j = 1 ∨ off + j = 2 ∨ 3 ≤ off + j) with e | e | e | e
    · rw [e] at k2; cases k2
    · rw [e] at k2; cases k2
    · rw [e] at k2; cases k2
    · rw [Array.getElem?_eq_none (by simpa using e)] at k2; cases k2
  refine ⟨b, off, e, by simpa [World.setCell] using k1, ?_⟩
  have g : ∀ (w : World) i u, w.grownBy (w.setCell ⟨NB, i, none⟩ u) (some NB) := fun w i u => ⟨rfl, rfl, rfl, by simp [World.setCell], fun k hk hne => Below.heap_setCell _ _ _ _ (fun e => hne (by rw [e]))⟩
  exact (g _ _ _).cell ((g _ _ _).cell ((g _ _ _).cell k2 (by simpa using hne)) (by simpa using hne)) (by simpa using hne)

set_option maxRecDepth 100000 in
set_option maxHeartbeats 1000000 in
theorem lay_any (neg : Bool) {v1 v2 : Value} {n t : Nat} {w : World} (h1 : NA w v1 n) (h2 : NA w v2 (2 ^ t)) (hx : n < 4294967296 ^ 990) (ht : t ≤ 12000) :
    Calls Try.prog 52 #[.bool neg, v1, v2] w fun e w' => ∃ v z t', e = .returned v ∧ QA w' v z t' ∧ t' ≤ t ∧ z * 2 ^ (t - t') = sg neg n ∧ Below w.heap.size w w' := by
  obtain ⟨a1, n1, c1, rfl, f1⟩ := h1.form
  obtain ⟨NB, hNB⟩ : ∃ b, b = w.heap.size := ⟨_, rfl⟩
  obtain ⟨W, hW⟩ : ∃ W, W = w.alloc (Obj.cells #[.bool false, .slice none 0 0, .slice none 0 0] 68) := ⟨_, rfl⟩
  have hBW : Below w.heap.size w W := by rw [hW]; exact Joins.below_alloc1 _ _
  have hBl : Blk W NB #[.bool false, .slice none 0 0, .slice none 0 0] 68 := by rw [hW, hNB]; exact Blk.alloc
  have k1 : NA W (.slice a1 n1 c1) n := h1.below hBW
  have k2 : NA W v2 (2 ^ t) := h2.below hBW
  by_cases hn0 : n = 0
  · subst hn0
    obtain rfl : n1 = 0 := f1.2 rfl
    have HB := hide (And.intro hBW hBl)
    clear h1 h2 k1 k2 hx f1 hBW hBl
    go_enter Try.func52, Try.ntmps52
    go_upto_region 2 with fail
    rw [← hW, ← hNB]
    have HNB := hide hNB
    clear hW hNB
    go_wp2_with fail
    refine (word_any 1 (by decide) _).mono ?_
    rintro e w2 ⟨v, rfl, hN, hB2⟩
    obtain ⟨a3, n3, c3, rfl, _⟩ := hN.form
    have hBl2 := (unhide HB).2.below hB2 (unhide HB).2.lt
    have c0 := hBl2.cell 0 rfl
    have c1 := hBl2.cell 1 rfl
    have c2 := hBl2.cell 2 rfl
    have u0 := hBl2.unfrozen 0
    have u1 := hBl2.unfrozen 1
    have u2 := hBl2.unfrozen 2
    have H2 := hide (And.intro hBl2 (And.intro hN hB2))
    clear hBl2 hN hB2
    go_wp2_with fail
    have hq := (((unhide H2).1.put 0 (.bool false)).put 1 (.slice none 0 0)).put 2 (.slice a3 n3 c3)
    refine bodyPost_ret (run_results_Q rfl hq) rfl ?_
    have hlow : Below w.heap.size w w2 := (unhide HB).1.trans ((unhide H2).2.2.mono (unhide HB).1.size)
    refine ⟨_, 0, 0, rfl, ⟨_, _, rfl, NA.nil _, (unhide H2).2.1.storeQ (unhide H2).1 _ _ _, .inl rfl⟩, Nat.zero_le _, by unfold sg; split <;> simp, ?_⟩
    exact ((hlow.setCell (by rw [unhide HNB]; exact Nat.le_refl _) _).setCell (by rw [unhide HNB]; exact Nat.le_refl _) _).setCell (by rw [unhide HNB]; exact Nat.le_refl _) _
  · have HD := hide (gcd2_any k1 k2 hx ht (by omega))
    have HB := hide (And.intro hBW hBl)
    have HN1 := hide k1
    have HN2 := hide k2
    have HX := hide hx
    have i1 : ¬ ((n1 : Int) = 0) := by have := (not_congr f1).2 hn0; omega
    have i2 : ((n1 : Int) == 0) = false := by simpa using i1
    clear h1 h2 k1 k2 hx f1 hBW hBl
    go_enter Try.func52, Try.ntmps52
    go_upto_region 3 with fail
    rw [← hW, ← hNB]
    have HNB := hide hNB
    clear hW hNB
    go_wp2_with fail
    refine (unhide HD).mono ?_
    rintro e w2 ⟨vg, r, rfl, hNg, hrt, hrd, hro, hB2⟩
    have hB2k := hB2
    have HR := hide (And.intro hrt (And.intro hrd hro))
    have hg1 : 2 ^ r < 4294967296 ^ 990 := pow_lt (k := 990) (by omega)
    have hg0 := Nat.two_pow_pos r
    have HNg := hide hNg
    have HB2 := hide hB2
    clear hNg hB2 hrd hro HD hB2k
    go_wp2_with fail
    refine (word_any 1 (by decide) _).mono ?_
    rintro e w3 ⟨v1', rfl, hN1, hB3⟩
    have HC := hide (cmp_b ((unhide HNg).below hB3) hN1 hg1 (lt990 (by decide)))
    have HB3 := hide (And.intro hB3 ((unhide HB2).trans (hB3.mono (unhide HB2).size)))
    clear hN1 hB3
    go_wp2_with fail
    refine (unhide HC).mono ?_
    rintro e w4 ⟨rfl, hs⟩
    have hB4 : Below W.heap.size W w4 := (unhide HB3).2.trans (hs _)
    have HB4 := hide (And.intro hB4 (((unhide HNg).below (unhide HB3).1).below (hs _)))
    clear hs hB4 HC HB3 HB2 HNg
    obtain ⟨C, hC⟩ : ∃ C, cmpI (2 ^ r) 1 = C := ⟨_, rfl⟩
    rw [hC]
    have HCC := hide hC
    clear hC
    go_upto_if 19 with fail
    go_cut [1, 2] (fun x y wx => Hid (NA wx x (n / 2 ^ r) ∧ NA wx y (2 ^ (t - r)) ∧ Below W.heap.size W wx))
    case first =>
      by_cases hr0 : r = 0
      · have hC0 : C = 0 := by rw [← unhide HCC, hr0]; rfl
        subst hC0
        go_wp2_with fail
        go_meet
        show _ ∧ _ ∧ _
        rw [hr0, Nat.pow_zero, Nat.div_one, Nat.sub_zero]
        exact ⟨(unhide HN1).below (unhide HB4).1, (unhide HN2).below (unhide HB4).1, (unhide HB4).1⟩
      · have hC0 : C = 1 := by
          rw [← unhide HCC]
          exact cmpI_gt (by have := Nat.pow_le_pow_right (n := 2) (by decide) (show 1 ≤ r by omega); omega)
        subst hC0
        have HD1 := hide (div_b ((unhide HN1).below (unhide HB4).1) (unhide HB4).2 (unhide HX) hg0 hg1)
        go_wp2_with fail
        refine (unhide HD1).mono ?_
        rintro e w5 ⟨q5, r5, rfl, hq5, _, hB5⟩
        have hB5' := (unhide HB4).1.trans (hB5.mono (unhide HB4).1.size)
        have HD2 := hide (div_b ((unhide HN2).below hB5') ((unhide HB4).2.below hB5) (pow_lt (k := 990) (by omega)) hg0 hg1)
        have H5 := hide (And.intro hq5 hB5')
        clear hq5 hB5 hB5' HD1
        go_wp2_with fail
        refine (unhide HD2).mono ?_
        rintro e w6 ⟨q6, r6, rfl, hq6, _, hB6⟩
        have H6 := hide (And.intro hq6 hB6)
        clear hq6 hB6 HD2
        go_wp2_with fail
        go_meet
        refine ⟨(unhide H5).1.below (unhide H6).2, ?_, (unhide H5).2.trans ((unhide H6).2.mono (unhide H5).2.size)⟩
        have h := (unhide H6).1
        rw [Nat.pow_div hrt (by decide)] at h
        exact h
    case rest =>
      obtain ⟨x1, x2, x3⟩ := unhide hcut
      obtain ⟨a3, n3, c3, hv3, _⟩ := x1.form
      obtain ⟨a4, n4, c4, hv4, _⟩ := x2.form
      subst hv3 hv4
      have hBl2 := (unhide HB).2.below x3 (unhide HB).2.lt
      have c0 := hBl2.cell 0 rfl
      have c1 := hBl2.cell 1 rfl
      have c2 := hBl2.cell 2 rfl
      have u0 := hBl2.unfrozen 0
      have u1 := hBl2.unfrozen 1
      have u2 := hBl2.unfrozen 2
      have H2 := hide hBl2
      clear hBl2 x1 x2 x3
      go_wp2_with fail
      have hq := (((unhide H2).put 0 (.bool neg)).put 1 (.slice a3 n3 c3)).put 2 (.slice a4 n4 c4)
      refine bodyPost_ret (run_results_Q rfl hq) rfl ?_
      obtain ⟨x1, x2, x3⟩ := unhide hcut
      have hlow : Below w.heap.size w wc := (unhide HB).1.trans (x3.mono (unhide HB).1.size)
      obtain ⟨m, hm⟩ := (unhide HR).2.1
      have hmp : 0 < m := by
        rcases Nat.eq_zero_or_pos m with h | h
        · rw [h, Nat.mul_zero] at hm; omega
        · exact h
      rw [hm, Nat.mul_div_cancel_left _ hg0] at x1
      have hro := (unhide HR).2.2
      rw [hm, Nat.mul_div_cancel_left _ hg0] at hro
      refine ⟨_, sg neg m, t - r, rfl, ⟨.slice a3 n3 c3, .slice a4 n4 c4, ?_, ?_, x2.storeQ (unhide H2) _ _ _, ?_⟩, by omega, ?_, ?_⟩
      · rw [show decide (sg neg m < 0) = neg by unfold sg; cases neg <;> simp <;> omega]
      · rw [show (sg neg m).natAbs = m by unfold sg; split <;> omega]
        exact x1.storeQ (unhide H2) _ _ _
      · rcases hro with h | h
        · left; omega
        · right; unfold sg; split <;> omega
      · rw [show t - (t - r) = r by omega, hm]
        unfold sg
        split
        · rw [Int.neg_mul, Int.natCast_mul, Int.natCast_pow, Int.mul_comm]; rfl
        · rw [Int.natCast_mul, Int.natCast_pow, Int.mul_comm]; rfl
      · exact ((hlow.setCell (by rw [unhide HNB]; exact Nat.le_refl _) _).setCell (by rw [unhide HNB]; exact Nat.le_refl _) _).setCell (by rw [unhide HNB]; exact Nat.le_refl _) _
end Go.Proofs.Ytlajalfdcfkmpaa
