/- quaverref25's scale, Kept, product. -/
import Derived.Test.YtlajalfdcfkmpaaXr
namespace Go.Proofs.Ytlajalfdcfkmpaa
open Go.RowKit Go.Maps

theorem QA.storeQ {w : World} {NB : Nat} {v : Value} {z : Int} {t : Nat} (h : QA w v z t) (hB : Blk w NB zQ 68) (p q r : Value) :
    QA (((w.setCell ⟨NB, 0, none⟩ p).setCell ⟨NB, 1, none⟩ q).setCell ⟨NB, 2, none⟩ r) v z t := by
  obtain ⟨vN, vD, rfl, h1, h2, h3⟩ := h
  exact ⟨_, _, rfl, h1.storeQ (f := false) (a := none) (b := none) (m := 0) (n := 0) (c := 0) (d := 0) hB _ _ _, h2.storeQ (f := false) (a := none) (b := none) (m := 0) (n := 0) (c := 0) (d := 0) hB _ _ _, h3⟩
theorem res_scale {w : World} {tmps : Array Value} {b : Nat} {c0 c1 c2 : Value} (h6 : tmps.getD 2 undef = .pointer (some ⟨b, 0, none⟩)) (hr : Blk w b #[c0, c1, c2] 68) :
    (results Try.f34 tmps).run Try.prog w = .ok (.agg #[c0, c1, c2]) w := by
  have hl := run_loadVar_mid (P := Try.prog) w b 0 68 [c0, c1, c2] _ hr.range Try.underlying68 rfl infoQ
  rw [Array.getD_eq_getD_getElem?] at h6
  simp [results, h6, asAddr, hl]
theorem res_product {w : World} {tmps : Array Value} {b : Nat} {c0 c1 c2 : Value} (h6 : tmps.getD 4 undef = .pointer (some ⟨b, 0, none⟩)) (hr : Blk w b #[c0, c1, c2] 68) :
    (results Try.f45 tmps).run Try.prog w = .ok (.agg #[c0, c1, c2]) w := by
  have hl := run_loadVar_mid (P := Try.prog) w b 0 68 [c0, c1, c2] _ hr.range Try.underlying68 rfl infoQ
  rw [Array.getD_eq_getD_getElem?] at h6
  simp [results, h6, asAddr, hl]

set_option maxRecDepth 100000 in
set_option maxHeartbeats 1000000 in
theorem scale_any (n : Nat) (hn : n ≤ 31) (w : World) :
    Calls Try.prog 34 #[.int .i64 n] w fun e w' => ∃ v, e = .returned v ∧ QA w' v (2 ^ n) 0 ∧ Below w.heap.size w w' := by
  have HW1 := hide (word_any 1 (by decide))
  obtain ⟨NB, hNB⟩ : ∃ b, b = w.heap.size := ⟨_, rfl⟩
  obtain ⟨W, hW⟩ : ∃ W, W = w.alloc (Obj.cells #[.bool false, .slice none 0 0, .slice none 0 0] 68) := ⟨_, rfl⟩
  have hBW : Below w.heap.size w W := by rw [hW]; exact Joins.below_alloc1 _ _
  have hBl : Blk W NB zQ 68 := by rw [hW, hNB]; exact Blk.alloc
  have HB := hide (And.intro hBW (And.intro hBl hNB))
  clear hBW hBl
  go_enter Try.func34, Try.ntmps34
  go_upto_region 1 with fail
  rw [← hW, ← hNB]
  clear hW hNB
  go_wp2_with fail
  refine (unhide HW1 _).mono ?_
  rintro e w2 ⟨v2, rfl, hN2, hB2⟩
  have HS := hide (shlN_b hN2 (lt990 (by decide)) n (by omega))
  have HB2 := hide hB2
  clear hN2 hB2
  go_wp2_with fail
  refine (unhide HS).mono ?_
  rintro e w3 ⟨v3, rfl, hN3, hB3⟩
  rw [Nat.one_mul] at hN3
  have H3 := hide (And.intro hN3 ((unhide HB2).trans (hB3.mono (unhide HB2).size)))
  clear hN3 hB3 HS HB2
  go_wp2_with fail
  refine (unhide HW1 _).mono ?_
  rintro e w4 ⟨v4, rfl, hN4, hB4⟩
  have HL := hide (lay_any (t := 0) false ((unhide H3).1.below hB4) hN4 (pow_lt (k := 990) (by omega)) (by omega))
  have HB4 := hide ((unhide H3).2.trans (hB4.mono (unhide H3).2.size))
  clear hN4 hB4 H3 HW1
  go_wp2_with fail
  refine (unhide HL).mono ?_
  rintro e w9 ⟨v9, z, t', rfl, hq9, ht, hz, hB⟩
  have hB9 := (unhide HB4).trans (hB.mono (unhide HB4).size)
  obtain rfl : t' = 0 := by omega
  rw [Nat.sub_zero, Int.pow_zero, Int.mul_one] at hz
  have hz2 : z = 2 ^ n := by rw [hz]; simp [sg]
  rw [hz2] at hq9
  clear hz hz2 ht hB HL HB4
  obtain ⟨bz, a1, n1, c1, a2, n2, c2, hv⟩ : ∃ b a1 n1 c1 a2 n2 c2, v9 = .agg #[.bool b, .slice a1 n1 c1, .slice a2 n2 c2] := by
    obtain ⟨x1, x2, x3, x4, x5, x6, h⟩ := hq9.form
    exact ⟨_, _, _, _, _, _, _, h⟩
  subst hv
  have hBl9 := (unhide HB).2.1.below hB9 (unhide HB).2.1.lt
  have c0 := hBl9.cell 0 rfl
  have c1' := hBl9.cell 1 rfl
  have c2' := hBl9.cell 2 rfl
  have u0 := hBl9.unfrozen 0
  have u1 := hBl9.unfrozen 1
  have u2 := hBl9.unfrozen 2
  have H9 := hide (And.intro hBl9 (And.intro hq9 hB9))
  clear hBl9 hq9 hB9
  go_wp2_with fail
  have hp := (((unhide H9).1.put 0 (.bool bz)).put 1 (.slice a1 n1 c1)).put 2 (.slice a2 n2 c2)
  refine bodyPost_ret (res_scale rfl hp) rfl ?_
  have hlow : Below w.heap.size w w9 := (unhide HB).1.trans ((unhide H9).2.2.mono (unhide HB).1.size)
  have hnb := (unhide HB).2.2
  exact ⟨_, rfl, (unhide H9).2.1.storeQ (unhide H9).1 _ _ _, ((hlow.setCell (by rw [hnb]; exact Nat.le_refl _) _).setCell (by rw [hnb]; exact Nat.le_refl _) _).setCell (by rw [hnb]; exact Nat.le_refl _) _⟩

set_option maxRecDepth 100000 in
theorem kept25_any (n : Int) (w : World) :
    Calls Try.prog 24 #[.int .i64 n] w fun e w' => e = .returned (.int .i64 (kp n)) ∧ w' = w := by
  go_enter Try.func24, Try.ntmps24
  go_wp2
  all_goals go_ret
  · rename_i h1
    rw [if_pos h] at h1
    rw [show kp n = n by unfold kp; omega]; exact ⟨rfl, rfl⟩
  · rw [show kp n = 2147483647 by unfold kp; omega]; exact ⟨rfl, rfl⟩
  · rename_i h1
    rw [if_pos h] at h1
    rw [show kp n = -2147483648 by unfold kp; omega]; exact ⟨rfl, rfl⟩

set_option maxRecDepth 100000 in
set_option maxHeartbeats 1000000 in
theorem product_any (m n : Int) (w : World) :
    Calls Try.prog 45 #[.int .i64 m, .int .i64 n] w fun e w' => ∃ v, e = .returned v ∧ QA w' v (kp m * kp n) 0 ∧ Below w.heap.size w w' := by
  have HK1 := hide (kept25_any m)
  have HK2 := hide (kept25_any n)
  have l1 := kp_low m
  have l2 := kp_low n
  obtain ⟨M, hM⟩ : ∃ M, kp m = M := ⟨_, rfl⟩
  obtain ⟨N, hN⟩ : ∃ N, kp n = N := ⟨_, rfl⟩
  rw [hM] at HK1 l1 ⊢
  rw [hN] at HK2 l2 ⊢
  have HN1 := hide (num_any M (low_ok l1))
  have HN2 := hide (num_any N (low_ok l2))
  have HL := hide (And.intro l1 l2)
  clear hM hN l1 l2
  obtain ⟨NB, hNB⟩ : ∃ b, b = w.heap.size := ⟨_, rfl⟩
  obtain ⟨W, hW⟩ : ∃ W, W = w.alloc (Obj.cells #[.bool false, .slice none 0 0, .slice none 0 0] 68) := ⟨_, rfl⟩
  have hBW : Below w.heap.size w W := by rw [hW]; exact Joins.below_alloc1 _ _
  have hBl : Blk W NB zQ 68 := by rw [hW, hNB]; exact Blk.alloc
  have HB := hide (And.intro hBW (And.intro hBl hNB))
  clear hBW hBl
  go_enter Try.func45, Try.ntmps45
  go_upto_region 1 with fail
  rw [← hW, ← hNB]
  clear hW hNB
  go_wp2_with fail
  refine (unhide HK1 _).mono ?_
  rintro e w' ⟨rfl, hw'⟩
  obtain rfl := hw'
  go_wp2_with fail
  refine (unhide HN1 _).mono ?_
  rintro e w2 ⟨v2, rfl, hq2, hB2⟩
  have H2 := hide (And.intro hq2 hB2)
  clear hq2 hB2 HK1 HN1
  go_wp2_with fail
  refine (unhide HK2 _).mono ?_
  rintro e w3 ⟨rfl, hw3⟩
  obtain rfl := hw3
  go_wp2_with fail
  refine (unhide HN2 _).mono ?_
  rintro e w4 ⟨v4, rfl, hq4, hB4⟩
  have b1 : M.natAbs < 4294967296 ^ 400 := lt_pow (k := 400) (by decide) (by have := (unhide HL).1; unfold i32 at this; omega)
  have b2 : N.natAbs < 4294967296 ^ 400 := lt_pow (k := 400) (by decide) (by have := (unhide HL).2; unfold i32 at this; omega)
  have HM := hide (mulQ_any ((unhide H2).1.below hB4) hq4 b1 b2 (by omega))
  have HB4 := hide ((unhide H2).2.trans (hB4.mono (unhide H2).2.size))
  clear hq4 hB4 H2 HK2 HN2 b1 b2
  go_wp2_with fail
  refine (unhide HM).mono ?_
  rintro e w9 ⟨v9, z, t', rfl, hq9, ht, hz, hB⟩
  have hB9 := (unhide HB4).trans (hB.mono (unhide HB4).size)
  obtain rfl : t' = 0 := by omega
  rw [Nat.sub_zero, Nat.add_zero, Int.pow_zero, Int.mul_one] at hz
  rw [hz] at hq9
  clear hz ht hB HM HB4
  obtain ⟨bz, a1, n1, c1, a2, n2, c2, hv⟩ : ∃ b a1 n1 c1 a2 n2 c2, v9 = .agg #[.bool b, .slice a1 n1 c1, .slice a2 n2 c2] := by
    obtain ⟨x1, x2, x3, x4, x5, x6, h⟩ := hq9.form
    exact ⟨_, _, _, _, _, _, _, h⟩
  subst hv
  have hBl9 := (unhide HB).2.1.below hB9 (unhide HB).2.1.lt
  have c0 := hBl9.cell 0 rfl
  have c1' := hBl9.cell 1 rfl
  have c2' := hBl9.cell 2 rfl
  have u0 := hBl9.unfrozen 0
  have u1 := hBl9.unfrozen 1
  have u2 := hBl9.unfrozen 2
  have H9 := hide (And.intro hBl9 (And.intro hq9 hB9))
  clear hBl9 hq9 hB9
  go_wp2_with fail
  have hp := (((unhide H9).1.put 0 (.bool bz)).put 1 (.slice a1 n1 c1)).put 2 (.slice a2 n2 c2)
  refine bodyPost_ret (res_product rfl hp) rfl ?_
  have hlow : Below w.heap.size w w9 := (unhide HB).1.trans ((unhide H9).2.2.mono (unhide HB).1.size)
  have hnb := (unhide HB).2.2
  exact ⟨_, rfl, (unhide H9).2.1.storeQ (unhide H9).1 _ _ _, ((hlow.setCell (by rw [hnb]; exact Nat.le_refl _) _).setCell (by rw [hnb]; exact Nat.le_refl _) _).setCell (by rw [hnb]; exact Nat.le_refl _) _⟩
end Go.Proofs.Ytlajalfdcfkmpaa
