/- Num, Zero, Sign. -/
import Derived.Test.YtlajalfdcfkmpaaXgl
namespace Go.Proofs.Ytlajalfdcfkmpaa
open Go.RowKit Go.Maps

theorem res_num {w : World} {tmps : Array Value} {b : Nat} {c0 c1 c2 : Value} (h6 : tmps.getD 2 undef = .pointer (some ⟨b, 0, none⟩)) (hr : Blk w b #[c0, c1, c2] 68) :
    (results Try.f38 tmps).run Try.prog w = .ok (.agg #[c0, c1, c2]) w := by
  have hl := run_loadVar_mid (P := Try.prog) w b 0 68 [c0, c1, c2] _ hr.range Try.underlying68 rfl infoQ
  rw [Array.getD_eq_getD_getElem?] at h6
  simp [results, h6, asAddr, hl]

set_option maxRecDepth 100000 in
set_option maxHeartbeats 1000000 in
theorem num_any (n : Int) (hn : i64 n) (w : World) :
    Calls Try.prog 38 #[.int .i64 n] w fun e w' => ∃ v, e = .returned v ∧ QA w' v n 0 ∧ Below w.heap.size w w' := by
  unfold i64 at hn
  obtain ⟨m, hm⟩ : ∃ m : Nat, n.natAbs = m := ⟨_, rfl⟩
  have hmb : m < 18446744073709551616 := by omega
  have HW := hide (word_any m hmb)
  have HW1 := hide (word_any 1 (by decide))
  have HM := hide hm
  obtain ⟨NB, hNB⟩ : ∃ b, b = w.heap.size := ⟨_, rfl⟩
  obtain ⟨W, hW⟩ : ∃ W, W = w.alloc (Obj.cells #[.bool false, .slice none 0 0, .slice none 0 0] 68) := ⟨_, rfl⟩
  have hBW : Below w.heap.size w W := by rw [hW]; exact Joins.below_alloc1 _ _
  have hBl : Blk W NB zQ 68 := by rw [hW, hNB]; exact Blk.alloc
  have HB := hide (And.intro hBW (And.intro hBl hNB))
  clear hBW hBl
  by_cases h0 : n < 0
  · have e1 : IntKind.u64.wrap (IntKind.u64.wrap (-(n + 1)) + 1) = (m : Int) := by rw [IntKind.wrap_u64, IntKind.wrap_u64]; omega
    have e2 : -(n + 1) + 1 = (m : Int) := by omega
    have e3 : IntKind.u64.wrap (-(n + 1)) = -(n + 1) := by rw [IntKind.wrap_u64]; omega
    have e4 : IntKind.u64.wrap (-(n + 1) + 1) = (m : Int) := by rw [IntKind.wrap_u64]; omega
    clear hm
    go_enter Try.func38, Try.ntmps38
    go_upto_region 2 with fail
    rw [← hW, ← hNB]
    clear hW hNB
    go_wp2_with fail
    refine (unhide HW _).mono ?_
    rintro e w2 ⟨v2, rfl, hN2, hB2⟩
    have H2 := hide (And.intro hN2 hB2)
    clear hN2 hB2
    go_wp2_with fail
    refine (unhide HW1 _).mono ?_
    rintro e w3 ⟨v3, rfl, hN3, hB3⟩
    obtain ⟨a2, n2, c2, rfl, _⟩ := (unhide H2).1.form
    obtain ⟨a3, n3, c3, rfl, _⟩ := hN3.form
    have hBw := (unhide H2).2.trans (hB3.mono (unhide H2).2.size)
    have hBl2 := (unhide HB).2.1.below hBw (unhide HB).2.1.lt
    have c0 := hBl2.cell 0 rfl
    have c1 := hBl2.cell 1 rfl
    have c2' := hBl2.cell 2 rfl
    have u0 := hBl2.unfrozen 0
    have u1 := hBl2.unfrozen 1
    have u2 := hBl2.unfrozen 2
    have H3 := hide (And.intro hBl2 (And.intro hN3 (And.intro ((unhide H2).1.below hB3) hBw)))
    clear hBl2 hN3 hB3 hBw
    go_wp2_with fail
    have hq := (((unhide H3).1.put 0 (.bool true)).put 1 (.slice a2 n2 c2)).put 2 (.slice a3 n3 c3)
    refine bodyPost_ret (res_num rfl hq) rfl ?_
    have hlow : Below w.heap.size w w3 := (unhide HB).1.trans ((unhide H3).2.2.2.mono (unhide HB).1.size)
    have hnb := (unhide HB).2.2
    refine ⟨_, rfl, ⟨.slice a2 n2 c2, .slice a3 n3 c3, ?_, ?_, (unhide H3).2.1.storeQ (f := false) (a := none) (b := none) (m := 0) (n := 0) (c := 0) (d := 0) (unhide H3).1 _ _ _, .inl rfl⟩, ?_⟩
    · rw [decide_eq_true h0]
    · rw [unhide HM]; exact (unhide H3).2.2.1.storeQ (f := false) (a := none) (b := none) (m := 0) (n := 0) (c := 0) (d := 0) (unhide H3).1 _ _ _
    · exact ((hlow.setCell (by rw [hnb]; exact Nat.le_refl _) _).setCell (by rw [hnb]; exact Nat.le_refl _) _).setCell (by rw [hnb]; exact Nat.le_refl _) _
  · have e1 : IntKind.u64.wrap n = (m : Int) := by rw [IntKind.wrap_u64]; omega
    have e2 : n = (m : Int) := by omega
    have E2 := hide e2
    clear hm e2
    go_enter Try.func38, Try.ntmps38
    go_upto_region 3 with fail
    rw [← hW, ← hNB]
    clear hW hNB
    go_wp2_with fail
    refine (unhide HW _).mono ?_
    rintro e w2 ⟨v2, rfl, hN2, hB2⟩
    have H2 := hide (And.intro hN2 hB2)
    clear hN2 hB2
    go_wp2_with fail
    refine (unhide HW1 _).mono ?_
    rintro e w3 ⟨v3, rfl, hN3, hB3⟩
    obtain ⟨a2, n2, c2, rfl, _⟩ := (unhide H2).1.form
    obtain ⟨a3, n3, c3, rfl, _⟩ := hN3.form
    have hBw := (unhide H2).2.trans (hB3.mono (unhide H2).2.size)
    have hBl2 := (unhide HB).2.1.below hBw (unhide HB).2.1.lt
    have c0 := hBl2.cell 0 rfl
    have c1 := hBl2.cell 1 rfl
    have c2' := hBl2.cell 2 rfl
    have u0 := hBl2.unfrozen 0
    have u1 := hBl2.unfrozen 1
    have u2 := hBl2.unfrozen 2
    have H3 := hide (And.intro hBl2 (And.intro hN3 (And.intro ((unhide H2).1.below hB3) hBw)))
    clear hBl2 hN3 hB3 hBw
    go_wp2_with fail
    have hq := (((unhide H3).1.put 0 (.bool false)).put 1 (.slice a2 n2 c2)).put 2 (.slice a3 n3 c3)
    refine bodyPost_ret (res_num rfl hq) rfl ?_
    have hlow : Below w.heap.size w w3 := (unhide HB).1.trans ((unhide H3).2.2.2.mono (unhide HB).1.size)
    have hnb := (unhide HB).2.2
    refine ⟨_, rfl, ⟨.slice a2 n2 c2, .slice a3 n3 c3, ?_, ?_, (unhide H3).2.1.storeQ (f := false) (a := none) (b := none) (m := 0) (n := 0) (c := 0) (d := 0) (unhide H3).1 _ _ _, .inl rfl⟩, ?_⟩
    · rw [decide_eq_false (by omega)]
    · rw [unhide HM]; exact (unhide H3).2.2.1.storeQ (f := false) (a := none) (b := none) (m := 0) (n := 0) (c := 0) (d := 0) (unhide H3).1 _ _ _
    · exact ((hlow.setCell (by rw [hnb]; exact Nat.le_refl _) _).setCell (by rw [hnb]; exact Nat.le_refl _) _).setCell (by rw [hnb]; exact Nat.le_refl _) _

set_option maxRecDepth 100000 in
theorem zero_any {v : Value} {z : Int} {t : Nat} {w : World} (h : QA w v z t) :
    Calls Try.prog 71 #[v] w fun e w' => e = .returned (.bool (decide (z = 0))) ∧ Below w.heap.size w w' := by
  obtain ⟨vN, vD, rfl, hN, hD, _⟩ := h
  obtain ⟨a1, n1, c1, rfl, f1⟩ := hN.form
  obtain ⟨a2, n2, c2, rfl, _⟩ := hD.form
  have e : ((n1 : Int) == 0) = decide (z = 0) := by
    rw [Bool.eq_iff_iff]
    simp
    omega
  clear hN hD
  go_enter Try.func71, Try.ntmps71
  go_wp2
  go_ret
  exact ⟨by first | rw [e] | rfl, Joins.below_alloc1 _ _⟩

set_option maxRecDepth 100000 in
theorem sign_any {v : Value} {z : Int} {t : Nat} {w : World} (h : QA w v z t) :
    Calls Try.prog 67 #[v] w fun e w' => e = .returned (.int .i64 (if z = 0 then 0 else if z < 0 then -1 else 1)) ∧ Below w.heap.size w w' := by
  have hb1 := fun o => Joins.below_alloc1 w o
  have HZ := hide (fun o => zero_any (h.below (hb1 o)))
  obtain ⟨vN, vD, rfl, hN, hD, _⟩ := h
  obtain ⟨a1, n1, c1, rfl, f1⟩ := hN.form
  obtain ⟨a2, n2, c2, rfl, _⟩ := hD.form
  obtain ⟨S, hS⟩ : ∃ S : Int, (if z = 0 then 0 else if z < 0 then -1 else 1) = S := ⟨_, rfl⟩
  rw [hS]
  have HS := hide hS
  clear hN hD f1 hS
  go_enter Try.func67, Try.ntmps67
  go_wp2_with fail
  refine (unhide HZ _).mono ?_
  rintro e w2 ⟨rfl, hB⟩
  by_cases h0 : z = 0
  · rw [decide_eq_true h0]
    have hS0 : S = 0 := by rw [← unhide HS, if_pos h0]
    have HB := hide ((hb1 _).trans (hB.mono (hb1 _).size))
    have HS0 := hide hS0
    clear hB h0 hS0
    go_wp2
    go_ret
    exact ⟨by rw [unhide HS0]; rfl, unhide HB⟩
  · rw [decide_eq_false h0]
    have HB := hide ((hb1 _).trans (hB.mono (hb1 _).size))
    have hc : w2.cell? ⟨w.heap.size, 0, none⟩ = some (.bool (decide (z < 0))) := by
      rw [hB.cell (by simp)]; go_simp
    clear hB
    by_cases h1 : z < 0
    · have HS0 : Hid (S = -1) := by show S = _; rw [← unhide HS, if_neg h0, if_pos h1]
      rw [decide_eq_true h1] at hc ⊢
      clear h0 h1
      go_wp2
      go_ret
      exact ⟨by rw [unhide HS0]; rfl, unhide HB⟩
    · have HS0 : Hid (S = 1) := by show S = _; rw [← unhide HS, if_neg h0, if_neg h1]
      rw [decide_eq_false h1] at hc ⊢
      clear h0 h1
      go_wp2
      go_ret
      exact ⟨by rw [unhide HS0]; rfl, unhide HB⟩
end Go.Proofs.Ytlajalfdcfkmpaa
