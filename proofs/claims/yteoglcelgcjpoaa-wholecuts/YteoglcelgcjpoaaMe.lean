/- WholeCuts: the walk over more than 300 samples, of which 300 are taken; and both. -/
import Derived.Test.YteoglcelgcjpoaaMd
namespace Go.Proofs.Yteoglcelgcjpoaa
open Go.RowKit

set_option maxRecDepth 100000 in
set_option maxHeartbeats 8000000 in
theorem cuts_gt (adl adb adc : Option Addr) (ll cl lb cb lc cc : Nat) (ls bs us : Nat → Nat) (w : World) (hl : BytesAt w adl ll ls) (hb : WordsAt w adb lb bs) (hc : BytesAt w adc lc us) (hbb : ∀ j, bs j < 18446744073709551616)
    (r1 : ll ≤ 140737488351232) (r2 : lb * 8 ≤ 140737488351232) (r3 : lc ≤ 140737488351232) (hgt : 300 < lb / 2) :
    Calls Try.prog 4 #[.slice adl ll cl, .slice adb lb cb, .slice adc lc cc] w fun e w' => e = .returned (.bool true) ∧ Below w.heap.size w w' := by
  obtain ⟨i0, hi, hz0, hz1, hz2⟩ := info_parts info_c
  have Hl := hide hl
  have Hb := hide hb
  have Hc := hide hc
  have Hbb := hide hbb
  clear hl hb hc hbb
  go_enter Try.func4, Try.ntmps4
  go_wp2_with fail
  refine (works_any adl ll cl ls w r1 (unhide Hl)).mono ?_
  rintro e w1 ⟨v1, n, cs, rfl, hn4, hS1, hb1⟩
  obtain ⟨ads, c1, rfl, _⟩ := id hS1
  have H1 := hide (And.intro hS1 hb1)
  clear hS1 hb1
  have hsc := run_store_c
  go_wp2_with fail
  obtain ⟨hS1, hb1⟩ := unhide H1
  obtain ⟨w2, hw2⟩ : ∃ w2, w2 = w1.alloc (Obj.cells #[.complex .f64 4604930618986332160 4602678819172646912, .slice ads n c1] 28) := ⟨_, rfl⟩
  rw [← hw2]
  have hb2 : Below w1.heap.size w1 w2 := by rw [hw2]; exact (Below.refl _ _).alloc (Nat.le_refl _) _
  have hs2 : w2.heap.size = w1.heap.size + 1 := by rw [hw2]; simp
  have hF0 : w2.cell? ⟨w1.heap.size, 0, none⟩ = some (.complex .f64 4604930618986332160 4602678819172646912) := by rw [hw2]; go_simp
  have hF1 : w2.cell? ⟨w1.heap.size, 1, none⟩ = some (.slice ads n c1) := by rw [hw2]; go_simp
  clear hw2
  have hw2 : Below w.heap.size w w2 := hb1.trans (hb2.mono hb1.size)
  refine (raw_any adb lb cb bs w2 r2 ((unhide Hb).below hw2)).mono ?_
  rintro e w3 ⟨v2, rfl, hown, hb3⟩
  obtain ⟨ad, c, rfl, hkc, hX3⟩ := xs_own hown (unhide Hbb) 300 (by omega)
  obtain ⟨kk, hkk⟩ : ∃ kk, kk = lb / 2 := ⟨_, rfl⟩
  rw [← hkk] at hkc hgt ⊢
  obtain ⟨gg, _, had, _⟩ := hX3 0 (by omega)
  subst had
  have hc3 : (300 : Int) ≤ (c : Int) := by have := hkc (by omega); omega
  have hgt' : (300 : Int) < (kk : Int) := by omega
  have hw3 : Below w.heap.size w w3 := hw2.trans (hb3.mono hw2.size)
  have hF0 : w3.cell? ⟨w1.heap.size, 0, none⟩ = some (.complex .f64 4604930618986332160 4602678819172646912) := (hb3.cell (by show w1.heap.size < _; omega)).trans hF0
  have hF1 : w3.cell? ⟨w1.heap.size, 1, none⟩ = some (.slice ads n c1) := (hb3.cell (by show w1.heap.size < _; omega)).trans hF1
  have hS3 : SecsIs w3 (.slice ads n c1) n (secOf cs) := (hS1.below hb2).below hb3
  have hN : w1.heap.size < w3.heap.size := by have := hb3.size; omega
  have hws3 := hw3.size
  have hkc3 : 300 ≤ c := by omega
  have H3 := hide (And.intro hw3 (And.intro hS3 hX3))
  have HF := hide (And.intro hF0 hF1)
  clear hown hkk hkc hX3 hw3 hS3 hw2 hb2 hb3 hs2 hS1 hb1 H1 Hb Hbb Hl
  go_wp2_with fail
  obtain ⟨hw3, hS3, hX3⟩ := unhide H3
  obtain ⟨ad, had⟩ : ∃ ad, ad = some (⟨gg, 0, none⟩ : Addr) := ⟨_, rfl⟩
  obtain ⟨m, hm⟩ : ∃ m : Nat, m = 300 := ⟨_, rfl⟩
  rw [← had, ← hm] at hX3
  rw [← had, ← hm]
  have hle : m ≤ 300 := by omega
  have Hkc : Hid (0 < m → m ≤ c) := hide (fun _ => by omega)
  have hle' : (m : Int) ≤ 300 := by omega
  clear had hm hkc3 hc3 hgt hgt'
  refine (newW fin_gG gG_is hS3 (by omega)).mono ?_
  rintro e w4 ⟨Ba, La, rfl, hBa, hLa, hA4, hb4⟩
  have hF0 : w4.cell? ⟨w1.heap.size, 0, none⟩ = some (.complex .f64 4604930618986332160 4602678819172646912) := (hb4.cell (by exact hN)).trans hF0
  have hF1 : w4.cell? ⟨w1.heap.size, 1, none⟩ = some (.slice ads n c1) := (hb4.cell (by exact hN)).trans hF1
  have hN4 : w1.heap.size < w4.heap.size := by have := hb4.size; omega
  have hS4 := hS3.below hb4
  have hX4 := hX3.below hb4
  have hw4 : Below w.heap.size w w4 := hw3.trans (hb4.mono hw3.size)
  have H4 := hide (And.intro hw4 (And.intro hS4 (And.intro hX4 hA4)))
  clear hw4 hS4 hX4 hA4 hb4 hw3 hS3 hX3 H3
  go_wp2_with fail
  obtain ⟨hw4, hS4, hX4, hA4⟩ := unhide H4
  refine (newW fin_gG gG_is hS4 (by omega)).mono ?_
  rintro e w5 ⟨Bb, Lb, rfl, hBb, hLb, hB5, hb5⟩
  have hF0 : w5.cell? ⟨w1.heap.size, 0, none⟩ = some (.complex .f64 4604930618986332160 4602678819172646912) := (hb5.cell (by exact hN4)).trans hF0
  have hF1 : w5.cell? ⟨w1.heap.size, 1, none⟩ = some (.slice ads n c1) := (hb5.cell (by exact hN4)).trans hF1
  have hN5 : w1.heap.size < w5.heap.size := by have := hb5.size; omega
  have hS5 := hS4.below hb5
  have hX5 := hX4.below hb5
  have hA5 := hA4.below hb5
  have hw5 : Below w.heap.size w w5 := hw4.trans (hb5.mono hw4.size)
  have H5 := hide (And.intro hw5 (And.intro hS5 (And.intro hX5 (And.intro hA5 hB5))))
  have hab := hA4.lt
  clear hw5 hS5 hX5 hA5 hB5 hb5 hw4 hS4 hX4 hA4 H4
  go_wp2_with fail
  obtain ⟨hw5, hS5, hX5, hA5, hB5⟩ := unhide H5
  refine (cimp_any 4604930618986332160 4602678819172646912 n 1 (.slice ads n c1) gG (secOf cs) w5 fin_gG gG_is hS5 (by omega) (by omega) (by omega)).mono ?_
  rintro e w6 ⟨A1, rfl, hA1, hone, hb6⟩
  obtain ⟨u, hu1, hu2⟩ := hone 0 (by omega)
  rw [imp_gain] at hu2
  obtain rfl := is_gG hu2
  have hF0 : w6.cell? ⟨w1.heap.size, 0, none⟩ = some (.complex .f64 4604930618986332160 4602678819172646912) := (hb6.cell (by exact hN5)).trans hF0
  have hX6 := hX5.below hb6
  have hA6 := hA5.below hb6
  have hB6 := hB5.below hb6
  have hw6 : Below w.heap.size w w6 := hw5.trans (hb6.mono hw5.size)
  have hN6 := hb6.size
  have H6 := hide (And.intro hw6 (And.intro hX6 (And.intro hA6 hB6)))
  clear hw6 hX6 hA6 hB6 hb6 hw5 hS5 hX5 hA5 hB5 H5 hone hu2
  have hng := neq_gG
  go_wp2_with fail
  go_quiet (fail)
  go_wp2_with fail
  obtain ⟨hw6, hX6, hA6, hB6⟩ := unhide H6
  have hd6 := below_grown (still_drewN w6 nq w6.heap.size) none
  refine (runW (hA6.grown hd6 (by simp) (by simp)) (XsAt.list (N := w3.heap.size) (hX6.below (still_drewN w6 nq _))) (by omega) (XsAt.ne (hX6.below (still_drewN w6 nq _)) hLa) (by omega)).mono ?_
  rintro e W ⟨Aw, rfl, hAw1, hAw2, hans, hA7, hg7⟩
  have hN6' : (w6.drewN nq).heap.size = w6.heap.size := rfl
  have hLa5 := hab.2.1
  have hbbl := hB6.lt
  have hB7 : CascAt W Bb Lb n gG (secOf cs) rest0 := (hB6.grown hd6 (by simp) (by simp)).grown hg7 (by intro e; have := Option.some.inj e; omega) (by intro e; have := Option.some.inj e; omega)
  have hX7 : XsAt W ad m w3.heap.size (rawX bs) := (hX6.below (still_drewN w6 nq _)).grown hg7 hLa
  have hwW : Below w.heap.size w W := (hw6.trans (still_drewN w6 nq _)).grown hg7 hw6.size (fun k e => by have := Option.some.inj e; omega)
  have hWs := hg7.size
  have hLb3 : w3.heap.size ≤ Lb := by omega
  have hLbW : Lb < W.heap.size := by have := hbbl.2.1; omega
  have hBbW : Bb < W.heap.size := by have := hbbl.1; omega
  have hHX := hide hX7
  have hHB := hide hB7
  have hHA := hide hA7
  have hHW := hide (And.intro hwW hans)
  clear hX7 hB7 hA7 hg7 hwW hans H6 hd6 HF hF0 hu1 hsc hng
  go_wp2_with fail
  go_loopw [16, 17, 18] (fun v at1 i wr => ∃ t k : Nat, at1 = .int .i64 t ∧ i = .int .i64 k ∧ Loop W wr Bb Lb n m lc (secOf cs) (rawX bs) v t k) (fun _ at1 i _ => (m - (intOf at1).toNat) + (lc - (intOf i).toNat))
  case atStart => exact ⟨0, 0, rfl, rfl, Nat.zero_le _, Nat.zero_le _, grown_refl _ _, unhide hHB, [], World.ownsRow_nil _ _ _ _, fun j hj => by omega⟩
  case round =>
    obtain ⟨t, k, rfl, rfl, htm, hil, hgr, hC, ps, hown, hps⟩ := hrel
    have hwrs := hgr.size
    by_cases htm' : t < m
    · have hXr := (unhide hHX).grown hgr hLb3
      obtain ⟨bx, ux, rfl, hbx1, hbx2, hcx, hux⟩ := hXr t htm'
      have hmc := unhide Hkc (by omega)
      have i1 : (t : Int) < (m : Int) := by omega
      by_cases hik : k < lc
      · have i2 : (k : Int) < (lc : Int) := by omega
        obtain ⟨bc, offc, rfl, hbc, hu256, hcc⟩ := unhide Hc k hik
        have hck : wr.cell? ⟨bc, offc + k, none⟩ = some (.int .u8 (us k)) := hgr.cell (by rw [(unhide hHW).1.cell (by exact hbc)]; exact hcc) (by intro e; have := Option.some.inj e; simp only at this; omega)
        obtain ⟨Q, hQ⟩ : ∃ Q : Nat, (us k : Int) % 9 = (Q : Int) := ⟨us k % 9, by omega⟩
        have hQ9 : Q < 9 := by omega
        clear hcc
        by_cases hle2 : Q ≤ m - t
        · have i3 : (Q : Int) ≤ (m : Int) - (t : Int) := by omega
          have i5 : (0 : Int) ≤ (Q : Int) := by omega
          have i4 : (0 : Int) ≤ (t : Int) := by omega
          have i6 : (t : Int) + (Q : Int) ≤ (c : Int) := by omega
          have i7 : (t : Int) ≤ (t : Int) + (Q : Int) := by omega
          have HP := hide (And.intro hgr (And.intro hC (And.intro hown (And.intro hps hXr))))
          clear hgr hC hown hps hXr hcx hux
          go_wp2_with fail
          obtain ⟨hgr, hC, hown, hps, hXr⟩ := unhide HP
          clear HP
          refine (runW hC (xs_cut hXr (by omega)) (by omega) (cut_ne hbx1 hLb3) (by omega)).mono ?_
          rintro e w8 ⟨A2, rfl, hA21, hA22, hans2, hC8, hg8⟩
          rw [← stN_add] at hC8
          obtain ⟨n1, n2, n3, n4⟩ := ans_cells hans2
          have hown8 : w8.ownsRow W.heap.size 25 1 u16 t ps := hown.kept hg8 (.inr (Ne.symm (row_apart hown hLbW)))
          have hws8 : W.heap.size ≤ w8.heap.size := by have := hg8.size; omega
          have hgr8 := grown_trans hgr hg8
          have hps8 : PsAt (ps ++ cellsOf w8 A2 Q) (t + Q) (ansN gG n (secOf cs) rest0 (rawX bs)) := hps.more (by have := hown.1; omega) (fun j hj => by obtain ⟨u, hu1, hu2⟩ := n4 j hj; exact ⟨u, hu1, by rw [ansN_add]; exact hu2⟩)
          have HP := hide (And.intro hgr8 (And.intro hC8 hps8))
          clear hgr hC hown hps hXr hg8 hC8 hgr8 hps8 hans2 n4
          go_wp2_with (first
            | (at_builtin; refine wpList_append_own _ rfl _ _ 34 rfl W.heap.size 25 i0 (.complex .f64 0 0) 1 16 Try.underlying34 hi hz0 hz1 hz2 rfl Nat.one_pos u16 t ps rfl hown8 ⟨A2, 0, none⟩ Q Q (cellsOf w8 A2 Q) rfl n1 n2 n3 (by unfold maxLen; omega) (by omega) hws8 ?_; intro v9 w9 hown9 hg9 hnil9)
            | fail)
          obtain ⟨hgr8, hC8, hps8⟩ := unhide HP
          clear HP
          have hC9 := hC8.grown hg9 (row_apart hown8 hBbW) (row_apart hown8 hLbW)
          have hgr9 : W.grownBy w9 (some Lb) := grown_other hgr8 hg9 (fun j e => (hown8.lt j e).1)
          have hs9 := hg9.size
          clear hg9 hgr8 hC8 hown8 n1 n2 n3 hnil9
          refine (copyW hC9 (by omega)).mono ?_
          rintro e w10 ⟨B2, L2, rfl, hB2, hL2, hK10, hb10⟩
          have hgr10 := grown_below hgr9 hb10
          have hown10 := hown9.kept (below_grown hb10 (some L2)) (.inr (by intro e; have := (hown9.lt _ e).2; omega))
          have hno10 : some L2 ≠ v9.ownBlock := by intro e; have := (hown9.lt _ e.symm).2; omega
          have hC10 := hC9.below hb10
          have hltC := hC9.lt
          have hs10 := hb10.size
          have HP := hide (And.intro hgr10 (And.intro hK10 (And.intro hC10 (And.intro hps8 hown10))))
          clear hgr9 hC9 hgr10 hown10 hC10 hb10 hown9 hps8 hK10
          go_wp2_with fail
          obtain ⟨hgr10, hK10, hC10, hps8, hown10⟩ := unhide HP
          clear HP
          have hX10 := (unhide hHX).grown hgr10 hLb3
          refine (runW hK10 hX10.list (by omega) (XsAt.ne hX10 (by omega)) (by omega)).mono ?_
          rintro e w11 ⟨A3, rfl, _, _, _, _, hg11⟩
          have hC11 := hC10.grown hg11 (by intro e; have := Option.some.inj e; omega) (by intro e; have := Option.some.inj e; omega)
          have hgr11 : W.grownBy w11 (some Lb) := grown_other hgr10 hg11 (fun j e => by have := Option.some.inj e; omega)
          have hown11 := hown10.kept hg11 (.inr (Ne.symm hno10))
          have hs11 := hg11.size
          have HP := hide (And.intro hgr11 (And.intro hC11 (And.intro hps8 hown11)))
          clear hgr10 hK10 hC10 hps8 hown10 hX10 hg11 hC11 hgr11 hown11 hno10
          go_wp2_with fail
          obtain ⟨hgr11, hC11, hps8, hown11⟩ := unhide HP
          clear HP
          refine (statesW hC11 (by omega)).mono ?_
          rintro e w12 ⟨As, rfl, hAs1, hAs2, hSt12, hb12⟩
          have hgr12 := grown_below hgr11 hb12
          have hC12 := hC11.below hb12
          have hown12 := hown11.kept (below_grown hb12 none) (by cases hv : v9.ownBlock <;> simp)
          have hs12 := hb12.size
          have HP := hide (And.intro hgr12 (And.intro hC12 (And.intro hps8 (And.intro hown12 hSt12))))
          clear hgr11 hC11 hps8 hown11 hb12 hgr12 hC12 hown12 hSt12
          go_wp2_with fail
          obtain ⟨hgr12, hC12, hps8, hown12, hSt12⟩ := unhide HP
          clear HP
          have hX12 := (unhide hHX).grown hgr12 hLb3
          refine (runW hC12 hX12.list (by omega) (XsAt.ne hX12 hLb3) (by omega)).mono ?_
          rintro e w13 ⟨A4, rfl, _, _, _, hC13, hg13⟩
          have hgr13 := grown_trans hgr12 hg13
          have hown13 := hown12.kept hg13 (.inr (Ne.symm (row_apart hown12 hLbW)))
          have hSt13 := hSt12.grown hg13 (by intro e; have := Option.some.inj e; omega)
          have HP := hide (And.intro hgr13 (And.intro hC13 (And.intro hps8 (And.intro hown13 hSt13))))
          clear hgr12 hC12 hps8 hown12 hSt12 hX12 hg13 hgr13 hown13 hSt13 hC13
          go_wp2_with fail
          obtain ⟨hgr13, hC13, hps8, hown13, hSt13⟩ := unhide HP
          clear HP
          refine (setW hC13 hSt13 (by omega) (by omega)).mono ?_
          rintro e w14 ⟨rfl, hC14, hg14⟩
          have HP := hide (And.intro (grown_trans hgr13 hg14) (And.intro hC14 (And.intro hps8 (hown13.kept hg14 (.inr (Ne.symm (row_apart hown13 hLbW)))))))
          clear hgr13 hC13 hps8 hown13 hSt13 hC14 hg14
          go_wp2
          go_roundw
          case rel =>
            obtain ⟨hgr14, hC14, hps8, hown14⟩ := unhide HP
            exact ⟨t + Q, k + 1, by go_num, by go_num, by omega, by omega, hgr14, hC14, _, hown14, hps8⟩
          case measure => simp [intOf]; omega
        · obtain ⟨R, hR⟩ : ∃ R : Nat, (m : Int) - (t : Int) = (R : Int) := ⟨m - t, by omega⟩
          have i3 : (R : Int) < (Q : Int) := by omega
          have i5 : (0 : Int) ≤ (R : Int) := by omega
          have i4 : (0 : Int) ≤ (t : Int) := by omega
          have i6 : (t : Int) + (R : Int) ≤ (c : Int) := by omega
          have i7 : (t : Int) ≤ (t : Int) + (R : Int) := by omega
          have HP := hide (And.intro hgr (And.intro hC (And.intro hown (And.intro hps hXr))))
          clear hgr hC hown hps hXr hcx hux
          go_wp2_with fail
          obtain ⟨hgr, hC, hown, hps, hXr⟩ := unhide HP
          clear HP
          refine (runW hC (xs_cut hXr (by omega)) (by omega) (cut_ne hbx1 hLb3) (by omega)).mono ?_
          rintro e w8 ⟨A2, rfl, hA21, hA22, hans2, hC8, hg8⟩
          rw [← stN_add] at hC8
          obtain ⟨n1, n2, n3, n4⟩ := ans_cells hans2
          have hown8 : w8.ownsRow W.heap.size 25 1 u16 t ps := hown.kept hg8 (.inr (Ne.symm (row_apart hown hLbW)))
          have hws8 : W.heap.size ≤ w8.heap.size := by have := hg8.size; omega
          have hgr8 := grown_trans hgr hg8
          have hps8 : PsAt (ps ++ cellsOf w8 A2 R) (t + R) (ansN gG n (secOf cs) rest0 (rawX bs)) := hps.more (by have := hown.1; omega) (fun j hj => by obtain ⟨u, hu1, hu2⟩ := n4 j hj; exact ⟨u, hu1, by rw [ansN_add]; exact hu2⟩)
          have HP := hide (And.intro hgr8 (And.intro hC8 hps8))
          clear hgr hC hown hps hXr hg8 hC8 hgr8 hps8 hans2 n4
          go_wp2_with (first
            | (at_builtin; refine wpList_append_own _ rfl _ _ 34 rfl W.heap.size 25 i0 (.complex .f64 0 0) 1 16 Try.underlying34 hi hz0 hz1 hz2 rfl Nat.one_pos u16 t ps rfl hown8 ⟨A2, 0, none⟩ R R (cellsOf w8 A2 R) rfl n1 n2 n3 (by unfold maxLen; omega) (by omega) hws8 ?_; intro v9 w9 hown9 hg9 hnil9)
            | fail)
          obtain ⟨hgr8, hC8, hps8⟩ := unhide HP
          clear HP
          have hC9 := hC8.grown hg9 (row_apart hown8 hBbW) (row_apart hown8 hLbW)
          have hgr9 : W.grownBy w9 (some Lb) := grown_other hgr8 hg9 (fun j e => (hown8.lt j e).1)
          have hs9 := hg9.size
          clear hg9 hgr8 hC8 hown8 n1 n2 n3 hnil9
          refine (copyW hC9 (by omega)).mono ?_
          rintro e w10 ⟨B2, L2, rfl, hB2, hL2, hK10, hb10⟩
          have hgr10 := grown_below hgr9 hb10
          have hown10 := hown9.kept (below_grown hb10 (some L2)) (.inr (by intro e; have := (hown9.lt _ e).2; omega))
          have hno10 : some L2 ≠ v9.ownBlock := by intro e; have := (hown9.lt _ e.symm).2; omega
          have hC10 := hC9.below hb10
          have hltC := hC9.lt
          have hs10 := hb10.size
          have HP := hide (And.intro hgr10 (And.intro hK10 (And.intro hC10 (And.intro hps8 hown10))))
          clear hgr9 hC9 hgr10 hown10 hC10 hb10 hown9 hps8 hK10
          go_wp2_with fail
          obtain ⟨hgr10, hK10, hC10, hps8, hown10⟩ := unhide HP
          clear HP
          have hX10 := (unhide hHX).grown hgr10 hLb3
          refine (runW hK10 hX10.list (by omega) (XsAt.ne hX10 (by omega)) (by omega)).mono ?_
          rintro e w11 ⟨A3, rfl, _, _, _, _, hg11⟩
          have hC11 := hC10.grown hg11 (by intro e; have := Option.some.inj e; omega) (by intro e; have := Option.some.inj e; omega)
          have hgr11 : W.grownBy w11 (some Lb) := grown_other hgr10 hg11 (fun j e => by have := Option.some.inj e; omega)
          have hown11 := hown10.kept hg11 (.inr (Ne.symm hno10))
          have hs11 := hg11.size
          have HP := hide (And.intro hgr11 (And.intro hC11 (And.intro hps8 hown11)))
          clear hgr10 hK10 hC10 hps8 hown10 hX10 hg11 hC11 hgr11 hown11 hno10
          go_wp2_with fail
          obtain ⟨hgr11, hC11, hps8, hown11⟩ := unhide HP
          clear HP
          refine (statesW hC11 (by omega)).mono ?_
          rintro e w12 ⟨As, rfl, hAs1, hAs2, hSt12, hb12⟩
          have hgr12 := grown_below hgr11 hb12
          have hC12 := hC11.below hb12
          have hown12 := hown11.kept (below_grown hb12 none) (by cases hv : v9.ownBlock <;> simp)
          have hs12 := hb12.size
          have HP := hide (And.intro hgr12 (And.intro hC12 (And.intro hps8 (And.intro hown12 hSt12))))
          clear hgr11 hC11 hps8 hown11 hb12 hgr12 hC12 hown12 hSt12
          go_wp2_with fail
          obtain ⟨hgr12, hC12, hps8, hown12, hSt12⟩ := unhide HP
          clear HP
          have hX12 := (unhide hHX).grown hgr12 hLb3
          refine (runW hC12 hX12.list (by omega) (XsAt.ne hX12 hLb3) (by omega)).mono ?_
          rintro e w13 ⟨A4, rfl, _, _, _, hC13, hg13⟩
          have hgr13 := grown_trans hgr12 hg13
          have hown13 := hown12.kept hg13 (.inr (Ne.symm (row_apart hown12 hLbW)))
          have hSt13 := hSt12.grown hg13 (by intro e; have := Option.some.inj e; omega)
          have HP := hide (And.intro hgr13 (And.intro hC13 (And.intro hps8 (And.intro hown13 hSt13))))
          clear hgr12 hC12 hps8 hown12 hSt12 hX12 hg13 hgr13 hown13 hSt13 hC13
          go_wp2_with fail
          obtain ⟨hgr13, hC13, hps8, hown13, hSt13⟩ := unhide HP
          clear HP
          refine (setW hC13 hSt13 (by omega) (by omega)).mono ?_
          rintro e w14 ⟨rfl, hC14, hg14⟩
          have HP := hide (And.intro (grown_trans hgr13 hg14) (And.intro hC14 (And.intro hps8 (hown13.kept hg14 (.inr (Ne.symm (row_apart hown13 hLbW)))))))
          clear hgr13 hC13 hps8 hown13 hSt13 hC14 hg14
          go_wp2
          go_roundw
          case rel =>
            obtain ⟨hgr14, hC14, hps8, hown14⟩ := unhide HP
            exact ⟨t + R, k + 1, by go_num, by go_num, by omega, by omega, hgr14, hC14, _, hown14, hps8⟩
          case measure => simp [intOf]; omega
      · have i2 : (lc : Int) ≤ (k : Int) := by omega
        by_cases hodd : k % 2 = 0
        · have i8 : (k : Int) % 2 = 0 := by omega
          obtain ⟨x, x', rfl, _⟩ := id hux
          have hown0 := hown
          have HP := hide (And.intro hgr (And.intro hC (And.intro hown (And.intro hps hux))))
          clear hgr hC hown hps hXr hux
          go_wp2_with fail
          obtain ⟨hgr, hC, hown, hps, hux⟩ := unhide HP
          clear HP
          refine (stepW hC hux (by omega)).mono ?_
          rintro e w8 ⟨r, i, rfl, hy8, hC8, hg8⟩
          have hown8 : w8.ownsRow W.heap.size 25 1 u16 t ps := hown.kept hg8 (.inr (Ne.symm (row_apart hown hLbW)))
          have hws8 : W.heap.size ≤ w8.heap.size := by have := hg8.size; omega
          have hgr8 := grown_trans hgr hg8
          have hps8 : PsAt (ps ++ [.complex .f64 r i]) (t + 1) (ansN gG n (secOf cs) rest0 (rawX bs)) := hps.more (by have := hown.1; omega) (one_more hy8)
          have HP := hide (And.intro hgr8 (And.intro hC8 hps8))
          clear hgr hC hown hps hg8 hC8 hgr8 hps8 hy8 hown0
          go_wp2_with (first
            | (at_builtin; refine wpList_append_own _ rfl _ _ 34 rfl W.heap.size 25 i0 (.complex .f64 0 0) 1 16 Try.underlying34 hi hz0 hz1 hz2 rfl Nat.one_pos u16 t ps rfl (hown8.alloc _) ⟨w8.heap.size, 0, none⟩ 1 1 [.complex .f64 r i] rfl rfl (World.news_of_block (cs := #[.complex .f64 r i]) (t := 25) (fr := (0, 0)) (heap_alloc_new w8 _)) (one_cell r i) (by unfold maxLen; omega) (by omega) (by simp; omega) ?_; intro v9 w9 hown9 hg9 hnil9)
            | fail)
          obtain ⟨hgr8, hC8, hps8⟩ := unhide HP
          clear HP
          have hap1 := row_apart hown8 hBbW
          have hap2 := row_apart hown8 hLbW
          have hC9 := (hC8.grown (World.grownBy_alloc w8 _ none) (by simp) (by simp)).grown hg9 hap1 hap2
          have hgr9 : W.grownBy w9 (some Lb) := grown_other (grown_trans hgr8 (World.grownBy_alloc w8 _ _)) hg9 (fun j e => (hown8.lt j e).1)
          have HP := hide (And.intro hgr9 (And.intro hC9 (And.intro hps8 hown9)))
          clear hg9 hgr8 hC8 hown8 hnil9 hgr9 hC9 hps8 hown9 hap1 hap2
          go_wp2
          go_roundw
          case rel =>
            obtain ⟨hgr14, hC14, hps8, hown14⟩ := unhide HP
            exact ⟨t + 1, k + 1, by go_num, by go_num, by omega, by omega, hgr14, hC14, _, hown14, hps8⟩
          case measure => simp [intOf]; omega
        · have i8 : (k : Int) % 2 = 1 := by omega
          obtain ⟨Q, hQ⟩ : ∃ Q : Nat, (Q : Int) = 1 := ⟨1, rfl⟩
          obtain rfl : Q = 1 := by omega
          have i3 : (1 : Int) ≤ (m : Int) - (t : Int) := by omega
          clear hQ
          have i4 : (0 : Int) ≤ (t : Int) := by omega
          have i6 : (t : Int) + (1 : Int) ≤ (c : Int) := by omega
          have i7 : (t : Int) ≤ (t : Int) + (1 : Int) := by omega
          have HP := hide (And.intro hgr (And.intro hC (And.intro hown (And.intro hps hXr))))
          clear hgr hC hown hps hXr hcx hux
          go_wp2_with fail
          obtain ⟨hgr, hC, hown, hps, hXr⟩ := unhide HP
          clear HP
          refine (runW hC (xs_cut hXr (by omega)) (by omega) (cut_ne hbx1 hLb3) (by omega)).mono ?_
          rintro e w8 ⟨A2, rfl, hA21, hA22, hans2, hC8, hg8⟩
          rw [← stN_add] at hC8
          obtain ⟨n1, n2, n3, n4⟩ := ans_cells hans2
          have hown8 : w8.ownsRow W.heap.size 25 1 u16 t ps := hown.kept hg8 (.inr (Ne.symm (row_apart hown hLbW)))
          have hws8 : W.heap.size ≤ w8.heap.size := by have := hg8.size; omega
          have hgr8 := grown_trans hgr hg8
          have hps8 : PsAt (ps ++ cellsOf w8 A2 1) (t + 1) (ansN gG n (secOf cs) rest0 (rawX bs)) := hps.more (by have := hown.1; omega) (fun j hj => by obtain ⟨u, hu1, hu2⟩ := n4 j hj; exact ⟨u, hu1, by rw [ansN_add]; exact hu2⟩)
          have HP := hide (And.intro hgr8 (And.intro hC8 hps8))
          clear hgr hC hown hps hXr hg8 hC8 hgr8 hps8 hans2 n4
          go_wp2_with (first
            | (at_builtin; refine wpList_append_own _ rfl _ _ 34 rfl W.heap.size 25 i0 (.complex .f64 0 0) 1 16 Try.underlying34 hi hz0 hz1 hz2 rfl Nat.one_pos u16 t ps rfl hown8 ⟨A2, 0, none⟩ 1 1 (cellsOf w8 A2 1) rfl n1 n2 n3 (by unfold maxLen; omega) (by omega) hws8 ?_; intro v9 w9 hown9 hg9 hnil9)
            | fail)
          obtain ⟨hgr8, hC8, hps8⟩ := unhide HP
          clear HP
          have hC9 := hC8.grown hg9 (row_apart hown8 hBbW) (row_apart hown8 hLbW)
          have hgr9 : W.grownBy w9 (some Lb) := grown_other hgr8 hg9 (fun j e => (hown8.lt j e).1)
          have hs9 := hg9.size
          clear hg9 hgr8 hC8 hown8 n1 n2 n3 hnil9
          refine (copyW hC9 (by omega)).mono ?_
          rintro e w10 ⟨B2, L2, rfl, hB2, hL2, hK10, hb10⟩
          have hgr10 := grown_below hgr9 hb10
          have hown10 := hown9.kept (below_grown hb10 (some L2)) (.inr (by intro e; have := (hown9.lt _ e).2; omega))
          have hno10 : some L2 ≠ v9.ownBlock := by intro e; have := (hown9.lt _ e.symm).2; omega
          have hC10 := hC9.below hb10
          have hltC := hC9.lt
          have hs10 := hb10.size
          have HP := hide (And.intro hgr10 (And.intro hK10 (And.intro hC10 (And.intro hps8 hown10))))
          clear hgr9 hC9 hgr10 hown10 hC10 hb10 hown9 hps8 hK10
          go_wp2_with fail
          obtain ⟨hgr10, hK10, hC10, hps8, hown10⟩ := unhide HP
          clear HP
          have hX10 := (unhide hHX).grown hgr10 hLb3
          refine (runW hK10 hX10.list (by omega) (XsAt.ne hX10 (by omega)) (by omega)).mono ?_
          rintro e w11 ⟨A3, rfl, _, _, _, _, hg11⟩
          have hC11 := hC10.grown hg11 (by intro e; have := Option.some.inj e; omega) (by intro e; have := Option.some.inj e; omega)
          have hgr11 : W.grownBy w11 (some Lb) := grown_other hgr10 hg11 (fun j e => by have := Option.some.inj e; omega)
          have hown11 := hown10.kept hg11 (.inr (Ne.symm hno10))
          have hs11 := hg11.size
          have HP := hide (And.intro hgr11 (And.intro hC11 (And.intro hps8 hown11)))
          clear hgr10 hK10 hC10 hps8 hown10 hX10 hg11 hC11 hgr11 hown11 hno10
          go_wp2_with fail
          obtain ⟨hgr11, hC11, hps8, hown11⟩ := unhide HP
          clear HP
          refine (statesW hC11 (by omega)).mono ?_
          rintro e w12 ⟨As, rfl, hAs1, hAs2, hSt12, hb12⟩
          have hgr12 := grown_below hgr11 hb12
          have hC12 := hC11.below hb12
          have hown12 := hown11.kept (below_grown hb12 none) (by cases hv : v9.ownBlock <;> simp)
          have hs12 := hb12.size
          have HP := hide (And.intro hgr12 (And.intro hC12 (And.intro hps8 (And.intro hown12 hSt12))))
          clear hgr11 hC11 hps8 hown11 hb12 hgr12 hC12 hown12 hSt12
          go_wp2_with fail
          obtain ⟨hgr12, hC12, hps8, hown12, hSt12⟩ := unhide HP
          clear HP
          have hX12 := (unhide hHX).grown hgr12 hLb3
          refine (runW hC12 hX12.list (by omega) (XsAt.ne hX12 hLb3) (by omega)).mono ?_
          rintro e w13 ⟨A4, rfl, _, _, _, hC13, hg13⟩
          have hgr13 := grown_trans hgr12 hg13
          have hown13 := hown12.kept hg13 (.inr (Ne.symm (row_apart hown12 hLbW)))
          have hSt13 := hSt12.grown hg13 (by intro e; have := Option.some.inj e; omega)
          have HP := hide (And.intro hgr13 (And.intro hC13 (And.intro hps8 (And.intro hown13 hSt13))))
          clear hgr12 hC12 hps8 hown12 hSt12 hX12 hg13 hgr13 hown13 hSt13 hC13
          go_wp2_with fail
          obtain ⟨hgr13, hC13, hps8, hown13, hSt13⟩ := unhide HP
          clear HP
          refine (setW hC13 hSt13 (by omega) (by omega)).mono ?_
          rintro e w14 ⟨rfl, hC14, hg14⟩
          have HP := hide (And.intro (grown_trans hgr13 hg14) (And.intro hC14 (And.intro hps8 (hown13.kept hg14 (.inr (Ne.symm (row_apart hown13 hLbW)))))))
          clear hgr13 hC13 hps8 hown13 hSt13 hC14 hg14
          go_wp2
          go_roundw
          case rel =>
            obtain ⟨hgr14, hC14, hps8, hown14⟩ := unhide HP
            exact ⟨t + 1, k + 1, by go_num, by go_num, by omega, by omega, hgr14, hC14, _, hown14, hps8⟩
          case measure => simp [intOf]; omega
    · obtain rfl : t = m := by omega
      obtain ⟨adp, cp, rfl, hpl⟩ := ps_list hown hps
      have hXr := (unhide hHX).grown hgr hLb3
      have hAr := (unhide hHA).grown hgr (by intro e; have := Option.some.inj e; omega) (by intro e; have := Option.some.inj e; omega)
      have hwh : ∀ j, j < t → ∃ u, wr.cell? ⟨Aw, j, none⟩ = some u ∧ CIs u (ansN gG n (secOf cs) rest0 (rawX bs) j) := fun j hj => by
        obtain ⟨u, h1, h2⟩ := (unhide hHW).2 j hj
        exact ⟨u, hgr.cell h1 (by intro e; have := Option.some.inj e; simp only at this; omega), h2⟩
      have hwr : Below w.heap.size w wr := (unhide hHW).1.grown hgr (by omega) (fun j e => by have := Option.some.inj e; omega)
      have HL1 := hide (lists_any Aw t t cp adp _ wr (by omega) hwh (fun j hj => by
        obtain ⟨b, u, h1, h2, h3, h4, h5⟩ := hpl j hj
        exact ⟨b, u, h1, h4, h5⟩))
      have HP := hide (And.intro hwr (And.intro hAr (And.intro hC (And.intro hXr hwh))))
      have hAws : Aw < wr.heap.size := by omega
      clear hown hps hpl hgr hXr hAr hwh hwr hC
      go_wp2_with fail
      refine (unhide HL1).mono ?_
      rintro e w8 ⟨rfl, hs8⟩
      obtain ⟨hwr, hAr, hC, hXr, hwh⟩ := unhide HP
      clear HP HL1
      have hA8 := hAr.below (hs8 _)
      have HP := hide (And.intro (hwr.trans (hs8 _)) (And.intro hA8 (And.intro (hC.below (hs8 _)) (And.intro (hXr.below (hs8 _)) (fun j hj => (show ∃ u, w8.cell? ⟨Aw, j, none⟩ = some u ∧ _ from by rw [hs8.cell]; exact hwh j hj))))))
      have hAw8 : Aw < w8.heap.size := Nat.lt_of_lt_of_le hAws (hs8 0).size
      clear hwr hAr hC hXr hwh hA8 hs8
      go_wp2_with fail
      obtain ⟨hw8, hA8, hB8, hX8, hwh8⟩ := unhide HP
      clear HP
      refine (statesW hA8 (by omega)).mono ?_
      rintro e w9 ⟨S1, rfl, hS11, hS12, hSt9, hb9⟩
      have hA9 := hA8.below hb9
      have HP := hide (And.intro (hw8.trans (hb9.mono hw8.size)) (And.intro hA9 (And.intro (hB8.below hb9) (And.intro (hX8.below hb9) (And.intro hSt9 (fun j hj => (show ∃ u, w9.cell? ⟨Aw, j, none⟩ = some u ∧ _ from by rw [hb9.cell (by exact hAw8)]; exact hwh8 j hj)))))))
      have hAw9 : Aw < w9.heap.size := Nat.lt_of_lt_of_le hAw8 hb9.size
      clear hw8 hA8 hB8 hX8 hwh8 hSt9 hb9 hA9
      go_wp2_with fail
      obtain ⟨hw9, hA9, hB9, hX9, hSt9, hwh9⟩ := unhide HP
      clear HP
      refine (statesW hB9 (by omega)).mono ?_
      rintro e w10 ⟨S2, rfl, hS21, hS22, hSt10, hb10⟩
      have HS := hide (states_any S1 S2 n n n _ w10 (by omega) (hSt9.grown (below_grown hb10 none) (by simp)) hSt10)
      have HP := hide (And.intro (hw9.trans (hb10.mono hw9.size)) (And.intro (hA9.below hb10) (And.intro (hX9.below hb10) (fun j hj => (show ∃ u, w10.cell? ⟨Aw, j, none⟩ = some u ∧ _ from by rw [hb10.cell (by exact hAw9)]; exact hwh9 j hj)))))
      have hAw10 : Aw < w10.heap.size := Nat.lt_of_lt_of_le hAw9 hb10.size
      clear hw9 hA9 hB9 hX9 hSt9 hwh9 hSt10 hb10
      go_wp2_with fail
      refine (unhide HS).mono ?_
      rintro e w11 ⟨rfl, hs11⟩
      obtain ⟨hw10, hA10, hX10, hwh10⟩ := unhide HP
      clear HP HS
      have HP := hide (And.intro (hw10.trans (hs11 _)) (And.intro (hA10.below (hs11 _)) (And.intro (hX10.below (hs11 _)) (fun j hj => (show ∃ u, w11.cell? ⟨Aw, j, none⟩ = some u ∧ _ from by rw [hs11.cell]; exact hwh10 j hj)))))
      have hAw11 : Aw < w11.heap.size := Nat.lt_of_lt_of_le hAw10 (hs11 0).size
      clear hw10 hA10 hX10 hwh10 hs11
      go_wp2_with fail
      obtain ⟨hw11, hA11, hX11, hwh11⟩ := unhide HP
      clear HP
      refine (restW hA11 (by omega)).mono ?_
      rintro e w12 ⟨rfl, hA12, hg12⟩
      have hAwL : some Aw ≠ some La := by intro e; have := Option.some.inj e; omega
      have HP := hide (And.intro (hw11.grown hg12 hw11.size (fun j e => by have := Option.some.inj e; omega)) (And.intro hA12 (And.intro (hX11.grown hg12 hLa) (fun j hj => (show ∃ u, w12.cell? ⟨Aw, j, none⟩ = some u ∧ _ from by obtain ⟨u, h1, h2⟩ := hwh11 j hj; exact ⟨u, hg12.cell h1 hAwL, h2⟩)))))
      have hAw12 : Aw < w12.heap.size := Nat.lt_of_lt_of_le hAw11 hg12.size
      clear hw11 hA11 hX11 hwh11 hA12 hg12
      go_wp2_with fail
      obtain ⟨hw12, hA12, hX12, hwh12⟩ := unhide HP
      clear HP
      refine (runW hA12 hX12.list (by omega) (XsAt.ne hX12 hLa) (by omega)).mono ?_
      rintro e w13 ⟨A5, rfl, hA51, hA52, hans13, hA13, hg13⟩
      have HL := hide (lists_any A5 t t t (some ⟨Aw, 0, none⟩) _ w13 (by omega) hans13 (fun j hj => by
        obtain ⟨u, h1, h2⟩ := hwh12 j hj
        exact ⟨Aw, u, rfl, hg13.cell h1 hAwL, h2⟩))
      have HP := hide (hw12.grown hg13 hw12.size (fun j e => by have := Option.some.inj e; omega))
      clear hw12 hA12 hX12 hwh12 hans13 hA13 hg13
      go_wp2_with fail
      refine (unhide HL).mono ?_
      rintro e w14 ⟨rfl, hs14⟩
      go_wp2
      go_ret
      exact ⟨rfl, (unhide HP).trans (hs14 _)⟩

theorem cuts_any (adl adb adc : Option Addr) (ll cl lb cb lc cc : Nat) (ls bs us : Nat → Nat) (w : World) (hl : BytesAt w adl ll ls) (hb : WordsAt w adb lb bs) (hc : BytesAt w adc lc us) (hbb : ∀ j, bs j < 18446744073709551616)
    (r1 : ll ≤ 140737488351232) (r2 : lb * 8 ≤ 140737488351232) (r3 : lc ≤ 140737488351232) :
    Calls Try.prog 4 #[.slice adl ll cl, .slice adb lb cb, .slice adc lc cc] w fun e w' => e = .returned (.bool true) ∧ Below w.heap.size w w' := by
  by_cases h : lb / 2 ≤ 300
  · exact cuts_le adl adb adc ll cl lb cb lc cc ls bs us w hl hb hc hbb r1 r2 r3 h
  · exact cuts_gt adl adb adc ll cl lb cb lc cc ls bs us w hl hb hc hbb r1 r2 r3 (by omega)
end Go.Proofs.Yteoglcelgcjpoaa
