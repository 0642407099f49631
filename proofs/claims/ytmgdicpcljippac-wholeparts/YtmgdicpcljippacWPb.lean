/- WholeParts: plain facts and the walk. -/
import Derived.Test.YtmgdicpcljippacWPa
import Derived.Test.YtmgdicpcljippacUnlB
import Derived.Test.YtmgdicpcljippacPost
namespace Go.Proofs.Ytmgdicpcljippac
open Go.RowKit

theorem lf_some {b z : Nat} (h : lf b = some z) : b = z ∧ isnan b = false := by
  unfold lf at h
  cases hn : isnan b
  · rw [hn] at h; simp at h; exact ⟨h, rfl⟩
  · rw [hn] at h; simp at h
theorem lf_of {b : Nat} (h : isnan b = false) : lf b = some b := by unfold lf; rw [h]; rfl

theorem sum_opp_none (d e : Ieee.Datum) (h : d.opposite.sum e.opposite = none) : d.sum e = none := by
  cases d <;> cases e <;> simp only [Ieee.Datum.sum, Ieee.Datum.opposite] at h ⊢ <;> first | rfl | (cases h; done) | skip
  rename_i s t
  cases s <;> cases t <;> simp at h ⊢

theorem add_neg_some (x y r : Nat) (hx : x < 18446744073709551616) (hy : y < 18446744073709551616) (h : floatBits .add .f64 x y = some r) : ∃ s, floatBits .add .f64 (Op.negFloat .f64 x) (Op.negFloat .f64 y) = some s := by
  cases hs : floatBits .add .f64 (Op.negFloat .f64 x) (Op.negFloat .f64 y) with
  | some s => exact ⟨s, rfl⟩
  | none =>
    have e2 : ((Ieee.double.read (Op.negFloat .f64 x)).sum (Ieee.double.read (Op.negFloat .f64 y))).map Ieee.double.write = none := hs
    rw [read_neg x hx, read_neg y hy, Option.map_eq_none_iff] at e2
    have e1 : ((Ieee.double.read x).sum (Ieee.double.read y)).map Ieee.double.write = some r := h
    rw [sum_opp_none _ _ e2] at e1
    cases e1

theorem fop_mul_nn (b d : Nat) (hb : b < 18446744073709551616) (hd : d < 18446744073709551616) : fop .mul (lf (Op.negFloat .f64 b)) (lf (Op.negFloat .f64 d)) = fop .mul (lf b) (lf d) := by
  rw [← fop_bits .mul (by simp) _ _ (neg_lt64 b hb) (neg_lt64 d hd), ← fop_bits .mul (by simp) _ _ hb hd, mul_neg_neg b d hb hd]
theorem fop_mul_n (a d : Nat) (ha : a < 18446744073709551616) (hd : d < 18446744073709551616) : fop .mul (lf a) (lf (Op.negFloat .f64 d)) = (fop .mul (lf a) (lf d)).map (Op.negFloat .f64) := by
  rw [← fop_bits .mul (by simp) _ _ ha (neg_lt64 d hd), ← fop_bits .mul (by simp) _ _ ha hd, mul_neg a d hd]
theorem fop_mul_n' (b c : Nat) (hb : b < 18446744073709551616) (hc : c < 18446744073709551616) : fop .mul (lf (Op.negFloat .f64 b)) (lf c) = (fop .mul (lf b) (lf c)).map (Op.negFloat .f64) := by
  rw [fop_mul_comm, fop_mul_n c b hc hb, fop_mul_comm]

theorem eq_refl (b : Nat) (hb : b < 18446744073709551616) (h : isnan b = false) : (FloatKind.f64.format.order b b == some .eq) = true := by
  rw [order_eq b b hb hb, h]; simp

theorem fop_lt {x y : Option Nat} {op : BinOp} {r : Nat} (h : fop op x y = some r) : r < 18446744073709551616 := by
  unfold fop at h
  cases x with
  | none => simp at h
  | some a =>
    cases y with
    | none => simp at h
    | some b => exact bound_f r (floatBits_wf h)

/-- Conjugates go through products that are numbers. -/
theorem conj_eq (a b c d pr pi re im vr vi : Nat) (ha : a < 18446744073709551616) (hb : b < 18446744073709551616) (hc : c < 18446744073709551616) (hd : d < 18446744073709551616) (hpr : pr < 18446744073709551616) (hpi : pi < 18446744073709551616) (hvi : vi < 18446744073709551616)
    (fr' : fin pr = true) (fi' : fin pi = true) (l1 : lf pr = mulRe a b c d) (l2 : lf pi = mulIm a b c d) (l3 : lf re = mulRe a b c d) (l4 : lf im = mulIm a b c d)
    (l5 : lf vr = mulRe a (Op.negFloat .f64 b) c (Op.negFloat .f64 d)) (l6 : lf vi = mulIm a (Op.negFloat .f64 b) c (Op.negFloat .f64 d)) :
    (FloatKind.f64.format.order re vr == some .eq && FloatKind.f64.format.order (Op.negFloat .f64 im) vi == some .eq) = true := by
  have n1 : isnan pr = false := by unfold fin at fr'; unfold isnan; simp at fr' ⊢; omega
  have n2 : isnan pi = false := by unfold fin at fi'; unfold isnan; simp at fi' ⊢; omega
  have e1 : re = pr := (lf_some (l3.trans (l1.symm.trans (lf_of n1)))).1
  have e2 : im = pi := (lf_some (l4.trans (l2.symm.trans (lf_of n2)))).1
  have e3 : vr = pr := by
    refine (lf_some (l5.trans ?_)).1
    rw [← lf_of n1, l1]
    unfold mulRe
    rw [fop_mul_nn b d hb hd]
  subst e1; subst e2; subst e3
  rw [eq_refl _ hpr n1, Bool.true_and]
  rw [lf_of n2] at l2
  unfold mulIm at l2 l6
  rw [fop_mul_n a d ha hd, fop_mul_n' b c hb hc] at l6
  cases hs : fop .mul (lf a) (lf d) with
  | none => rw [hs] at l2; simp [fop] at l2
  | some s =>
    cases ht : fop .mul (lf b) (lf c) with
    | none => rw [hs, ht] at l2; simp [fop] at l2
    | some t =>
      rw [hs, ht] at l2 l6
      have f1 : floatBits .add .f64 s t = some im := l2.symm
      obtain ⟨q, f2⟩ := add_neg_some s t im (fop_lt hs) (fop_lt ht) f1
      have f3 : lf vi = some q := by rw [l6]; exact f2
      obtain ⟨e4, n4⟩ := lf_some f3
      subst e4
      rcases add_neg_neg s t im vi (fop_lt hs) (fop_lt ht) f1 f2 with h | ⟨h1, h2⟩
      · rw [h] at n4 ⊢
        exact eq_refl _ (neg_lt64 _ hpi) n4
      · have hn := neg_lt64 im hpi
        rw [order_eq _ _ hn hvi, n4, isnan_neg' im hpi, n2]
        unfold key
        rw [(neg_parts im hpi).1, h1, h2]
        cases ng (Op.negFloat .f64 im) <;> cases ng vi <;> rfl

theorem eqc_symm (p q : Nat × Nat) (h1 : p.1 < 18446744073709551616) (h2 : p.2 < 18446744073709551616) (h3 : q.1 < 18446744073709551616) (h4 : q.2 < 18446744073709551616) : eqc p q = eqc q p := by
  unfold eqc
  rw [order_eq _ _ h1 h3, order_eq _ _ h2 h4, order_eq _ _ h3 h1, order_eq _ _ h4 h2]
  have e : ∀ x y : Int, decide (x = y) = decide (y = x) := fun x y => by simp [eq_comm]
  rw [e (key p.1), e (key p.2), Bool.and_comm (!isnan p.1), Bool.and_comm (!isnan p.2)]
theorem eqc_nan (p q : Nat × Nat) (h1 : p.1 < 18446744073709551616) (h2 : p.2 < 18446744073709551616) (h3 : q.1 < 18446744073709551616) (h4 : q.2 < 18446744073709551616) (h : eqc p p = false) : eqc p q = false := by
  unfold eqc at h ⊢
  rw [order_eq _ _ h1 h1, order_eq _ _ h2 h2] at h
  rw [order_eq _ _ h1 h3, order_eq _ _ h2 h4]
  cases a1 : isnan p.1
  · cases a2 : isnan p.2
    · simp [a1, a2] at h
    · simp
  · simp

theorem unl_one (x y : Nat × Nat) (h1 : eqc x x = true) (h2 : eqc y x = true) : unl [x, y, x] 3 = [x] := by
  simp [unl, hasc, h1, h2]
theorem unl_two (x y : Nat × Nat) (h1 : eqc x x = true) (h2 : eqc y x = false) : unl [x, y, x] 3 = [x, y] := by
  simp [unl, hasc, h1, h2]
theorem unl_all (x y : Nat × Nat) (h1 : eqc x x = false) (h2 : eqc y x = false) (h3 : eqc x y = false) : unl [x, y, x] 3 = [x, y, x] := by
  simp [unl, hasc, h1, h2, h3]

theorem mul_ii (w : World) : Calls Try.prog 7 #[.complex .f64 0 4607182418800017408, .complex .f64 0 4607182418800017408] w fun e w' => e = .returned (.complex .f64 13830554455654793216 0) ∧ w' = w :=
  mul_calls 0 4607182418800017408 0 4607182418800017408 0 4607182418800017408 0 0 13830554455654793216 0 (by decide +kernel) (by decide +kernel) (by decide +kernel) (by decide +kernel) (by decide +kernel) (by decide +kernel) w
theorem sizes_34 (w : World) : Calls Try.prog 27 #[.complex .f64 4613937818241073152 13839561654909534208] w fun e w' => e = .returned (.tuple #[.float .f64 4616189618054758400, .float .f64 4613937818241073152]) ∧ w' = w :=
  sizes_lt 4613937818241073152 13839561654909534208 (by decide) (by decide) (by decide +kernel) w
theorem abs_34 (w : World) : Calls Try.prog 8 #[.complex .f64 4613937818241073152 13839561654909534208] w fun e w' => e = .returned (.float .f64 4617315517961601024) ∧ w' = w :=
  cabs_num 4613937818241073152 13839561654909534208 4616189618054758400 4613937818241073152 4604930618986332160 4603241769126068224 4609715693590413312 4608308318706860032 4617315517961601024 sizes_34 (by decide +kernel) (by decide +kernel) (by decide +kernel) (by decide +kernel) (by decide +kernel) (by decide +kernel) (by decide +kernel) (by decide +kernel) (by decide +kernel) (by decide +kernel) w

/-- The first cell of a row. -/
theorem row_first {w : World} {g : Nat} {cur : Array Value} {t : TypeId} {x : Value} {xs : List Value} {n : Nat} (hh : w.heap[g]? = some (.cells cur t (0, 0))) (hc : cur.toList.take (n * 1) = x :: xs) : w.cell? ⟨g, 0, none⟩ = some x := by
  have h0 : cur[0]? = some x := by
    rw [← Array.getElem?_toList]
    have : (cur.toList.take (n * 1))[0]? = some x := by rw [hc]; rfl
    rw [List.getElem?_take] at this
    split at this
    · exact this
    · cases this
  simp [World.cell?, hh, h0]
set_option maxRecDepth 100000 in
set_option maxHeartbeats 2000000 in
theorem parts_one (a b c d : Int) (A B C D : Nat) (hA : a.toNat = A) (hB : b.toNat = B) (hC : c.toNat = C) (hD : d.toNat = D) (ha : A < 18446744073709551616) (hb : B < 18446744073709551616) (hc : C < 18446744073709551616) (hd : D < 18446744073709551616)
    (t1 : (FloatKind.f64.format.order A A == some .eq && FloatKind.f64.format.order B B == some .eq) = true) (t2 : (FloatKind.f64.format.order A C == some .eq && FloatKind.f64.format.order B D == some .eq) = true) (hU : unl [(A, B), (C, D), (A, B)] 3 = [(A, B)]) (w : World) :
    Calls Try.prog 3 #[.int .u64 a, .int .u64 b, .int .u64 c, .int .u64 d] w fun e w' => e = .returned (.bool true) ∧ Below w.heap.size w w' := by
  have hx := run_frombits
  have hs := run_same
  have hn : ∀ p q w, (Op.unary .neg (.complex .f64 p q)).run Try.prog w = .ok (.complex .f64 (Op.negFloat .f64 p) (Op.negFloat .f64 q)) w := fun _ _ _ => rfl
  have o1 : (FloatKind.f64.format.order 13830554455654793216 13830554455654793216 == some .eq) = true := (by decide +kernel)
  have o2 : (FloatKind.f64.format.order 0 0 == some .eq) = true := (by decide +kernel)
  have o3 : (FloatKind.f64.format.order 4617315517961601024 4617315517961601024 != some .eq) = false := (by decide +kernel)
  have Ha := hide ha
  have Hb := hide hb
  have Hc := hide hc
  have Hd := hide hd
  have Hu := hide hU
  clear ha hb hc hd hU
  obtain ⟨W0, hW0⟩ : ∃ W0, W0 = w.heap.size := ⟨_, rfl⟩
  rw [← hW0]
  have H0 : Hid (Below W0 w w ∧ W0 ≤ w.heap.size) := ⟨Below.refl _ _, by omega⟩
  clear hW0
  go_enter Try.func3, Try.ntmps3
  go_wp2_with fail
  refine (mul_ii _).mono ?_
  rintro e w' ⟨rfl, rfl⟩
  go_wp2_with fail
  refine (abs_34 _).mono ?_
  rintro e w' ⟨rfl, rfl⟩
  go_wp2_with fail
  refine (mul_lf A B C D (unhide Ha) (unhide Hb) (unhide Hc) (unhide Hd) _).mono ?_
  rintro e w1 ⟨pr, pi, rfl, bp, bq, lp, lq, s1⟩
  obtain ⟨m1, w2, k1, c1, g1, s2⟩ := op_any .mul (by simp) A C (unhide Ha) (unhide Hc) w1
  obtain ⟨m2, w3, k2, c2, g2, s3⟩ := op_any .mul (by simp) B D (unhide Hb) (unhide Hd) w2
  obtain ⟨re, w4, k3, c3, g3, s4⟩ := op_any .sub (by simp) m1 m2 c1 c2 w3
  obtain ⟨m3, w5, k4, c4, g4, s5⟩ := op_any .mul (by simp) A D (unhide Ha) (unhide Hd) w4
  obtain ⟨m4, w6, k5, c5, g5, s6⟩ := op_any .mul (by simp) B C (unhide Hb) (unhide Hc) w5
  obtain ⟨im, w7, k6, c6, g6, s7⟩ := op_any .add (by simp) m3 m4 c4 c5 w6
  have q1 : lf pr = lf re := by rw [lp, g3, g1, g2]; rfl
  have q2 : lf pi = lf im := by rw [lq, g6, g4, g5]; rfl
  have Hal := hide (alike_yes pr pi re im bp bq c3 c6 q1 q2)
  have HS := hide ((((((s1.trans s2).trans s3).trans s4).trans s5).trans s6).trans s7)
  have Hp := hide (And.intro bp (And.intro bq (And.intro lp lq)))
  clear s1 s2 s3 s4 s5 s6 s7 g1 g2 g3 g4 g5 g6 c1 c2 c3 c4 c5 c6 q1 q2 bp bq lp lq
  go_wp2_with fail
  refine (unhide Hal _).mono ?_
  rintro e w8 ⟨rfl, rfl⟩
  clear k1 k2 k3 k4 k5 k6 Hal
  go_wp2_with fail
  refine (mul_lf C D A B (unhide Hc) (unhide Hd) (unhide Ha) (unhide Hb) _).mono ?_
  rintro e w9 ⟨yr, yi, rfl, b1, b2, l1, l2, s1⟩
  have Hal := hide (alike_yes yr yi pr pi b1 b2 (unhide Hp).1 (unhide Hp).2.1
    (by rw [l1, (unhide Hp).2.2.1]; unfold mulRe; rw [fop_mul_comm (lf C), fop_mul_comm (lf D)])
    (by rw [l2, (unhide Hp).2.2.2]; unfold mulIm; rw [fop_add_comm, fop_mul_comm (lf C), fop_mul_comm (lf D)]))
  have HS2 := hide ((unhide HS).trans s1)
  clear b1 b2 l1 l2 s1
  go_wp2_with fail
  refine (unhide Hal _).mono ?_
  rintro e w8 ⟨rfl, rfl⟩
  clear Hal
  go_wp2_with fail
  refine (csame_walk A B C D (unhide Ha) (unhide Hb) (unhide Hc) (unhide Hd) _).mono ?_
  rintro e w8 ⟨rfl, rfl⟩
  go_wp2_with fail
  refine (alike_walk A B C D (unhide Ha) (unhide Hb) (unhide Hc) (unhide Hd) _).mono ?_
  rintro e w8 ⟨rfl, rfl⟩
  generalize (decide (lf A = lf C) && decide (lf B = lf D)) = sm
  go_wp2_with fail
  refine (turn_walk _ _ _).mono ?_
  rintro e w' ⟨rfl, rfl⟩
  go_wp2_with fail
  refine (turn_walk _ _ _).mono ?_
  rintro e w' ⟨rfl, rfl⟩
  go_wp2_with fail
  refine (turn_walk _ _ _).mono ?_
  rintro e w' ⟨rfl, rfl⟩
  go_wp2_with fail
  refine (turn_walk _ _ _).mono ?_
  rintro e w' ⟨rfl, rfl⟩
  rw [neg_neg, neg_neg]
  go_wp2_with fail
  refine (alike_yes A B A B (unhide Ha) (unhide Hb) (unhide Ha) (unhide Hb) rfl rfl _).mono ?_
  rintro e w8 ⟨rfl, rfl⟩
  go_wp2_with fail
  refine (conj_walk _ _ _).mono ?_
  rintro e w' ⟨rfl, rfl⟩
  go_wp2_with fail
  refine (conj_walk _ _ _).mono ?_
  rintro e w' ⟨rfl, rfl⟩
  rw [neg_neg]
  go_wp2_with fail
  refine (alike_yes A B A B (unhide Ha) (unhide Hb) (unhide Ha) (unhide Hb) rfl rfl _).mono ?_
  rintro e w8 ⟨rfl, rfl⟩
  go_wp2_with fail
  refine (turn_walk _ _ _).mono ?_
  rintro e w' ⟨rfl, rfl⟩
  go_wp2_with fail
  refine (turn_walk _ _ _).mono ?_
  rintro e w' ⟨rfl, rfl⟩
  go_wp2_with fail
  refine (alike_yes (Op.negFloat .f64 A) (Op.negFloat .f64 B) (Op.negFloat .f64 A) (Op.negFloat .f64 B) (neg_lt64 A (unhide Ha)) (neg_lt64 B (unhide Hb)) (neg_lt64 A (unhide Ha)) (neg_lt64 B (unhide Hb)) rfl rfl _).mono ?_
  rintro e w8 ⟨rfl, rfl⟩
  go_wp2_with fail
  refine (unlike_any _ 0 3 3 [(A, B), (C, D), (A, B)] _ (by decide) (by simp) ?_ ?_).mono ?_
  · simp
  · intro j hj
    match j, hj with
    | 0, _ => simp [cv]
    | 1, _ => simp [cv]
    | 2, _ => simp [cv]
  · rintro e wu ⟨v, rfl, hrow, hbel⟩
    rw [unhide Hu] at hrow
    obtain ⟨_, h | ⟨g, cap, cur, rfl, hg, hh, _, _, _, hcur⟩⟩ := hrow
    · exact absurd h.2 (by simp)
    · have hcell : wu.cell? ⟨g, 0, none⟩ = some (.complex .f64 A B) := row_first hh hcur
      clear hh hcur hg
      have HB := hide hbel
      clear hbel
      go_wp2_with fail
      refine (alike_yes A B A B (unhide Ha) (unhide Hb) (unhide Ha) (unhide Hb) rfl rfl _).mono ?_
      rintro e w8 ⟨rfl, rfl⟩
      clear hcell
      go_wp2_with fail
      refine (mul_lf A B C D (unhide Ha) (unhide Hb) (unhide Hc) (unhide Hd) _).mono ?_
      rintro e wv ⟨re', im', rfl, b1, b2, l1, l2, s1⟩
      have Hm := hide (And.intro b1 (And.intro b2 (And.intro l1 (And.intro l2 s1))))
      clear b1 b2 l1 l2 s1
      go_wp2_with fail
      refine (conj_walk _ _ _).mono ?_
      rintro e w' ⟨rfl, rfl⟩
      go_wp2_with fail
      refine (conj_walk _ _ _).mono ?_
      rintro e w' ⟨rfl, rfl⟩
      go_wp2_with fail
      refine (conj_walk _ _ _).mono ?_
      rintro e w' ⟨rfl, rfl⟩
      go_wp2_with fail
      refine (mul_lf A (Op.negFloat .f64 B) C (Op.negFloat .f64 D) (unhide Ha) (neg_lt64 B (unhide Hb)) (unhide Hc) (neg_lt64 D (unhide Hd)) _).mono ?_
      rintro e wz ⟨vr, vi, rfl, b1, b2, l1, l2, s1⟩
      have Hv := hide (And.intro b1 (And.intro b2 (And.intro l1 (And.intro l2 s1))))
      clear b1 b2 l1 l2 s1
      have z1 := (unhide H0).2
      have z2 := ((unhide HS2) 0).size
      have z3 := ((Below.refl W0 _).alloc (Nat.le_trans z1 z2) (.cells #[.complex .f64 A B, .complex .f64 C D, .complex .f64 A B] 23))
      have hend := hide (((((unhide HS2) W0).trans z3).trans ((unhide HB).mono (by simp; omega))).trans (((unhide Hm).2.2.2.2 W0).trans ((unhide Hv).2.2.2.2 W0)))
      clear z1 z2 z3
      cases hf : (fin pr && fin pi)
      · go_wp2_with fail
        refine (finite_walk pr pi (unhide Hp).1 (unhide Hp).2.1 _).mono ?_
        rintro e w8 ⟨rfl, rfl⟩
        go_wp2
        go_ret
        exact ⟨rfl, unhide hend⟩
      · have ht : (fin pr = true ∧ fin pi = true) := by simpa using hf
        have teq := conj_eq A B C D pr pi re' im' vr vi (unhide Ha) (unhide Hb) (unhide Hc) (unhide Hd) (unhide Hp).1 (unhide Hp).2.1 (unhide Hv).2.1 ht.1 ht.2 (unhide Hp).2.2.1 (unhide Hp).2.2.2 (unhide Hm).2.2.1 (unhide Hm).2.2.2.1 (unhide Hv).2.2.1 (unhide Hv).2.2.2.1
        go_wp2_with fail
        refine (finite_walk pr pi (unhide Hp).1 (unhide Hp).2.1 _).mono ?_
        rintro e w8 ⟨rfl, rfl⟩
        go_wp2
        go_ret
        exact ⟨rfl, unhide hend⟩

set_option maxRecDepth 100000 in
set_option maxHeartbeats 2000000 in
theorem parts_two (a b c d : Int) (A B C D : Nat) (hA : a.toNat = A) (hB : b.toNat = B) (hC : c.toNat = C) (hD : d.toNat = D) (ha : A < 18446744073709551616) (hb : B < 18446744073709551616) (hc : C < 18446744073709551616) (hd : D < 18446744073709551616)
    (t1 : (FloatKind.f64.format.order A A == some .eq && FloatKind.f64.format.order B B == some .eq) = true) (t2 : (FloatKind.f64.format.order A C == some .eq && FloatKind.f64.format.order B D == some .eq) = false) (hU : unl [(A, B), (C, D), (A, B)] 3 = [(A, B), (C, D)]) (w : World) :
    Calls Try.prog 3 #[.int .u64 a, .int .u64 b, .int .u64 c, .int .u64 d] w fun e w' => e = .returned (.bool true) ∧ Below w.heap.size w w' := by
  have hx := run_frombits
  have hs := run_same
  have hn : ∀ p q w, (Op.unary .neg (.complex .f64 p q)).run Try.prog w = .ok (.complex .f64 (Op.negFloat .f64 p) (Op.negFloat .f64 q)) w := fun _ _ _ => rfl
  have o1 : (FloatKind.f64.format.order 13830554455654793216 13830554455654793216 == some .eq) = true := (by decide +kernel)
  have o2 : (FloatKind.f64.format.order 0 0 == some .eq) = true := (by decide +kernel)
  have o3 : (FloatKind.f64.format.order 4617315517961601024 4617315517961601024 != some .eq) = false := (by decide +kernel)
  have Ha := hide ha
  have Hb := hide hb
  have Hc := hide hc
  have Hd := hide hd
  have Hu := hide hU
  clear ha hb hc hd hU
  obtain ⟨W0, hW0⟩ : ∃ W0, W0 = w.heap.size := ⟨_, rfl⟩
  rw [← hW0]
  have H0 : Hid (Below W0 w w ∧ W0 ≤ w.heap.size) := ⟨Below.refl _ _, by omega⟩
  clear hW0
  go_enter Try.func3, Try.ntmps3
  go_wp2_with fail
  refine (mul_ii _).mono ?_
  rintro e w' ⟨rfl, rfl⟩
  go_wp2_with fail
  refine (abs_34 _).mono ?_
  rintro e w' ⟨rfl, rfl⟩
  go_wp2_with fail
  refine (mul_lf A B C D (unhide Ha) (unhide Hb) (unhide Hc) (unhide Hd) _).mono ?_
  rintro e w1 ⟨pr, pi, rfl, bp, bq, lp, lq, s1⟩
  obtain ⟨m1, w2, k1, c1, g1, s2⟩ := op_any .mul (by simp) A C (unhide Ha) (unhide Hc) w1
  obtain ⟨m2, w3, k2, c2, g2, s3⟩ := op_any .mul (by simp) B D (unhide Hb) (unhide Hd) w2
  obtain ⟨re, w4, k3, c3, g3, s4⟩ := op_any .sub (by simp) m1 m2 c1 c2 w3
  obtain ⟨m3, w5, k4, c4, g4, s5⟩ := op_any .mul (by simp) A D (unhide Ha) (unhide Hd) w4
  obtain ⟨m4, w6, k5, c5, g5, s6⟩ := op_any .mul (by simp) B C (unhide Hb) (unhide Hc) w5
  obtain ⟨im, w7, k6, c6, g6, s7⟩ := op_any .add (by simp) m3 m4 c4 c5 w6
  have q1 : lf pr = lf re := by rw [lp, g3, g1, g2]; rfl
  have q2 : lf pi = lf im := by rw [lq, g6, g4, g5]; rfl
  have Hal := hide (alike_yes pr pi re im bp bq c3 c6 q1 q2)
  have HS := hide ((((((s1.trans s2).trans s3).trans s4).trans s5).trans s6).trans s7)
  have Hp := hide (And.intro bp (And.intro bq (And.intro lp lq)))
  clear s1 s2 s3 s4 s5 s6 s7 g1 g2 g3 g4 g5 g6 c1 c2 c3 c4 c5 c6 q1 q2 bp bq lp lq
  go_wp2_with fail
  refine (unhide Hal _).mono ?_
  rintro e w8 ⟨rfl, rfl⟩
  clear k1 k2 k3 k4 k5 k6 Hal
  go_wp2_with fail
  refine (mul_lf C D A B (unhide Hc) (unhide Hd) (unhide Ha) (unhide Hb) _).mono ?_
  rintro e w9 ⟨yr, yi, rfl, b1, b2, l1, l2, s1⟩
  have Hal := hide (alike_yes yr yi pr pi b1 b2 (unhide Hp).1 (unhide Hp).2.1
    (by rw [l1, (unhide Hp).2.2.1]; unfold mulRe; rw [fop_mul_comm (lf C), fop_mul_comm (lf D)])
    (by rw [l2, (unhide Hp).2.2.2]; unfold mulIm; rw [fop_add_comm, fop_mul_comm (lf C), fop_mul_comm (lf D)]))
  have HS2 := hide ((unhide HS).trans s1)
  clear b1 b2 l1 l2 s1
  go_wp2_with fail
  refine (unhide Hal _).mono ?_
  rintro e w8 ⟨rfl, rfl⟩
  clear Hal
  go_wp2_with fail
  refine (csame_walk A B C D (unhide Ha) (unhide Hb) (unhide Hc) (unhide Hd) _).mono ?_
  rintro e w8 ⟨rfl, rfl⟩
  go_wp2_with fail
  refine (alike_walk A B C D (unhide Ha) (unhide Hb) (unhide Hc) (unhide Hd) _).mono ?_
  rintro e w8 ⟨rfl, rfl⟩
  generalize (decide (lf A = lf C) && decide (lf B = lf D)) = sm
  go_wp2_with fail
  refine (turn_walk _ _ _).mono ?_
  rintro e w' ⟨rfl, rfl⟩
  go_wp2_with fail
  refine (turn_walk _ _ _).mono ?_
  rintro e w' ⟨rfl, rfl⟩
  go_wp2_with fail
  refine (turn_walk _ _ _).mono ?_
  rintro e w' ⟨rfl, rfl⟩
  go_wp2_with fail
  refine (turn_walk _ _ _).mono ?_
  rintro e w' ⟨rfl, rfl⟩
  rw [neg_neg, neg_neg]
  go_wp2_with fail
  refine (alike_yes A B A B (unhide Ha) (unhide Hb) (unhide Ha) (unhide Hb) rfl rfl _).mono ?_
  rintro e w8 ⟨rfl, rfl⟩
  go_wp2_with fail
  refine (conj_walk _ _ _).mono ?_
  rintro e w' ⟨rfl, rfl⟩
  go_wp2_with fail
  refine (conj_walk _ _ _).mono ?_
  rintro e w' ⟨rfl, rfl⟩
  rw [neg_neg]
  go_wp2_with fail
  refine (alike_yes A B A B (unhide Ha) (unhide Hb) (unhide Ha) (unhide Hb) rfl rfl _).mono ?_
  rintro e w8 ⟨rfl, rfl⟩
  go_wp2_with fail
  refine (turn_walk _ _ _).mono ?_
  rintro e w' ⟨rfl, rfl⟩
  go_wp2_with fail
  refine (turn_walk _ _ _).mono ?_
  rintro e w' ⟨rfl, rfl⟩
  go_wp2_with fail
  refine (alike_yes (Op.negFloat .f64 A) (Op.negFloat .f64 B) (Op.negFloat .f64 A) (Op.negFloat .f64 B) (neg_lt64 A (unhide Ha)) (neg_lt64 B (unhide Hb)) (neg_lt64 A (unhide Ha)) (neg_lt64 B (unhide Hb)) rfl rfl _).mono ?_
  rintro e w8 ⟨rfl, rfl⟩
  go_wp2_with fail
  refine (unlike_any _ 0 3 3 [(A, B), (C, D), (A, B)] _ (by decide) (by simp) ?_ ?_).mono ?_
  · simp
  · intro j hj
    match j, hj with
    | 0, _ => simp [cv]
    | 1, _ => simp [cv]
    | 2, _ => simp [cv]
  · rintro e wu ⟨v, rfl, hrow, hbel⟩
    rw [unhide Hu] at hrow
    obtain ⟨_, h | ⟨g, cap, cur, rfl, hg, hh, _, _, _, hcur⟩⟩ := hrow
    · exact absurd h.2 (by simp)
    · have hcell : wu.cell? ⟨g, 0, none⟩ = some (.complex .f64 A B) := row_first hh hcur
      clear hh hcur hg
      have HB := hide hbel
      clear hbel
      go_wp2_with fail
      refine (alike_yes A B A B (unhide Ha) (unhide Hb) (unhide Ha) (unhide Hb) rfl rfl _).mono ?_
      rintro e w8 ⟨rfl, rfl⟩
      clear hcell
      go_wp2_with fail
      refine (mul_lf A B C D (unhide Ha) (unhide Hb) (unhide Hc) (unhide Hd) _).mono ?_
      rintro e wv ⟨re', im', rfl, b1, b2, l1, l2, s1⟩
      have Hm := hide (And.intro b1 (And.intro b2 (And.intro l1 (And.intro l2 s1))))
      clear b1 b2 l1 l2 s1
      go_wp2_with fail
      refine (conj_walk _ _ _).mono ?_
      rintro e w' ⟨rfl, rfl⟩
      go_wp2_with fail
      refine (conj_walk _ _ _).mono ?_
      rintro e w' ⟨rfl, rfl⟩
      go_wp2_with fail
      refine (conj_walk _ _ _).mono ?_
      rintro e w' ⟨rfl, rfl⟩
      go_wp2_with fail
      refine (mul_lf A (Op.negFloat .f64 B) C (Op.negFloat .f64 D) (unhide Ha) (neg_lt64 B (unhide Hb)) (unhide Hc) (neg_lt64 D (unhide Hd)) _).mono ?_
      rintro e wz ⟨vr, vi, rfl, b1, b2, l1, l2, s1⟩
      have Hv := hide (And.intro b1 (And.intro b2 (And.intro l1 (And.intro l2 s1))))
      clear b1 b2 l1 l2 s1
      have z1 := (unhide H0).2
      have z2 := ((unhide HS2) 0).size
      have z3 := ((Below.refl W0 _).alloc (Nat.le_trans z1 z2) (.cells #[.complex .f64 A B, .complex .f64 C D, .complex .f64 A B] 23))
      have hend := hide (((((unhide HS2) W0).trans z3).trans ((unhide HB).mono (by simp; omega))).trans (((unhide Hm).2.2.2.2 W0).trans ((unhide Hv).2.2.2.2 W0)))
      clear z1 z2 z3
      cases hf : (fin pr && fin pi)
      · go_wp2_with fail
        refine (finite_walk pr pi (unhide Hp).1 (unhide Hp).2.1 _).mono ?_
        rintro e w8 ⟨rfl, rfl⟩
        go_wp2
        go_ret
        exact ⟨rfl, unhide hend⟩
      · have ht : (fin pr = true ∧ fin pi = true) := by simpa using hf
        have teq := conj_eq A B C D pr pi re' im' vr vi (unhide Ha) (unhide Hb) (unhide Hc) (unhide Hd) (unhide Hp).1 (unhide Hp).2.1 (unhide Hv).2.1 ht.1 ht.2 (unhide Hp).2.2.1 (unhide Hp).2.2.2 (unhide Hm).2.2.1 (unhide Hm).2.2.2.1 (unhide Hv).2.2.1 (unhide Hv).2.2.2.1
        go_wp2_with fail
        refine (finite_walk pr pi (unhide Hp).1 (unhide Hp).2.1 _).mono ?_
        rintro e w8 ⟨rfl, rfl⟩
        go_wp2
        go_ret
        exact ⟨rfl, unhide hend⟩

set_option maxRecDepth 100000 in
set_option maxHeartbeats 2000000 in
theorem parts_all (a b c d : Int) (A B C D : Nat) (hA : a.toNat = A) (hB : b.toNat = B) (hC : c.toNat = C) (hD : d.toNat = D) (ha : A < 18446744073709551616) (hb : B < 18446744073709551616) (hc : C < 18446744073709551616) (hd : D < 18446744073709551616)
    (t1 : (FloatKind.f64.format.order A A == some .eq && FloatKind.f64.format.order B B == some .eq) = false) (t2 : (FloatKind.f64.format.order A C == some .eq && FloatKind.f64.format.order B D == some .eq) = false) (hU : unl [(A, B), (C, D), (A, B)] 3 = [(A, B), (C, D), (A, B)]) (w : World) :
    Calls Try.prog 3 #[.int .u64 a, .int .u64 b, .int .u64 c, .int .u64 d] w fun e w' => e = .returned (.bool true) ∧ Below w.heap.size w w' := by
  have hx := run_frombits
  have hs := run_same
  have hn : ∀ p q w, (Op.unary .neg (.complex .f64 p q)).run Try.prog w = .ok (.complex .f64 (Op.negFloat .f64 p) (Op.negFloat .f64 q)) w := fun _ _ _ => rfl
  have o1 : (FloatKind.f64.format.order 13830554455654793216 13830554455654793216 == some .eq) = true := (by decide +kernel)
  have o2 : (FloatKind.f64.format.order 0 0 == some .eq) = true := (by decide +kernel)
  have o3 : (FloatKind.f64.format.order 4617315517961601024 4617315517961601024 != some .eq) = false := (by decide +kernel)
  have Ha := hide ha
  have Hb := hide hb
  have Hc := hide hc
  have Hd := hide hd
  have Hu := hide hU
  clear ha hb hc hd hU
  obtain ⟨W0, hW0⟩ : ∃ W0, W0 = w.heap.size := ⟨_, rfl⟩
  rw [← hW0]
  have H0 : Hid (Below W0 w w ∧ W0 ≤ w.heap.size) := ⟨Below.refl _ _, by omega⟩
  clear hW0
  go_enter Try.func3, Try.ntmps3
  go_wp2_with fail
  refine (mul_ii _).mono ?_
  rintro e w' ⟨rfl, rfl⟩
  go_wp2_with fail
  refine (abs_34 _).mono ?_
  rintro e w' ⟨rfl, rfl⟩
  go_wp2_with fail
  refine (mul_lf A B C D (unhide Ha) (unhide Hb) (unhide Hc) (unhide Hd) _).mono ?_
  rintro e w1 ⟨pr, pi, rfl, bp, bq, lp, lq, s1⟩
  obtain ⟨m1, w2, k1, c1, g1, s2⟩ := op_any .mul (by simp) A C (unhide Ha) (unhide Hc) w1
  obtain ⟨m2, w3, k2, c2, g2, s3⟩ := op_any .mul (by simp) B D (unhide Hb) (unhide Hd) w2
  obtain ⟨re, w4, k3, c3, g3, s4⟩ := op_any .sub (by simp) m1 m2 c1 c2 w3
  obtain ⟨m3, w5, k4, c4, g4, s5⟩ := op_any .mul (by simp) A D (unhide Ha) (unhide Hd) w4
  obtain ⟨m4, w6, k5, c5, g5, s6⟩ := op_any .mul (by simp) B C (unhide Hb) (unhide Hc) w5
  obtain ⟨im, w7, k6, c6, g6, s7⟩ := op_any .add (by simp) m3 m4 c4 c5 w6
  have q1 : lf pr = lf re := by rw [lp, g3, g1, g2]; rfl
  have q2 : lf pi = lf im := by rw [lq, g6, g4, g5]; rfl
  have Hal := hide (alike_yes pr pi re im bp bq c3 c6 q1 q2)
  have HS := hide ((((((s1.trans s2).trans s3).trans s4).trans s5).trans s6).trans s7)
  have Hp := hide (And.intro bp (And.intro bq (And.intro lp lq)))
  clear s1 s2 s3 s4 s5 s6 s7 g1 g2 g3 g4 g5 g6 c1 c2 c3 c4 c5 c6 q1 q2 bp bq lp lq
  go_wp2_with fail
  refine (unhide Hal _).mono ?_
  rintro e w8 ⟨rfl, rfl⟩
  clear k1 k2 k3 k4 k5 k6 Hal
  go_wp2_with fail
  refine (mul_lf C D A B (unhide Hc) (unhide Hd) (unhide Ha) (unhide Hb) _).mono ?_
  rintro e w9 ⟨yr, yi, rfl, b1, b2, l1, l2, s1⟩
  have Hal := hide (alike_yes yr yi pr pi b1 b2 (unhide Hp).1 (unhide Hp).2.1
    (by rw [l1, (unhide Hp).2.2.1]; unfold mulRe; rw [fop_mul_comm (lf C), fop_mul_comm (lf D)])
    (by rw [l2, (unhide Hp).2.2.2]; unfold mulIm; rw [fop_add_comm, fop_mul_comm (lf C), fop_mul_comm (lf D)]))
  have HS2 := hide ((unhide HS).trans s1)
  clear b1 b2 l1 l2 s1
  go_wp2_with fail
  refine (unhide Hal _).mono ?_
  rintro e w8 ⟨rfl, rfl⟩
  clear Hal
  go_wp2_with fail
  refine (csame_walk A B C D (unhide Ha) (unhide Hb) (unhide Hc) (unhide Hd) _).mono ?_
  rintro e w8 ⟨rfl, rfl⟩
  go_wp2_with fail
  refine (alike_walk A B C D (unhide Ha) (unhide Hb) (unhide Hc) (unhide Hd) _).mono ?_
  rintro e w8 ⟨rfl, rfl⟩
  generalize (decide (lf A = lf C) && decide (lf B = lf D)) = sm
  go_wp2_with fail
  refine (turn_walk _ _ _).mono ?_
  rintro e w' ⟨rfl, rfl⟩
  go_wp2_with fail
  refine (turn_walk _ _ _).mono ?_
  rintro e w' ⟨rfl, rfl⟩
  go_wp2_with fail
  refine (turn_walk _ _ _).mono ?_
  rintro e w' ⟨rfl, rfl⟩
  go_wp2_with fail
  refine (turn_walk _ _ _).mono ?_
  rintro e w' ⟨rfl, rfl⟩
  rw [neg_neg, neg_neg]
  go_wp2_with fail
  refine (alike_yes A B A B (unhide Ha) (unhide Hb) (unhide Ha) (unhide Hb) rfl rfl _).mono ?_
  rintro e w8 ⟨rfl, rfl⟩
  go_wp2_with fail
  refine (conj_walk _ _ _).mono ?_
  rintro e w' ⟨rfl, rfl⟩
  go_wp2_with fail
  refine (conj_walk _ _ _).mono ?_
  rintro e w' ⟨rfl, rfl⟩
  rw [neg_neg]
  go_wp2_with fail
  refine (alike_yes A B A B (unhide Ha) (unhide Hb) (unhide Ha) (unhide Hb) rfl rfl _).mono ?_
  rintro e w8 ⟨rfl, rfl⟩
  go_wp2_with fail
  refine (turn_walk _ _ _).mono ?_
  rintro e w' ⟨rfl, rfl⟩
  go_wp2_with fail
  refine (turn_walk _ _ _).mono ?_
  rintro e w' ⟨rfl, rfl⟩
  go_wp2_with fail
  refine (alike_yes (Op.negFloat .f64 A) (Op.negFloat .f64 B) (Op.negFloat .f64 A) (Op.negFloat .f64 B) (neg_lt64 A (unhide Ha)) (neg_lt64 B (unhide Hb)) (neg_lt64 A (unhide Ha)) (neg_lt64 B (unhide Hb)) rfl rfl _).mono ?_
  rintro e w8 ⟨rfl, rfl⟩
  go_wp2_with fail
  refine (unlike_any _ 0 3 3 [(A, B), (C, D), (A, B)] _ (by decide) (by simp) ?_ ?_).mono ?_
  · simp
  · intro j hj
    match j, hj with
    | 0, _ => simp [cv]
    | 1, _ => simp [cv]
    | 2, _ => simp [cv]
  · rintro e wu ⟨v, rfl, hrow, hbel⟩
    rw [unhide Hu] at hrow
    obtain ⟨_, h | ⟨g, cap, cur, rfl, hg, hh, _, _, _, hcur⟩⟩ := hrow
    · exact absurd h.2 (by simp)
    · have hcell : wu.cell? ⟨g, 0, none⟩ = some (.complex .f64 A B) := row_first hh hcur
      clear hh hcur hg
      have HB := hide hbel
      clear hbel
      go_wp2_with fail
      refine (alike_yes A B A B (unhide Ha) (unhide Hb) (unhide Ha) (unhide Hb) rfl rfl _).mono ?_
      rintro e w8 ⟨rfl, rfl⟩
      clear hcell
      go_wp2_with fail
      refine (mul_lf A B C D (unhide Ha) (unhide Hb) (unhide Hc) (unhide Hd) _).mono ?_
      rintro e wv ⟨re', im', rfl, b1, b2, l1, l2, s1⟩
      have Hm := hide (And.intro b1 (And.intro b2 (And.intro l1 (And.intro l2 s1))))
      clear b1 b2 l1 l2 s1
      go_wp2_with fail
      refine (conj_walk _ _ _).mono ?_
      rintro e w' ⟨rfl, rfl⟩
      go_wp2_with fail
      refine (conj_walk _ _ _).mono ?_
      rintro e w' ⟨rfl, rfl⟩
      go_wp2_with fail
      refine (conj_walk _ _ _).mono ?_
      rintro e w' ⟨rfl, rfl⟩
      go_wp2_with fail
      refine (mul_lf A (Op.negFloat .f64 B) C (Op.negFloat .f64 D) (unhide Ha) (neg_lt64 B (unhide Hb)) (unhide Hc) (neg_lt64 D (unhide Hd)) _).mono ?_
      rintro e wz ⟨vr, vi, rfl, b1, b2, l1, l2, s1⟩
      have Hv := hide (And.intro b1 (And.intro b2 (And.intro l1 (And.intro l2 s1))))
      clear b1 b2 l1 l2 s1
      have z1 := (unhide H0).2
      have z2 := ((unhide HS2) 0).size
      have z3 := ((Below.refl W0 _).alloc (Nat.le_trans z1 z2) (.cells #[.complex .f64 A B, .complex .f64 C D, .complex .f64 A B] 23))
      have hend := hide (((((unhide HS2) W0).trans z3).trans ((unhide HB).mono (by simp; omega))).trans (((unhide Hm).2.2.2.2 W0).trans ((unhide Hv).2.2.2.2 W0)))
      clear z1 z2 z3
      cases hf : (fin pr && fin pi)
      · go_wp2_with fail
        refine (finite_walk pr pi (unhide Hp).1 (unhide Hp).2.1 _).mono ?_
        rintro e w8 ⟨rfl, rfl⟩
        go_wp2
        go_ret
        exact ⟨rfl, unhide hend⟩
      · have ht : (fin pr = true ∧ fin pi = true) := by simpa using hf
        have teq := conj_eq A B C D pr pi re' im' vr vi (unhide Ha) (unhide Hb) (unhide Hc) (unhide Hd) (unhide Hp).1 (unhide Hp).2.1 (unhide Hv).2.1 ht.1 ht.2 (unhide Hp).2.2.1 (unhide Hp).2.2.2 (unhide Hm).2.2.1 (unhide Hm).2.2.2.1 (unhide Hv).2.2.1 (unhide Hv).2.2.2.1
        go_wp2_with fail
        refine (finite_walk pr pi (unhide Hp).1 (unhide Hp).2.1 _).mono ?_
        rintro e w8 ⟨rfl, rfl⟩
        go_wp2
        go_ret
        exact ⟨rfl, unhide hend⟩

end Go.Proofs.Ytmgdicpcljippac
