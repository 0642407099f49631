/- WholeGuards: the walk. -/
import Derived.Test.YthafffnebaaeiaaGsw
namespace Go.Proofs.Ythafffnebaaeiaa
open Go.RowKit

/-- The bytes of a list lie there. -/
def BytesAt (w : World) (ad : Option Addr) (len : Nat) (bs : Nat → Nat) : Prop := ∀ j, j < len → ∃ b off, ad = some ⟨b, off, none⟩ ∧ b < w.heap.size ∧ bs j < 256 ∧ w.cell? ⟨b, off + j, none⟩ = some (.int .u8 (bs j))
def WordsAt (w : World) (ad : Option Addr) (len : Nat) (bs : Nat → Nat) : Prop := ∀ j, j < len → ∃ b off, ad = some ⟨b, off, none⟩ ∧ b < w.heap.size ∧ w.cell? ⟨b, off + j, none⟩ = some (.int .u64 (bs j))
theorem WordsAt.below {w w' : World} {ad : Option Addr} {len : Nat} {bs : Nat → Nat} (h : WordsAt w ad len bs) (hb : Below w.heap.size w w') : WordsAt w' ad len bs := fun j hj => by
  obtain ⟨b, off, e, h1, h3⟩ := h j hj
  exact ⟨b, off, e, Nat.lt_of_lt_of_le h1 hb.size, by rw [hb.cell (by exact h1)]; exact h3⟩
theorem xs_list {w : World} {base k : Nat} {v : Value} {bs : Nat → Nat} (h : w.ownsRow base 26 1 v k ((List.range k).map (rawC bs))) (hb : ∀ j, bs j < 18446744073709551616) : ListIs w v k (rawX bs) := by
  rcases id h.2 with ⟨rfl, rfl⟩ | ⟨g, cap, cur, rfl, _, hg, hkc, _⟩
  · exact ⟨none, 0, rfl, fun j hj => by omega⟩
  · have hgw : g < w.heap.size := (Array.getElem?_eq_some_iff.1 hg).1
    refine ⟨_, cap, rfl, fun j hj => ⟨g, 0, rawC bs j, rfl, hgw, ?_, ?_⟩⟩
    · have := h.cells (g := g) rfl j (rawC bs j) (by rw [List.getElem?_map, List.getElem?_range (by omega)]; rfl)
      rwa [Addr.add_mid] at this
    · exact CIs.of _ _ (hb _) (hb _)
theorem ListIs.inr {w : World} {v : Value} {m : Nat} {X : Nat → C2} (h : ListIs w v m X) : InR v m 0 w.heap.size := by
  obtain ⟨ad, c, rfl, hs⟩ := h
  intro hn b off mm c' e
  obtain ⟨b2, off2, u, e2, hlt, _⟩ := hs 0 hn
  subst e2
  have : b2 = b := by simp at e; omega
  omega
theorem SecsIs.inr {w : World} {v : Value} {n : Nat} {sec : Nat → Sec} (h : SecsIs w v n sec) : InR v n 0 w.heap.size := by
  obtain ⟨ad, c, rfl, hs⟩ := h
  intro hn b off m c' e
  obtain ⟨b2, u0, u1, u2, u3, u4, e2, hlt, _⟩ := hs 0 hn
  subst e2
  have : b2 = b := by simp at e; omega
  omega
/-- What the statement holds on to: its filter at block F, its guard behind it, its samples, the sections; all below block N. -/
structure GCtx (w0 w : World) (F n c1 m N : Nat) (ads : Option Addr) (xv : Value) (fl cp mu : Bool) (X : Nat → C2) (sec : Nat → Sec) : Prop where
  filt : w.rangeAt F 0 [.complex .f64 4604930618986332160 4602678819172646912, .slice ads n c1]
  grd : w.rangeAt (F + 1) 0 [.bool fl, .bool cp, .bool mu]
  xs : ListIs w xv m X
  secs : SecsIs w (.slice ads n c1) n sec
  low : Below w0.heap.size w0 w
  hF : F + 1 < N
  inx : InR xv m 0 N
  ins : InR (.slice ads n c1) n 0 N
  hN : N ≤ w.heap.size
  h0 : w0.heap.size ≤ N
theorem GCtx.apart {w0 w w' : World} {F n c1 m N B A : Nat} {ads : Option Addr} {xv : Value} {fl cp mu : Bool} {X : Nat → C2} {sec : Nat → Sec} (h : GCtx w0 w F n c1 m N ads xv fl cp mu X sec) (k : Apart w w' B A) (hB : N ≤ B) (hA : N ≤ A) : GCtx w0 w' F n c1 m N ads xv fl cp mu X sec := by
  obtain ⟨a1, a2, a3, a4, a5, a6, a7, a8, a9, a10⟩ := h
  have := k.size
  exact ⟨k.range a1 (by omega) (by omega), k.range a2 (by omega) (by omega), a3.apart k (a7.off (.inr hB)) (a7.off (.inr hA)), a4.apart k (a8.off (.inr hB)) (a8.off (.inr hA)), k.below a5 (by omega) (by omega) (by omega), a6, a7, a8, by omega, a10⟩
theorem GCtx.below {w0 w w' : World} {F n c1 m N : Nat} {ads : Option Addr} {xv : Value} {fl cp mu : Bool} {X : Nat → C2} {sec : Nat → Sec} (h : GCtx w0 w F n c1 m N ads xv fl cp mu X sec) (hb : Below w.heap.size w w') : GCtx w0 w' F n c1 m N ads xv fl cp mu X sec := h.apart (.low N N hb) (Nat.le_refl _) (Nat.le_refl _)
theorem CascAt.apart {w w' : World} {B L n B2 A : Nat} {G : C2} {sec : Nat → Sec} {st : Nat → C2 × C2} (h : CascAt w B L n G sec st) (k : Apart w w' B2 A) (h1 : B ≠ B2) (h2 : B ≠ A) (h3 : L ≠ B2) (h4 : L ≠ A) : CascAt w' B L n G sec st := by
  obtain ⟨g, g', cap, a1, a2, a3, a4, a5, a6⟩ := h
  exact ⟨g, g', cap, k.range a1 h1 h2, a2, a3.apart k a6 h3 h4, a4, Nat.lt_of_lt_of_le a5 k.size, Nat.lt_of_lt_of_le a6 k.size⟩
theorem calm0 : Calm2 z0 := ⟨⟨0, by decide, by omega, .inl (by decide)⟩, ⟨0, by decide, by omega, .inl (by decide)⟩⟩
theorem neq_clip (w : World) : (binOp .neq 26 (.complex .f64 18442240474082181119 4611686018427387904) (.complex .f64 18442240474082181119 4611686018427387904)).run Try.prog w = .ok (.bool false) w := by rfl
/-- Inf(-1), cleaned. -/
theorem clip_inf : (clb ⟨false, true, false⟩ 18442240474082181120) = (18442240474082181119, 1) := by decide
theorem clip_two : (clb ⟨false, true, false⟩ 4611686018427387904) = (4611686018427387904, 0) := by decide
set_option maxRecDepth 100000 in
set_option maxHeartbeats 1000000 in
theorem inf_neg (w : World) : Calls Try.prog 14 #[.int .i64 (-1)] w fun e w' => e = .returned (.float .f64 18442240474082181120) ∧ w' = w := by
  have hy := run_frombits
  go_enter Try.func14, Try.ntmps14
  go_wp2
  go_ret
  exact ⟨rfl, rfl⟩

set_option maxRecDepth 100000 in
set_option maxHeartbeats 8000000 in
theorem guards_any (adl adb : Option Addr) (ll cl lb cb : Nat) (fl cp mu : Bool) (ls bs : Nat → Nat) (w : World) (hl : BytesAt w adl ll ls) (hb : WordsAt w adb lb bs) (hbb : ∀ j, bs j < 18446744073709551616)
    (r1 : ll ≤ 140737488351232) (r2 : lb * 8 ≤ 140737488351232) :
    Calls Try.prog 4 #[.slice adl ll cl, .slice adb lb cb, .bool fl, .bool cp, .bool mu] w fun e w' => e = .returned (.bool true) ∧ Below w.heap.size w w' := by
  have Hl := hide hl
  have Hb := hide hb
  have Hbb := hide hbb
  clear hl hb hbb
  go_enter Try.func4, Try.ntmps4
  go_wp2_with fail
  refine (works_any adl ll cl ls w r1 (unhide Hl)).mono ?_
  rintro e w1 ⟨v1, n, cs, rfl, hn4, hS1, hb1⟩
  obtain ⟨ads, c1, rfl, _⟩ := id hS1
  have H1 := hide (And.intro hS1 hb1)
  clear hS1 hb1
  have hsc := run_store_c
  go_wp2_with fail
  obtain ⟨hS1, hb1⟩ := unhide H1
  have hw1s := hb1.size
  obtain ⟨w2, hw2⟩ : ∃ w2, w2 = (w1.alloc (Obj.cells #[.complex .f64 4604930618986332160 4602678819172646912, .slice ads n c1] 37)).alloc (Obj.cells #[.bool fl, .bool cp, .bool mu] 23) := ⟨_, rfl⟩
  rw [← hw2]
  have hb2 : Below w1.heap.size w1 w2 := by rw [hw2]; exact ((Below.refl _ _).alloc (Nat.le_refl _) _).alloc (by simp) _
  have hs2 : w2.heap.size = w1.heap.size + 2 := by rw [hw2]; simp
  have hF : w2.rangeAt w1.heap.size 0 [.complex .f64 4604930618986332160 4602678819172646912, .slice ads n c1] := by
    intro j v hv
    have hj : j < 2 := (List.getElem?_eq_some_iff.1 hv).1
    rw [hw2]
    rcases (by omega : j = 0 ∨ j = 1) with rfl | rfl <;> (obtain rfl := Option.some.inj hv; go_simp)
  have hGd : w2.rangeAt (w1.heap.size + 1) 0 [.bool fl, .bool cp, .bool mu] := by
    intro j v hv
    have hj : j < 3 := (List.getElem?_eq_some_iff.1 hv).1
    rw [hw2]
    rcases (by omega : j = 0 ∨ j = 1 ∨ j = 2) with rfl | rfl | rfl <;> (obtain rfl := Option.some.inj hv; go_simp)
  clear hw2
  have hbw2 : Below w.heap.size w w2 := hb1.trans (hb2.mono hb1.size)
  refine (raw_any adb lb cb bs w2 r2 ((unhide Hb).below hbw2)).mono ?_
  rintro e w3 ⟨v2, rfl, hown, hb3⟩
  have hX3 := xs_list hown (unhide Hbb)
  obtain ⟨m, hm⟩ : ∃ m, m = lb / 2 := ⟨_, rfl⟩
  rw [← hm] at hX3
  have hm43 : m ≤ 8796093022208 := by omega
  have hw3s := hb3.size
  have hS3 : SecsIs w3 (.slice ads n c1) n (secOf cs) := (hS1.below hb2).below hb3
  have hC3 : GCtx w w3 w1.heap.size n c1 m w3.heap.size ads v2 fl cp mu (rawX bs) (secOf cs) :=
    ⟨fun j v hv => (hb3.cell (by show w1.heap.size < _; omega)).trans (hF j v hv), fun j v hv => (hb3.cell (by show w1.heap.size + 1 < _; omega)).trans (hGd j v hv), hX3, hS3, hbw2.trans (hb3.mono hbw2.size), by omega, hX3.inr, hS3.inr, Nat.le_refl _, by omega⟩
  obtain ⟨adx, cx, rfl, _⟩ := id hX3
  have f0 : w3.cell? ⟨w1.heap.size, 0, none⟩ = some (.complex .f64 4604930618986332160 4602678819172646912) := hC3.filt 0 _ rfl
  have f1 : w3.cell? ⟨w1.heap.size, 1, none⟩ = some (.slice ads n c1) := hC3.filt 1 _ rfl
  have HC3 := hide hC3
  have hn16 : n ≤ 16 := by omega
  clear hC3 hX3 hS3 hown hb3 hbw2 hF hGd hb2 hS1 hb1 H1 Hb Hbb Hl hm
  go_wp2_with fail
  have hC3 := unhide HC3
  refine (gnew_any 4604930618986332160 4602678819172646912 n (.slice ads n c1) gNone gG (secOf cs) w3 fin_gG gG_is hC3.secs hn16).mono ?_
  rintro e w4 ⟨Bo, Lo, rfl, hO4, hb4⟩
  have hC4 := hC3.below hb4
  have hO4l := hO4.lt
  have hw4s := hb4.size
  have f0 : w4.cell? ⟨w1.heap.size, 0, none⟩ = some (.complex .f64 4604930618986332160 4602678819172646912) := hC4.filt 0 _ rfl
  have f1 : w4.cell? ⟨w1.heap.size, 1, none⟩ = some (.slice ads n c1) := hC4.filt 1 _ rfl
  have H4 := hide (And.intro hC4 hO4)
  clear hC3 hC4 hO4 hb4 HC3
  go_wp2_with fail
  obtain ⟨hC4, hO4⟩ := unhide H4
  refine (newW fin_gG gG_is hC4.secs hn16).mono ?_
  rintro e w5 ⟨Bp, Lp, rfl, hBp, hLp, hP5, hb5⟩
  have hC5 := hC4.below hb5
  have hO5 := hO4.below hb5
  have hP5l := hP5.lt
  have hw5s := hb5.size
  have f0 : w5.cell? ⟨w1.heap.size, 0, none⟩ = some (.complex .f64 4604930618986332160 4602678819172646912) := hC5.filt 0 _ rfl
  have f1 : w5.cell? ⟨w1.heap.size, 1, none⟩ = some (.slice ads n c1) := hC5.filt 1 _ rfl
  have H5 := hide (And.intro hC5 (And.intro hO5 hP5))
  clear hC4 hO4 hC5 hO5 hP5 hb5 H4
  go_wp2_with fail
  obtain ⟨hC5, hO5, hP5⟩ := unhide H5
  refine (gnew_any 4604930618986332160 4602678819172646912 n (.slice ads n c1) gAll gG (secOf cs) w5 fin_gG gG_is hC5.secs hn16).mono ?_
  rintro e w6 ⟨Bs, Ls, rfl, hS6, hb6⟩
  have hC6 := hC5.below hb6
  have hO6 := hO5.below hb6
  have hP6 := hP5.below hb6
  have hS6l := hS6.lt
  have hw6s := hb6.size
  have H6 := hide (And.intro hC6 (And.intro hO6 (And.intro hP6 hS6)))
  clear hC5 hO5 hP5 hC6 hO6 hP6 hS6 hb6 H5
  go_wp2_with fail
  refine (inf_neg _).mono ?_
  rintro e w7 ⟨rfl, rfl⟩
  have Hcl := hide (gclean_bits ⟨false, true, false⟩ 18442240474082181120 4611686018427387904 (by omega) (by omega) w7)
  rw [clip_inf, clip_two] at Hcl
  go_wp2_with fail
  refine (unhide Hcl).mono ?_
  rintro e w8 ⟨rfl, hb8⟩
  obtain ⟨hC6, hO6, hP6, hS6⟩ := unhide H6
  have hC8 := hC6.below hb8
  have hO8 := hO6.below hb8
  have hP8 := hP6.below hb8
  have hS8 := hS6.below hb8
  have hw8s := hb8.size
  have f0 : w8.cell? ⟨w1.heap.size, 0, none⟩ = some (.complex .f64 4604930618986332160 4602678819172646912) := hC8.filt 0 _ rfl
  have f1 : w8.cell? ⟨w1.heap.size, 1, none⟩ = some (.slice ads n c1) := hC8.filt 1 _ rfl
  have H8 := hide (And.intro hC8 (And.intro hO8 (And.intro hP8 hS8)))
  clear hC6 hO6 hP6 hS6 hC8 hO8 hP8 hS8 hb8 H6 Hcl
  have hnq := neq_clip
  go_wp2_with fail
  obtain ⟨hC8, hO8, hP8, hS8⟩ := unhide H8
  refine (grun_any _ _ Bo Lo n 0 m (.slice adx m cx) gNone gG (rawX bs) (secOf cs) rest0 w8 hO8 hC8.xs (hC8.inx.off (.inr (by omega))) (hC8.inx.off (.inr (by omega))) hm43 hn16 (by omega)).mono ?_
  rintro e w9 ⟨Ao, rfl, hAo1, hAo2, hano, hO9, hap9⟩
  have hw9s := hap9.size
  have hC9 := hC8.apart hap9 (by omega) (by omega)
  have hP9 := hP8.apart hap9 (by omega) (by omega) (by omega) (by omega)
  have hS9 := hS8.apart hap9 (by omega) (by omega)
  rw [wCntN_none, Nat.add_zero, wStN_none] at hO9
  have hano' : ∀ j, j < m → ∃ u, w9.cell? ⟨Ao, j, none⟩ = some u ∧ CIs u (ansN gG n (secOf cs) rest0 (rawX bs) j) := fun j hj => by
    obtain ⟨u, h1, h2⟩ := hano j hj
    rw [wAnsN_none] at h2
    exact ⟨u, h1, h2⟩
  have H9 := hide (And.intro hC9 (And.intro hO9 (And.intro hP9 (And.intro hS9 hano'))))
  clear hC8 hO8 hP8 hS8 hano hano' hO9 hap9 hC9 hP9 hS9 H8 f0 f1
  go_wp2_with fail
  obtain ⟨hC9, hO9, hP9, hS9, hano⟩ := unhide H9
  refine (runW hP9 hC9.xs hm43 (fun b off ⟨mm, c', e⟩ h0 => by have := hC9.inx h0 b off mm c' e; omega) hn16).mono ?_
  rintro e w10 ⟨Ap, rfl, hAp1, hAp2, hanp, hP10, hg10⟩
  have hw10s := hg10.size
  have hC10 := hC9.apart (.snd Lp hg10) (by omega) (by omega)
  have hO10 := hO9.apart (.snd Lp hg10) (by omega) (by omega)
  have hS10 := hS9.apart (.snd Lp hg10) (by omega) (by omega)
  have hano10 : ∀ j, j < m → ∃ u, w10.cell? ⟨Ao, j, none⟩ = some u ∧ CIs u (ansN gG n (secOf cs) rest0 (rawX bs) j) := fun j hj => by
    obtain ⟨u, h1, h2⟩ := hano j hj
    exact ⟨u, hg10.cell h1 (by intro e; have := Option.some.inj e; simp only at this; omega), h2⟩
  have Hli := hide (lists_any Ao m m m (some ⟨Ap, 0, none⟩) _ w10 hm43 hano10 (fun j hj => by
    obtain ⟨u, h1, h2⟩ := hanp j hj
    exact ⟨Ap, u, rfl, h1, h2⟩))
  have H10 := hide (And.intro hC10 (And.intro hO10 (And.intro hP10 hS10)))
  clear hC9 hO9 hP9 hS9 hano hanp hP10 hg10 hC10 hO10 hS10 hano10 H9
  go_wp2_with fail
  refine (unhide Hli).mono ?_
  rintro e w11 ⟨rfl, hs11⟩
  obtain ⟨hC10, hO10, hP10, hS10⟩ := unhide H10
  have hw11s := (hs11 0).size
  have hC11 := hC10.below (hs11 _)
  have hO11 := hO10.below (hs11 _)
  have hP11 := hP10.below (hs11 _)
  have hS11 := hS10.below (hs11 _)
  have Hch := hide (changedG hO11)
  have Hso := hide (statesG hO11 hn16)
  have H11 := hide (And.intro hC11 (And.intro hP11 hS11))
  clear hC10 hO10 hP10 hS10 hC11 hO11 hP11 hS11 hs11 H10 Hli
  go_wp2_with fail
  refine (unhide Hch).mono ?_
  rintro e w12 ⟨rfl, rfl⟩
  go_wp2_with fail
  refine (unhide Hso).mono ?_
  rintro e w13 ⟨A13, rfl, ha1, ha2, hst13, hb13⟩
  obtain ⟨hC11, hP11, hS11⟩ := unhide H11
  have hw13s := hb13.size
  have hC13 := hC11.below hb13
  have hP13 := hP11.below hb13
  have hS13 := hS11.below hb13
  have Hsp := hide (statesW hP13 hn16)
  have H13 := hide (And.intro hC13 (And.intro hS13 hst13))
  clear hC11 hP11 hS11 hC13 hP13 hS13 hst13 hb13 H11 Hch Hso
  go_wp2_with fail
  refine (unhide Hsp).mono ?_
  rintro e w14 ⟨A14, rfl, ha3, ha4, hst14, hb14⟩
  obtain ⟨hC13, hS13, hst13⟩ := unhide H13
  have hw14s := hb14.size
  have Hsa := hide (states_any A13 A14 n n n _ w14 hn16 (hst13.grown (below_grown hb14 none) (by simp)) hst14)
  have H14 := hide (And.intro (hC13.below hb14) (hS13.below hb14))
  clear hC13 hS13 hst13 hst14 hb14 H13 Hsp
  go_wp2_with fail
  refine (unhide Hsa).mono ?_
  rintro e w15 ⟨rfl, hs15⟩
  obtain ⟨hC14, hS14⟩ := unhide H14
  have hw15s := (hs15 0).size
  have H15 := hide (And.intro (hC14.below (hs15 _)) (hS14.below (hs15 _)))
  clear hC14 hS14 hs15 H14 Hsa
  go_wp2_with fail
  go_loopw [22] (fun i wr => ∃ k : Nat, k ≤ m ∧ i = .int .i64 k ∧ Below w15.heap.size w15 wr) (fun i _ => m - (intOf i).toNat)
  case atStart => exact ⟨0, Nat.zero_le _, rfl, Below.refl _ _⟩
  case round =>
    obtain ⟨k, hk, rfl, hbl⟩ := hrel
    obtain ⟨hC15, hS15⟩ := unhide H15
    have hCr := hC15.below hbl
    have hbls := hbl.size
    by_cases hkm : k < m
    · have hkm' : (k : Int) < (m : Int) := by omega
      obtain ⟨adx', cx', ex, hxs⟩ := id hCr.xs
      obtain ⟨b, off, u, hadx, hbx, hxc, hz⟩ := hxs k hkm
      obtain ⟨rfl, rfl⟩ : adx = adx' ∧ cx = cx' := by simpa using ex
      subst hadx
      obtain ⟨x, x', rfl, _⟩ := id hz
      have gwr0 : wr.cell? ⟨w1.heap.size + 1, 0, none⟩ = some (.bool fl) := hCr.grd 0 _ rfl
      have gwr1 : wr.cell? ⟨w1.heap.size + 1, 1, none⟩ = some (.bool cp) := hCr.grd 1 _ rfl
      have gwr2 : wr.cell? ⟨w1.heap.size + 1, 2, none⟩ = some (.bool mu) := hCr.grd 2 _ rfl
      have hc1 := cleanC ⟨fl, cp, mu⟩ hz
      have hcc : ∀ r r', CIs (.complex .f64 r r') (cl2 ⟨fl, cp, mu⟩ (rawX bs k)).1 → ∀ w0, Calls Try.prog 7 #[Gv ⟨fl, cp, mu⟩, .complex .f64 r r'] w0 fun e w' => ∃ a i, e = .returned (.tuple #[.complex .f64 a i, .int .i64 0]) ∧ CIs (.complex .f64 a i) (cl2 ⟨fl, cp, mu⟩ (rawX bs k)).1 ∧ Below w0.heap.size w0 w' := fun r r' h w0 => by
        have := cleanC ⟨fl, cp, mu⟩ h w0
        rw [cl2_idem] at this
        exact this
      have hqq := cl2_count ⟨fl, cp, mu⟩ (rawX bs k)
      obtain ⟨q, hq⟩ : ∃ q, q = (cl2 ⟨fl, cp, mu⟩ (rawX bs k)).2 := ⟨_, rfl⟩
      rw [← hq] at hc1 hqq
      have hq2 : q ≤ 2 := hqq.1
      have Hq := hide hqq
      have Hz := hide hz
      unfold Gv at hc1 hcc
      dsimp only at hc1 hcc
      have Hc1 := hide hc1
      have Hcc := hide hcc
      have Hbl := hide hbl
      clear hC15 hS15 hCr hbl hxs ex hz hc1 hcc hqq hq
      go_wp2_with fail
      go_region_held3 (fun w' => w'.cell? ⟨w1.heap.size + 1, 0, none⟩ = some (.bool fl) ∧ w'.cell? ⟨w1.heap.size + 1, 1, none⟩ = some (.bool cp) ∧ w'.cell? ⟨w1.heap.size + 1, 2, none⟩ = some (.bool mu) ∧ w'.cell? ⟨b, off + k, none⟩ = some (.complex .f64 x x')) (go_keep)
        ((go_at_call 7; refine (unhide Hc1 _).mono ?_; rintro e w16 ⟨r, r', rfl, hr, hb16⟩; have k0 := belowC hb16 (show wr.drew.cell? ⟨w1.heap.size + 1, 0, none⟩ = some (.bool fl) from gwr0); have k1 := belowC hb16 (show wr.drew.cell? ⟨w1.heap.size + 1, 1, none⟩ = some (.bool cp) from gwr1); have k2 := belowC hb16 (show wr.drew.cell? ⟨w1.heap.size + 1, 2, none⟩ = some (.bool mu) from gwr2); have k3 := belowC hb16 (show wr.drew.cell? ⟨b, off + k, none⟩ = some (.complex .f64 x x') from hxc)))
      have Hc2 := hide (unhide Hcc r r' hr)
      have Hal := hide (alikeC hr hr)
      have hb16' : Below wr.heap.size wr w16 := (still_drew wr _).trans hb16
      have h16s := hb16'.size
      have Hb16 := hide hb16'
      have Hr := hide hr
      clear hb16 hb16' hr
      go_wp2_with fail
      refine (unhide Hc2 w16).mono ?_
      rintro e w17 ⟨s, s', rfl, hs, hb17⟩
      have k3' := belowC hb17 k3
      have Hal2 := hide (alikeC (unhide Hr) hs)
      have Hend := hide (((unhide Hbl).trans ((unhide Hb16).mono hbls)).trans (hb17.mono (by omega)))
      clear hb17 hs k0 k1 k2 k3
      go_wp2_with fail
      refine (unhide Hal2 w17).mono ?_
      rintro e w18 ⟨rfl, rfl⟩
      by_cases h0 : q = 0
      · subst h0
        have hzz := (unhide Hq).2 rfl
        have Hal3 := hide (alikeC (unhide Hr) (by rw [hzz]; exact unhide Hz))
        go_wp2_with fail
        refine (unhide Hal3 w18).mono ?_
        rintro e w19 ⟨rfl, rfl⟩
        go_wp2
        go_roundw
        case rel => exact ⟨k + 1, by omega, by go_num, unhide Hend⟩
        case measure => simp [intOf]; omega
      · have h0' : ¬ ((q : Int) = 0) := by omega
        go_wp2
        go_roundw
        case rel => exact ⟨k + 1, by omega, by go_num, unhide Hend⟩
        case measure => simp [intOf]; omega
    · have : k = m := by omega
      subst this
      have hSr := hS15.below hbl
      have f0 : wr.cell? ⟨w1.heap.size, 0, none⟩ = some (.complex .f64 4604930618986332160 4602678819172646912) := hCr.filt 0 _ rfl
      have f1 : wr.cell? ⟨w1.heap.size, 1, none⟩ = some (.slice ads n c1) := hCr.filt 1 _ rfl
      have HR := hide (And.intro hCr hSr)
      clear hC15 hS15 hCr hSr hbl H15
      go_wp2_with fail
      obtain ⟨hCr, hSr⟩ := unhide HR
      refine (grun_any _ _ Bs Ls n 0 k (.slice adx k cx) gAll gG (rawX bs) (secOf cs) rest0 wr hSr hCr.xs (hCr.inx.off (.inr (by omega))) (hCr.inx.off (.inr (by omega))) hm43 hn16 (by omega)).mono ?_
      rintro e w20 ⟨Ay, rfl, hAy1, hAy2, hany, hS20, hap20⟩
      have hw20s := hap20.size
      have hC20 := hCr.apart hap20 (by omega) (by omega)
      have f0 : w20.cell? ⟨w1.heap.size, 0, none⟩ = some (.complex .f64 4604930618986332160 4602678819172646912) := hC20.filt 0 _ rfl
      have f1 : w20.cell? ⟨w1.heap.size, 1, none⟩ = some (.slice ads n c1) := hC20.filt 1 _ rfl
      have H20 := hide (And.intro hC20 (And.intro hS20 hany))
      clear hCr hSr hC20 hS20 hany hap20 HR
      go_wp2_with fail
      go_loopw [28] (fun i wr => ∃ j : Nat, j ≤ k ∧ i = .int .i64 j ∧ wr = w20) (fun i _ => k - (intOf i).toNat)
      case atStart => exact ⟨0, Nat.zero_le _, rfl, rfl⟩
      case round =>
        obtain ⟨j, hj, rfl, rfl⟩ := hrel
        by_cases hjk : j < k
        · have hjk' : (j : Int) < (k : Int) := by omega
          by_cases hn0 : 0 < n
          · have hn0' : (0 : Int) < (n : Int) := by omega
            obtain ⟨u, hu, hz⟩ := (unhide H20).2.2 j hjk
            obtain ⟨x, x', rfl, _⟩ := id hz
            have Hcl := hide (clean_yes hz (wAnsN_all gG n (secOf cs) rest0 (rawX bs) j hn0))
            clear hz
            go_wp2_with fail
            refine (unhide Hcl _).mono ?_
            rintro e w21 ⟨rfl, rfl⟩
            go_wp2
            go_roundw
            case rel => exact ⟨j + 1, by omega, by go_num, trivial⟩
            case measure => simp [intOf]; omega
          · have hn0' : ¬ ((0 : Int) < (n : Int)) := by omega
            have Hst := hide (statesG (unhide H20).2.1 hn16)
            go_wp2_with fail
            refine (unhide Hst).mono ?_
            rintro e w21 ⟨A21, rfl, ha5, ha6, hst21, hb21⟩
            have hw21s := hb21.size
            have hC21 := (unhide H20).1.below hb21
            have f0 : w21.cell? ⟨w1.heap.size, 0, none⟩ = some (.complex .f64 4604930618986332160 4602678819172646912) := hC21.filt 0 _ rfl
            have f1 : w21.cell? ⟨w1.heap.size, 1, none⟩ = some (.slice ads n c1) := hC21.filt 1 _ rfl
            have H21 := hide (And.intro hC21 hst21)
            clear hC21 hst21 hb21 Hst
            go_wp2_with fail
            go_loopw [30] (fun i wr => ∃ l : Nat, l ≤ n ∧ i = .int .i64 l ∧ wr = w21) (fun i _ => n - (intOf i).toNat)
            case atStart => exact ⟨0, Nat.zero_le _, rfl, rfl⟩
            case round =>
              obtain ⟨l, hl, rfl, rfl⟩ := hrel
              by_cases hln : l < n
              · omega
              · have : l = n := by omega
                subst this
                have g0 : wr.cell? ⟨w1.heap.size + 1, 0, none⟩ = some (.bool fl) := (unhide H21).1.grd 0 _ rfl
                have g1 : wr.cell? ⟨w1.heap.size + 1, 1, none⟩ = some (.bool cp) := (unhide H21).1.grd 1 _ rfl
                have g2 : wr.cell? ⟨w1.heap.size + 1, 2, none⟩ = some (.bool mu) := (unhide H21).1.grd 2 _ rfl
                have Hsw := hide (stepwise_any 4604930618986332160 4602678819172646912 l k (.slice ads l c1) (.slice adx k cx) ⟨fl, cp, mu⟩ gG (secOf cs) (rawX bs) wr fin_gG gG_is (unhide H21).1.secs hn16 (unhide H21).1.xs hm43)
                unfold Gv at Hsw
                dsimp only at Hsw
                go_wp2_with fail
                refine (unhide Hsw).mono ?_
                rintro e w24 ⟨rfl, hb24⟩
                have hlow := (unhide H21).1.low
                have Hend := hide (hlow.trans (hb24.mono hlow.size))
                clear hb24 hlow
                go_wp2
                go_ret
                exact ⟨rfl, unhide Hend⟩
        · have hjk' : ¬ ((j : Int) < (k : Int)) := by omega
          have Hst := hide (statesG (unhide H20).2.1 hn16)
          go_wp2_with fail
          refine (unhide Hst).mono ?_
          rintro e w21 ⟨A21, rfl, ha5, ha6, hst21, hb21⟩
          have hw21s := hb21.size
          have hC21 := (unhide H20).1.below hb21
          have f0 : w21.cell? ⟨w1.heap.size, 0, none⟩ = some (.complex .f64 4604930618986332160 4602678819172646912) := hC21.filt 0 _ rfl
          have f1 : w21.cell? ⟨w1.heap.size, 1, none⟩ = some (.slice ads n c1) := hC21.filt 1 _ rfl
          have H21 := hide (And.intro hC21 hst21)
          clear hC21 hst21 hb21 Hst
          go_wp2_with fail
          go_loopw [30] (fun i wr => ∃ l : Nat, l ≤ n ∧ i = .int .i64 l ∧ wr = w21) (fun i _ => n - (intOf i).toNat)
          case atStart => exact ⟨0, Nat.zero_le _, rfl, rfl⟩
          case round =>
            obtain ⟨l, hl, rfl, rfl⟩ := hrel
            by_cases hln : l < n
            · have hln' : (l : Int) < (n : Int) := by omega
              obtain ⟨p, q, hr, hp, hq⟩ := (unhide H21).2 l hln
              obtain ⟨p, p', rfl, _⟩ := id hp
              obtain ⟨q, q', rfl, _⟩ := id hq
              have hcalm := wStN_all gG n (secOf cs) rest0 (rawX bs) (fun _ _ => ⟨calm0, calm0⟩) k l hln
              have Hp := hide (clean_yes hp hcalm.1)
              have Hq := hide (clean_yes hq hcalm.2)
              have k1 : wr.cell? ⟨A21, l * 2, none⟩ = some (.complex .f64 p p') := hr 0 _ rfl
              have k2 : wr.cell? ⟨A21, l * 2 + 1, none⟩ = some (.complex .f64 q q') := hr 1 _ rfl
              clear hr hp hq hcalm
              go_wp2_with fail
              refine (unhide Hp _).mono ?_
              rintro e w22 ⟨rfl, rfl⟩
              go_wp2_with fail
              refine (unhide Hq _).mono ?_
              rintro e w23 ⟨rfl, rfl⟩
              go_wp2
              go_roundw
              case rel => exact ⟨l + 1, by omega, by go_num, trivial⟩
              case measure => simp [intOf]; omega
            · have : l = n := by omega
              subst this
              have g0 : wr.cell? ⟨w1.heap.size + 1, 0, none⟩ = some (.bool fl) := (unhide H21).1.grd 0 _ rfl
              have g1 : wr.cell? ⟨w1.heap.size + 1, 1, none⟩ = some (.bool cp) := (unhide H21).1.grd 1 _ rfl
              have g2 : wr.cell? ⟨w1.heap.size + 1, 2, none⟩ = some (.bool mu) := (unhide H21).1.grd 2 _ rfl
              have Hsw := hide (stepwise_any 4604930618986332160 4602678819172646912 l k (.slice ads l c1) (.slice adx k cx) ⟨fl, cp, mu⟩ gG (secOf cs) (rawX bs) wr fin_gG gG_is (unhide H21).1.secs hn16 (unhide H21).1.xs hm43)
              unfold Gv at Hsw
              dsimp only at Hsw
              go_wp2_with fail
              refine (unhide Hsw).mono ?_
              rintro e w24 ⟨rfl, hb24⟩
              have hlow := (unhide H21).1.low
              have Hend := hide (hlow.trans (hb24.mono hlow.size))
              clear hb24 hlow
              go_wp2
              go_ret
              exact ⟨rfl, unhide Hend⟩
end Go.Proofs.Ythafffnebaaeiaa
