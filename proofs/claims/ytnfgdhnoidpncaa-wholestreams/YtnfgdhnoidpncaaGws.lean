/- WholeStreams: the walk, over what streams do. -/
import Derived.Test.YtnfgdhnoidpncaaGwl
import Derived.Test.YtnfgdhnoidpncaaGwm
import Derived.Test.YtnfgdhnoidpncaaGwn
import Derived.Test.YtnfgdhnoidpncaaGwo
import Derived.Test.YtnfgdhnoidpncaaGwp
import Derived.BigQuiet
import Derived.Deep.QuietTactic
import Derived.RangeFuncBound
import Derived.Shelf.Abstract
import Derived.OwnWalkIn
import Derived.TacticsInMore
import Derived.LoopNIn
import Derived.LoopIn
namespace Go.Proofs.Ytnfgdhnoidpncaa
open Go.RowKit
attribute [local go_sem] Oper.semAt_some

def BytesAt (w : World) (ad : Option Addr) (len : Nat) (bs : Nat → Nat) : Prop := ∀ j, j < len → ∃ b off, ad = some ⟨b, off, none⟩ ∧ b < w.heap.size ∧ bs j < 256 ∧ w.cell? ⟨b, off + j, none⟩ = some (.int .u8 (bs j))
def WordsAt (w : World) (ad : Option Addr) (len : Nat) (bs : Nat → Nat) : Prop := ∀ j, j < len → ∃ b off, ad = some ⟨b, off, none⟩ ∧ b < w.heap.size ∧ w.cell? ⟨b, off + j, none⟩ = some (.int .u64 (bs j))
theorem BytesAt.below {w w' : World} {ad : Option Addr} {len : Nat} {bs : Nat → Nat} (h : BytesAt w ad len bs) (hb : Below w.heap.size w w') : BytesAt w' ad len bs := fun j hj => by
  obtain ⟨b, off, e, h1, h2, h3⟩ := h j hj
  exact ⟨b, off, e, Nat.lt_of_lt_of_le h1 hb.size, h2, by rw [hb.cell (by exact h1)]; exact h3⟩
theorem WordsAt.below {w w' : World} {ad : Option Addr} {len : Nat} {bs : Nat → Nat} (h : WordsAt w ad len bs) (hb : Below w.heap.size w w') : WordsAt w' ad len bs := fun j hj => by
  obtain ⟨b, off, e, h1, h3⟩ := h j hj
  exact ⟨b, off, e, Nat.lt_of_lt_of_le h1 hb.size, by rw [hb.cell (by exact h1)]; exact h3⟩
theorem xs_list {w : World} {base k : Nat} {v : Value} {bs : Nat → Nat} (h : w.ownsRow base 24 1 v k ((List.range k).map (rawC bs))) (hb : ∀ j, bs j < 18446744073709551616) : ListIs w v k (rawX bs) := by
  rcases id h.2 with ⟨rfl, rfl⟩ | ⟨g, cap, cur, rfl, _, hg, hkc, _⟩
  · exact ⟨none, 0, rfl, fun j hj => by omega⟩
  · have hgw : g < w.heap.size := (Array.getElem?_eq_some_iff.1 hg).1
    refine ⟨_, cap, rfl, fun j hj => ⟨g, 0, rawC bs j, rfl, hgw, ?_, ?_⟩⟩
    · have := h.cells (g := g) rfl j (rawC bs j) (by rw [List.getElem?_map, List.getElem?_range (by omega)]; rfl)
      rwa [Addr.add_mid] at this
    · exact CIs.of _ _ (hb _) (hb _)

/-- What a frame holds at a slot. -/
def slotF (a : Act) (i : Nat) : Value := a.tmps.getD i undef
theorem of_frame {a : Act} {F : (Nat → Value) → Act} {R : Prop} (h : R) (e : a = F (slotF a)) : ∃ u, R ∧ a = F u := ⟨_, h, e⟩
/-- The samples lie there, below block N. -/
def XsAt (w : World) (ad : Option Addr) (m N : Nat) (X : Nat → C2) : Prop := ∀ j, j < m → ∃ b u, ad = some ⟨b, 0, none⟩ ∧ b < N ∧ b < w.heap.size ∧ w.cell? ⟨b, j, none⟩ = some u ∧ CIs u (X j)
theorem XsAt.below {w w' : World} {ad : Option Addr} {m N : Nat} {X : Nat → C2} (h : XsAt w ad m N X) (hb : Below w.heap.size w w') : XsAt w' ad m N X := fun j hj => by
  obtain ⟨b, u, e, h1, h2, h3, h4⟩ := h j hj
  exact ⟨b, u, e, h1, Nat.lt_of_lt_of_le h2 hb.size, by rw [hb.cell (by exact h2)]; exact h3, h4⟩
theorem XsAt.apart {w w' : World} {ad : Option Addr} {m N B L : Nat} {X : Nat → C2} (h : XsAt w ad m N X) (k : Apart w w' B L) (hB : N ≤ B) (hL : N ≤ L) : XsAt w' ad m N X := fun j hj => by
  obtain ⟨b, u, e, h1, h2, h3, h4⟩ := h j hj
  exact ⟨b, u, e, h1, Nat.lt_of_lt_of_le h2 k.size, k.cell h3 (by show b ≠ B; omega) (by show b ≠ L; omega), h4⟩
theorem XsAt.but {w w' : World} {ad : Option Addr} {m N : Nat} {X : Nat → C2} {O : Nat → Prop} (h : XsAt w ad m N X) (k : But O w w') (hO : ∀ b, O b → N ≤ b) : XsAt w' ad m N X := fun j hj => by
  obtain ⟨b, u, e, h1, h2, h3, h4⟩ := h j hj
  exact ⟨b, u, e, h1, Nat.lt_of_lt_of_le h2 k.size, k.cell h3 (fun (e : O b) => by have := hO b e; omega), h4⟩
theorem xs_cut {w : World} {b m N Q t c : Nat} {X : Nat → C2} (h : XsAt w (some ⟨b, 0, none⟩) m N X) (hq : t + Q ≤ m) : ListIs w (.slice (some ⟨b, t, none⟩) Q c) Q (fun j => X (t + j)) :=
  ⟨_, c, rfl, fun j hj => by
    obtain ⟨b2, u, e, h1, h2, h3, h4⟩ := h (t + j) (by omega)
    have : b2 = b := by simp at e; omega
    subst this
    exact ⟨b2, t, u, rfl, h2, h3, h4⟩⟩
theorem cut_off {bx t Q c N L : Nat} (h : bx < N) (hL : N ≤ L) : Off (.slice (some ⟨bx, t, none⟩) Q c) Q L := by
  intro _ b off mm c' e
  have : bx = b := by simp at e; omega
  omega
theorem XsAt.list {w : World} {ad : Option Addr} {m N c : Nat} {X : Nat → C2} (h : XsAt w ad m N X) : ListIs w (.slice ad m c) m X :=
  ⟨ad, c, rfl, fun j hj => by
    obtain ⟨b, u, e, h1, h2, h3, h4⟩ := h j hj
    exact ⟨b, 0, u, e, h2, by rw [Nat.zero_add]; exact h3, h4⟩⟩
theorem XsAt.off {w : World} {ad : Option Addr} {m N c L : Nat} {X : Nat → C2} (h : XsAt w ad m N X) (hL : N ≤ L) : Off (.slice ad m c) m L := by
  intro hm b off mm c' e
  obtain ⟨b2, u, e2, h1, _⟩ := h 0 hm
  rw [e2] at e
  have : b2 = b := by simp at e; omega
  omega
theorem xs_own {w : World} {base k : Nat} {v : Value} {bs : Nat → Nat} (h : w.ownsRow base 24 1 v k ((List.range k).map (rawC bs))) (hb : ∀ j, bs j < 18446744073709551616) (m : Nat) (hm : m ≤ k) : ∃ ad c, v = .slice ad k c ∧ (0 < k → k ≤ c) ∧ XsAt w ad m w.heap.size (rawX bs) := by
  rcases id h.2 with ⟨rfl, rfl⟩ | ⟨g, cap, cur, rfl, _, hg, hkc, _⟩
  · exact ⟨none, 0, rfl, fun h => by omega, fun j hj => by omega⟩
  · have hgw : g < w.heap.size := (Array.getElem?_eq_some_iff.1 hg).1
    refine ⟨_, cap, rfl, fun _ => hkc, fun j hj => ⟨g, rawC bs j, rfl, hgw, hgw, ?_, ?_⟩⟩
    · have := h.cells (g := g) rfl j (rawC bs j) (by rw [List.getElem?_map, List.getElem?_range (by omega)]; rfl)
      rwa [Addr.add_mid, Nat.zero_add] at this
    · exact CIs.of _ _ (hb _) (hb _)

theorem SecsIs.inr {w : World} {v : Value} {n : Nat} {sec : Nat → Sec} (h : SecsIs w v n sec) : InR v n 0 w.heap.size := by
  obtain ⟨ad, c, rfl, hs⟩ := h
  intro hn b off m c' e
  obtain ⟨b2, u0, u1, u2, u3, u4, e2, hlt, _⟩ := hs 0 hn
  subst e2
  have : b2 = b := by simp at e; omega
  omega
/-- The cuts lie there, below block N. -/
def CutsAt (w : World) (ad : Option Addr) (len N : Nat) (bs : Nat → Nat) : Prop := ∀ j, j < len → ∃ b off, ad = some ⟨b, off, none⟩ ∧ b < N ∧ bs j < 256 ∧ w.cell? ⟨b, off + j, none⟩ = some (.int .u8 (bs j))
theorem CutsAt.of {w w' : World} {ad : Option Addr} {len : Nat} {bs : Nat → Nat} (h : BytesAt w ad len bs) (hb : Below w.heap.size w w') : CutsAt w' ad len w'.heap.size bs := fun j hj => by
  obtain ⟨b, off, e, h1, h2, h3⟩ := h j hj
  exact ⟨b, off, e, Nat.lt_of_lt_of_le h1 hb.size, h2, by rw [hb.cell (by exact h1)]; exact h3⟩
/-- What the statement holds on to: its answer's block, its filter at block F, its guard behind it, its samples, its sections, the cuts; all below block N. -/
structure SCtx (w0 w : World) (F n c1 m N lc : Nat) (ads ad adc : Option Addr) (fl cp mu : Bool) (X : Nat → C2) (sec : Nat → Sec) (us : Nat → Nat) : Prop where
  res : w.cell? ⟨w0.heap.size, 0, none⟩ = some (.bool false)
  free : w.frozen? ⟨w0.heap.size, 0, none⟩ = false
  filt : w.rangeAt F 0 [.complex .f64 4604930618986332160 4602678819172646912, .slice ads n c1]
  grd : w.rangeAt (F + 1) 0 [.bool fl, .bool cp, .bool mu]
  xs : XsAt w ad m N X
  secs : SecsIs w (.slice ads n c1) n sec
  cuts : CutsAt w adc lc N us
  low : Below w0.heap.size w0 w
  hF : F + 1 < N
  hR : w0.heap.size < N
  ins : InR (.slice ads n c1) n 0 N
  hN : N ≤ w.heap.size
theorem SCtx.low' {w0 w w' : World} {F n c1 m N lc : Nat} {ads ad adc : Option Addr} {fl cp mu : Bool} {X : Nat → C2} {sec : Nat → Sec} {us : Nat → Nat} (h : SCtx w0 w F n c1 m N lc ads ad adc fl cp mu X sec us) (hb : Below N w w') : SCtx w0 w' F n c1 m N lc ads ad adc fl cp mu X sec us := by
  obtain ⟨a1, a0, a2, a3, a4, a5, a6, a7, a8, a9, a10, a11⟩ := h
  have hsz := hb.size
  refine ⟨(hb.cell (by exact a9)).trans a1, (hb.frozen (by exact a9)).trans a0, fun j v hv => (hb.cell (by show F < N; omega)).trans (a2 j v hv), fun j v hv => (hb.cell (by exact a8)).trans (a3 j v hv), fun j hj => ?_, ?_, fun j hj => ?_, a7.trans (hb.mono (by omega)), a8, a9, a10, by omega⟩
  · obtain ⟨b, u, e, h1, h2, h3, h4⟩ := a4 j hj
    exact ⟨b, u, e, h1, by omega, (hb.cell (by exact h1)).trans h3, h4⟩
  · obtain ⟨ad, c, he, hs⟩ := a5
    refine ⟨ad, c, he, fun i hi => ?_⟩
    obtain ⟨b, u0, u1, u2, u3, u4, e, hlt, hr, hh⟩ := hs i hi
    have hbN : b < N := (a10 (by omega) b 0 n c (by rw [he, e])).2
    exact ⟨b, u0, u1, u2, u3, u4, e, by omega, fun j v hv => (hb.cell (by exact hbN)).trans (hr j v hv), hh⟩
  · obtain ⟨b, off, e, h1, h2, h3⟩ := a6 j hj
    exact ⟨b, off, e, h1, h2, (hb.cell (by exact h1)).trans h3⟩
theorem SCtx.more {w0 w w' : World} {F n c1 m N lc : Nat} {ads ad adc : Option Addr} {fl cp mu : Bool} {X : Nat → C2} {sec : Nat → Sec} {us : Nat → Nat} (h : SCtx w0 w F n c1 m N lc ads ad adc fl cp mu X sec us) (hb : Below w.heap.size w w') : SCtx w0 w' F n c1 m N lc ads ad adc fl cp mu X sec us := h.low' (hb.mono h.hN)

set_option maxRecDepth 100000 in
set_option maxHeartbeats 8000000 in
theorem streams_le (K : SK) (adl adb adc : Option Addr) (ll cl lb cb lc cc : Nat) (fl cp mu : Bool) (ls bs us : Nat → Nat) (w : World) (hl : BytesAt w adl ll ls) (hb : WordsAt w adb lb bs) (hc : BytesAt w adc lc us) (hbb : ∀ j, bs j < 18446744073709551616)
    (r1 : ll ≤ 140737488351232) (r2 : lb * 8 ≤ 140737488351232) (r3 : lc ≤ 140737488351232) (hle : lb / 2 ≤ 300) :
    Calls Try.prog 3 #[.slice adl ll cl, .slice adb lb cb, .slice adc lc cc, .bool fl, .bool cp, .bool mu] w fun e w' => e = .returned (.bool true) ∧ Below w.heap.size w w' := by
  have Hl := hide hl
  have Hb := hide hb
  have Hc := hide hc
  have Hbb := hide hbb
  clear hl hb hc hbb
  refine calls_marks Try.func3 rfl ?_
  simp only [Try.ntmps3, List.size_toArray, List.length_cons, List.length_nil, Nat.reduceAdd, Nat.reduceSub, Array.replicate_succ, Array.replicate_zero, List.push_toArray, List.append_toArray, List.nil_append, List.cons_append]
  go_wp2_with fail
  obtain ⟨w0, hw0⟩ : ∃ w0, w0 = w.alloc (Obj.cells #[Value.bool false] 4) := ⟨_, rfl⟩
  rw [← hw0]
  have hR0 : w0.cell? ⟨w.heap.size, 0, none⟩ = some (.bool false) := by rw [hw0]; go_simp
  have hZ0 : w0.frozen? ⟨w.heap.size, 0, none⟩ = false := by rw [hw0]; go_simp
  have hb0 : Below w.heap.size w w0 := by rw [hw0]; exact (Below.refl _ _).alloc (Nat.le_refl _) _
  have hs0 : w0.heap.size = w.heap.size + 1 := by rw [hw0]; simp
  clear hw0
  refine (works_any adl ll cl ls w0 r1 ((unhide Hl).below hb0)).mono ?_
  rintro e w1 ⟨v1, n, cs, rfl, hn4, hS1, hb1⟩
  obtain ⟨ads, c1, rfl, _⟩ := id hS1
  have H1 := hide (And.intro hS1 (And.intro hb1 (And.intro hb0 (And.intro hR0 hZ0))))
  have hs1 := hb1.size
  clear hS1 hb1 hb0 hR0 hZ0
  have hsc := run_store_c
  go_wp2_with fail
  obtain ⟨hS1, hb1, hb0, hR0, hZ0⟩ := unhide H1
  obtain ⟨w2, hw2⟩ : ∃ w2, w2 = (w1.alloc (Obj.cells #[.complex .f64 4604930618986332160 4602678819172646912, .slice ads n c1] 27)).alloc (Obj.cells #[.bool fl, .bool cp, .bool mu] 30) := ⟨_, rfl⟩
  rw [← hw2]
  have hb2 : Below w1.heap.size w1 w2 := by rw [hw2]; exact ((Below.refl _ _).alloc (Nat.le_refl _) _).alloc (by simp) _
  have hs2 : w2.heap.size = w1.heap.size + 2 := by rw [hw2]; simp
  have hF : w2.rangeAt w1.heap.size 0 [.complex .f64 4604930618986332160 4602678819172646912, .slice ads n c1] := by
    intro j v hv
    have hj : j < 2 := (List.getElem?_eq_some_iff.1 hv).1
    rw [hw2]
    rcases (by omega : j = 0 ∨ j = 1) with rfl | rfl <;> (obtain rfl := Option.some.inj hv; go_simp)
  have hGd : w2.rangeAt (w1.heap.size + 1) 0 [.bool fl, .bool cp, .bool mu] := by
    intro j v hv
    have hj : j < 3 := (List.getElem?_eq_some_iff.1 hv).1
    rw [hw2]
    rcases (by omega : j = 0 ∨ j = 1 ∨ j = 2) with rfl | rfl | rfl <;> (obtain rfl := Option.some.inj hv; go_simp)
  clear hw2
  have hbw1 : Below w.heap.size w w1 := hb0.trans (hb1.mono hb0.size)
  have hbw2 : Below w.heap.size w w2 := hbw1.trans (hb2.mono hbw1.size)
  refine (raw_any adb lb cb bs w2 r2 ((unhide Hb).below hbw2)).mono ?_
  rintro e w3 ⟨v2, rfl, hown, hb3⟩
  obtain ⟨ad, c, rfl, hkc, hX3⟩ := xs_own hown (unhide Hbb) (lb / 2) (Nat.le_refl _)
  obtain ⟨m, hm⟩ : ∃ m, m = lb / 2 := ⟨_, rfl⟩
  rw [← hm] at hX3 hkc hle ⊢
  have hw3s := hb3.size
  have hbw3 : Below w.heap.size w w3 := hbw2.trans (hb3.mono hbw2.size)
  have hS3 : SecsIs w3 (.slice ads n c1) n (secOf cs) := (hS1.below hb2).below hb3
  have hC3 : SCtx w w3 w1.heap.size n c1 m w3.heap.size lc ads ad adc fl cp mu (rawX bs) (secOf cs) us :=
    ⟨(hb3.cell (by show w.heap.size < _; omega)).trans ((hb2.cell (by show w.heap.size < _; omega)).trans ((hb1.cell (by show w.heap.size < _; omega)).trans hR0)),
      (hb3.frozen (by show w.heap.size < _; omega)).trans ((hb2.frozen (by show w.heap.size < _; omega)).trans ((hb1.frozen (by show w.heap.size < _; omega)).trans hZ0)),
      fun j v hv => (hb3.cell (by show w1.heap.size < _; omega)).trans (hF j v hv), fun j v hv => (hb3.cell (by show w1.heap.size + 1 < _; omega)).trans (hGd j v hv), hX3, hS3, CutsAt.of (unhide Hc) hbw3, hbw3, by omega, by omega, hS3.inr, Nat.le_refl _⟩
  have hle' : (m : Int) ≤ 300 := by omega
  have f0 : w3.cell? ⟨w1.heap.size, 0, none⟩ = some (.complex .f64 4604930618986332160 4602678819172646912) := hC3.filt 0 _ rfl
  have f1 : w3.cell? ⟨w1.heap.size, 1, none⟩ = some (.slice ads n c1) := hC3.filt 1 _ rfl
  have f2 : w3.cell? ⟨w1.heap.size + 1, 0, none⟩ = some (.bool fl) := hC3.grd 0 _ rfl
  have f3 : w3.cell? ⟨w1.heap.size + 1, 1, none⟩ = some (.bool cp) := hC3.grd 1 _ rfl
  have f4 : w3.cell? ⟨w1.heap.size + 1, 2, none⟩ = some (.bool mu) := hC3.grd 2 _ rfl
  have HC3 := hide hC3
  have Hkc := hide hkc
  have hn16 : n ≤ 16 := by omega
  have hFN : w1.heap.size + 1 < w3.heap.size := by omega
  clear hC3 hX3 hS3 hown hb3 hbw3 hbw2 hbw1 hF hGd hb2 hS1 hb1 hb0 hR0 hZ0 H1 Hb Hbb Hl Hc hm hkc hw3s
  go_wp2_with fail
  have hC3 := unhide HC3
  refine (K.new (g := ⟨fl, cp, mu⟩) fin_gG gG_is hC3.secs hn16).mono ?_
  rintro e w4 ⟨B, O0, rfl, hA4, hO0, hb4⟩
  have hC4 := hC3.more hb4
  have hlt4 := (K.lt hA4).1
  have hOB := (K.lt hA4).2
  have hw4s := hb4.size
  have f0 : w4.cell? ⟨w1.heap.size, 0, none⟩ = some (.complex .f64 4604930618986332160 4602678819172646912) := hC4.filt 0 _ rfl
  have f1 : w4.cell? ⟨w1.heap.size, 1, none⟩ = some (.slice ads n c1) := hC4.filt 1 _ rfl
  have f2 : w4.cell? ⟨w1.heap.size + 1, 0, none⟩ = some (.bool fl) := hC4.grd 0 _ rfl
  have f3 : w4.cell? ⟨w1.heap.size + 1, 1, none⟩ = some (.bool cp) := hC4.grd 1 _ rfl
  have f4 : w4.cell? ⟨w1.heap.size + 1, 2, none⟩ = some (.bool mu) := hC4.grd 2 _ rfl
  have H4 := hide (And.intro hC4 hA4)
  have HO := hide (And.intro hO0 hlt4)
  clear hC3 hC4 hA4 hb4 HC3 hO0 hlt4
  go_wp2_with fail
  obtain ⟨hC4, hA4⟩ := unhide H4
  obtain ⟨hO0, hlt4⟩ := unhide HO
  refine (gnew_any 4604930618986332160 4602678819172646912 n (.slice ads n c1) ⟨fl, cp, mu⟩ gG (secOf cs) w4 fin_gG gG_is hC4.secs hn16).mono ?_
  rintro e w5 ⟨Bd, Ld, rfl, hD5, hb5⟩
  have hA5 := K.keep hA4 (fun k hk => hb5.block k (hlt4 k hk)) hb5.size
  have hC5 := hC4.more hb5
  have hw5s := hb5.size
  have H5 := hide (And.intro hC5 (And.intro hA5 hD5))
  clear hC4 hA4 H4 hD5 hb5 hA5 hC5 hO0 hlt4
  go_wp2_with fail
  obtain ⟨hC5, hA5, hD5⟩ := unhide H5
  refine (K.at_ hA5).mono ?_
  rintro e _ ⟨rfl, rfl⟩
  clear hC5 hA5 hD5
  go_wp2_with fail
  obtain ⟨hC5, hA5, hD5⟩ := unhide H5
  obtain ⟨hO0, hlt4⟩ := unhide HO
  refine (K.save hA5 hn16).mono ?_
  rintro e w6 ⟨Sv, cs6, rfl, hSv1, hSv2, hSv, hb6, _, _⟩
  have hA6 := K.keep hA5 (fun k hk => hb6.block k (Nat.lt_of_lt_of_le (hlt4 k hk) hw5s)) hb6.size
  have hC6 := hC5.more hb6
  have hD6 := hD5.below hb6
  have hw6s := hb6.size
  have hD5l := hD5.lt
  have H6 := hide (And.intro hC6 (And.intro hA6 hD6))
  have hlen0 : ¬ ((38 + 112 * n : Nat) : Int) = 0 := by omega
  clear hC5 hA5 hD5 H5 hb6 hA6 hC6 hD6 hO0 hlt4 hSv
  go_wp2_with fail
  obtain ⟨hC6, hA6, hD6⟩ := unhide H6
  obtain ⟨hO0, hlt4⟩ := unhide HO
  have hw3l := hC6.hN
  have hOX : ∀ {L}, w3.heap.size ≤ L → Off (.slice ad m c) m L := fun h => hC6.xs.off h
  refine (grun_any _ _ Bd Ld n 0 m (.slice ad m c) ⟨fl, cp, mu⟩ gG (rawX bs) (secOf cs) rest0 w6 hD6 hC6.xs.list (hOX (by omega)) (hOX (by omega)) (by omega) hn16 (by omega)).mono ?_
  rintro e W ⟨Aw, rfl, hAw1, hAw2, hans, _, hap⟩
  have hA7 := K.keep hA6 (fun k hk => hap.block k (by have := hlt4 k hk; omega) (by have := hlt4 k hk; omega) (by have := hlt4 k hk; omega)) hap.size
  have hC7 := hC6.low' (hap.below (Below.refl _ _) (by omega) (by omega) (by omega))
  have hW7 := hap.size
  have hltW : ∀ k, O0 k → w3.heap.size ≤ k ∧ k < w4.heap.size := fun k hk => ⟨hO0 k hk, hlt4 k hk⟩
  have hBw := (hltW B hOB)
  have HW := hide (And.intro hC7 (And.intro hA7 (And.intro hans hltW)))
  clear hC6 hA6 hD6 H6 hC7 hA7 hans hap hO0 hlt4 HO hOX hltW
  go_wp2_with fail
  obtain ⟨hC7, hA7, hans, hltW⟩ := unhide HW
  have hold : ∀ k, O0 k → k < W.heap.size := fun k hk => by have := (hltW k hk).2; omega
  have h0 : SInv K W (W.alloc (Obj.cells #[Value.slice none 0 0] 31)) O0 n B ⟨fl, cp, mu⟩ (secOf cs) (rawX bs) [] 0 0 O0 (.slice none 0 0) [] := by
    have hb : Below W.heap.size W (W.alloc (Obj.cells #[Value.slice none 0 0] 31)) := (Below.refl _ _).alloc (Nat.le_refl _) _
    exact ⟨But.low hb, Marks.nil _, fun _ h => (by cases h), K.keep hA7 (fun k hk => hb.block k (hold k hk)) hb.size, fun k hk => ⟨.inl hk, by simp, by simp [Value.ownBlock]⟩, hold, Boxed.new _ _ _, World.ownsRow_nil _ _ _ _, fun j hj => by omega⟩
  have HS0 := hide h0
  clear h0 hC7 hA7 hans hltW
  obtain ⟨i0, hi, hz0, hz1, hz2⟩ := info_parts info_c
  obtain ⟨I, hI⟩ : ∃ I : Act → World → Prop, I = fun a wr => ∃ (Ds : List Nat) (t k Bs : Nat) (O : Nat → Prop) (v : Value) (ps : List Value) (u : Nat → Value), (t ≤ m ∧ k ≤ lc + t ∧ SInv K W wr O0 n Bs ⟨fl, cp, mu⟩ (secOf cs) (rawX bs) Ds t t O v ps) ∧ a = { tmps := #[u 0, u 1, .slice adc lc cc, u 3, u 4, u 5, u 6, u 7, u 8, u 9, u 10, u 11, .pointer (some ⟨w.heap.size, 0, none⟩), u 13, u 14, .slice ad m c, .pointer (some ⟨Bs, 0, none⟩), u 17, u 18, u 19, .slice (some ⟨Aw, 0, none⟩) m m, .pointer (some ⟨W.heap.size, 0, none⟩), .int .i64 (t : Nat), .int .i64 (k : Nat), u 24, u 25, u 26, u 27, u 28, u 29, u 30, u 31, u 32, u 33, u 34, u 35, u 36, u 37, u 38, u 39, u 40, u 41, u 42, u 43, u 44, u 45, u 46, u 47, u 48, u 49, u 50, u 51, u 52, u 53, u 54, u 55, u 56, u 57, u 58, u 59, u 60, u 61, u 62, u 63, u 64, u 65, u 66, u 67, u 68, u 69, u 70, u 71, u 72, u 73, u 74, u 75, u 76, u 77, u 78, u 79, u 80, u 81, u 82, u 83, u 84, u 85, u 86, u 87, u 88, u 89, u 90, u 91, u 92, u 93, u 94, u 95, u 96, u 97, u 98, u 99, u 100, u 101, u 102, u 103, u 104, u 105, u 106, u 107, u 108, u 109, u 110, u 111, u 112, u 113, u 114, u 115, u 116, u 117, u 118, u 119, u 120, u 121, u 122, u 123, u 124, u 125, u 126, u 127, u 128, u 129, u 130, u 131, u 132, u 133, u 134, u 135, u 136, u 137, u 138, u 139, u 140, u 141, u 142, u 143, u 144, u 145, u 146, u 147, u 148, u 149, u 150, u 151, u 152, u 153, u 154, u 155, u 156, u 157, u 158, u 159, u 160, u 161, u 162, u 163, u 164, u 165, u 166, u 167, u 168, u 169, u 170, u 171, u 172, u 173, u 174, u 175, u 176, u 177, u 178, u 179, u 180, u 181, u 182, u 183, u 184, u 185, u 186, u 187, u 188, u 189, u 190, u 191, u 192, u 193, u 194, u 195, u 196, u 197, u 198, u 199, u 200, u 201, u 202, u 203, u 204, u 205, u 206, u 207, u 208, u 209, u 210, u 211, u 212, u 213, u 214, u 215, u 216, u 217, u 218, u 219, u 220], defers := Ds.map mark } := ⟨_, rfl⟩
  obtain ⟨μ, hμ⟩ : ∃ μ : Act → World → Nat, μ = fun a _ => (m - (intOf (a.tmps.getD 22 undef)).toNat) + (lc - (intOf (a.tmps.getD 23 undef)).toNat) := ⟨_, rfl⟩
  have HI := hide (And.intro hI hμ)
  refine wp_loop I μ ?_ ?_
  · rw [hI]
    exact ⟨[], 0, 0, B, O0, .slice none 0 0, [], of_frame ⟨Nat.zero_le _, Nat.zero_le _, unhide HS0⟩ rfl⟩
  clear HS0
  intro a wr hi
  rw [hI] at hi
  obtain ⟨Ds, t, k, Bs, O, v, ps, u, ⟨htm, hkl, hS⟩, rfl⟩ := hi
  clear hI hμ
  by_cases htm' : t < m
  · have i1 : (t : Int) < (m : Int) := by omega
    refine wp_seq_k (fun K1 hK1 => ?_)
    have HK1 := hide hK1
    have HS := hide hS
    clear hK1 hS
    go_wp2_with fail
    refine unhide HK1 _ _ ?_
    clear HK1
    refine wp_seq_k (fun K2 hK2 => ?_)
    have HK2 := hide hK2
    clear hK2
    refine wp_block ?_
    refine wp_join4 (fun a wq => ∃ (q nb : Nat) (u : Nat → Value), CutIn K W wq O0 n m lc Bs ⟨fl, cp, mu⟩ (secOf cs) (rawX bs) Ds t k O v ps q nb ∧ a = { tmps := #[u 0, u 1, .slice adc lc cc, u 3, u 4, u 5, u 6, u 7, u 8, u 9, u 10, u 11, .pointer (some ⟨w.heap.size, 0, none⟩), u 13, u 14, .slice ad m c, .pointer (some ⟨Bs, 0, none⟩), u 17, u 18, u 19, .slice (some ⟨Aw, 0, none⟩) m m, .pointer (some ⟨W.heap.size, 0, none⟩), .int .i64 (t : Nat), .int .i64 (k : Nat), .pointer (some ⟨nb, 0, none⟩), u 25, u 26, u 27, u 28, u 29, u 30, u 31, u 32, u 33, u 34, u 35, u 36, u 37, u 38, u 39, u 40, u 41, u 42, u 43, u 44, u 45, u 46, u 47, u 48, u 49, u 50, u 51, u 52, u 53, u 54, u 55, u 56, u 57, u 58, u 59, u 60, u 61, u 62, u 63, u 64, u 65, u 66, u 67, u 68, u 69, u 70, u 71, u 72, u 73, u 74, u 75, u 76, u 77, u 78, u 79, u 80, u 81, u 82, u 83, u 84, u 85, u 86, u 87, u 88, u 89, u 90, u 91, u 92, u 93, u 94, u 95, u 96, u 97, u 98, u 99, u 100, u 101, u 102, u 103, u 104, u 105, u 106, u 107, u 108, u 109, u 110, u 111, u 112, u 113, u 114, u 115, u 116, u 117, u 118, u 119, u 120, u 121, u 122, u 123, u 124, u 125, u 126, u 127, u 128, u 129, u 130, u 131, u 132, u 133, u 134, u 135, u 136, u 137, u 138, u 139, u 140, u 141, u 142, u 143, u 144, u 145, u 146, u 147, u 148, u 149, u 150, u 151, u 152, u 153, u 154, u 155, u 156, u 157, u 158, u 159, u 160, u 161, u 162, u 163, u 164, u 165, u 166, u 167, u 168, u 169, u 170, u 171, u 172, u 173, u 174, u 175, u 176, u 177, u 178, u 179, u 180, u 181, u 182, u 183, u 184, u 185, u 186, u 187, u 188, u 189, u 190, u 191, u 192, u 193, u 194, u 195, u 196, u 197, u 198, u 199, u 200, u 201, u 202, u 203, u 204, u 205, u 206, u 207, u 208, u 209, u 210, u 211, u 212, u 213, u 214, u 215, u 216, u 217, u 218, u 219, u 220], defers := Ds.map mark }) ?_ ?_
    · intro a wq hj
      obtain ⟨q, nb, u, hJ, rfl⟩ := hj
      clear HS
      refine wp_join1 (fun a wz => ∃ (Ds : List Nat) (Bs : Nat) (O : Nat → Prop) (v : Value) (ps : List Value) (u : Nat → Value), (Boxed wz nb 3 (.int .i64 (q : Nat)) ∧ SInv K W wz O0 n Bs ⟨fl, cp, mu⟩ (secOf cs) (rawX bs) Ds (t + q) (t + q) O v ps) ∧ a = { tmps := #[u 0, u 1, .slice adc lc cc, u 3, u 4, u 5, u 6, u 7, u 8, u 9, u 10, u 11, .pointer (some ⟨w.heap.size, 0, none⟩), u 13, u 14, .slice ad m c, .pointer (some ⟨Bs, 0, none⟩), u 17, u 18, u 19, .slice (some ⟨Aw, 0, none⟩) m m, .pointer (some ⟨W.heap.size, 0, none⟩), .int .i64 (t : Nat), .int .i64 (k : Nat), .pointer (some ⟨nb, 0, none⟩), u 25, u 26, u 27, u 28, u 29, u 30, u 31, u 32, u 33, u 34, u 35, u 36, u 37, u 38, u 39, u 40, u 41, u 42, u 43, u 44, u 45, u 46, u 47, u 48, u 49, u 50, u 51, u 52, u 53, u 54, u 55, u 56, u 57, u 58, u 59, u 60, u 61, u 62, u 63, u 64, u 65, u 66, u 67, u 68, u 69, u 70, u 71, u 72, u 73, u 74, u 75, u 76, u 77, u 78, u 79, u 80, u 81, u 82, u 83, u 84, u 85, u 86, u 87, u 88, u 89, u 90, u 91, u 92, u 93, u 94, u 95, u 96, u 97, u 98, u 99, u 100, u 101, u 102, u 103, u 104, u 105, u 106, u 107, u 108, u 109, u 110, u 111, u 112, u 113, u 114, u 115, u 116, u 117, u 118, u 119, u 120, u 121, u 122, u 123, u 124, u 125, u 126, u 127, u 128, u 129, u 130, u 131, u 132, u 133, u 134, u 135, u 136, u 137, u 138, u 139, u 140, u 141, u 142, u 143, u 144, u 145, u 146, u 147, u 148, u 149, u 150, u 151, u 152, u 153, u 154, u 155, u 156, u 157, u 158, u 159, u 160, u 161, u 162, u 163, u 164, u 165, u 166, u 167, u 168, u 169, u 170, u 171, u 172, u 173, u 174, u 175, u 176, u 177, u 178, u 179, u 180, u 181, u 182, u 183, u 184, u 185, u 186, u 187, u 188, u 189, u 190, u 191, u 192, u 193, u 194, u 195, u 196, u 197, u 198, u 199, u 200, u 201, u 202, u 203, u 204, u 205, u 206, u 207, u 208, u 209, u 210, u 211, u 212, u 213, u 214, u 215, u 216, u 217, u 218, u 219, u 220], defers := Ds.map mark }) ?_ ?_
      · intro a wz hz
        obtain ⟨hq1, hq2, hq3, _⟩ := hJ
        obtain ⟨Ds, Bs, O, v, ps, u, ⟨hn, hS⟩, rfl⟩ := hz
        have hnc := hn.cell
        have hT0 : (0 : Int) ≤ (t : Int) + (q : Int) := by omega
        have hT1 : (t : Int) + (q : Int) ≤ 300 := by omega
        have HA := hide (K.at_ hS.strm)
        have HS := hide hS
        clear hS hn
        go_wp2_with fail
        refine (unhide HA).mono ?_
        rintro e _ ⟨rfl, rfl⟩
        go_wp2_with fail
        refine unhide HK2 _ _ ?_
        go_wp2
        obtain ⟨hI, hμ⟩ := unhide HI
        rw [hI, hμ]
        refine ⟨⟨Ds, t + q, k + 1, Bs, O, v, ps, of_frame ⟨by omega, by omega, unhide HS⟩ rfl⟩, ?_⟩
        simp [intOf]
        omega
      · intro KX hKX
        have HX := hide hKX
        clear hKX
        obtain ⟨hq1, hq2, hq3, hnB, ⟨hnW, hnO, hnD, hnv⟩, hS⟩ := hJ
        have hON : ∀ b, O b → w3.heap.size ≤ b := fun b hb => (hS.zone b hb).1.elim (fun e => ((unhide HW).2.2.2 b e).1) (fun e => by have := (unhide HW).1.hN; omega)
        have hXq := (unhide HW).1.xs.but hS.but (fun b hb => ((unhide HW).2.2.2 b hb).1)
        obtain ⟨bx, ux, rfl, hbx1, hbx2, hcx, hux⟩ := hXq t htm'
        have hmc := unhide Hkc (by omega)
        have i4 : (0 : Int) ≤ (t : Int) := by omega
        have i6 : (t : Int) + (q : Int) ≤ (c : Int) := by omega
        have i7 : (t : Int) ≤ (t : Int) + (q : Int) := by omega
        have hwr : IntKind.i64.wrap ((t : Int) + (q : Int)) = (t : Int) + (q : Int) := by rw [IntKind.wrap_i64]; omega
        have hct : ¬ (c = t) := by omega
        have hto : ((t : Int) + (q : Int)).toNat = t + q := by omega
        have hgc := hS.box.cell
        have hgf := hS.box.frozen
        have hnc := hnB.cell
        have hSd := hS.below (still_drew wq _)
        have hOf : ∀ b, O b → Off (.slice (some ⟨bx, t, none⟩) q (c - t)) q b := fun b hb => cut_off hbx1 (hON b hb)
        rcases (by omega : k % 3 = 0 ∨ k % 3 = 1 ∨ k % 3 = 2) with h3 | h3 | h3
        · have i8 : (k : Int) % 3 = 0 := by omega
          have HP := hide (push_law (lv := .slice (some ⟨bx, t, none⟩) q (c - t)) hSd (xs_cut (hXq.below (still_drew wq _)) (by omega)) hOf hn16 (by omega) (by omega))
          have HH := hide (And.intro hS hSd)
          have HN := hide (And.intro hnB (And.intro hnW (And.intro hnO (And.intro hnD hnv))))
          clear hS hSd hXq hOf hON hcx hux hnB hnO hnD hnv
          go_wp2_with fail
          refine wp_region_noPanic ?_
          go_region_law (first
            | (refine step_append_at (by rfl) _ _ 31 (by rfl) (W.heap.size + 1) 24 i0 (.complex .f64 0 0) 1 16 Try.underlying31 hi hz0 hz1 hz2 rfl Nat.one_pos v t ps (by rfl) hS8.own ⟨A2, 0, none⟩ q q (cellsOf w8 A2 q) (by rfl) n1 n2 n3 (by unfold maxLen; omega) (by omega) hs8 ?_; intro v9 w9 hown9 hg9 hv9; obtain ⟨ad9, c9, rfl⟩ := row_form hown9; have hgc9 : w9.cell? ⟨W.heap.size, 0, none⟩ = some v := (hS8.box.kept hg9 (fun e => by have := (hS8.own.lt _ e.symm).1; omega)).cell; have hgf9 : w9.frozen? ⟨W.heap.size, 0, none⟩ = false := (hS8.box.kept hg9 (fun e => by have := (hS8.own.lt _ e.symm).1; omega)).frozen)
            | (go_simp; go_at_call 11; refine (unhide HP).mono ?_; rintro e w8 ⟨A2, O8, rfl, hA21, hA22, hA23, hans2, hS8, hbut8⟩; have hgc8 := hS8.box.cell; have hgf8 := hS8.box.frozen; obtain ⟨n1, n2, n3, n4⟩ := ans_cells hans2; have hs8 : W.heap.size + 1 ≤ w8.heap.size := hS8.box.lt; dsimp only))
          all_goals refine NoPanic.normal ?_
          all_goals go_wp2_with fail
          all_goals exact unhide HX _ _ ⟨Ds, Bs, O8, _, _, of_frame ⟨box_kept (unhide HN).1 hbut8 (unhide HN).2.2.1 hg9 (unhide HN).2.2.2.2 (unhide HN).2.1, hS8.append hg9 hown9 hv9 n4⟩ rfl⟩
        · have i8 : (k : Int) % 3 = 1 := by omega
          have HQ := hide (K.seq (v := .slice (some ⟨bx, t, none⟩) q (c - t)) hS.strm (xs_cut hXq (by omega)) (by omega))
          have HH := hide hS
          have HN := hide (And.intro hnB (And.intro hnW (And.intro hnO (And.intro hnD hnv))))
          clear hS hSd hXq hOf hON hcx hux hnB hnO hnD hnv
          go_wp2_with fail
          refine (unhide HQ).mono ?_
          rintro e w8 ⟨gf, lbq, C, rfl, eg, hSq, hC8, hb8⟩
          have hnb8 : Boxed w8 nb 3 (.int .i64 (q : Nat)) := (hb8.block nb (unhide HN).1.lt).trans (unhide HN).1
          have HE := hide (And.intro hSq (And.intro hC8 (And.intro hb8 (And.intro ((unhide HH).below hb8) (And.intro hnb8 (unhide HH))))))
          have Heg := hide eg
          clear hSq hC8 hb8 eg HQ HH hnb8
          go_wp2_with fail
          obtain ⟨hSq, hC8, hb8, hS8, hnb8, hSq0⟩ := unhide HE
          obtain ⟨hnB, hnW, hnO, hnD, hnv⟩ := unhide HN
          have hnlq := hnB.lt
          have hnl : nb ≠ w8.heap.size + 1 := by have := hnb8.lt; omega
          refine wp_rangeFunc_mut (ι := Nat × World × (Nat → Prop)) (gf := gf) (lb := lbq) rfl (unhide Heg)
            (fun i v => i.1 < q ∧ ∃ r c, v = #[.int .i64 (i.1 : Nat), .complex .f64 r c] ∧ CIs (.complex .f64 r c) (wAnsN ⟨fl, cp, mu⟩ gG n (secOf cs) rest0 (rawX bs) (t + i.1)))
            (fun i v h => by obtain ⟨_, r, c, rfl, _⟩ := h; rfl)
            (fun i Wc => CS W O0 n ⟨fl, cp, mu⟩ (secOf cs) (rawX bs) Ds t q nb w8.heap.size (w8.heap.size + 1) i.1 Wc i.2.2 ∧ (∀ k, i.2.2 k → k < Wc.heap.size ∧ Wc.heap[k]? = i.2.1.heap[k]?) ∧ i.2.1.heap.size ≤ Wc.heap.size)
            (fun i Wc => CS W O0 n ⟨fl, cp, mu⟩ (secOf cs) (rawX bs) Ds t q nb w8.heap.size (w8.heap.size + 1) (i.1 + 1) Wc i.2.2 ∧ (∀ k, i.2.2 k → Wc.heap[k]? = i.2.1.heap[k]?) ∧ i.2.1.heap.size ≤ Wc.heap.size)
            (fun Wc => ∃ O' Own, CS W O0 n ⟨fl, cp, mu⟩ (secOf cs) (rawX bs) Ds t q nb w8.heap.size (w8.heap.size + 1) q Wc Own ∧ K.At Wc O' Bs n gG (secOf cs) ⟨fl, cp, mu⟩ (wStN ⟨fl, cp, mu⟩ gG n (secOf cs) rest0 (rawX bs) (t + q)) (t + q) (wCntN ⟨fl, cp, mu⟩ gG n (secOf cs) rest0 (rawX bs) (t + q)) ∧ ∀ k, O' k → Own k)
            ?_ ?_ ?_ ?_ ?_ ?_
          · intro i Wc o h
            obtain ⟨h1, h2, h3⟩ := h
            obtain ⟨_, _, _, _, h9⟩ := id h1
            exact ⟨h1.put hnl o, fun k hk => ⟨by simpa [World.putObj] using (h2 k hk).1, (World.putObj_heap_other (fun e => by subst e; exact (h9 _ (.inr (.inr rfl))).2.2.1 hk)).trans (h2 k hk).2⟩, by simpa [World.putObj] using h3⟩
          · intro i Wc o h
            obtain ⟨h1, h2, h3⟩ := h
            obtain ⟨_, _, _, _, h9⟩ := id h1
            exact ⟨h1.put hnl o, fun k hk => (World.putObj_heap_other (fun e => by subst e; exact (h9 _ (.inr (.inr rfl))).2.2.1 hk)).trans (h2 k hk), by simpa [World.putObj] using h3⟩
          · intro Wc o h
            obtain ⟨O', Own, h1, h2, h3⟩ := h
            obtain ⟨_, _, _, _, h9⟩ := id h1
            exact ⟨O', Own, h1.put hnl o, K.keep h2 (fun k hk => World.putObj_heap_other (fun e => by subst e; exact (h9 _ (.inr (.inr rfl))).2.2.1 (h3 _ hk))) (by simp [World.putObj]), h3⟩
          · intro W1 BB hs1 hb1 hB hB1 hyield
            have hS1 := hS8.below hb1
            have hw8 := hb8.size
            have hOlt := (K.lt hSq0.strm).1
            refine (K.iter (K.seqKeep hSq (fun k hk => hb1.block k (hC8 k hk).2)) hS1.strm (fun k hk => ⟨fun e => by have := hOlt k e; have := (hC8 k hk).1; omega, by have := (hC8 k hk).2; omega⟩) hn16 (by omega) (by omega) (cnt_le hn16 (by omega)) (w8.heap.size + 1)
              (fun j Wc Own => CS W O0 n ⟨fl, cp, mu⟩ (secOf cs) (rawX bs) Ds t q nb w8.heap.size (w8.heap.size + 1) j Wc Own ∧ BB Wc) ?_ ?_ ?_).mono ?_
            · rintro j Wa Wb Own Own' ⟨h1, h2⟩ hbut hO
              obtain ⟨_, _, _, _, h9⟩ := id h1
              exact ⟨h1.step hbut hO, hB _ _ h2 (hbut.block _ (h9 _ (.inr (.inl rfl))).2.1 (h9 _ (.inr (.inl rfl))).2.2.1) (hbut.block _ (h9 _ (.inr (.inr rfl))).2.1 (h9 _ (.inr (.inr rfl))).2.2.1)⟩
            · refine ⟨⟨v, ps, hSq0.toC.step (But.low (hb8.trans (hb1.mono hb8.size))) (fun k hk => hk.elim .inl (fun h => .inr (hC8 k h).1)), (hb1.block nb hnb8.lt).trans hnb8, fun x hx => ?_⟩, hB1⟩
              have hfr := hS8.fresh
              rcases hx with rfl | rfl | rfl
              · exact ⟨hnW, by have := hnb8.lt; omega, fun e => e.elim hnO (fun e => by have := (hC8 _ e).1; omega), hnD, hnv⟩
              · exact ⟨hfr.1, by omega, fun e => e.elim hfr.2.1 (fun e => by have := (hC8 _ e).2; omega), hfr.2.2⟩
              · exact ⟨by omega, by omega, fun e => e.elim (fun e => by have := (K.lt hS8.strm).1 _ e; omega) (fun e => by have := (hC8 _ e).2; omega), fun e => by have := hS8.marks.lt e; omega, fun e => by have := (hS8.own.lt _ e.symm).2; omega⟩
            · rintro j r ci Wa O' Own hj hci ⟨h1, h2⟩ hAt hO' hOwn
              refine (hyield (j, Wa, Own) _ Wa ⟨hj, r, ci, rfl, by rw [wAnsN_add]; exact hci⟩ ⟨h1, fun k hk => ⟨hOwn k hk, rfl⟩, Nat.le_refl _⟩ h2).mono ?_
              rintro e W' ⟨rfl, ⟨g1, g2, g3⟩, g4⟩
              exact ⟨rfl, ⟨g1, g4⟩, g2, g3⟩
            · rintro e W' ⟨hv, O', Own, ⟨h1, h2⟩, hAt, hO'⟩
              rw [← wStN_add, ← wCntN_add] at hAt
              exact ⟨hv, ⟨O', Own, h1, hAt, hO'⟩, h2⟩
          · rintro ⟨j, Wi, Own⟩ v W8 KR hv hy hK
            obtain ⟨hj, r, ci, rfl, hci⟩ := hv
            have HKR := hide hK
            have HE2 := hide hci
            clear hK hy hci hSq hC8 hb8 hS8 hnb8 hSq0 hnB hnW hnO hnD hnv
            have hj1 : (j : Int) < (q : Int) := by (try dsimp only at hj); omega
            gi_wp2
            refine unhide HKR _ (fun W' hy' => ?_)
            obtain ⟨⟨v', ps', hc, hnb', h9⟩, hOw, hsz⟩ := hy'
            try dsimp only at hc hnb' h9 hOw hsz hj
            have hgc := hc.box.cell
            have hgf := hc.box.frozen
            have hnc := hnb'.cell
            have hWW : W.heap.size < W'.heap.size := hc.box.lt
            have hrow : (W'.alloc (Obj.cells #[Value.complex .f64 r ci] 24)).ownsRow (W.heap.size + 1) 24 1 v' (t + j) ps' := hc.own.alloc _
            have HC := hide (And.intro hc (And.intro hnb' (And.intro h9 (And.intro hOw hsz))))
            clear hc hnb' h9 hOw hsz
            gi_wp2_with (first
              | (gi_at_builtin; refine wpListIn_append_at _ rfl _ _ 31 rfl (W.heap.size + 1) 24 i0 (.complex .f64 0 0) 1 16 Try.underlying31 hi hz0 hz1 hz2 rfl Nat.one_pos v' (t + j) ps' rfl hrow ⟨W'.heap.size, 0, none⟩ 1 1 [.complex .f64 r ci] rfl rfl (World.news_of_block (cs := #[.complex .f64 r ci]) (t := 24) (fr := (0, 0)) (heap_alloc_new W' _)) (one_cell r ci) (by unfold maxLen; omega) (by omega) (by simp; omega) ?_; intro v9 w9 hown9 hg9 hv9; obtain ⟨ad9, c9, rfl⟩ := row_form hown9; have hgB := ((unhide HC).1.box.alloc (Obj.cells #[Value.complex .f64 r ci] 24)).kept hg9 (fun e => by have := (hrow.lt _ e.symm).1; omega); have hgc9 := hgB.cell; have hgf9 := hgB.frozen)
              | fail)
            obtain ⟨hc, hnb', h9, hOw, hsz⟩ := unhide HC
            obtain ⟨⟨k1, k2, k3⟩, k4⟩ := CS.round hc hnb' h9 (fun k hk => (hOw k hk).1) (unhide HE2) hg9 hown9 hv9
            exact ⟨⟨k1, fun k hk => (k2 k hk).trans (hOw k hk).2, by omega⟩, k4⟩
          · intro Wd hR hmk
            obtain ⟨O', Own, ⟨v', ps', hc, hnb', h9⟩, hAt, hO'⟩ := hR
            have hSd := hc.toS hAt hO'
            obtain ⟨d1, d2, d3, d4, d5⟩ := h9 w8.heap.size (.inr (.inl rfl))
            have HF := hide (And.intro (hSd.mark hmk d1 (fun e => d3 (hO' _ e)) d4 d5) hnb')
            clear hSq hC8 hb8 hS8 hnb8 hSq0 hnW hnO hnD hnv hc h9 hAt hO' hSd hmk hnb' d1 d2 d3 d4 d5
            go_wp2_with fail
            exact unhide HX _ _ ⟨w8.heap.size :: Ds, Bs, O', v', ps', of_frame ⟨(unhide HF).2, (unhide HF).1⟩ rfl⟩
        · have i8 : (k : Int) % 3 = 2 := by omega
          have HSv := hide (K.save hS.strm hn16)
          have HH := hide hS
          have HN := hide (And.intro hnB (And.intro hnW (And.intro hnO (And.intro hnD hnv))))
          clear hS hSd hXq hOf hON hcx hux hnB hnO hnD hnv
          go_wp2_with fail
          refine (unhide HSv).mono ?_
          rintro e w4' ⟨Pb, pc, rfl, hP1, hP2, hPs, hb4, hpc1, hpc2⟩
          have hS4 := (unhide HH).below hb4
          have HL := hide (K.load (cap := pc) hPs ⟨_, _, _, hS4.strm⟩ hn16 hP2 hpc1 hpc2)
          have HP := hide (And.intro hPs (And.intro hb4 hS4))
          clear hPs hb4 hS4 HSv
          go_wp2_with fail
          refine (unhide HL).mono ?_
          rintro e w5' ⟨Br, Or, rfl, hAr, hOr, hb5⟩
          have hS5 := (unhide HP).2.2.below hb5
          have HK := hide (K.fork hS5.strm hn16)
          have HR := hide (And.intro hAr (And.intro hOr (And.intro hb5 hS5)))
          clear hAr hOr hb5 hS5 HL
          go_wp2_with fail
          refine (unhide HK).mono ?_
          rintro e w6' ⟨Bk, Ok, rfl, hAk, hOk, hBk, hb6⟩
          obtain ⟨hPs, hb4, hS4⟩ := unhide HP
          obtain ⟨hAr, hOr, hb5, hS5⟩ := unhide HR
          have hs5 := hb5.size
          have hP5 := hPs.low hP2 hb5
          have hP6 := hP5.low (by omega) hb6
          have hAr6 := K.keep hAr (fun j hj => hb6.block j ((K.lt hAr).1 j hj)) hb6.size
          have hs6 := hb6.size
          have HF := hide (And.intro hP6 (And.intro hAr6 (And.intro hAk (And.intro (hS5.below hb6) (And.intro hOr (And.intro hOk (And.intro hb6 (And.intro hs6 (And.intro (K.lt hS4.strm).1 (And.intro (K.lt hAr).1 (And.intro hs5 (And.intro hBk (And.intro hS4 (And.intro hb4 hb5))))))))))))))
          have hPw : Pb < w6'.heap.size := by omega
          obtain ⟨sB, hsB⟩ : ∃ sB, svS n gG (secOf cs) ⟨fl, cp, mu⟩ (wStN ⟨fl, cp, mu⟩ gG n (secOf cs) rest0 (rawX bs) t) t (wCntN ⟨fl, cp, mu⟩ gG n (secOf cs) rest0 (rawX bs) t) = sB := ⟨_, rfl⟩
          clear hPs hb4 hS4 hAr hOr hb5 hS5 hP5 hP6 hAr6 hAk hOk hb6 HK HP HR hs5 hs6
          go_wp2_with fail
          rename_i K0 hK0
          have hrest : ∀ a W7, (∃ u : Nat → Value, Below w6'.heap.size w6' W7 ∧ a = { tmps := #[u 0, u 1, .slice adc lc cc, u 3, u 4, u 5, u 6, u 7, u 8, u 9, u 10, u 11, .pointer (some ⟨w.heap.size, 0, none⟩), u 13, u 14, .slice (some ⟨bx, 0, none⟩) m c, .pointer (some ⟨Bs, 0, none⟩), u 17, u 18, u 19, .slice (some ⟨Aw, 0, none⟩) m m, .pointer (some ⟨W.heap.size, 0, none⟩), .int .i64 (t : Nat), .int .i64 (k : Nat), .pointer (some ⟨nb, 0, none⟩), u 25, u 26, .slice (some ⟨Pb, 0, none⟩) (38 + 112 * n) pc, .pointer (some ⟨Br, 0, none⟩), .int .i64 0, .pointer (some ⟨Bk, 0, none⟩), u 31, u 32, u 33, u 34, u 35, u 36, u 37, u 38, u 39, u 40, u 41, u 42, u 43, u 44, u 45, u 46, u 47, u 48, u 49, u 50, u 51, u 52, u 53, u 54, u 55, u 56, u 57, u 58, u 59, u 60, u 61, u 62, u 63, u 64, u 65, u 66, u 67, u 68, u 69, u 70, u 71, u 72, u 73, u 74, u 75, u 76, u 77, u 78, u 79, u 80, u 81, u 82, u 83, u 84, u 85, u 86, u 87, u 88, u 89, u 90, u 91, u 92, u 93, u 94, u 95, u 96, u 97, u 98, u 99, u 100, u 101, u 102, u 103, u 104, u 105, u 106, u 107, u 108, u 109, u 110, u 111, u 112, u 113, u 114, u 115, u 116, u 117, u 118, u 119, u 120, u 121, u 122, u 123, u 124, u 125, u 126, u 127, u 128, u 129, u 130, u 131, u 132, u 133, u 134, u 135, u 136, u 137, u 138, u 139, u 140, u 141, u 142, u 143, .bool false, u 145, u 146, u 147, u 148, u 149, u 150, u 151, u 152, u 153, u 154, u 155, u 156, u 157, u 158, u 159, u 160, u 161, u 162, u 163, u 164, u 165, u 166, u 167, u 168, u 169, u 170, u 171, u 172, u 173, u 174, u 175, u 176, u 177, u 178, u 179, u 180, u 181, u 182, u 183, u 184, u 185, u 186, u 187, u 188, u 189, u 190, u 191, u 192, u 193, u 194, u 195, u 196, u 197, u 198, u 199, u 200, u 201, u 202, u 203, u 204, u 205, u 206, u 207, u 208, u 209, u 210, u 211, u 212, u 213, u 214, u 215, u 216, u 217, u 218, u 219, u 220], defers := Ds.map mark }) → K0 a W7 := by
            rintro a W7 ⟨u, hb7, rfl⟩
            refine hK0 _ _ ?_
            clear hK0
            obtain ⟨hP6, hAr6, hAk6, hS6, hOr, hOk, hb6, hs6, hO4, hOrl, hs5, hBk, hS4, hb4, hb5⟩ := unhide HF
            have hS7 := hS6.below hb7
            have hX7 := (unhide HW).1.xs.but hS7.but (fun b hb => ((unhide HW).2.2.2 b hb).1)
            have hON7 : ∀ b, O b → w3.heap.size ≤ b := fun b hb => (hS7.zone b hb).1.elim (fun e => ((unhide HW).2.2.2 b e).1) (fun e => by have := (unhide HW).1.hN; omega)
            have HPx := hide (K.push (v := .slice (some ⟨bx, 0, none⟩) m c) hS7.strm hX7.list (fun b hb => hX7.off (hON7 b hb)) hn16 (by omega) (by omega) (cnt_le hn16 (by omega)))
            have H7 := hide (And.intro hS7 hX7)
            clear hP6 hAr6 hAk6 hS6 hOr hOk hb6 hs6 hO4 hOrl hs5 hBk hS4 hb4 hb5 hS7 hX7 hON7
            go_wp2_with fail
            refine (unhide HPx).mono ?_
            rintro e w8 ⟨Ax, Ox, rfl, hAx1, hAx2, _, _, _, _, hbx8⟩
            obtain ⟨hP6, hAr6, hAk6, hS6, hOr, hOk, hb6, hs6, hO4, hOrl, hs5, hBk, hS4, hb4, hb5⟩ := unhide HF
            obtain ⟨hS7, hX7⟩ := unhide H7
            have hs7 := hb7.size
            have hs8 := hbx8.size
            have hAr8 : K.At w8 Or Br n gG (secOf cs) ⟨fl, cp, mu⟩ (wStN ⟨fl, cp, mu⟩ gG n (secOf cs) rest0 (rawX bs) t) t (wCntN ⟨fl, cp, mu⟩ gG n (secOf cs) rest0 (rawX bs) t) := K.keep hAr6 (fun j hj => (hbx8.block j (by have := hOrl j hj; omega) (fun e => by have := hO4 j e.1; have := hOr j hj; omega)).trans (hb7.block j (by have := hOrl j hj; omega))) (by omega)
            have hshk : ∀ j, K.Sh w5' Bs j → K.Sh W7 Bs j := fun j hj => K.shKeep (((hb7.block Bs (by have := hO4 Bs (K.lt hS4.strm).2; omega)).trans (hb6.block Bs (by have := hO4 Bs (K.lt hS4.strm).2; omega))).symm) hj
            have hAk8 : K.At w8 Ok Bk n gG (secOf cs) ⟨fl, cp, mu⟩ (wStN ⟨fl, cp, mu⟩ gG n (secOf cs) rest0 (rawX bs) t) t (wCntN ⟨fl, cp, mu⟩ gG n (secOf cs) rest0 (rawX bs) t) := K.keep hAk6 (fun j hj => (hbx8.block j (by have := (K.lt hAk6).1 j hj; omega) (fun e => by
              rcases hOk j hj with h | h
              · have := hO4 j e.1; omega
              · exact e.2 (hshk j h.2))).trans (hb7.block j ((K.lt hAk6).1 j hj))) (by omega)
            have hS8 : SInv K W w8 O0 n Br ⟨fl, cp, mu⟩ (secOf cs) (rawX bs) Ds t t Or v ps := hS7.swap hbx8 (fun j hj => hj.1) hAr8 (fun j hj => hS4.news j (hOr j hj))
            have hX8 := (unhide HW).1.xs.but hS8.but (fun b hb => ((unhide HW).2.2.2 b hb).1)
            have hnb8 : Boxed w8 nb 3 (.int .i64 (q : Nat)) := by
              obtain ⟨hnB, hnW, hnO, hnD, hnv⟩ := unhide HN
              have hl := hnB.lt
              have hs4 := hb4.size
              exact (hbx8.block nb (by omega) (fun e => hnO e.1)).trans ((hb7.block nb (by omega)).trans ((hb6.block nb (by omega)).trans ((hb5.block nb (by omega)).trans ((hb4.block nb hl).trans hnB))))
            have hgc8 := hS8.box.cell
            have hgf8 := hS8.box.frozen
            have hnc8 := hnb8.cell
            have hSd8 := hS8.below (still_drew w8 _)
            have hON8 : ∀ b, Or b → w3.heap.size ≤ b := fun b hb => (hS8.zone b hb).1.elim (fun e => ((unhide HW).2.2.2 b e).1) (fun e => by have := (unhide HW).1.hN; omega)
            have HP8 := hide (push_law2 (lv := .slice (some ⟨bx, t, none⟩) q (c - t)) hSd8 (xs_cut (hX8.below (still_drew w8 _)) (by omega)) (fun b hb => cut_off hbx1 (hON8 b hb)) hn16 (by omega) (by omega))
            have hOkN : ∀ j, Ok j → ¬ Or j ∧ j ≠ W.heap.size ∧ some j ≠ v.ownBlock ∧ j < w8.heap.size ∧ (O0 j ∨ W.heap.size < j) ∧ j ∉ Ds := fun j hj => by
              have hjl := (K.lt hAk8).1 j hj
              rcases hOk j hj with h | h
              · have h4 := hS4.news j (by omega)
                exact ⟨fun e => by have := hOrl j e; omega, by omega, h4.2.2, hjl, .inr h4.1, h4.2.1⟩
              · have hz := hS4.zone j h.1
                exact ⟨fun e => by have := hO4 j h.1; have := hOr j e; omega, hz.1.elim (fun e => by have := hS4.old j e; omega) (fun e => by omega), hz.2.2, hjl, hz.1, hz.2.1⟩
            have hOknb : ¬ Ok nb := fun e => (hOk nb e).elim (fun h => by have := (unhide HN).1.lt; have := hb4.size; omega) (fun h => (unhide HN).2.2.1 h.1)
            have hOrnb : ¬ Or nb := fun e => by have := hOr nb e; have := (unhide HN).1.lt; have := hb4.size; omega
            have H8 := hide (And.intro hS8 (And.intro hSd8 (And.intro hAk8 (And.intro hnb8 (And.intro hX8 (And.intro hOkN (And.intro hOrnb hOknb)))))))
            clear hOknb hOrnb hP6 hAr6 hAk6 hS6 hOr hOk hb6 hs6 hO4 hOrl hs5 hBk hS4 hb4 hb5 hS7 hX7 hs7 hs8 hAr8 hshk hAk8 hS8 hX8 hnb8 hSd8 hON8 hOkN hbx8
            go_wp2_with fail
            rename_i K1 hK1
            have hrest2 : ∀ a W10, (∃ u : Nat → Value, (∃ (v9 : Value) (ps9 : List Value) (O9 : Nat → Prop), SInv K W W10 O0 n Br ⟨fl, cp, mu⟩ (secOf cs) (rawX bs) Ds (t + q) (t + q) O9 v9 ps9 ∧ Boxed W10 nb 3 (.int .i64 (q : Nat)) ∧ K.At W10 Ok Bk n gG (secOf cs) ⟨fl, cp, mu⟩ (wStN ⟨fl, cp, mu⟩ gG n (secOf cs) rest0 (rawX bs) t) t (wCntN ⟨fl, cp, mu⟩ gG n (secOf cs) rest0 (rawX bs) t) ∧ ∀ j, Ok j → (O0 j ∨ W.heap.size < j) ∧ ¬ O9 j ∧ j ∉ Ds ∧ some j ≠ v9.ownBlock) ∧ a = { tmps := #[u 0, u 1, .slice adc lc cc, u 3, u 4, u 5, u 6, u 7, u 8, u 9, u 10, u 11, .pointer (some ⟨w.heap.size, 0, none⟩), u 13, u 14, .slice (some ⟨bx, 0, none⟩) m c, .pointer (some ⟨Br, 0, none⟩), u 17, u 18, u 19, .slice (some ⟨Aw, 0, none⟩) m m, .pointer (some ⟨W.heap.size, 0, none⟩), .int .i64 (t : Nat), .int .i64 (k : Nat), .pointer (some ⟨nb, 0, none⟩), u 25, u 26, .slice (some ⟨Pb, 0, none⟩) (38 + 112 * n) pc, .pointer (some ⟨Br, 0, none⟩), .int .i64 0, .pointer (some ⟨Bk, 0, none⟩), u 31, u 32, u 33, u 34, u 35, u 36, u 37, u 38, u 39, u 40, u 41, u 42, u 43, u 44, u 45, u 46, u 47, u 48, u 49, u 50, u 51, u 52, u 53, u 54, u 55, u 56, u 57, u 58, u 59, u 60, u 61, u 62, u 63, u 64, u 65, u 66, u 67, u 68, u 69, u 70, u 71, u 72, u 73, u 74, u 75, u 76, u 77, u 78, u 79, u 80, u 81, u 82, u 83, u 84, u 85, u 86, u 87, u 88, u 89, u 90, u 91, u 92, u 93, u 94, u 95, u 96, u 97, u 98, u 99, u 100, u 101, u 102, u 103, u 104, u 105, u 106, u 107, u 108, u 109, u 110, u 111, u 112, u 113, u 114, u 115, u 116, u 117, u 118, u 119, u 120, u 121, u 122, u 123, u 124, u 125, u 126, u 127, u 128, u 129, u 130, u 131, u 132, u 133, u 134, u 135, u 136, u 137, u 138, u 139, u 140, u 141, u 142, u 143, u 144, u 145, u 146, u 147, u 148, u 149, u 150, u 151, u 152, u 153, u 154, u 155, u 156, u 157, u 158, u 159, u 160, u 161, u 162, u 163, u 164, u 165, u 166, u 167, u 168, u 169, u 170, u 171, u 172, u 173, u 174, u 175, u 176, u 177, u 178, u 179, u 180, u 181, u 182, u 183, u 184, u 185, u 186, u 187, u 188, u 189, u 190, u 191, u 192, u 193, u 194, u 195, u 196, u 197, u 198, u 199, u 200, u 201, u 202, u 203, u 204, u 205, u 206, u 207, u 208, u 209, u 210, u 211, u 212, u 213, u 214, u 215, u 216, u 217, u 218, u 219, u 220], defers := Ds.map mark }) → ¬ Ok nb → K1 a W10 := by
              rintro a W10 ⟨u, ⟨v9, ps9, O9, hS10, hnb10, hAk10, hOk10⟩, rfl⟩ hOknb
              refine hK1 _ _ ?_
              clear hK1
              obtain ⟨ad9, c9, rfl, hps⟩ := ps_list hS10.own hS10.got
              have hform : (ad9 = none ∧ t + q = 0 ∧ c9 = 0) ∨ ∃ b9, ad9 = some ⟨b9, 0, none⟩ ∧ t + q ≤ c9 := by
                rcases hS10.own.2 with ⟨e1, e2⟩ | ⟨g, cap, cur, e1, _, _, hle, _⟩
                · injection e1 with e1 e3 e4; exact .inl ⟨e1, e2, e4⟩
                · injection e1 with e1 e3 e4; exact .inr ⟨g, e1, by omega⟩
              have hX10 := (unhide HW).1.xs.but hS10.but (fun b hb => ((unhide HW).2.2.2 b hb).1)
              have hOkw : ∀ b, Ok b → w3.heap.size ≤ b := fun b hb => (hOk10 b hb).1.elim (fun e => ((unhide HW).2.2.2 b e).1) (fun e => by have := (unhide HW).1.hN; omega)
              have hOkW : ¬ Ok W.heap.size := fun e => (hOk10 _ e).1.elim (fun e => by have := hS10.old _ e; omega) (fun e => by omega)
              have e24 := hnb10.cell
              have eBx := hS10.box.cell
              have HQ := hide (And.intro e24 eBx)
              clear e24 eBx
              go_wp2_with fail
              rename_i K2 hK2'
              have HK2' := hide hK2'
              clear hK2'
              obtain ⟨e24, eBx⟩ := unhide HQ
              refine region_slotsA (r31V Bk bx t q m c ad9 c9) (r31C W10 Ok q (fun j => wAnsN ⟨fl, cp, mu⟩ gG n (secOf cs) rest0 (rawX bs) (t + j))) (by kernel_rfl) (by kernel_rfl) (by kernel_rfl) 221 (by kernel_rfl) rfl ?_ ?_ ?_
              · exact ⟨fun _ => still_drew W10, But.low (still_drew W10 _), fun h => by simp at h⟩
              · intro listed a' w2 i o hI ho hsz hl hd
                have hi : i < 16 := by simpa using (Array.getElem?_eq_some_iff.1 ho).1
                have hc : r31C W10 Ok q (fun j => wAnsN ⟨fl, cp, mu⟩ gG n (secOf cs) rest0 (rawX bs) (t + j)) listed a' w2 := hI.world
                have hsz' : listed.size = 16 := hsz
                have hz : 221 ≤ a'.tmps.size := Nat.le_of_eq hI.size.symm
                rcases (by omega : i = 0 ∨ i = 1 ∨ i = 2 ∨ i = 3 ∨ i = 4 ∨ i = 5 ∨ i = 6 ∨ i = 7 ∨ i = 8 ∨ i = 9 ∨ i = 10 ∨ i = 11 ∨ i = 12 ∨ i = 13 ∨ i = 14 ∨ i = 15) with rfl | rfl | rfl | rfl | rfl | rfl | rfl | rfl | rfl | rfl | rfl | rfl | rfl | rfl | rfl | rfl
                all_goals obtain rfl := Option.some.inj ho
                · exact (ok_move rfl rfl (hI.base 30 (by kernel_rfl)) rfl (fun u => hc.same 0 159 rfl (by omega) (by omega) u)).toR
                · exact (ok_move rfl rfl (hI.base 15 (by kernel_rfl)) rfl (fun u => hc.same 1 160 rfl (by omega) (by omega) u)).toR
                · exact (ok_move rfl rfl (hI.base 22 (by kernel_rfl)) rfl (fun u => hc.same 2 161 rfl (by omega) (by omega) u)).toR
                · exact (ok_move rfl rfl (hI.base 22 (by kernel_rfl)) rfl (fun u => hc.same 3 162 rfl (by omega) (by omega) u)).toR
                · exact (ok_load rfl rfl (hI.base 24 (by kernel_rfl)) (load_int _ _ _ (hc.bt.cell e24 hOknb)) rfl (fun u => hc.same 4 163 rfl (by omega) (by omega) u)).toR
                · exact .inl ⟨_, w2, run_addi w2 rfl (hI.slot 3 _ 162 rfl rfl (hd ⟨3, .data⟩ (by simp) rfl)) (hI.slot 4 _ 163 rfl rfl (hd ⟨4, .data⟩ (by simp) rfl)) (by omega), slot_of rfl rfl, (fun u => hc.same 5 164 rfl (by omega) (by omega) u) _⟩
                · exact .inl ⟨_, w2, run_cut w2 rfl (hI.slot 1 _ 160 rfl rfl (hd ⟨1, .data⟩ (by simp) rfl)) (hI.slot 2 _ 161 rfl rfl (hd ⟨2, .data⟩ (by simp) rfl)) (hI.slot 5 _ 164 rfl rfl (hd ⟨5, .data⟩ (by simp) rfl)) (by omega) (by omega), slot_of rfl rfl, (fun u => hc.same 6 165 rfl (by omega) (by omega) u) _⟩
                · have u7 := unlisted hl hsz' (by omega)
                  have hst := hc.st u7
                  have kA : a'.eval (.tmp 159) = .pointer (some ⟨Bk, 0, none⟩) := (hI.slot 0 _ 159 rfl rfl (hd ⟨0, .data⟩ (by simp) rfl))
                  have kB : a'.eval (.tmp 165) = .slice (some ⟨bx, t, none⟩) q (c - t) := (hI.slot 6 _ 165 rfl rfl (hd ⟨6, .data⟩ (by simp) rfl))
                  refine .inr (.inr ⟨11, #[a'.eval (.tmp 159), a'.eval (.tmp 165)], ?_, ?_⟩)
                  · simp [execOp]
                    go_simp
                  rw [kA, kB]
                  refine (K.push (v := .slice (some ⟨bx, t, none⟩) q (c - t)) (K.keep hAk10 (fun j hj => (hst (j + 1)).block j (by omega)) (hst 0).size) (xs_cut (hX10.below (hst _)) (by omega)) (fun b hb => cut_off hbx1 (hOkw b hb)) hn16 (by omega) (by omega) (cnt_le hn16 (by omega))).mono ?_
                  rintro e w5 ⟨A3, O3, rfl, _, _, _, hans3, _, _, hb5'⟩
                  exact ⟨_, rfl, slot_of rfl ⟨A3, rfl⟩, hc.push (by omega) hz rfl (hb5'.mono (fun k hk => hk.1)) (fun j hj => by obtain ⟨u, h1, h2⟩ := hans3 j hj; exact ⟨u, h1, by rw [wAnsN_add]; exact h2⟩)⟩
                · exact (ok_load rfl rfl (hI.base 21 (by kernel_rfl)) (load_cs _ _ _ _ _ (hc.bt.cell eBx hOkW)) rfl (fun u => hc.same 8 167 rfl (by omega) (by omega) u)).toR
                · exact (ok_load rfl rfl (hI.base 21 (by kernel_rfl)) (load_cs _ _ _ _ _ (hc.bt.cell eBx hOkW)) rfl (fun u => hc.same 9 168 rfl (by omega) (by omega) u)).toR
                · exact .inl ⟨_, w2, (run_lenc w2 rfl (hI.slot 9 _ 168 rfl rfl (hd ⟨9, .data⟩ (by simp) rfl))), slot_of rfl (by show Value.int _ _ = Value.int _ _; rw [Int.natCast_add]), (fun u => hc.same 10 169 rfl (by omega) (by omega) u) _⟩
                · exact (ok_load rfl rfl (hI.base 24 (by kernel_rfl)) (load_int _ _ _ (hc.bt.cell e24 hOknb)) rfl (fun u => hc.same 11 170 rfl (by omega) (by omega) u)).toR
                · exact .inl ⟨_, w2, run_subi w2 rfl (hI.slot 10 _ 169 rfl rfl (hd ⟨10, .data⟩ (by simp) rfl)) (hI.slot 11 _ 170 rfl rfl (hd ⟨11, .data⟩ (by simp) rfl)) (by omega), slot_of rfl rfl, (fun u => hc.same 12 171 rfl (by omega) (by omega) u) _⟩
                · have k167 : a'.eval (.tmp 167) = .slice ad9 (t + q) c9 := (hI.slot 8 _ 167 rfl rfl (hd ⟨8, .data⟩ (by simp) rfl))
                  have k171 : a'.eval (.tmp 171) = .int .i64 (t : Nat) := (hI.slot 12 _ 171 rfl rfl (hd ⟨12, .data⟩ (by simp) rfl))
                  rcases hform with ⟨r1', r2', r3'⟩ | ⟨b9, r1', r2'⟩
                  · have ht0 : t = 0 := by omega
                    have hq0 : q = 0 := by omega
                    rw [r1', r2', r3'] at k167
                    rw [ht0] at k171
                    exact .inl ⟨_, w2, run_tail0 w2 rfl k167 k171, slot_of rfl ⟨none, 0, by rw [hq0], fun h => by omega⟩, (fun u => hc.same 13 172 rfl (by omega) (by omega) u) _⟩
                  · rw [r1'] at k167
                    exact step_tail rfl k167 k171 r2' (fun ad g2 => ⟨slot_of rfl ⟨some ad, c9 - t, rfl, fun h => ⟨b9, r1', by rw [g2 h]⟩⟩, (fun u => hc.same 13 172 rfl (by omega) (by omega) u) _⟩)
                · have l7 := hd ⟨7, .data⟩ (by simp) rfl
                  obtain ⟨A3, kA⟩ := hI.slot 7 _ 166 rfl rfl l7
                  obtain ⟨ad, kk, kB, hB⟩ := (hI.slot 13 _ 172 rfl rfl (hd ⟨13, .data⟩ (by simp) rfl))
                  refine .inr (.inr ⟨15, #[a'.eval (.tmp 166), a'.eval (.tmp 172)], ?_, ?_⟩)
                  · simp [execOp]
                    go_simp
                  have hanA := hc.an l7 A3 _ _ kA
                  rw [kA, kB]
                  refine (lists_gen q q kk (some ⟨A3, 0, none⟩) ad (fun j => wAnsN ⟨fl, cp, mu⟩ gG n (secOf cs) rest0 (rawX bs) (t + j)) w2 (by omega) (fun j hj => by obtain ⟨u, h1, h2⟩ := hanA j hj; exact ⟨A3, 0, u, rfl, by rw [Nat.zero_add]; exact h1, h2⟩) (fun j hj => by
                    obtain ⟨b, g1, g2⟩ := hB (by omega)
                    obtain ⟨b', u, p1, p2, p3, p4, p5⟩ := hps (t + j) (by omega)
                    have hbb : b' = b := by rw [g1] at p1; injection p1 with p1; injection p1 with p1; exact p1.symm
                    subst hbb
                    exact ⟨b', t, u, g2, hc.bt.cell p4 (fun e => (hOk10 b' e).2.2.2 (by rw [g1]; rfl)), p5⟩)).mono ?_
                  rintro e w5 ⟨rfl, hs5'⟩
                  exact ⟨_, rfl, slot_of rfl rfl, hc.lists rfl l7 hs5' _⟩
                · exact .inl ⟨_, w2, run_nott w2 rfl (hI.slot 14 _ 173 rfl rfl (hd ⟨14, .data⟩ (by simp) rfl)), slot_of rfl rfl, (fun u => hc.same 15 174 rfl (by omega) (by omega) u) _⟩
              · intro listed a' w2 hI hall
                have k174 : a'.eval (.tmp 174) = .bool false := hI.slot 15 _ 174 rfl rfl (hall 15 (by decide))
                have hbt : But Ok W10 w2 := hI.world.bt
                have E := act_lit a' 221 hI.size
                rw [hI.defers] at E
                replace E : a' = ⟨#[a'.eval (.tmp 0), a'.eval (.tmp 1), a'.eval (.tmp 2), a'.eval (.tmp 3), a'.eval (.tmp 4), a'.eval (.tmp 5), a'.eval (.tmp 6), a'.eval (.tmp 7), a'.eval (.tmp 8), a'.eval (.tmp 9), a'.eval (.tmp 10), a'.eval (.tmp 11), a'.eval (.tmp 12), a'.eval (.tmp 13), a'.eval (.tmp 14), a'.eval (.tmp 15), a'.eval (.tmp 16), a'.eval (.tmp 17), a'.eval (.tmp 18), a'.eval (.tmp 19), a'.eval (.tmp 20), a'.eval (.tmp 21), a'.eval (.tmp 22), a'.eval (.tmp 23), a'.eval (.tmp 24), a'.eval (.tmp 25), a'.eval (.tmp 26), a'.eval (.tmp 27), a'.eval (.tmp 28), a'.eval (.tmp 29), a'.eval (.tmp 30), a'.eval (.tmp 31), a'.eval (.tmp 32), a'.eval (.tmp 33), a'.eval (.tmp 34), a'.eval (.tmp 35), a'.eval (.tmp 36), a'.eval (.tmp 37), a'.eval (.tmp 38), a'.eval (.tmp 39), a'.eval (.tmp 40), a'.eval (.tmp 41), a'.eval (.tmp 42), a'.eval (.tmp 43), a'.eval (.tmp 44), a'.eval (.tmp 45), a'.eval (.tmp 46), a'.eval (.tmp 47), a'.eval (.tmp 48), a'.eval (.tmp 49), a'.eval (.tmp 50), a'.eval (.tmp 51), a'.eval (.tmp 52), a'.eval (.tmp 53), a'.eval (.tmp 54), a'.eval (.tmp 55), a'.eval (.tmp 56), a'.eval (.tmp 57), a'.eval (.tmp 58), a'.eval (.tmp 59), a'.eval (.tmp 60), a'.eval (.tmp 61), a'.eval (.tmp 62), a'.eval (.tmp 63), a'.eval (.tmp 64), a'.eval (.tmp 65), a'.eval (.tmp 66), a'.eval (.tmp 67), a'.eval (.tmp 68), a'.eval (.tmp 69), a'.eval (.tmp 70), a'.eval (.tmp 71), a'.eval (.tmp 72), a'.eval (.tmp 73), a'.eval (.tmp 74), a'.eval (.tmp 75), a'.eval (.tmp 76), a'.eval (.tmp 77), a'.eval (.tmp 78), a'.eval (.tmp 79), a'.eval (.tmp 80), a'.eval (.tmp 81), a'.eval (.tmp 82), a'.eval (.tmp 83), a'.eval (.tmp 84), a'.eval (.tmp 85), a'.eval (.tmp 86), a'.eval (.tmp 87), a'.eval (.tmp 88), a'.eval (.tmp 89), a'.eval (.tmp 90), a'.eval (.tmp 91), a'.eval (.tmp 92), a'.eval (.tmp 93), a'.eval (.tmp 94), a'.eval (.tmp 95), a'.eval (.tmp 96), a'.eval (.tmp 97), a'.eval (.tmp 98), a'.eval (.tmp 99), a'.eval (.tmp 100), a'.eval (.tmp 101), a'.eval (.tmp 102), a'.eval (.tmp 103), a'.eval (.tmp 104), a'.eval (.tmp 105), a'.eval (.tmp 106), a'.eval (.tmp 107), a'.eval (.tmp 108), a'.eval (.tmp 109), a'.eval (.tmp 110), a'.eval (.tmp 111), a'.eval (.tmp 112), a'.eval (.tmp 113), a'.eval (.tmp 114), a'.eval (.tmp 115), a'.eval (.tmp 116), a'.eval (.tmp 117), a'.eval (.tmp 118), a'.eval (.tmp 119), a'.eval (.tmp 120), a'.eval (.tmp 121), a'.eval (.tmp 122), a'.eval (.tmp 123), a'.eval (.tmp 124), a'.eval (.tmp 125), a'.eval (.tmp 126), a'.eval (.tmp 127), a'.eval (.tmp 128), a'.eval (.tmp 129), a'.eval (.tmp 130), a'.eval (.tmp 131), a'.eval (.tmp 132), a'.eval (.tmp 133), a'.eval (.tmp 134), a'.eval (.tmp 135), a'.eval (.tmp 136), a'.eval (.tmp 137), a'.eval (.tmp 138), a'.eval (.tmp 139), a'.eval (.tmp 140), a'.eval (.tmp 141), a'.eval (.tmp 142), a'.eval (.tmp 143), a'.eval (.tmp 144), a'.eval (.tmp 145), a'.eval (.tmp 146), a'.eval (.tmp 147), a'.eval (.tmp 148), a'.eval (.tmp 149), a'.eval (.tmp 150), a'.eval (.tmp 151), a'.eval (.tmp 152), a'.eval (.tmp 153), a'.eval (.tmp 154), a'.eval (.tmp 155), a'.eval (.tmp 156), a'.eval (.tmp 157), a'.eval (.tmp 158), a'.eval (.tmp 159), a'.eval (.tmp 160), a'.eval (.tmp 161), a'.eval (.tmp 162), a'.eval (.tmp 163), a'.eval (.tmp 164), a'.eval (.tmp 165), a'.eval (.tmp 166), a'.eval (.tmp 167), a'.eval (.tmp 168), a'.eval (.tmp 169), a'.eval (.tmp 170), a'.eval (.tmp 171), a'.eval (.tmp 172), a'.eval (.tmp 173), a'.eval (.tmp 174), a'.eval (.tmp 175), a'.eval (.tmp 176), a'.eval (.tmp 177), a'.eval (.tmp 178), a'.eval (.tmp 179), a'.eval (.tmp 180), a'.eval (.tmp 181), a'.eval (.tmp 182), a'.eval (.tmp 183), a'.eval (.tmp 184), a'.eval (.tmp 185), a'.eval (.tmp 186), a'.eval (.tmp 187), a'.eval (.tmp 188), a'.eval (.tmp 189), a'.eval (.tmp 190), a'.eval (.tmp 191), a'.eval (.tmp 192), a'.eval (.tmp 193), a'.eval (.tmp 194), a'.eval (.tmp 195), a'.eval (.tmp 196), a'.eval (.tmp 197), a'.eval (.tmp 198), a'.eval (.tmp 199), a'.eval (.tmp 200), a'.eval (.tmp 201), a'.eval (.tmp 202), a'.eval (.tmp 203), a'.eval (.tmp 204), a'.eval (.tmp 205), a'.eval (.tmp 206), a'.eval (.tmp 207), a'.eval (.tmp 208), a'.eval (.tmp 209), a'.eval (.tmp 210), a'.eval (.tmp 211), a'.eval (.tmp 212), a'.eval (.tmp 213), a'.eval (.tmp 214), a'.eval (.tmp 215), a'.eval (.tmp 216), a'.eval (.tmp 217), a'.eval (.tmp 218), a'.eval (.tmp 219), a'.eval (.tmp 220)], _⟩ := E
                rw [hI.base 2 (by kernel_rfl), hI.base 12 (by kernel_rfl), hI.base 15 (by kernel_rfl), hI.base 16 (by kernel_rfl), hI.base 20 (by kernel_rfl), hI.base 21 (by kernel_rfl), hI.base 22 (by kernel_rfl), hI.base 23 (by kernel_rfl), hI.base 24 (by kernel_rfl), k174] at E
                clear hI hall k174
                obtain ⟨u', hu'⟩ : ∃ u : Nat → Value, a' = { tmps := #[u 0, u 1, .slice adc lc cc, u 3, u 4, u 5, u 6, u 7, u 8, u 9, u 10, u 11, .pointer (some ⟨w.heap.size, 0, none⟩), u 13, u 14, .slice (some ⟨bx, 0, none⟩) m c, .pointer (some ⟨Br, 0, none⟩), u 17, u 18, u 19, .slice (some ⟨Aw, 0, none⟩) m m, .pointer (some ⟨W.heap.size, 0, none⟩), .int .i64 (t : Nat), .int .i64 (k : Nat), .pointer (some ⟨nb, 0, none⟩), u 25, u 26, u 27, u 28, u 29, u 30, u 31, u 32, u 33, u 34, u 35, u 36, u 37, u 38, u 39, u 40, u 41, u 42, u 43, u 44, u 45, u 46, u 47, u 48, u 49, u 50, u 51, u 52, u 53, u 54, u 55, u 56, u 57, u 58, u 59, u 60, u 61, u 62, u 63, u 64, u 65, u 66, u 67, u 68, u 69, u 70, u 71, u 72, u 73, u 74, u 75, u 76, u 77, u 78, u 79, u 80, u 81, u 82, u 83, u 84, u 85, u 86, u 87, u 88, u 89, u 90, u 91, u 92, u 93, u 94, u 95, u 96, u 97, u 98, u 99, u 100, u 101, u 102, u 103, u 104, u 105, u 106, u 107, u 108, u 109, u 110, u 111, u 112, u 113, u 114, u 115, u 116, u 117, u 118, u 119, u 120, u 121, u 122, u 123, u 124, u 125, u 126, u 127, u 128, u 129, u 130, u 131, u 132, u 133, u 134, u 135, u 136, u 137, u 138, u 139, u 140, u 141, u 142, u 143, u 144, u 145, u 146, u 147, u 148, u 149, u 150, u 151, u 152, u 153, u 154, u 155, u 156, u 157, u 158, u 159, u 160, u 161, u 162, u 163, u 164, u 165, u 166, u 167, u 168, u 169, u 170, u 171, u 172, u 173, .bool false, u 175, u 176, u 177, u 178, u 179, u 180, u 181, u 182, u 183, u 184, u 185, u 186, u 187, u 188, u 189, u 190, u 191, u 192, u 193, u 194, u 195, u 196, u 197, u 198, u 199, u 200, u 201, u 202, u 203, u 204, u 205, u 206, u 207, u 208, u 209, u 210, u 211, u 212, u 213, u 214, u 215, u 216, u 217, u 218, u 219, u 220], defers := Ds.map mark } := ⟨fun x => a'.eval (.tmp x), E⟩
                clear E
                subst hu'
                refine unhide HK2' _ _ ?_
                have HE := hide (And.intro ((hbt.block nb hnb10.lt hOknb).trans hnb10) (hS10.other2 hbt hOk10))
                clear hbt HK2' hS10 hnb10 hAk10 hOk10 hps hX10 e24 eBx HQ
                go_wp2_with fail
                exact unhide HX _ _ ⟨Ds, Br, O9, _, ps9, of_frame ⟨(unhide HE).1, (unhide HE).2⟩ rfl⟩
            have HK1 := hide hrest2
            clear hrest2 hK1
            refine wp_region_noPanic ?_
            go_region_law (first
              | (refine step_append_at (by rfl) _ _ 31 (by rfl) (W.heap.size + 1) 24 i0 (.complex .f64 0 0) 1 16 Try.underlying31 hi hz0 hz1 hz2 rfl Nat.one_pos v t ps (by rfl) hS9.own ⟨A2, 0, none⟩ q q (cellsOf w9 A2 q) (by rfl) n1 n2 n3 (by unfold maxLen; omega) (by omega) hs9 ?_; intro v10 w10 hown10 hg10 hv10; obtain ⟨ad10, c10, rfl⟩ := row_form hown10; have hgc10 : w10.cell? ⟨W.heap.size, 0, none⟩ = some v := (hS9.box.kept hg10 (fun e => by have := (hS9.own.lt _ e.symm).1; omega)).cell; have hgf10 : w10.frozen? ⟨W.heap.size, 0, none⟩ = false := (hS9.box.kept hg10 (fun e => by have := (hS9.own.lt _ e.symm).1; omega)).frozen)
              | (go_simp; go_at_call 11; refine (unhide HP8).mono ?_; rintro e w9 ⟨A2, O9, rfl, hA21, hA22, hA23, hans2, hS9, hbut9, hO9⟩; have hgc9 := hS9.box.cell; have hgf9 := hS9.box.frozen; obtain ⟨n1, n2, n3, n4⟩ := ans_cells hans2; have hs9 : W.heap.size + 1 ≤ w9.heap.size := hS9.box.lt; dsimp only))
            all_goals refine NoPanic.normal ?_
            all_goals
              obtain ⟨hS8, hSd8, hAk8, hnb8, hX8, hOkN, hOrnb, hOknb⟩ := unhide H8
              obtain ⟨hnB, hnW, hnO, hnD, hnv⟩ := unhide HN
              refine unhide HK1 _ _ (of_frame ⟨_, _, O9, hS9.append hg10 hown10 hv10 n4, box_kept hnb8 hbut9 (fun e => ?_) hg10 hnv hnW, K.keep hAk8 (fun j hj => ?_) ?_, fun j hj => ?_⟩ rfl) hOknb
              · exact hOrnb e
              · obtain ⟨o1, o2, o3, o4, _⟩ := hOkN j hj
                exact (Below.heap_setCell _ _ _ _ o2).trans ((hg10.block j (Nat.lt_of_lt_of_le o4 hbut9.size) o3).trans (hbut9.block j o4 o1))
              · have e1 := hbut9.size
                have e2 := hg10.size
                have e3 : w8.drew.heap.size = w8.heap.size := rfl
                simp only [World.size_setCell]; omega
              · obtain ⟨o1, o2, o3, o4, o5, o6⟩ := hOkN j hj
                have e1 := hbut9.size
                have e3 : w8.drew.heap.size = w8.heap.size := rfl
                refine ⟨o5, fun e => (hO9 j e).elim o1 (fun e => by omega), o6, fun e => ?_⟩
                rcases hv10 with h | h
                · exact o3 (e.trans h)
                · rw [h] at e; have := Option.some.inj e; omega
          have HK0 := hide hrest
          clear hrest hK0
          refine region_slotsG (h26V Br Bk Pb n pc sB) (h26C w6' n gG (secOf cs) ⟨fl, cp, mu⟩ (wStN ⟨fl, cp, mu⟩ gG n (secOf cs) rest0 (rawX bs) t) t (wCntN ⟨fl, cp, mu⟩ gG n (secOf cs) rest0 (rawX bs) t)) (by kernel_rfl) (by kernel_rfl) (by kernel_rfl) 221 (by kernel_rfl) rfl ?_ ?_ ?_
          · exact ⟨still_drew w6' _, fun h => by simp at h, fun h => by simp at h⟩
          · intro listed a' w2 i o hI ho hsz hl hd
            have hi : i < 26 := by simpa using (Array.getElem?_eq_some_iff.1 ho).1
            have hc : h26C w6' n gG (secOf cs) ⟨fl, cp, mu⟩ (wStN ⟨fl, cp, mu⟩ gG n (secOf cs) rest0 (rawX bs) t) t (wCntN ⟨fl, cp, mu⟩ gG n (secOf cs) rest0 (rawX bs) t) listed a' w2 := hI.world
            have hz : 221 ≤ a'.tmps.size := Nat.le_of_eq hI.size.symm
            rcases (by omega : i = 0 ∨ i = 1 ∨ i = 2 ∨ i = 3 ∨ i = 4 ∨ i = 5 ∨ i = 6 ∨ i = 7 ∨ i = 8 ∨ i = 9 ∨ i = 10 ∨ i = 11 ∨ i = 12 ∨ i = 13 ∨ i = 14 ∨ i = 15 ∨ i = 16 ∨ i = 17 ∨ i = 18 ∨ i = 19 ∨ i = 20 ∨ i = 21 ∨ i = 22 ∨ i = 23 ∨ i = 24 ∨ i = 25) with rfl | rfl | rfl | rfl | rfl | rfl | rfl | rfl | rfl | rfl | rfl | rfl | rfl | rfl | rfl | rfl | rfl | rfl | rfl | rfl | rfl | rfl | rfl | rfl | rfl | rfl
            all_goals obtain rfl := Option.some.inj ho
            · exact ⟨wanted_none rfl, (ok_move rfl rfl (hI.base 29 (by kernel_rfl)) rfl (fun u => hc.same 0 119 rfl (by omega) (by omega) u)).toR⟩
            · refine ⟨wanted_none rfl, ?_⟩
              have k119 : a'.eval (.tmp 119) = .int .i64 0 := (hI.slot 0 _ 119 rfl rfl (hd ⟨0, .data⟩ (by simp) rfl))
              exact .inl ⟨.bool false, w2, run_neq0 w2 rfl k119, slot_of rfl rfl, (fun u => hc.same 1 120 rfl (by omega) (by omega) u) _⟩
            · exact ⟨wanted_none rfl, (ok_move rfl rfl (hI.slot 1 _ 120 rfl rfl (hd ⟨1, .data⟩ (by simp) rfl)) rfl (fun u => hc.same 2 121 rfl (by omega) (by omega) u)).toR⟩
            · exact ⟨wanted_no rfl rfl rfl (hI.slot 2 _ 121 rfl rfl (hd ⟨2, .guard⟩ (by simp) rfl)), (ok_move rfl rfl (hI.base 28 (by kernel_rfl)) rfl (fun u => hc.same 3 122 rfl (by omega) (by omega) u)).toR⟩
            · refine ⟨wanted_no rfl rfl rfl (hI.slot 2 _ 121 rfl rfl (hd ⟨2, .guard⟩ (by simp) rfl)), ?_⟩
              have k122 : a'.eval (.tmp 122) = .pointer (some ⟨Br, 0, none⟩) := (hI.slot 3 _ 122 rfl rfl (hd ⟨3, .data⟩ (by simp) rfl))
              exact .inl ⟨.bool false, w2, run_eqlp w2 rfl k122, slot_of rfl rfl, (fun u => hc.same 4 123 rfl (by omega) (by omega) u) _⟩
            · refine ⟨wanted_none rfl, ?_⟩
              have k121 : a'.eval (.tmp 121) = .bool false := (hI.slot 2 _ 121 rfl rfl (hd ⟨2, .data⟩ (by simp) rfl))
              have k123 : a'.eval (.tmp 123) = .bool false := (hI.slot 4 _ 123 rfl rfl (hd ⟨4, .data⟩ (by simp) rfl))
              exact .inl ⟨.bool false, w2, run_pickf w2 rfl k121 k123, slot_of rfl rfl, (fun u => hc.same 5 124 rfl (by omega) (by omega) u) _⟩
            · exact ⟨wanted_none rfl, (ok_move rfl rfl (hI.slot 5 _ 124 rfl rfl (hd ⟨5, .data⟩ (by simp) rfl)) rfl (fun u => hc.same 6 125 rfl (by omega) (by omega) u)).toR⟩
            · exact ⟨wanted_no rfl rfl rfl (hI.slot 6 _ 125 rfl rfl (hd ⟨6, .guard⟩ (by simp) rfl)), (ok_move rfl rfl (hI.base 30 (by kernel_rfl)) rfl (fun u => hc.same 7 126 rfl (by omega) (by omega) u)).toR⟩
            · refine ⟨wanted_no rfl rfl rfl (hI.slot 6 _ 125 rfl rfl (hd ⟨6, .guard⟩ (by simp) rfl)), ?_⟩
              have k126 : a'.eval (.tmp 126) = .pointer (some ⟨Bk, 0, none⟩) := (hI.slot 7 _ 126 rfl rfl (hd ⟨7, .data⟩ (by simp) rfl))
              exact .inl ⟨.bool false, w2, run_eqlp w2 rfl k126, slot_of rfl rfl, (fun u => hc.same 8 127 rfl (by omega) (by omega) u) _⟩
            · refine ⟨wanted_none rfl, ?_⟩
              have k125 : a'.eval (.tmp 125) = .bool false := (hI.slot 6 _ 125 rfl rfl (hd ⟨6, .data⟩ (by simp) rfl))
              have k127 : a'.eval (.tmp 127) = .bool false := (hI.slot 8 _ 127 rfl rfl (hd ⟨8, .data⟩ (by simp) rfl))
              exact .inl ⟨.bool false, w2, run_pickf w2 rfl k125 k127, slot_of rfl rfl, (fun u => hc.same 9 128 rfl (by omega) (by omega) u) _⟩
            · exact ⟨wanted_none rfl, (ok_move rfl rfl (hI.slot 9 _ 128 rfl rfl (hd ⟨9, .data⟩ (by simp) rfl)) rfl (fun u => hc.same 10 129 rfl (by omega) (by omega) u)).toR⟩
            · exact ⟨wanted_no rfl rfl rfl (hI.slot 10 _ 129 rfl rfl (hd ⟨10, .guard⟩ (by simp) rfl)), (ok_move rfl rfl (hI.base 28 (by kernel_rfl)) rfl (fun u => hc.same 11 130 rfl (by omega) (by omega) u)).toR⟩
            · refine ⟨wanted_no rfl rfl rfl (hI.slot 10 _ 129 rfl rfl (hd ⟨10, .guard⟩ (by simp) rfl)), ?_⟩
              have kA : a'.eval (.tmp 130) = .pointer (some ⟨Br, 0, none⟩) := (hI.slot 11 _ 130 rfl rfl (hd ⟨11, .data⟩ (by simp) rfl))
              refine .inr (.inr ⟨9, #[a'.eval (.tmp 130)], ?_, ?_⟩)
              · simp [execOp]
                go_simp
              rw [kA]
              refine (K.save (K.keep (unhide HF).2.1 (fun j hj => hc.low.block j ((K.lt (unhide HF).2.1).1 j hj)) hc.low.size) hn16).mono ?_
              rintro e wA ⟨P1, pc1, rfl, _, hp12, hs1, hbA, _, _⟩
              exact ⟨_, rfl, slot_of rfl ⟨P1, pc1, rfl⟩, hc.save1 hz rfl hbA hp12 hs1⟩
            · refine ⟨wanted_no rfl rfl rfl (hI.slot 10 _ 129 rfl rfl (hd ⟨10, .guard⟩ (by simp) rfl)), ?_⟩
              have lk := hd ⟨12, .data⟩ (by simp) rfl
              obtain ⟨P, kc, kA⟩ := hI.slot 12 _ 131 rfl rfl lk
              obtain ⟨_, hSv⟩ := hc.s1 lk P _ _ kA
              have v := saved_string (cap := kc) hSv hn16
              rw [hsB] at v
              refine .inl ⟨.string sB, w2, ?_, slot_of rfl rfl, (fun u => hc.same 13 132 rfl (by omega) (by omega) u) _⟩
              simp [execOp, kA, v]
            · exact ⟨wanted_no rfl rfl rfl (hI.slot 10 _ 129 rfl rfl (hd ⟨10, .guard⟩ (by simp) rfl)), (ok_move rfl rfl (hI.base 27 (by kernel_rfl)) rfl (fun u => hc.same 14 133 rfl (by omega) (by omega) u)).toR⟩
            · refine ⟨wanted_no rfl rfl rfl (hI.slot 10 _ 129 rfl rfl (hd ⟨10, .guard⟩ (by simp) rfl)), ?_⟩
              have kA : a'.eval (.tmp 133) = .slice (some ⟨Pb, 0, none⟩) (38 + 112 * n) pc := (hI.slot 14 _ 133 rfl rfl (hd ⟨14, .data⟩ (by simp) rfl))
              have v := saved_string (cap := pc) ((unhide HF).1.low hPw hc.low) hn16
              rw [hsB] at v
              refine .inl ⟨.string sB, w2, ?_, slot_of rfl rfl, (fun u => hc.same 15 134 rfl (by omega) (by omega) u) _⟩
              simp [execOp, kA, v]
            · refine ⟨wanted_no rfl rfl rfl (hI.slot 10 _ 129 rfl rfl (hd ⟨10, .guard⟩ (by simp) rfl)), ?_⟩
              have k132 : a'.eval (.tmp 132) = .string sB := (hI.slot 13 _ 132 rfl rfl (hd ⟨13, .data⟩ (by simp) rfl))
              have k134 : a'.eval (.tmp 134) = .string sB := (hI.slot 15 _ 134 rfl rfl (hd ⟨15, .data⟩ (by simp) rfl))
              exact .inl ⟨.bool false, w2, run_neqs w2 rfl k132 k134, slot_of rfl rfl, (fun u => hc.same 16 135 rfl (by omega) (by omega) u) _⟩
            · refine ⟨wanted_none rfl, ?_⟩
              have k129 : a'.eval (.tmp 129) = .bool false := (hI.slot 10 _ 129 rfl rfl (hd ⟨10, .data⟩ (by simp) rfl))
              have k135 : a'.eval (.tmp 135) = .bool false := (hI.slot 16 _ 135 rfl rfl (hd ⟨16, .data⟩ (by simp) rfl))
              exact .inl ⟨.bool false, w2, run_pickf w2 rfl k129 k135, slot_of rfl rfl, (fun u => hc.same 17 136 rfl (by omega) (by omega) u) _⟩
            · exact ⟨wanted_none rfl, (ok_move rfl rfl (hI.slot 17 _ 136 rfl rfl (hd ⟨17, .data⟩ (by simp) rfl)) rfl (fun u => hc.same 18 137 rfl (by omega) (by omega) u)).toR⟩
            · exact ⟨wanted_no rfl rfl rfl (hI.slot 18 _ 137 rfl rfl (hd ⟨18, .guard⟩ (by simp) rfl)), (ok_move rfl rfl (hI.base 30 (by kernel_rfl)) rfl (fun u => hc.same 19 138 rfl (by omega) (by omega) u)).toR⟩
            · refine ⟨wanted_no rfl rfl rfl (hI.slot 18 _ 137 rfl rfl (hd ⟨18, .guard⟩ (by simp) rfl)), ?_⟩
              have kA : a'.eval (.tmp 138) = .pointer (some ⟨Bk, 0, none⟩) := (hI.slot 19 _ 138 rfl rfl (hd ⟨19, .data⟩ (by simp) rfl))
              refine .inr (.inr ⟨9, #[a'.eval (.tmp 138)], ?_, ?_⟩)
              · simp [execOp]
                go_simp
              rw [kA]
              refine (K.save (K.keep (unhide HF).2.2.1 (fun j hj => hc.low.block j ((K.lt (unhide HF).2.2.1).1 j hj)) hc.low.size) hn16).mono ?_
              rintro e wA ⟨P1, pc1, rfl, _, hp12, hs1, hbA, _, _⟩
              exact ⟨_, rfl, slot_of rfl ⟨P1, pc1, rfl⟩, hc.save2 hz rfl hbA hp12 hs1⟩
            · refine ⟨wanted_no rfl rfl rfl (hI.slot 18 _ 137 rfl rfl (hd ⟨18, .guard⟩ (by simp) rfl)), ?_⟩
              have lk := hd ⟨20, .data⟩ (by simp) rfl
              obtain ⟨P, kc, kA⟩ := hI.slot 20 _ 139 rfl rfl lk
              obtain ⟨_, hSv⟩ := hc.s2 lk P _ _ kA
              have v := saved_string (cap := kc) hSv hn16
              rw [hsB] at v
              refine .inl ⟨.string sB, w2, ?_, slot_of rfl rfl, (fun u => hc.same 21 140 rfl (by omega) (by omega) u) _⟩
              simp [execOp, kA, v]
            · exact ⟨wanted_no rfl rfl rfl (hI.slot 18 _ 137 rfl rfl (hd ⟨18, .guard⟩ (by simp) rfl)), (ok_move rfl rfl (hI.base 27 (by kernel_rfl)) rfl (fun u => hc.same 22 141 rfl (by omega) (by omega) u)).toR⟩
            · refine ⟨wanted_no rfl rfl rfl (hI.slot 18 _ 137 rfl rfl (hd ⟨18, .guard⟩ (by simp) rfl)), ?_⟩
              have kA : a'.eval (.tmp 141) = .slice (some ⟨Pb, 0, none⟩) (38 + 112 * n) pc := (hI.slot 22 _ 141 rfl rfl (hd ⟨22, .data⟩ (by simp) rfl))
              have v := saved_string (cap := pc) ((unhide HF).1.low hPw hc.low) hn16
              rw [hsB] at v
              refine .inl ⟨.string sB, w2, ?_, slot_of rfl rfl, (fun u => hc.same 23 142 rfl (by omega) (by omega) u) _⟩
              simp [execOp, kA, v]
            · refine ⟨wanted_no rfl rfl rfl (hI.slot 18 _ 137 rfl rfl (hd ⟨18, .guard⟩ (by simp) rfl)), ?_⟩
              have k140 : a'.eval (.tmp 140) = .string sB := (hI.slot 21 _ 140 rfl rfl (hd ⟨21, .data⟩ (by simp) rfl))
              have k142 : a'.eval (.tmp 142) = .string sB := (hI.slot 23 _ 142 rfl rfl (hd ⟨23, .data⟩ (by simp) rfl))
              exact .inl ⟨.bool false, w2, run_neqs w2 rfl k140 k142, slot_of rfl rfl, (fun u => hc.same 24 143 rfl (by omega) (by omega) u) _⟩
            · refine ⟨wanted_none rfl, ?_⟩
              have k137 : a'.eval (.tmp 137) = .bool false := (hI.slot 18 _ 137 rfl rfl (hd ⟨18, .data⟩ (by simp) rfl))
              have k143 : a'.eval (.tmp 143) = .bool false := (hI.slot 24 _ 143 rfl rfl (hd ⟨24, .data⟩ (by simp) rfl))
              exact .inl ⟨.bool false, w2, run_pickf w2 rfl k137 k143, slot_of rfl rfl, (fun u => hc.same 25 144 rfl (by omega) (by omega) u) _⟩
          · intro listed a' w2 hI hall
            have k144 : a'.eval (.tmp 144) = .bool false := hI.slot 25 _ 144 rfl rfl (hall 25 (by decide))
            have hlow : Below w6'.heap.size w6' w2 := hI.world.low
            have E := act_lit a' 221 hI.size
            rw [hI.defers] at E
            replace E : a' = ⟨#[a'.eval (.tmp 0), a'.eval (.tmp 1), a'.eval (.tmp 2), a'.eval (.tmp 3), a'.eval (.tmp 4), a'.eval (.tmp 5), a'.eval (.tmp 6), a'.eval (.tmp 7), a'.eval (.tmp 8), a'.eval (.tmp 9), a'.eval (.tmp 10), a'.eval (.tmp 11), a'.eval (.tmp 12), a'.eval (.tmp 13), a'.eval (.tmp 14), a'.eval (.tmp 15), a'.eval (.tmp 16), a'.eval (.tmp 17), a'.eval (.tmp 18), a'.eval (.tmp 19), a'.eval (.tmp 20), a'.eval (.tmp 21), a'.eval (.tmp 22), a'.eval (.tmp 23), a'.eval (.tmp 24), a'.eval (.tmp 25), a'.eval (.tmp 26), a'.eval (.tmp 27), a'.eval (.tmp 28), a'.eval (.tmp 29), a'.eval (.tmp 30), a'.eval (.tmp 31), a'.eval (.tmp 32), a'.eval (.tmp 33), a'.eval (.tmp 34), a'.eval (.tmp 35), a'.eval (.tmp 36), a'.eval (.tmp 37), a'.eval (.tmp 38), a'.eval (.tmp 39), a'.eval (.tmp 40), a'.eval (.tmp 41), a'.eval (.tmp 42), a'.eval (.tmp 43), a'.eval (.tmp 44), a'.eval (.tmp 45), a'.eval (.tmp 46), a'.eval (.tmp 47), a'.eval (.tmp 48), a'.eval (.tmp 49), a'.eval (.tmp 50), a'.eval (.tmp 51), a'.eval (.tmp 52), a'.eval (.tmp 53), a'.eval (.tmp 54), a'.eval (.tmp 55), a'.eval (.tmp 56), a'.eval (.tmp 57), a'.eval (.tmp 58), a'.eval (.tmp 59), a'.eval (.tmp 60), a'.eval (.tmp 61), a'.eval (.tmp 62), a'.eval (.tmp 63), a'.eval (.tmp 64), a'.eval (.tmp 65), a'.eval (.tmp 66), a'.eval (.tmp 67), a'.eval (.tmp 68), a'.eval (.tmp 69), a'.eval (.tmp 70), a'.eval (.tmp 71), a'.eval (.tmp 72), a'.eval (.tmp 73), a'.eval (.tmp 74), a'.eval (.tmp 75), a'.eval (.tmp 76), a'.eval (.tmp 77), a'.eval (.tmp 78), a'.eval (.tmp 79), a'.eval (.tmp 80), a'.eval (.tmp 81), a'.eval (.tmp 82), a'.eval (.tmp 83), a'.eval (.tmp 84), a'.eval (.tmp 85), a'.eval (.tmp 86), a'.eval (.tmp 87), a'.eval (.tmp 88), a'.eval (.tmp 89), a'.eval (.tmp 90), a'.eval (.tmp 91), a'.eval (.tmp 92), a'.eval (.tmp 93), a'.eval (.tmp 94), a'.eval (.tmp 95), a'.eval (.tmp 96), a'.eval (.tmp 97), a'.eval (.tmp 98), a'.eval (.tmp 99), a'.eval (.tmp 100), a'.eval (.tmp 101), a'.eval (.tmp 102), a'.eval (.tmp 103), a'.eval (.tmp 104), a'.eval (.tmp 105), a'.eval (.tmp 106), a'.eval (.tmp 107), a'.eval (.tmp 108), a'.eval (.tmp 109), a'.eval (.tmp 110), a'.eval (.tmp 111), a'.eval (.tmp 112), a'.eval (.tmp 113), a'.eval (.tmp 114), a'.eval (.tmp 115), a'.eval (.tmp 116), a'.eval (.tmp 117), a'.eval (.tmp 118), a'.eval (.tmp 119), a'.eval (.tmp 120), a'.eval (.tmp 121), a'.eval (.tmp 122), a'.eval (.tmp 123), a'.eval (.tmp 124), a'.eval (.tmp 125), a'.eval (.tmp 126), a'.eval (.tmp 127), a'.eval (.tmp 128), a'.eval (.tmp 129), a'.eval (.tmp 130), a'.eval (.tmp 131), a'.eval (.tmp 132), a'.eval (.tmp 133), a'.eval (.tmp 134), a'.eval (.tmp 135), a'.eval (.tmp 136), a'.eval (.tmp 137), a'.eval (.tmp 138), a'.eval (.tmp 139), a'.eval (.tmp 140), a'.eval (.tmp 141), a'.eval (.tmp 142), a'.eval (.tmp 143), a'.eval (.tmp 144), a'.eval (.tmp 145), a'.eval (.tmp 146), a'.eval (.tmp 147), a'.eval (.tmp 148), a'.eval (.tmp 149), a'.eval (.tmp 150), a'.eval (.tmp 151), a'.eval (.tmp 152), a'.eval (.tmp 153), a'.eval (.tmp 154), a'.eval (.tmp 155), a'.eval (.tmp 156), a'.eval (.tmp 157), a'.eval (.tmp 158), a'.eval (.tmp 159), a'.eval (.tmp 160), a'.eval (.tmp 161), a'.eval (.tmp 162), a'.eval (.tmp 163), a'.eval (.tmp 164), a'.eval (.tmp 165), a'.eval (.tmp 166), a'.eval (.tmp 167), a'.eval (.tmp 168), a'.eval (.tmp 169), a'.eval (.tmp 170), a'.eval (.tmp 171), a'.eval (.tmp 172), a'.eval (.tmp 173), a'.eval (.tmp 174), a'.eval (.tmp 175), a'.eval (.tmp 176), a'.eval (.tmp 177), a'.eval (.tmp 178), a'.eval (.tmp 179), a'.eval (.tmp 180), a'.eval (.tmp 181), a'.eval (.tmp 182), a'.eval (.tmp 183), a'.eval (.tmp 184), a'.eval (.tmp 185), a'.eval (.tmp 186), a'.eval (.tmp 187), a'.eval (.tmp 188), a'.eval (.tmp 189), a'.eval (.tmp 190), a'.eval (.tmp 191), a'.eval (.tmp 192), a'.eval (.tmp 193), a'.eval (.tmp 194), a'.eval (.tmp 195), a'.eval (.tmp 196), a'.eval (.tmp 197), a'.eval (.tmp 198), a'.eval (.tmp 199), a'.eval (.tmp 200), a'.eval (.tmp 201), a'.eval (.tmp 202), a'.eval (.tmp 203), a'.eval (.tmp 204), a'.eval (.tmp 205), a'.eval (.tmp 206), a'.eval (.tmp 207), a'.eval (.tmp 208), a'.eval (.tmp 209), a'.eval (.tmp 210), a'.eval (.tmp 211), a'.eval (.tmp 212), a'.eval (.tmp 213), a'.eval (.tmp 214), a'.eval (.tmp 215), a'.eval (.tmp 216), a'.eval (.tmp 217), a'.eval (.tmp 218), a'.eval (.tmp 219), a'.eval (.tmp 220)], _⟩ := E
            rw [hI.base 2 (by kernel_rfl), hI.base 12 (by kernel_rfl), hI.base 15 (by kernel_rfl), hI.base 16 (by kernel_rfl), hI.base 20 (by kernel_rfl), hI.base 21 (by kernel_rfl), hI.base 22 (by kernel_rfl), hI.base 23 (by kernel_rfl), hI.base 24 (by kernel_rfl), hI.base 27 (by kernel_rfl), hI.base 28 (by kernel_rfl), hI.base 29 (by kernel_rfl), hI.base 30 (by kernel_rfl), k144] at E
            exact unhide HK0 _ _ ⟨fun x => a'.eval (.tmp x), hlow, E⟩
    · intro KJ hKJ
      have HJ := hide hKJ
      clear hKJ
      have i0 : (0 : Int) ≤ (k : Int) := by omega
      by_cases hik : k < lc
      · have i2 : (k : Int) < (lc : Int) := by omega
        have i9 : ¬ ((2 : Int) * (lc : Int) + 2 ≤ (k : Int)) := by omega
        obtain ⟨bc, offc, rfl, hbc, hu256, hcc⟩ := (unhide HW).1.cuts k hik
        have hbcW : bc < wr.heap.size := by have := (unhide HS).but.size; have := (unhide HW).1.hN; omega
        have hck : wr.cell? ⟨bc, offc + k, none⟩ = some (.int .u8 (us k)) := (unhide HS).but.cell hcc (fun e => by have := ((unhide HW).2.2.2 bc e).1; omega)
        obtain ⟨Q, hQ⟩ : ∃ Q : Nat, (us k : Int) % 8 = (Q : Int) := ⟨us k % 8, by omega⟩
        have hQ8 : Q < 8 := by omega
        clear hcc
        by_cases hle2 : Q ≤ m - t
        · have i3 : (Q : Int) ≤ (m : Int) - (t : Int) := by omega
          go_wp2_with fail
          exact unhide HJ _ _ ⟨Q, wr.heap.size, of_frame (CutIn.of (unhide HS) (by omega) (by omega) (by omega)) rfl⟩
        · obtain ⟨R, hR⟩ : ∃ R : Nat, (m : Int) - (t : Int) = (R : Int) := ⟨m - t, by omega⟩
          have i3 : (R : Int) < (Q : Int) := by omega
          go_wp2_with fail
          exact unhide HJ _ _ ⟨R, wr.heap.size, of_frame (CutIn.of (unhide HS) (by omega) (by omega) (by omega)) rfl⟩
      · have i2 : ¬ ((k : Int) < (lc : Int)) := by omega
        by_cases hi9 : k < 2 * lc + 2
        · have i9 : ¬ ((2 : Int) * (lc : Int) + 2 ≤ (k : Int)) := by omega
          by_cases hle2 : 2 ≤ m - t
          · have i3 : (2 : Int) ≤ (m : Int) - (t : Int) := by omega
            go_wp2_with fail
            exact unhide HJ _ _ ⟨2, wr.heap.size, of_frame (CutIn.of (q := 2) (unhide HS) (by omega) (by omega) (by omega)) rfl⟩
          · obtain ⟨R, hR⟩ : ∃ R : Nat, (m : Int) - (t : Int) = (R : Int) := ⟨m - t, by omega⟩
            have i3 : (R : Int) < (2 : Int) := by omega
            go_wp2_with fail
            exact unhide HJ _ _ ⟨R, wr.heap.size, of_frame (CutIn.of (unhide HS) (by omega) (by omega) (by omega)) rfl⟩
        · have i9 : (2 : Int) * (lc : Int) + 2 ≤ (k : Int) := by omega
          by_cases hle2 : 3 ≤ m - t
          · have i3 : (3 : Int) ≤ (m : Int) - (t : Int) := by omega
            go_wp2_with fail
            exact unhide HJ _ _ ⟨3, wr.heap.size, of_frame (CutIn.of (q := 3) (unhide HS) (by omega) (by omega) (by omega)) rfl⟩
          · obtain ⟨R, hR⟩ : ∃ R : Nat, (m : Int) - (t : Int) = (R : Int) := ⟨m - t, by omega⟩
            have i3 : (R : Int) < (3 : Int) := by omega
            go_wp2_with fail
            exact unhide HJ _ _ ⟨R, wr.heap.size, of_frame (CutIn.of (unhide HS) (by omega) (by omega) (by omega)) rfl⟩
  · have htme : t = m := by omega
    subst htme
    obtain ⟨adp, cp', rfl, hpl⟩ := ps_list hS.own hS.got
    have hbx := hS.box.cell
    have hAwO : ¬ O0 Aw := fun e => by have := (unhide HW).2.2.2 Aw e; omega
    have HL := hide (lists_gen t cp' t adp (some ⟨Aw, 0, none⟩) _ wr (by omega) (fun j hj => by
        obtain ⟨b, u, h1, h2, h3, h4, h5⟩ := hpl j hj
        exact ⟨b, 0, u, h1, by rw [Nat.zero_add]; exact h4, h5⟩) (fun j hj => by
        obtain ⟨u, h1, h2⟩ := (unhide HW).2.2.1 j hj
        exact ⟨Aw, 0, u, rfl, by rw [Nat.zero_add]; exact hS.but.cell h1 hAwO, h2⟩))
    have HS := hide hS
    clear hS hpl
    go_wp2_with fail
    refine (unhide HL).mono ?_
    rintro e w8 ⟨rfl, hs8⟩
    have hS8 := (unhide HS).below (hs8 _)
    have hR8 : w8.cell? ⟨w.heap.size, 0, none⟩ = some (.bool false) := hS8.but.cell (unhide HW).1.res (fun (e : O0 w.heap.size) => by have := ((unhide HW).2.2.2 _ e).1; have := (unhide HW).1.hR; omega)
    have hf8 : w8.frozen? ⟨w.heap.size, 0, none⟩ = false := by
      have e1 : w8.heap[w.heap.size]? = W.heap[w.heap.size]? := hS8.but.block _ (by have := (unhide HW).1.hR; have := (unhide HW).1.hN; omega) (fun (e : O0 w.heap.size) => by have := ((unhide HW).2.2.2 _ e).1; have := (unhide HW).1.hR; omega)
      rw [World.frozen?_of_block (w := W) e1]; exact (unhide HW).1.free
    clear HL HS
    go_wp2
    have hRW : w.heap.size < W.heap.size := by have := (unhide HW).1.hR; have := (unhide HW).1.hN; omega
    refine leaves_marks Ds _ (hS8.marks.keep (fun D hD => Below.heap_setCell _ _ _ _ (by have := (hS8.mrk D hD).1; show D ≠ w.heap.size; omega))) (fun W' q1 q2 q3 q4 q5 => ?_)
    have hcell : W'.cell? ⟨w.heap.size, 0, none⟩ = some (.bool true) := by
      rw [World.cell?_of_block (w := w8.setCell ⟨w.heap.size, 0, none⟩ (.bool true)) (q5 _ (fun (hD : w.heap.size ∈ Ds) => by have := (hS8.mrk _ hD).1; omega))]
      exact World.cell?_setCell_same' _ _ _ (by rw [hR8]; rfl)
    refine ⟨_, results_cell1 (a := 12) (t := 4) rfl rfl (by go_simp), rfl, ?_⟩
    have hbW := (unhide HW).1.low
    refine hbW.trans ⟨q2.trans hS8.but.os, q3.trans hS8.but.tape, q4.trans hS8.but.output, ?_, fun i hi => ?_⟩
    · rw [← q1]; simpa using hS8.but.size
    · rw [q5 i (fun hD => by have := (hS8.mrk _ hD).1; omega), Below.heap_setCell _ _ _ _ (by show i ≠ w.heap.size; omega)]
      exact hS8.but.block i (by omega) (fun e => by have := ((unhide HW).2.2.2 i e).1; have := (unhide HW).1.hR; omega)
end Go.Proofs.Ytnfgdhnoidpncaa
