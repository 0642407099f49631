/- Where a stream lies, and what a step does with it. -/
import Derived.Test.YtnfgdhnoidpncaaSst
import Derived.Test.YtnfgdhnoidpncaaSkt
namespace Go.Proofs.Ytnfgdhnoidpncaa
open Go.RowKit

/-- At block B lies a stream, its states in block A; its sections are the list sv; all in blocks of O. -/
structure SA (w : World) (O : Nat → Prop) (B A n cA gr gi : Nat) (sv : Value) (G : C2) (sec : Nat → Sec) (g : Gu) (st : Nat → C2 × C2) (t c : Nat) : Prop where
  cells : SCells w B (.complex .f64 gr gi) sv g t c (.slice (some ⟨A, 0, none⟩) n cA)
  gain : CIs (.complex .f64 gr gi) G
  fin : FinV (.complex .f64 gr gi)
  secs : SecsIs w sv n sec
  row : StRow w A n st
  there : w.there A 0 (n * 2)
  ne : B ≠ A
  offB : Off sv n B
  offA : Off sv n A
  oB : O B
  oA : O A
  oS : 0 < n → ∀ b off m c, sv = .slice (some ⟨b, off, none⟩) m c → O b
  lt : ∀ k, O k → k < w.heap.size
  tle : t ≤ 2000000000
  cle : c ≤ 2000000000000
def SAt (w : World) (O : Nat → Prop) (B n : Nat) (G : C2) (sec : Nat → Sec) (g : Gu) (st : Nat → C2 × C2) (t c : Nat) : Prop := ∃ A cA gr gi sv, SA w O B A n cA gr gi sv G sec g st t c
/-- The block of the sections of the stream at B. -/
def ShB (w : World) (B k : Nat) : Prop := ∃ off m c, w.cell? ⟨B, 1, none⟩ = some (.slice (some ⟨k, off, none⟩) m c) ∧ 0 < m
theorem cells_same {w w' : World} {b : Nat} (e : w'.heap[b]? = w.heap[b]?) {o : Nat} {cs : List Value} (h : w.rangeAt b o cs) : w'.rangeAt b o cs := fun j v hv => by rw [World.cell?_of_block (w := w) e]; exact h j v hv
theorem there_same {w w' : World} {b : Nat} (e : w'.heap[b]? = w.heap[b]?) {o n : Nat} (h : w.there b o n) : w'.there b o n := fun j hj => by rw [World.cell?_of_block (w := w) e, World.frozen?_of_block (w := w) e]; exact h j hj
theorem SecsIs.same {w w' : World} {v : Value} {n : Nat} {sec : Nat → Sec} {O : Nat → Prop} (h : SecsIs w v n sec) (hO : 0 < n → ∀ b off m c, v = .slice (some ⟨b, off, none⟩) m c → O b) (hk : ∀ k, O k → w'.heap[k]? = w.heap[k]?) (hs : w.heap.size ≤ w'.heap.size) : SecsIs w' v n sec := by
  obtain ⟨ad, c, rfl, h⟩ := h
  refine ⟨ad, c, rfl, fun i hi => ?_⟩
  obtain ⟨b, u0, u1, u2, u3, u4, rfl, hb, hr, hh⟩ := h i hi
  exact ⟨b, u0, u1, u2, u3, u4, rfl, Nat.lt_of_lt_of_le hb hs, cells_same (hk b (hO (by omega) _ _ _ _ rfl)) hr, hh⟩
theorem ListIs.same {w w' : World} {v : Value} {m : Nat} {X : Nat → C2} {O : Nat → Prop} (h : ListIs w v m X) (hO : 0 < m → ∀ b off mm c, v = .slice (some ⟨b, off, none⟩) mm c → O b) (hk : ∀ k, O k → w'.heap[k]? = w.heap[k]?) : ListIs w' v m X := by
  obtain ⟨ad, c, rfl, h⟩ := h
  refine ⟨ad, c, rfl, fun j hj => ?_⟩
  obtain ⟨b, off, u, rfl, hb, hc, hu⟩ := h j hj
  have e := hk b (hO (by omega) _ _ _ _ rfl)
  exact ⟨b, off, u, rfl, by rw [Array.getElem?_eq_getElem hb] at e; exact (Array.getElem?_eq_some_iff.1 e).1, by rw [World.cell?_of_block (w := w) e]; exact hc, hu⟩
theorem SA.keep {w w' : World} {O : Nat → Prop} {B A n cA gr gi : Nat} {sv : Value} {G : C2} {sec : Nat → Sec} {g : Gu} {st : Nat → C2 × C2} {t c : Nat} (h : SA w O B A n cA gr gi sv G sec g st t c) (hk : ∀ k, O k → w'.heap[k]? = w.heap[k]?) (hs : w.heap.size ≤ w'.heap.size) : SA w' O B A n cA gr gi sv G sec g st t c :=
  ⟨h.cells.same (hk B h.oB), h.gain, h.fin, h.secs.same h.oS hk hs, fun i hi => by obtain ⟨p, q, hr, hh⟩ := h.row i hi; exact ⟨p, q, cells_same (hk A h.oA) hr, hh⟩, there_same (hk A h.oA) h.there, h.ne, h.offB, h.offA, h.oB, h.oA, h.oS, fun k hO => Nat.lt_of_lt_of_le (h.lt k hO) hs, h.tle, h.cle⟩
theorem SA.sh {w : World} {O : Nat → Prop} {B A n cA gr gi : Nat} {sv : Value} {G : C2} {sec : Nat → Sec} {g : Gu} {st : Nat → C2 × C2} {t c : Nat} (h : SA w O B A n cA gr gi sv G sec g st t c) : ¬ ShB w B B ∧ ¬ ShB w B A := by
  have c1 : w.cell? ⟨B, 1, none⟩ = some sv := h.cells.2 1 _ rfl
  have hsv := h.secs
  constructor
  all_goals
    rintro ⟨off, m, cc, e, hm⟩
    rw [c1] at e
    obtain ⟨ad, c', e2, hs⟩ := hsv
    have e3 := Option.some.inj e
    have hmn : m = n := by rw [e2] at e3; simp at e3; omega
    subst hmn
  · exact h.offB hm _ _ _ _ e3 rfl
  · exact h.offA hm _ _ _ _ e3 rfl
theorem wCnt_le96 (g : Gu) (sec : Nat → Sec) (st : Nat → C2 × C2) (x : C2) {n : Nat} (hn : n ≤ 16) : wCnt g sec st x n ≤ 96 := by
  have := wCnt_le g sec st x n
  omega
theorem SA.step {w : World} {O : Nat → Prop} {B A n cA gr gi x x' : Nat} {sv : Value} {G X : C2} {sec : Nat → Sec} {g : Gu} {st : Nat → C2 × C2} {t c : Nat} (h : SA w O B A n cA gr gi sv G sec g st t c) (hx : CIs (.complex .f64 x x') X) (hn : n ≤ 16) (ht : t + 1 ≤ 2000000000) (hc : c + 96 ≤ 2000000000000) :
    Calls Try.prog 45 #[.pointer (some ⟨B, 0, none⟩), .complex .f64 x x'] w fun e w' => ∃ r i, e = .returned (.complex .f64 r i) ∧ CIs (.complex .f64 r i) (wY g sec st (cmul G X) n) ∧
      SA w' O B A n cA gr gi sv G sec g (wUp g sec st (cmul G X) n) (t + 1) (c + wCnt g sec st (cmul G X) n) ∧ But (fun k => k = B ∨ k = A) w w' := by
  refine (sstep_any B A n t c cA gr gi x x' sv g G X sec st w h.cells h.gain hx h.secs h.offB h.offA h.row h.there h.ne (h.lt B h.oB) (h.lt A h.oA) hn (by omega) (by omega)).mono ?_
  rintro e w' ⟨r, i, rfl, h1, h2, h3, h4, h5, h6⟩
  have := wCnt_le96 g sec st (cmul G X) hn
  exact ⟨r, i, rfl, h1, ⟨h4, h.gain, h.fin, h5, h2, h3, h.ne, h.offB, h.offA, h.oB, h.oA, h.oS, fun k hO => Nat.lt_of_lt_of_le (h.lt k hO) h6.size, ht, by omega⟩, ⟨h6.os, h6.tape, h6.output, h6.size, fun k hk hn => h6.block k hk (fun e => hn (.inl e)) (fun e => hn (.inr e))⟩⟩
theorem wCntN_le96 (g : Gu) (G : C2) (n : Nat) (sec : Nat → Sec) (st : Nat → C2 × C2) (X : Nat → C2) {j : Nat} (hn : n ≤ 16) (hj : j ≤ 300) : wCntN g G n sec st X j ≤ 28800 := by
  have h1 := wCntN_le g G n sec st X j
  have h2 : 6 * n * j ≤ 6 * 16 * 300 := Nat.mul_le_mul (by omega) hj
  omega

/-- The value gf, lb: a sequence over m samples of the stream at B. -/
def SeqAt (w : World) (gf : Nat) (lb : Array Value) (C : Nat → Prop) (B m : Nat) (X : Nat → C2) : Prop :=
  gf = 44 ∧ ∃ b1 b2 v, lb = #[.pointer (some ⟨b1, 0, none⟩), .pointer (some ⟨b2, 0, none⟩)] ∧ C b1 ∧ C b2 ∧ w.cell? ⟨b1, 0, none⟩ = some v ∧ w.cell? ⟨b2, 0, none⟩ = some (.pointer (some ⟨B, 0, none⟩)) ∧ ListIs w v m X ∧ (0 < m → ∀ b off mm c, v = .slice (some ⟨b, off, none⟩) mm c → C b)
theorem SeqAt.keep {w w' : World} {gf : Nat} {lb : Array Value} {C : Nat → Prop} {B m : Nat} {X : Nat → C2} (h : SeqAt w gf lb C B m X) (hk : ∀ k, C k → w'.heap[k]? = w.heap[k]?) : SeqAt w' gf lb C B m X := by
  obtain ⟨e, b1, b2, v, rfl, c1, c2, h1, h2, h3, h4⟩ := h
  exact ⟨e, b1, b2, v, rfl, c1, c2, by rw [World.cell?_of_block (w := w) (hk b1 c1)]; exact h1, by rw [World.cell?_of_block (w := w) (hk b2 c2)]; exact h2, h3.same h4 hk, h4⟩
end Go.Proofs.Ytnfgdhnoidpncaa
