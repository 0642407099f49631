/- Worlds that are alike but for two blocks and new ones; where a guarded filter lies. -/
import Derived.Test.YtnfgdhnoidpncaaCops0
import Derived.Test.YtnfgdhnoidpncaaGcl
namespace Go.Proofs.Ytnfgdhnoidpncaa
open Go.RowKit

/-- The second world is the first but for blocks B and L, and new ones. -/
structure Apart (w w' : World) (B L : Nat) : Prop where
  os : w'.os = w.os
  tape : w'.tape = w.tape
  output : w'.output = w.output
  size : w.heap.size ≤ w'.heap.size
  block : ∀ k, k < w.heap.size → k ≠ B → k ≠ L → w'.heap[k]? = w.heap[k]?
theorem Apart.refl (w : World) (B L : Nat) : Apart w w B L := ⟨rfl, rfl, rfl, Nat.le_refl _, fun _ _ _ _ => rfl⟩
theorem Apart.trans {a b c : World} {B L : Nat} (h : Apart a b B L) (k : Apart b c B L) : Apart a c B L :=
  ⟨k.os.trans h.os, k.tape.trans h.tape, k.output.trans h.output, Nat.le_trans h.size k.size, fun i hi h1 h2 => (k.block i (Nat.lt_of_lt_of_le hi h.size) h1 h2).trans (h.block i hi h1 h2)⟩
theorem Apart.fst {w w' : World} {B : Nat} (L : Nat) (h : w.grownBy w' (some B)) : Apart w w' B L :=
  ⟨h.os, h.tape, h.output, h.size, fun k hk h1 _ => h.block k hk (by intro e; exact h1 (Option.some.inj e))⟩
theorem Apart.snd {w w' : World} {L : Nat} (B : Nat) (h : w.grownBy w' (some L)) : Apart w w' B L :=
  ⟨h.os, h.tape, h.output, h.size, fun k hk _ h2 => h.block k hk (by intro e; exact h2 (Option.some.inj e))⟩
theorem Apart.low {w w' : World} (B L : Nat) (h : Below w.heap.size w w') : Apart w w' B L := .fst L (below_grown h _)
/-- The second block is new: it does not count. -/
theorem Apart.own {a b c : World} {B L A : Nat} (h : Apart a b B L) (k : Apart b c B A) (hA : a.heap.size ≤ A) : Apart a c B L :=
  ⟨k.os.trans h.os, k.tape.trans h.tape, k.output.trans h.output, Nat.le_trans h.size k.size, fun i hi h1 h2 => (k.block i (Nat.lt_of_lt_of_le hi h.size) h1 (by omega)).trans (h.block i hi h1 h2)⟩
theorem Apart.cell {w w' : World} {B L : Nat} (h : Apart w w' B L) {a : Addr} {v : Value} (hc : w.cell? a = some v) (h1 : a.block ≠ B) (h2 : a.block ≠ L) : w'.cell? a = some v :=
  (World.cell?_of_block (w := w) (h.block _ (World.block_lt_of_cell? _ _ hc) h1 h2)).trans hc
theorem Apart.range {w w' : World} {B L : Nat} (h : Apart w w' B L) {b o : Nat} {cs : List Value} (hr : w.rangeAt b o cs) (h1 : b ≠ B) (h2 : b ≠ L) : w'.rangeAt b o cs := fun j v hv => h.cell (hr j v hv) h1 h2
theorem Apart.there {w w' : World} {B L : Nat} (h : Apart w w' B L) {b o n : Nat} (ht : w.there b o n) (hb : b < w.heap.size) (h1 : b ≠ B) (h2 : b ≠ L) : w'.there b o n := fun j hj => by
  have e := h.block b hb h1 h2
  rw [World.cell?_of_block (w := w) e, World.frozen?_of_block (w := w) e]; exact ht j hj
theorem Apart.below {w0 w w' : World} {B L N : Nat} (h : Apart w w' B L) (k : Below N w0 w) (hN : N ≤ w.heap.size) (hB : N ≤ B) (hL : N ≤ L) : Below N w0 w' :=
  k.trans ⟨h.os, h.tape, h.output, h.size, fun i hi => h.block i (by omega) (by omega) (by omega)⟩

theorem Links.apart {w w' : World} {L n B A : Nat} {sec : Nat → Sec} {st : Nat → C2 × C2} (h : Links w L n sec st) (k : Apart w w' B A) (hL : L < w.heap.size) (h1 : L ≠ B) (h2 : L ≠ A) : Links w' L n sec st := by
  refine ⟨k.there h.1 hL h1 h2, fun i hi => ?_⟩
  obtain ⟨u0, u1, u2, u3, u4, p, q, hr, hh⟩ := h.2 i hi
  exact ⟨u0, u1, u2, u3, u4, p, q, k.range hr h1 h2, hh⟩
theorem StRow.apart {w w' : World} {L n B A : Nat} {st : Nat → C2 × C2} (h : StRow w L n st) (k : Apart w w' B A) (h1 : L ≠ B) (h2 : L ≠ A) : StRow w' L n st := fun i hi => by
  obtain ⟨p, q, hr, hh⟩ := h i hi
  exact ⟨p, q, k.range hr h1 h2, hh⟩
/-- The list lies not in block B. -/
def Off (v : Value) (n B : Nat) : Prop := 0 < n → ∀ b off m c, v = .slice (some ⟨b, off, none⟩) m c → b ≠ B
theorem SecsIs.apart {w w' : World} {n B A : Nat} {v : Value} {sec : Nat → Sec} (h : SecsIs w v n sec) (k : Apart w w' B A) (h1 : Off v n B) (h2 : Off v n A) : SecsIs w' v n sec := by
  obtain ⟨ad, c, rfl, hs⟩ := h
  refine ⟨ad, c, rfl, fun i hi => ?_⟩
  obtain ⟨b, u0, u1, u2, u3, u4, rfl, hlt, hr, hh⟩ := hs i hi
  exact ⟨b, u0, u1, u2, u3, u4, rfl, Nat.lt_of_lt_of_le hlt k.size, k.range hr (h1 (by omega) _ _ _ _ rfl) (h2 (by omega) _ _ _ _ rfl), hh⟩
theorem SecsIs.off {w : World} {n A : Nat} {v : Value} {sec : Nat → Sec} (h : SecsIs w v n sec) (hA : w.heap.size ≤ A) : Off v n A := by
  obtain ⟨ad, c, rfl, hs⟩ := h
  intro hn b off m c' e
  obtain ⟨b2, u0, u1, u2, u3, u4, e2, hlt, _⟩ := hs 0 hn
  subst e2
  have : b2 = b := by simp at e; omega
  omega
theorem ListIs.apart {w w' : World} {m B A : Nat} {v : Value} {X : Nat → C2} (h : ListIs w v m X) (k : Apart w w' B A) (h1 : Off v m B) (h2 : Off v m A) : ListIs w' v m X := by
  obtain ⟨ad, c, rfl, hs⟩ := h
  refine ⟨ad, c, rfl, fun j hj => ?_⟩
  obtain ⟨b, off, u, rfl, hlt, hr, hh⟩ := hs j hj
  exact ⟨b, off, u, rfl, Nat.lt_of_lt_of_le hlt k.size, k.cell hr (h1 (by omega) _ _ _ _ rfl) (h2 (by omega) _ _ _ _ rfl), hh⟩
theorem ListIs.off {w : World} {m A : Nat} {v : Value} {X : Nat → C2} (h : ListIs w v m X) (hA : w.heap.size ≤ A) : Off v m A := by
  obtain ⟨ad, c, rfl, hs⟩ := h
  intro hn b off mm c' e
  obtain ⟨b2, off2, u, e2, hlt, _⟩ := hs 0 hn
  subst e2
  have : b2 = b := by simp at e; omega
  omega

/-- The cells of a guarded filter. -/
def GCells (w : World) (B : Nat) (gv lk sv : Value) (g : Gu) (c : Nat) : Prop :=
  w.there B 0 8 ∧ w.rangeAt B 0 [gv, lk, gv, sv, .bool g.flush, .bool g.clip, .bool g.mute, .int .u64 c]
theorem GCells.grown {w w' : World} {B c : Nat} {gv lk sv : Value} {g : Gu} {row : Option Nat} (h : GCells w B gv lk sv g c) (k : w.grownBy w' row) (hB : B < w.heap.size) (hne : some B ≠ row) : GCells w' B gv lk sv g c :=
  ⟨there_grown h.1 k hB hne, fun j v hv => k.cell (h.2 j v hv) hne⟩
theorem GCells.below {w w' : World} {B c : Nat} {gv lk sv : Value} {g : Gu} (h : GCells w B gv lk sv g c) (k : Below w.heap.size w w') (hB : B < w.heap.size) : GCells w' B gv lk sv g c := h.grown (below_grown k none) hB (by simp)
theorem GCells.apart {w w' : World} {B c B2 A : Nat} {gv lk sv : Value} {g : Gu} (h : GCells w B gv lk sv g c) (k : Apart w w' B2 A) (hB : B < w.heap.size) (h1 : B ≠ B2) (h2 : B ≠ A) : GCells w' B gv lk sv g c :=
  ⟨k.there h.1 hB h1 h2, k.range h.2 h1 h2⟩
theorem GCells.set {w : World} {B c : Nat} {gv lk sv : Value} {g : Gu} (h : GCells w B gv lk sv g c) (c' : Nat) : GCells (w.setCell ⟨B, 7, none⟩ (.int .u64 c')) B gv lk sv g c' := by
  refine ⟨there_setCell h.1 _ _, fun j v hv => ?_⟩
  have hj : j < 8 := (List.getElem?_eq_some_iff.1 hv).1
  by_cases h7 : j = 7
  · subst h7
    obtain rfl := Option.some.inj hv
    exact cell_eq (h.2 7 _ rfl)
  · rw [cell_ne (by intro e; have := (Addr.mk.inj e).2.1; omega)]
    refine h.2 j v ?_
    rcases (by omega : j = 0 ∨ j = 1 ∨ j = 2 ∨ j = 3 ∨ j = 4 ∨ j = 5 ∨ j = 6) with rfl | rfl | rfl | rfl | rfl | rfl | rfl <;> exact hv
/-- The list lies in blocks from N on, below M. -/
def InR (v : Value) (n N M : Nat) : Prop := 0 < n → ∀ b off m c, v = .slice (some ⟨b, off, none⟩) m c → N ≤ b ∧ b < M
theorem InR.off {v : Value} {n N M B : Nat} (h : InR v n N M) (hB : B < N ∨ M ≤ B) : Off v n B := fun hn b off m c e => by
  have := h hn b off m c e
  omega
/-- At block B lies a guarded filter of gain G, its n sections and what they keep in block L, c parts changed so far; all of it in blocks from N on, below M. -/
def GuardAt (w : World) (N M B L n : Nat) (G : C2) (sec : Nat → Sec) (st : Nat → C2 × C2) (g : Gu) (c : Nat) : Prop :=
  ∃ gr gi cap sv, GCells w B (.complex .f64 gr gi) (.slice (some ⟨L, 0, none⟩) n cap) sv g c ∧ CIs (.complex .f64 gr gi) G ∧ Links w L n sec st ∧ SecsIs w sv n sec ∧ InR sv n N M ∧ Off sv n B ∧ Off sv n L ∧ B ≠ L ∧ N ≤ B ∧ B < M ∧ N ≤ L ∧ L < M ∧ M ≤ w.heap.size
theorem GuardAt.apart {w w' : World} {N M B L n c B2 A : Nat} {G : C2} {sec : Nat → Sec} {st : Nat → C2 × C2} {g : Gu} (h : GuardAt w N M B L n G sec st g c) (k : Apart w w' B2 A) (h1 : B2 < N ∨ M ≤ B2) (h2 : A < N ∨ M ≤ A) : GuardAt w' N M B L n G sec st g c := by
  obtain ⟨gr, gi, cap, sv, hG, hc, hL, hS, hI, hB, hO, hne, b1, b2, b3, b4, b5⟩ := h
  have := k.size
  exact ⟨gr, gi, cap, sv, hG.apart k (by omega) (by omega) (by omega), hc, hL.apart k (by omega) (by omega) (by omega), hS.apart k (hI.off h1) (hI.off h2), hI, hB, hO, hne, b1, b2, b3, b4, by omega⟩
theorem GuardAt.lt {w : World} {N M B L n c : Nat} {G : C2} {sec : Nat → Sec} {st : Nat → C2 × C2} {g : Gu} (h : GuardAt w N M B L n G sec st g c) : N ≤ B ∧ B < M ∧ N ≤ L ∧ L < M ∧ M ≤ w.heap.size ∧ B ≠ L := by
  obtain ⟨gr, gi, cap, sv, hG, hc, hL, hS, hI, hB, hO, hne, b1, b2, b3, b4, b5⟩ := h
  exact ⟨b1, b2, b3, b4, b5, hne⟩
end Go.Proofs.Ytnfgdhnoidpncaa
