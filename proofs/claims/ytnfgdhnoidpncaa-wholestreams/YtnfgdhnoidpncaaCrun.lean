/- Samples through a filter at work, one behind the other: what its Run does. -/
import Derived.Test.YtnfgdhnoidpncaaCst
import Derived.OwnWalk
namespace Go.Proofs.Ytnfgdhnoidpncaa
open Go.RowKit

/-- The value is a list of m of these numbers. -/
def ListIs (w : World) (v : Value) (m : Nat) (X : Nat → C2) : Prop :=
  ∃ ad c, v = .slice ad m c ∧ ∀ j, j < m → ∃ b off u, ad = some ⟨b, off, none⟩ ∧ b < w.heap.size ∧ w.cell? ⟨b, off + j, none⟩ = some u ∧ CIs u (X j)
/-- What the sections keep behind k samples, and the answer to the one behind those. -/
def stN (G : C2) (n : Nat) (sec : Nat → Sec) (st : Nat → C2 × C2) (X : Nat → C2) : Nat → (Nat → C2 × C2)
  | 0 => st
  | k + 1 => upTo sec (stN G n sec st X k) (cmul G (X k)) n
def ansN (G : C2) (n : Nat) (sec : Nat → Sec) (st : Nat → C2 × C2) (X : Nat → C2) (k : Nat) : C2 := yAt sec (stN G n sec st X k) (cmul G (X k)) n

theorem info_c : (Try.prog.info? 24).map (fun i => (i.zero, i.size, i.bytes)) = some (some (.complex .f64 0 0), 1, 16) := by kernel_rfl

theorem cell_ne {w : World} {a b : Addr} {v : Value} (h : a ≠ b) : (w.setCell a v).cell? b = w.cell? b := World.cell?_setCell_other _ _ _ _ h
theorem cell_eq {w : World} {a : Addr} {u v : Value} (h : w.cell? a = some u) : (w.setCell a v).cell? a = some v := World.cell?_setCell_same _ _ _ h
theorem own_there {w : World} {base A n c size : Nat} {e : TypeId} {xs : List Value} (h : w.ownsRow base e size (.slice (some ⟨A, 0, none⟩) n c) n xs) : w.there A 0 (n * size) ∧ A < w.heap.size := by
  rcases h.2 with ⟨h1, _⟩ | ⟨g, cap, cur, h1, _, hg, hn, _, hs, _⟩
  · cases h1
  · obtain ⟨rfl, rfl⟩ : A = g ∧ c = cap := by simpa using h1
    refine ⟨fun j hj => ?_, (Array.getElem?_eq_some_iff.1 hg).1⟩
    rw [cell_of_row w A _ cur e (0, 0) hg, frozen_of_row w A _ cur e hg]
    have : n * size ≤ c * size := Nat.mul_le_mul_right _ hn
    have hj' : j < cur.size := by omega
    simp [hj']
theorem there_grown {w w' : World} {A o n : Nat} {row : Option Nat} (h : w.there A o n) (hg : w.grownBy w' row) (hA : A < w.heap.size) (hne : some A ≠ row) : w'.there A o n := fun j hj => by
  have hb := hg.block A hA hne
  rw [World.cell?_of_block (w := w) hb, World.frozen?_of_block (w := w) hb]; exact h j hj
theorem grown_setCell {W w : World} {row : Option Nat} (h : W.grownBy w row) {a : Addr} (ha : W.heap.size ≤ a.block) (v : Value) : W.grownBy (w.setCell a v) row :=
  ⟨h.os, h.tape, h.output, by simpa [World.setCell] using h.size, fun k hk hn => by
    rw [Below.heap_setCell _ _ _ _ (by omega)]; exact h.block k hk hn⟩
theorem there_setCell {w : World} {b o n : Nat} (h : w.there b o n) (a : Addr) (v : Value) : (w.setCell a v).there b o n := fun j hj => by
  obtain ⟨u, hu⟩ := Option.isSome_iff_exists.1 (h j hj).1
  obtain ⟨v', hv'⟩ := cell?_setCell_some (p := a) (x := v) hu
  exact ⟨by rw [hv']; rfl, by rw [World.frozen?_setCell]; exact (h j hj).2⟩
theorem Links.setCell {w : World} {L n : Nat} {sec : Nat → Sec} {st : Nat → C2 × C2} (h : Links w L n sec st) {a : Addr} (ha : a.block ≠ L) (v : Value) : Links (w.setCell a v) L n sec st := by
  refine ⟨there_setCell h.1 a v, fun i hi => ?_⟩
  obtain ⟨u0, u1, u2, u3, u4, p, q, hr, hh⟩ := h.2 i hi
  exact ⟨u0, u1, u2, u3, u4, p, q, fun j x hx => by rw [cell_ne (by intro e; exact ha (by rw [e]))]; exact hr j x hx, hh⟩

end Go.Proofs.Ytnfgdhnoidpncaa
