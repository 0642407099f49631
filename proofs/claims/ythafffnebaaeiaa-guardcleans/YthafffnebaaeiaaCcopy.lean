/- A copy of a filter at work: a filter of its own that stands where the other stands. -/
import Derived.Test.YthafffnebaaeiaaCops
import Derived.Laws.AppendOwn
import Derived.Deep.RegionHeld3
namespace Go.Proofs.Ythafffnebaaeiaa
open Go.RowKit

/-- The cells of the links. -/
def cellsOf (w : World) (L m : Nat) : List Value := (List.range m).map fun j => (w.cell? ⟨L, j, none⟩).getD undef
theorem cellsOf_get {w : World} {L m : Nat} (h : w.there L 0 m) (j : Nat) (u : Value) (hu : (cellsOf w L m)[j]? = some u) : w.cell? ⟨L, j, none⟩ = some u := by
  have hj : j < m := by have := (List.getElem?_eq_some_iff.1 hu).1; simpa [cellsOf] using this
  have h1 := (h j hj).1
  rw [Nat.zero_add] at h1
  obtain ⟨v, hv⟩ := Option.isSome_iff_exists.1 h1
  simp [cellsOf, hj, hv] at hu
  rw [hv, hu]
theorem cellsOf_len (w : World) (L m : Nat) : (cellsOf w L m).length = m := by simp [cellsOf]
theorem cellsOf_at {w : World} {L m j : Nat} {v : Value} (hj : j < m) (hv : w.cell? ⟨L, j, none⟩ = some v) : (cellsOf w L m)[j]? = some v := by simp [cellsOf, hj, hv]
theorem cellsOf_one {w : World} {L n : Nat} {sec : Nat → Sec} {st : Nat → C2 × C2} (h : Links w L n sec st) (u : Value) (hu : u ∈ cellsOf w L (n * 7)) : u.oneCell' = true := by
  obtain ⟨j, hj, rfl⟩ := List.mem_iff_getElem.1 hu
  have hj' : j < n * 7 := by simpa [cellsOf] using hj
  have hc := cellsOf_get h.1 j _ (List.getElem?_eq_getElem hj)
  obtain ⟨u0, u1, u2, u3, u4, p, q, hr, h0, h1, h2, h3, h4, h5, h6⟩ := h.2 (j / 7) (by omega)
  have hm : j % 7 < 7 := Nat.mod_lt _ (by omega)
  have hx : ∀ v, [u0, u1, u2, u3, u4, p, q][j % 7]? = some v → (cellsOf w L (n * 7))[j] = v := fun v hv => by
    have h' := hr (j % 7) v hv
    rw [show j / 7 * 7 + j % 7 = j by omega] at h'
    rw [hc] at h'
    exact Option.some.inj h'
  rcases (by omega : j % 7 = 0 ∨ j % 7 = 1 ∨ j % 7 = 2 ∨ j % 7 = 3 ∨ j % 7 = 4 ∨ j % 7 = 5 ∨ j % 7 = 6) with e | e | e | e | e | e | e <;> rw [e] at hx
  · rw [hx _ rfl]; exact h0.one
  · rw [hx _ rfl]; exact h1.one
  · rw [hx _ rfl]; exact h2.one
  · rw [hx _ rfl]; exact h3.one
  · rw [hx _ rfl]; exact h4.one
  · rw [hx _ rfl]; exact h5.one
  · rw [hx _ rfl]; exact h6.one

end Go.Proofs.Ythafffnebaaeiaa
