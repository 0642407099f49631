/- A guarded filter as one thing: what its calls do with it. -/
import Derived.Test.YthafffnebaaeiaaGnew
namespace Go.Proofs.Ythafffnebaaeiaa
open Go.RowKit

theorem changedG {N M B L n c : Nat} {G : C2} {sec : Nat → Sec} {st : Nat → C2 × C2} {g : Gu} {w : World} (h : GuardAt w N M B L n G sec st g c) :
    Calls Try.prog 18 #[.pointer (some ⟨B, 0, none⟩)] w fun e w' => e = .returned (.int .u64 c) ∧ w' = w := by
  obtain ⟨gr, gi, cap, sv, hG, _⟩ := h
  exact gchanged_any B c _ _ _ g w hG
theorem statesG {N M B L n c : Nat} {G : C2} {sec : Nat → Sec} {st : Nat → C2 × C2} {g : Gu} {w : World} (h : GuardAt w N M B L n G sec st g c) (hn : n ≤ 16) :
    Calls Try.prog 20 #[.pointer (some ⟨B, 0, none⟩)] w fun e w' => ∃ A, e = .returned (.slice (some ⟨A, 0, none⟩) n n) ∧ w.heap.size ≤ A ∧ A < w'.heap.size ∧ StRow w' A n st ∧ Below w.heap.size w w' := by
  obtain ⟨gr, gi, cap, sv, hG, hc, hL, hS, hI, hB, hO, hne, b1, b2, b3, b4, b5⟩ := h
  exact (gstates_any B L n cap c gr gi sv g sec st w hG hL hn (by omega)).mono fun _ _ ⟨A, h1, h2, h3, h4, h5, _⟩ => ⟨A, h1, h2, h3, h4, h5⟩
theorem GuardAt.below {w w' : World} {N M B L n c : Nat} {G : C2} {sec : Nat → Sec} {st : Nat → C2 × C2} {g : Gu} (h : GuardAt w N M B L n G sec st g c) (hb : Below w.heap.size w w') : GuardAt w' N M B L n G sec st g c := by
  have hl := h.lt
  exact h.apart (.low M M hb) (by omega) (by omega)
theorem GuardAt.still {w w' : World} {N M B L n c : Nat} {G : C2} {sec : Nat → Sec} {st : Nat → C2 × C2} {g : Gu} (h : GuardAt w N M B L n G sec st g c) (hs : Still w w') : GuardAt w' N M B L n G sec st g c := h.below (hs _)
end Go.Proofs.Ythafffnebaaeiaa
