/- The frame behind a region, as the one ahead of it with the slots that were written put in: no slot besides is spelt. -/
import Derived.Test.YtlajalfdcfkmpaaRgi
namespace Go.Proofs.Ytlajalfdcfkmpaa
open Go.RowKit

/-- The slots ds of a, put into b. -/
def putAll (a : Act) : List Nat → Act → Act
  | [], b => b
  | d :: r, b => putAll a r (b.put (some d) (a.eval (.tmp d)))
theorem putAll_size (a : Act) : ∀ (ds : List Nat) (b : Act), (putAll a ds b).tmps.size = b.tmps.size
  | [], _ => rfl
  | d :: r, b => by rw [putAll, putAll_size a r]; simp [Act.put]
theorem putAll_defers (a : Act) : ∀ (ds : List Nat) (b : Act), (putAll a ds b).defers = b.defers
  | [], _ => rfl
  | d :: r, b => by rw [putAll, putAll_defers a r]; rfl
theorem putAll_at (a : Act) : ∀ (ds : List Nat) (b : Act), a.tmps.size = b.tmps.size → ∀ t, t < b.tmps.size → (b.eval (.tmp t) = a.eval (.tmp t) ∨ t ∈ ds) → (putAll a ds b).eval (.tmp t) = a.eval (.tmp t)
  | [], _, _, _, _, h => h.elim id (fun h => absurd h (List.not_mem_nil))
  | d :: r, b, hs, t, ht, h => by
    rw [putAll]
    have hs' : a.tmps.size = (b.put (some d) (a.eval (.tmp d))).tmps.size := by simp [Act.put, hs]
    refine putAll_at a r _ hs' t (by simpa [Act.put] using ht) ?_
    by_cases htd : t = d
    · subst htd
      exact .inl (by simp [Act.put, Act.eval, ht])
    · rcases h with h | h
      · refine .inl ?_
        rw [← h]
        exact Act.eval_put (by intro d' h1 e; cases h1; cases e; exact htd rfl)
      · rcases List.mem_cons.1 h with h | h
        · exact absurd h htd
        · exact .inr h

theorem SlotInv.frame {ops : Array Oper} {a0 : Act} {V : Nat → Value → Prop} {C : Array Bool → Act → World → Prop} {listed : Array Bool} {a : Act} {w : World} (hI : SlotInv ops a0 V C listed a w) (ds : List Nat)
    (h : (ops.all fun o => (o.dst.map fun d => ds.contains d).getD true) = true) : a = putAll a ds a0 := by
  have hs := hI.size
  have key : ∀ t, t < a.tmps.size → (putAll a ds a0).eval (.tmp t) = a.eval (.tmp t) := by
    intro t ht
    refine putAll_at a ds a0 hs t (by omega) ?_
    by_cases hd : t ∈ ds
    · exact .inr hd
    · refine .inl (hI.base t ?_).symm
      rw [Array.all_eq_true_iff_forall_mem] at h ⊢
      intro o ho
      have := h o ho
      cases hdst : o.dst with
      | none => rfl
      | some d =>
        rw [hdst] at this
        simp at this
        have : d ≠ t := fun e => hd (e ▸ this)
        simpa using this
  have h1 : a.tmps = (putAll a ds a0).tmps := by
    apply Array.ext
    · rw [putAll_size, hs]
    · intro i h1 h2
      have := key i h1
      simp only [Act.eval, Array.getD_eq_getD_getElem?, h1, h2, Array.getElem?_eq_getElem, Option.getD_some] at this
      exact this.symm
  have h2 : a.defers = (putAll a ds a0).defers := by rw [putAll_defers, hI.defers]
  cases a
  cases hp : putAll _ ds a0
  rw [hp] at h1 h2
  simp only at h1 h2
  rw [h1, h2]
end Go.Proofs.Ytlajalfdcfkmpaa
