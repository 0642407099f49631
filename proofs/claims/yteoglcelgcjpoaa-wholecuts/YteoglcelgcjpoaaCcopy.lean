/- A copy of a filter at work: a filter of its own that stands where the other stands. -/
import Derived.Test.YteoglcelgcjpoaaCops
import Derived.Laws.AppendOwn
import Derived.Deep.RegionHeld3
namespace Go.Proofs.Yteoglcelgcjpoaa
open Go.RowKit

/-- The cells of the links. -/
def cellsOf (w : World) (L m : Nat) : List Value := (List.range m).map fun j => (w.cell? ⟨L, j, none⟩).getD undef
theorem cellsOf_get {w : World} {L m : Nat} (h : w.there L 0 m) (j : Nat) (u : Value) (hu : (cellsOf w L m)[j]? = some u) : w.cell? ⟨L, j, none⟩ = some u := by
  have hj : j < m := by have := (List.getElem?_eq_some_iff.1 hu).1; simpa [cellsOf] using this
  have h1 := (h j hj).1
  rw [Nat.zero_add] at h1
  obtain ⟨v, hv⟩ := Option.isSome_iff_exists.1 h1
  simp [cellsOf, hj, hv] at hu
  rw [hv, hu]
theorem cellsOf_len (w : World) (L m : Nat) : (cellsOf w L m).length = m := by simp [cellsOf]
theorem cellsOf_at {w : World} {L m j : Nat} {v : Value} (hj : j < m) (hv : w.cell? ⟨L, j, none⟩ = some v) : (cellsOf w L m)[j]? = some v := by simp [cellsOf, hj, hv]
theorem cellsOf_one {w : World} {L n : Nat} {sec : Nat → Sec} {st : Nat → C2 × C2} (h : Links w L n sec st) (u : Value) (hu : u ∈ cellsOf w L (n * 7)) : u.oneCell' = true := by
  obtain ⟨j, hj, rfl⟩ := List.mem_iff_getElem.1 hu
  have hj' : j < n * 7 := by simpa [cellsOf] using hj
  have hc := cellsOf_get h.1 j _ (List.getElem?_eq_getElem hj)
  obtain ⟨u0, u1, u2, u3, u4, p, q, hr, h0, h1, h2, h3, h4, h5, h6⟩ := h.2 (j / 7) (by omega)
  have hm : j % 7 < 7 := Nat.mod_lt _ (by omega)
  have hx : ∀ v, [u0, u1, u2, u3, u4, p, q][j % 7]? = some v → (cellsOf w L (n * 7))[j] = v := fun v hv => by
    have h' := hr (j % 7) v hv
    rw [show j / 7 * 7 + j % 7 = j by omega] at h'
    rw [hc] at h'
    exact Option.some.inj h'
  rcases (by omega : j % 7 = 0 ∨ j % 7 = 1 ∨ j % 7 = 2 ∨ j % 7 = 3 ∨ j % 7 = 4 ∨ j % 7 = 5 ∨ j % 7 = 6) with e | e | e | e | e | e | e <;> rw [e] at hx
  · rw [hx _ rfl]; exact h0.one
  · rw [hx _ rfl]; exact h1.one
  · rw [hx _ rfl]; exact h2.one
  · rw [hx _ rfl]; exact h3.one
  · rw [hx _ rfl]; exact h4.one
  · rw [hx _ rfl]; exact h5.one
  · rw [hx _ rfl]; exact h6.one

theorem eql_in (d : Nat) (a : Addr) (n c : Nat) (w : World) : (Op.equalIn (d + 1) 62 (.slice (some a) n c) (.slice none 0 0)).run Try.prog w = .ok false w := by
  simp [Op.equalIn, run_underlying Try.underlying62]
theorem eql_nil (a : Addr) (n c : Nat) (w : World) : (binOp .eql 62 (.slice (some a) n c) (.slice none 0 0)).run Try.prog w = .ok (.bool false) w := by
  have h : (Op.equal 62 (.slice (some a) n c) (.slice none 0 0)).run Try.prog w = .ok false w := eql_in 9999 a n c w
  simp [binOp, h]

set_option maxRecDepth 100000 in
set_option maxHeartbeats 2000000 in
theorem clone_any (L n cap : Nat) (sec : Nat → Sec) (st : Nat → C2 × C2) (w : World) (hL : Links w L n sec st) (hn : n ≤ 16) (hLw : L < w.heap.size) :
    Calls Try.prog 24 #[.slice (some ⟨L, 0, none⟩) n cap] w fun e w' => ∃ L2 c2, e = .returned (.slice (some ⟨L2, 0, none⟩) n c2) ∧ w.heap.size ≤ L2 ∧ L2 < w'.heap.size ∧ Links w' L2 n sec st ∧ Below w.heap.size w w' := by
  obtain ⟨i0, hi, hz0, hz1, hz2⟩ := info_parts infoz_link
  have HL := hide hL
  clear hL
  have hq := eql_nil ⟨L, 0, none⟩ n cap
  go_enter Try.func24, Try.ntmps24
  go_wp2_with (first
    | (at_builtin; refine wpList_append_own _ rfl _ _ 62 rfl w.heap.size 66 i0 (.agg #[c0, c0, c0, c0, c0, c0, c0]) 7 112 Try.underlying62 hi hz0 hz1 hz2 rfl (by decide) _ 0 [] rfl (World.ownsRow_made w #[] 0 (Nat.le_refl _) (by unfold maxLen; omega) rfl) ⟨L, 0, none⟩ n cap (cellsOf w L (n * 7)) rfl (cellsOf_len _ _ _) (fun j u hu => by rw [Addr.add_mid, Nat.zero_add, World.cell?_alloc_lt _ _ _ (by exact hLw)]; exact cellsOf_get (unhide HL).1 j u hu) (cellsOf_one (unhide HL)) (by unfold maxLen; omega) (by omega) (by simp) ?_; intro v' w1 hown hgr hnil)
    | go_in)
  go_ret
  rw [Nat.zero_add, List.nil_append] at hown
  have hbel : Below w.heap.size w w1 := ((Below.refl _ w).alloc (Nat.le_refl _) (Obj.cells #[] 66)).grown hgr (by simp) (fun k e => Nat.le_of_eq (Option.some.inj e))
  rcases id hown.2 with ⟨e1, _⟩ | ⟨g, cp, cur, rfl, hb, hg, _⟩
  · exact absurd (hnil.1 e1).1 (by intro h; cases h)
  · have hgw : g < w1.heap.size := (Array.getElem?_eq_some_iff.1 hg).1
    refine ⟨g, cp, rfl, hb, hgw, ⟨(own_there hown).1, fun i hi => ?_⟩, hbel⟩
    obtain ⟨u0, u1, u2, u3, u4, p, q, hr, hh⟩ := (unhide HL).2 i hi
    refine ⟨u0, u1, u2, u3, u4, p, q, fun j x hx => ?_, hh⟩
    have hj : j < 7 := (List.getElem?_eq_some_iff.1 hx).1
    have h1 := hown.cells (g := g) rfl (i * 7 + j) x (cellsOf_at (by omega) (hr j x hx))
    rw [Addr.add_mid, Nat.zero_add] at h1
    exact h1

set_option maxRecDepth 100000 in
set_option maxHeartbeats 2000000 in
theorem ccopy_any (B L n cap g g' : Nat) (sec : Nat → Sec) (st : Nat → C2 × C2) (w : World) (hB : w.rangeAt B 0 [.complex .f64 g g', .slice (some ⟨L, 0, none⟩) n cap])
    (hL : Links w L n sec st) (hn : n ≤ 16) (hBw : B < w.heap.size) (hLw : L < w.heap.size) :
    Calls Try.prog 13 #[.pointer (some ⟨B, 0, none⟩)] w fun e w' => ∃ B2 L2 c2, e = .returned (.pointer (some ⟨B2, 0, none⟩)) ∧ B2 ≠ L2 ∧ w.heap.size ≤ B2 ∧ w.heap.size ≤ L2 ∧ B2 < w'.heap.size ∧ L2 < w'.heap.size ∧
      w'.rangeAt B2 0 [.complex .f64 g g', .slice (some ⟨L2, 0, none⟩) n c2] ∧ Links w' L2 n sec st ∧ Below w.heap.size w w' := by
  have hb0 : w.cell? ⟨B, 0, none⟩ = some (.complex .f64 g g') := hB 0 _ rfl
  have hb1 : w.cell? ⟨B, 1, none⟩ = some (.slice (some ⟨L, 0, none⟩) n cap) := hB 1 _ rfl
  have Hc : Hid (∀ w', Links w' L n sec st → L < w'.heap.size → _) := hide (fun w' h1 h2 => clone_any L n cap sec st w' h1 hn h2)
  have Hd := hide (hL.still (still_drew w))
  clear hL hB
  go_enter Try.func13, Try.ntmps13
  go_wp2_with fail
  go_region_held3 (fun w' => w'.cell? ⟨B, 0, none⟩ = some (.complex .f64 g g') ∧ w'.cell? ⟨B, 1, none⟩ = some (.slice (some ⟨L, 0, none⟩) n cap)) (go_keep)
    ((go_at_call 24; refine (unhide Hc _ (unhide Hd) (by exact hLw)).mono ?_; rintro e w1 ⟨L2, c2, rfl, hl1, hl2, hL2, hbl⟩; have k0 : w1.cell? ⟨B, 0, none⟩ = some (.complex .f64 g g') := (hbl.cell (by exact hBw)).trans hb0; have k1 : w1.cell? ⟨B, 1, none⟩ = some (.slice (some ⟨L, 0, none⟩) n cap) := (hbl.cell (by exact hBw)).trans hb1))
  go_wp2
  go_ret
  have hbs : w.heap.size ≤ w1.heap.size := hbl.size
  refine ⟨w1.heap.size, L2, c2, rfl, by omega, hbs, hl1, by simp, by simp; omega, ?_, hL2.grown (World.grownBy_alloc _ _ none) hl2 (by simp), ?_⟩
  · intro j x hx
    have hj : j < 2 := (List.getElem?_eq_some_iff.1 hx).1
    rw [cell_of_row _ w1.heap.size _ _ _ _ (heap_alloc_new _ _)]
    rcases (by omega : j = 0 ∨ j = 1) with rfl | rfl <;> exact hx
  · exact ((still_drew w _).trans hbl).trans ((Below.refl _ w1).alloc (by exact hbs) _)
end Go.Proofs.Yteoglcelgcjpoaa
