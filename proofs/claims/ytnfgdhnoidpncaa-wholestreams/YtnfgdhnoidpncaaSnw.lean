/- New streams, forks, sequences: what they lay in memory. -/
import Derived.Test.YtnfgdhnoidpncaaSpu
import Derived.Test.YtnfgdhnoidpncaaGw
namespace Go.Proofs.Ytnfgdhnoidpncaa
open Go.RowKit

theorem list_of {P : Nat → Value → Prop} : ∀ m, (∀ j, j < m → ∃ u, P j u) → ∃ l : List Value, l.length = m ∧ ∀ j u, l[j]? = some u → P j u
  | 0, _ => ⟨[], rfl, fun j u h => by simp at h⟩
  | m + 1, h => by
    obtain ⟨l, h1, h2⟩ := list_of m (fun j hj => h j (by omega))
    obtain ⟨u, hu⟩ := h m (by omega)
    refine ⟨l ++ [u], by simp [h1], fun j v hv => ?_⟩
    by_cases hj : j < m
    · rw [List.getElem?_append_left (by omega)] at hv; exact h2 j v hv
    · have hlt := (List.getElem?_eq_some_iff.1 hv).1
      have : j = m := by simp at hlt; omega
      subst this
      rw [List.getElem?_append_right (by omega), h1, Nat.sub_self] at hv
      obtain rfl : u = v := by simpa using hv
      exact hu
theorem cql_in (d : Nat) (a : Option Addr) (n c : Nat) (w : World) : (Op.equalIn (d + 1) 31 (.slice a n c) (.slice none 0 0)).run Try.prog w = .ok a.isNone w := by
  cases a <;> simp [Op.equalIn, run_underlying Try.underlying31]
theorem cql_nil (a : Option Addr) (n c : Nat) (w : World) : (binOp .eql 31 (.slice a n c) (.slice none 0 0)).run Try.prog w = .ok (.bool a.isNone) w := by
  have h : (Op.equal 31 (.slice a n c) (.slice none 0 0)).run Try.prog w = .ok a.isNone w := cql_in 9999 a n c w
  simp [binOp, h]
theorem tql_in (d : Nat) (a : Option Addr) (n c : Nat) (w : World) : (Op.equalIn (d + 1) 57 (.slice a n c) (.slice none 0 0)).run Try.prog w = .ok a.isNone w := by
  cases a <;> simp [Op.equalIn, run_underlying Try.underlying57]
theorem tql_nil (a : Option Addr) (n c : Nat) (w : World) : (binOp .eql 57 (.slice a n c) (.slice none 0 0)).run Try.prog w = .ok (.bool a.isNone) w := by
  have h : (Op.equal 57 (.slice a n c) (.slice none 0 0)).run Try.prog w = .ok a.isNone w := tql_in 9999 a n c w
  simp [binOp, h]
theorem ListIs.cells {w : World} {m c : Nat} {a : Addr} {X : Nat → C2} (h : ListIs w (.slice (some a) m c) m X) :
    ∃ news : List Value, news.length = m * 1 ∧ (∀ j u, news[j]? = some u → w.cell? (a.add j) = some u) ∧ (∀ u ∈ news, u.oneCell' = true) ∧ ∀ j, j < m → ∃ u, news[j]? = some u ∧ CIs u (X j) := by
  obtain ⟨ad', c', e, hs⟩ := h
  obtain ⟨rfl, rfl⟩ : some a = ad' ∧ c = c' := by simpa using e
  obtain ⟨l, h1, h2⟩ := list_of (P := fun j u => j < m ∧ w.cell? (a.add j) = some u ∧ CIs u (X j)) m (fun j hj => by
    obtain ⟨b, off, u, e, hb, hc, hu⟩ := hs j hj
    obtain rfl := Option.some.inj e
    exact ⟨u, hj, by rw [Addr.add_mid]; exact hc, hu⟩)
  refine ⟨l, by omega, fun j u hu => (h2 j u hu).2.1, fun u hu => ?_, fun j hj => ?_⟩
  · obtain ⟨j, hj, rfl⟩ := List.mem_iff_getElem.1 hu
    exact (h2 j _ (List.getElem?_eq_getElem hj)).2.2.one
  · exact ⟨l[j]'(by omega), List.getElem?_eq_getElem (by omega), (h2 j _ (List.getElem?_eq_getElem (by omega))).2.2⟩

set_option maxRecDepth 100000 in
set_option maxHeartbeats 2000000 in
theorem cclone_any (v : Value) (m : Nat) (X : Nat → C2) (w : World) (hv : ListIs w v m X) (hm : m ≤ 300) :
    Calls Try.prog 28 #[v] w fun e w' => ∃ ad c, e = .returned (.slice ad m c) ∧ ListIs w' (.slice ad m c) m X ∧ InR (.slice ad m c) m w.heap.size w'.heap.size ∧ Below w.heap.size w w' := by
  obtain ⟨i0, hi, hz0, hz1, hz2⟩ := info_parts info_c
  obtain ⟨ad, c, rfl, _⟩ := id hv
  cases ad with
  | none =>
    have hn0 : m = 0 := by
      cases m with
      | zero => rfl
      | succ n =>
        obtain ⟨ad, c, e, hs⟩ := hv
        obtain ⟨b, off, u, e2, _⟩ := hs 0 (by omega)
        subst e2
        simp at e
    subst hn0
    clear hv
    have hq := cql_nil none 0 c
    go_enter Try.func28, Try.ntmps28
    go_wp2
    go_ret
    exact ⟨none, 0, rfl, ⟨none, 0, rfl, fun i hi => by omega⟩, fun h => by omega, Below.refl _ _⟩
  | some a =>
    obtain ⟨news, k1, k2, k3, k4⟩ := hv.cells
    have Hk := hide (And.intro k2 (And.intro k3 k4))
    clear k2 k3 k4 hv
    have hq := cql_nil (some a) m c
    go_enter Try.func28, Try.ntmps28
    go_wp2_with (first
      | (at_builtin; refine wpList_append_own _ rfl _ _ 31 rfl w.heap.size 24 i0 (.complex .f64 0 0) 1 16 Try.underlying31 hi hz0 hz1 hz2 rfl (by decide) _ 0 [] rfl (World.ownsRow_made w #[] 0 (Nat.le_refl _) (by unfold maxLen; omega) rfl) a m c news rfl k1 (fun j u hu => by rw [World.cell?_alloc_lt _ _ _ (World.block_lt_of_cell? _ _ ((unhide Hk).1 j u hu))]; exact (unhide Hk).1 j u hu) (unhide Hk).2.1 (by unfold maxLen; omega) (by omega) (by simp) ?_; intro v' w1 hown hgr hnil)
      | go_in)
    go_ret
    rw [Nat.zero_add, List.nil_append] at hown
    have hbel : Below w.heap.size w w1 := ((Below.refl _ w).alloc (Nat.le_refl _) (Obj.cells #[] 24)).grown hgr (by simp) (fun k e => Nat.le_of_eq (Option.some.inj e))
    rcases id hown.2 with ⟨e1, _⟩ | ⟨g, cp, cur, rfl, hb, hg, _⟩
    · exact absurd (hnil.1 e1).1 (by intro h; cases h)
    · have hgw : g < w1.heap.size := (Array.getElem?_eq_some_iff.1 hg).1
      refine ⟨some ⟨g, 0, none⟩, cp, rfl, ⟨_, cp, rfl, fun i hi => ?_⟩, fun _ b off m c' e => ?_, hbel⟩
      · obtain ⟨u, hr, hh⟩ := (unhide Hk).2.2 i hi
        have h1 := hown.cells (g := g) rfl i u hr
        rw [Addr.add_mid, Nat.zero_add] at h1
        exact ⟨g, 0, u, rfl, hgw, by rw [Nat.zero_add]; exact h1, hh⟩
      · have : g = b := by simp at e; omega
        omega

set_option maxRecDepth 100000 in
set_option maxHeartbeats 2000000 in
theorem sseq_any {w : World} {B m : Nat} {v : Value} {X : Nat → C2} (hv : ListIs w v m X) (hm : m ≤ 300) :
    Calls Try.prog 12 #[.pointer (some ⟨B, 0, none⟩), v] w fun e w' => ∃ gf lb C, e = .returned (.func (.func gf) #[] lb) ∧ (∀ args w, (callFunc gf args).run Try.prog w = .ok (.enter gf args) w) ∧ SeqAt w' gf lb C B m X ∧ (∀ k, C k → w.heap.size ≤ k ∧ k < w'.heap.size) ∧ Below w.heap.size w w' := by
  have Hc := hide (cclone_any v m X w hv hm)
  obtain ⟨ad, c, rfl, _⟩ := id hv
  clear hv
  go_enter Try.func12, Try.ntmps12
  go_wp2_with fail
  refine (unhide Hc).mono ?_
  rintro e w1 ⟨ad1, c1, rfl, h1, h2, h3⟩
  have H1 := hide (And.intro h1 (And.intro h2 h3))
  clear h1 h2 h3 Hc
  go_wp2_with fail
  refine (each_any B ad1 m c1 w1).mono ?_
  rintro e w2 ⟨rfl, hw2⟩
  have H2 := hide hw2
  clear hw2
  go_wp2
  go_ret
  obtain ⟨h1, h2, h3⟩ := unhide H1
  have hw2 := unhide H2
  have hs1 := h3.size
  have hb2 : Below w1.heap.size w1 w2 := by rw [hw2]; exact ((Below.refl _ _).alloc (Nat.le_refl _) _).alloc (by simp) _
  have hs2 : w2.heap.size = w1.heap.size + 2 := by rw [hw2]; simp
  have hl1 : w2.cell? ⟨w1.heap.size + 1, 0, none⟩ = some (.slice ad1 m c1) := by rw [hw2]; have := box_new (w1.alloc (.cells #[.pointer (some ⟨B, 0, none⟩)] 33)) (.slice ad1 m c1) 31; rwa [World.size_alloc] at this
  have hl2 : w2.cell? ⟨w1.heap.size, 0, none⟩ = some (.pointer (some ⟨B, 0, none⟩)) := by rw [hw2, World.cell?_alloc_lt _ _ _ (by show w1.heap.size < _; simp)]; exact box_new _ _ _
  refine ⟨_, _, fun k => w.heap.size ≤ k ∧ k < w2.heap.size, rfl, each_enters, ⟨rfl, _, _, _, rfl, ⟨by omega, by omega⟩, ⟨by omega, by omega⟩, hl1, hl2, h1.below hb2, fun h b off mm cc e => ?_⟩, fun k hk => hk, h3.trans (hb2.mono hs1)⟩
  have := h2 h b off mm cc e
  exact ⟨this.1, by omega⟩
end Go.Proofs.Ytnfgdhnoidpncaa
