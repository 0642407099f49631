/- Samples through a filter at work, one behind the other: what its Run does. -/
import Derived.Test.YteoglcelgcjpoaaCst
import Derived.OwnWalk
namespace Go.Proofs.Yteoglcelgcjpoaa
open Go.RowKit

/-- The value is a list of m of these numbers. -/
def ListIs (w : World) (v : Value) (m : Nat) (X : Nat → C2) : Prop :=
  ∃ ad c, v = .slice ad m c ∧ ∀ j, j < m → ∃ b off u, ad = some ⟨b, off, none⟩ ∧ b < w.heap.size ∧ w.cell? ⟨b, off + j, none⟩ = some u ∧ CIs u (X j)
/-- What the sections keep behind k samples, and the answer to the one behind those. -/
def stN (G : C2) (n : Nat) (sec : Nat → Sec) (st : Nat → C2 × C2) (X : Nat → C2) : Nat → (Nat → C2 × C2)
  | 0 => st
  | k + 1 => upTo sec (stN G n sec st X k) (cmul G (X k)) n
def ansN (G : C2) (n : Nat) (sec : Nat → Sec) (st : Nat → C2 × C2) (X : Nat → C2) (k : Nat) : C2 := yAt sec (stN G n sec st X k) (cmul G (X k)) n

theorem info_c : (Try.prog.info? 25).map (fun i => (i.zero, i.size, i.bytes)) = some (some (.complex .f64 0 0), 1, 16) := by kernel_rfl

theorem cell_ne {w : World} {a b : Addr} {v : Value} (h : a ≠ b) : (w.setCell a v).cell? b = w.cell? b := World.cell?_setCell_other _ _ _ _ h
theorem cell_eq {w : World} {a : Addr} {u v : Value} (h : w.cell? a = some u) : (w.setCell a v).cell? a = some v := World.cell?_setCell_same _ _ _ h
theorem own_there {w : World} {base A n c size : Nat} {e : TypeId} {xs : List Value} (h : w.ownsRow base e size (.slice (some ⟨A, 0, none⟩) n c) n xs) : w.there A 0 (n * size) ∧ A < w.heap.size := by
  rcases h.2 with ⟨h1, _⟩ | ⟨g, cap, cur, h1, _, hg, hn, _, hs, _⟩
  · cases h1
  · obtain ⟨rfl, rfl⟩ : A = g ∧ c = cap := by simpa using h1
    refine ⟨fun j hj => ?_, (Array.getElem?_eq_some_iff.1 hg).1⟩
    rw [cell_of_row w A _ cur e (0, 0) hg, frozen_of_row w A _ cur e hg]
    have : n * size ≤ c * size := Nat.mul_le_mul_right _ hn
    have hj' : j < cur.size := by omega
    simp [hj']
theorem there_grown {w w' : World} {A o n : Nat} {row : Option Nat} (h : w.there A o n) (hg : w.grownBy w' row) (hA : A < w.heap.size) (hne : some A ≠ row) : w'.there A o n := fun j hj => by
  have hb := hg.block A hA hne
  rw [World.cell?_of_block (w := w) hb, World.frozen?_of_block (w := w) hb]; exact h j hj
theorem grown_setCell {W w : World} {row : Option Nat} (h : W.grownBy w row) {a : Addr} (ha : W.heap.size ≤ a.block) (v : Value) : W.grownBy (w.setCell a v) row :=
  ⟨h.os, h.tape, h.output, by simpa [World.setCell] using h.size, fun k hk hn => by
    rw [Below.heap_setCell _ _ _ _ (by omega)]; exact h.block k hk hn⟩
theorem there_setCell {w : World} {b o n : Nat} (h : w.there b o n) (a : Addr) (v : Value) : (w.setCell a v).there b o n := fun j hj => by
  obtain ⟨u, hu⟩ := Option.isSome_iff_exists.1 (h j hj).1
  obtain ⟨v', hv'⟩ := cell?_setCell_some (p := a) (x := v) hu
  exact ⟨by rw [hv']; rfl, by rw [World.frozen?_setCell]; exact (h j hj).2⟩
theorem Links.setCell {w : World} {L n : Nat} {sec : Nat → Sec} {st : Nat → C2 × C2} (h : Links w L n sec st) {a : Addr} (ha : a.block ≠ L) (v : Value) : Links (w.setCell a v) L n sec st := by
  refine ⟨there_setCell h.1 a v, fun i hi => ?_⟩
  obtain ⟨u0, u1, u2, u3, u4, p, q, hr, hh⟩ := h.2 i hi
  exact ⟨u0, u1, u2, u3, u4, p, q, fun j x hx => by rw [cell_ne (by intro e; exact ha (by rw [e]))]; exact hr j x hx, hh⟩

set_option maxRecDepth 100000 in
set_option maxHeartbeats 2000000 in
theorem crun_any (B L n cap g g' m : Nat) (v : Value) (G : C2) (X : Nat → C2) (sec : Nat → Sec) (st : Nat → C2 × C2) (w : World) (hB : w.rangeAt B 0 [.complex .f64 g g', .slice (some ⟨L, 0, none⟩) n cap])
    (hg : CIs (.complex .f64 g g') G) (hv : ListIs w v m X) (hm : m ≤ 1000000) (hvL : ∀ b off, (∃ mm c, v = .slice (some ⟨b, off, none⟩) mm c) → 0 < m → b ≠ L) (hL : Links w L n sec st) (hne : B ≠ L) (hn : n ≤ 16) (hLw : L < w.heap.size) :
    Calls Try.prog 11 #[.pointer (some ⟨B, 0, none⟩), v] w fun e w' => ∃ A, e = .returned (.slice (some ⟨A, 0, none⟩) m m) ∧ w.heap.size ≤ A ∧ A < w'.heap.size ∧ (∀ j, j < m → ∃ u, w'.cell? ⟨A, j, none⟩ = some u ∧ CIs u (ansN G n sec st X j)) ∧
      Links w' L n sec (stN G n sec st X m) ∧ w.grownBy w' (some L) := by
  obtain ⟨ad, c, rfl, hc⟩ := hv
  obtain ⟨i0, hi, hz0, hz1, hz2⟩ := info_parts info_c
  have Hc := hide hc
  have HL := hide hL
  have HB := hide hB
  have HvL := hide hvL
  clear hc hL hB hvL
  go_enter Try.func11, Try.ntmps11
  go_wp2_with (first
    | (refine wpList_make_full _ rfl _ _ 34 rfl w.heap.size 25 i0 (.complex .f64 0 0) 1 Try.underlying34 hi hz0 hz1 .i64 .i64 _ _ m rfl rfl rfl rfl (by rw [hz2]; omega) (by unfold maxLen; omega) (Nat.le_refl _) ?_; intro w1 hown hgr))
  obtain ⟨hth, hAw⟩ := own_there hown
  rw [Nat.mul_one] at hth
  clear hown hi hz0 hz1 hz2
  go_loopw [15] (fun i wr => ∃ k : Nat, k ≤ m ∧ i = .int .i64 k ∧ Links wr L n sec (stN G n sec st X k) ∧ w.grownBy wr (some L) ∧ w.heap.size < wr.heap.size ∧ wr.there w.heap.size 0 m ∧ ∀ j, j < k → ∃ u, wr.cell? ⟨w.heap.size, j, none⟩ = some u ∧ CIs u (ansN G n sec st X j))
    (fun i _ => m - (intOf i).toNat)
  case atStart => exact ⟨0, Nat.zero_le _, rfl, (unhide HL).grown hgr hLw (by simp), ⟨hgr.os, hgr.tape, hgr.output, hgr.size, fun k hk _ => hgr.block k hk (by simp)⟩, hAw, hth, fun j hj => by omega⟩
  case round =>
    obtain ⟨k, hk, rfl, hLk, hgk, hsk, htk, hans⟩ := hrel
    by_cases hkm : k < m
    · have hkm' : (k : Int) < (m : Int) := by omega
      obtain ⟨b, off, u, rfl, hb, hcu, hu⟩ := unhide Hc k hkm
      obtain ⟨x, x', rfl, _⟩ := id hu
      have hbL := unhide HvL b off ⟨_, _, rfl⟩ (by omega)
      have hcw : wr.cell? ⟨b, off + k, none⟩ = some (.complex .f64 x x') := hgk.cell hcu (by intro e; exact hbL (Option.some.inj e))
      have hBr : wr.rangeAt B 0 [.complex .f64 g g', .slice (some ⟨L, 0, none⟩) n cap] := fun j v hv => hgk.cell (unhide HB j v hv) (by intro e; exact hne (Option.some.inj e))
      have Hs := hide (cstep_any B L n cap g g' x x' G (X k) sec (stN G n sec st X k) wr hBr hg hu hLk hne hn (by have := hgk.size; omega))
      clear hBr
      have Ho := hide (And.intro hans (And.intro hgk hLk))
      have Ht := hide htk
      clear hans hgk hLk htk hcu hu
      go_wp2_with fail
      refine (unhide Hs).mono ?_
      rintro e w2 ⟨y, rfl, hy, hL2, hg2⟩
      obtain ⟨r, r', rfl, _⟩ := id hy
      have hA2 : w.heap.size < w2.heap.size := by have := hg2.size; omega
      have hAL : some w.heap.size ≠ some L := by intro e; have := Option.some.inj e; omega
      have ht2 := there_grown (unhide Ht) hg2 hsk hAL
      have hcA : (w2.cell? ⟨w.heap.size, k, none⟩).isSome = true := by have := (ht2 k hkm).1; rwa [Nat.zero_add] at this
      have hfA : w2.frozen? ⟨w.heap.size, k, none⟩ = false := by have := (ht2 k hkm).2; rwa [Nat.zero_add] at this
      obtain ⟨uo, huo⟩ := Option.isSome_iff_exists.1 hcA
      have H2 := hide (And.intro hy (And.intro hL2 (And.intro hg2 ht2)))
      clear hy hL2 hg2 ht2 hcA
      have hsc := run_store_c
      go_wp2
      go_roundw
      case rel =>
        obtain ⟨hans, hgk, hLk⟩ := unhide Ho
        obtain ⟨hy, hL2, hg2, ht2⟩ := unhide H2
        refine ⟨k + 1, by omega, by go_num, hL2.setCell (by intro e; exact hAL (by rw [← e])) _, grown_setCell (grown_trans hgk hg2) (Nat.le_refl _) _, by simpa [World.setCell] using hA2, there_setCell ht2 _ _, fun j hj => ?_⟩
        by_cases hjk : j = k
        · subst hjk
          exact ⟨_, cell_eq huo, hy⟩
        · obtain ⟨v, hv1, hv2⟩ := hans j (by omega)
          refine ⟨v, ?_, hv2⟩
          rw [cell_ne (by intro e; exact hjk (Addr.mk.inj e).2.1.symm)]
          exact hg2.cell hv1 hAL
      case measure => simp [intOf]; omega
    · have : k = m := by omega
      subst this
      go_wp2
      go_ret
      exact ⟨w.heap.size, rfl, Nat.le_refl _, hsk, hans, hLk, hgk⟩
end Go.Proofs.Yteoglcelgcjpoaa
