/- What package quant's Cycle answers. -/
import Derived.Test.YtmddclgidccnhabQg
import Derived.Test.YtmddclgidccnhabQp
namespace Go.Proofs.Ytmddclgidccnhab
open Go.RowKit

theorem pow_between : ∀ m : Nat, 1 ≤ m → ∃ j, m ≤ 2 ^ j ∧ 2 ^ j < 2 * m := by
  intro m
  induction m with
  | zero => intro h; omega
  | succ m ih =>
    intro _
    by_cases h0 : m = 0
    · subst h0; exact ⟨0, by decide, by decide⟩
    · obtain ⟨j, h1, h2⟩ := ih (by omega)
      by_cases h3 : m + 1 ≤ 2 ^ j
      · exact ⟨j, h3, by omega⟩
      · exact ⟨j + 1, by rw [Nat.pow_succ]; omega, by rw [Nat.pow_succ]; omega⟩

/-- Where period finds nothing, no state comes again within so many steps. -/
theorem none_again {f : Fx} {s : St} {n : Nat} (h : ∀ j, 2 ^ j < 2 * n → noHit f s j) (i j : Nat) (hij : i < j) (hj : j ≤ n) : so f s i ≠ so f s j := by
  intro he
  obtain ⟨J, h1, h2⟩ := pow_between (max (i + 1) (j - i)) (by omega)
  refine h J (by omega) (j - i) (by omega) (by omega) ?_
  have e := orb_back (g := fun s => nxt f s 0) (s := s) (p := i) (b := j - i) (by rw [show i + (j - i) = j by omega]; exact he.symm) (2 ^ J - 1) (by omega)
  exact e

def CycIs (f : Fx) (s : St) (steps a b e : Int) : Prop :=
  ((steps < 0 ∨ 1048576 < steps ∨ fitsB f.bits = false) ∧ a = 0 ∧ b = 0 ∧ e = 1) ∨
  (0 ≤ steps ∧ steps ≤ 1048576 ∧ fitsB f.bits = true ∧
    ((e = 10 ∧ a = 0 ∧ b = 0 ∧ ∀ i j : Nat, i < j → (j : Int) ≤ steps → so f (kpS s) i ≠ so f (kpS s) j) ∨
     (e = 0 ∧ ∃ A C : Nat, a = A ∧ b = C ∧ 0 < C ∧ (A : Int) + (C : Int) ≤ steps ∧ so f (kpS s) (A + C) = so f (kpS s) A ∧ ∀ i j : Nat, i < j → j < A + C → so f (kpS s) i ≠ so f (kpS s) j)))
def CycPost (f : Fx) (s : St) (steps : Int) (e : Ending) : Prop := ∃ a b c, e = .returned (.tuple #[.int .i64 a, .int .i64 b, .int .i64 c]) ∧ CycIs f s steps a b c

theorem PW.setS {w a : World} {fs : Array Value} {s : St} (h : PW w fs (aS s) a) (t : St) :
    PW w fs (aS t) ((((a.setCell ⟨w.heap.size + 1, 0, none⟩ (.int .i64 t.x1)).setCell ⟨w.heap.size + 1, 1, none⟩ (.int .i64 t.x2)).setCell ⟨w.heap.size + 1, 2, none⟩ (.int .i64 t.y1)).setCell ⟨w.heap.size + 1, 3, none⟩ (.int .i64 t.y2)) :=
  ⟨Below.setCells (b := w.heap.size + 1) h.low (by omega) 0 (aS t).toList, h.sec.other (c := w.heap.size + 1) (by omega) (aS t).toList 0, h.st.all (ds := aS t) rfl⟩
theorem PW.unfrozen {w w' : World} {fs ss : Array Value} (h : PW w fs ss w') : w'.frozen? ⟨w.heap.size + 1, 0, none⟩ = false ∧ w'.frozen? ⟨w.heap.size + 1, 1, none⟩ = false ∧ w'.frozen? ⟨w.heap.size + 1, 2, none⟩ = false ∧ w'.frozen? ⟨w.heap.size + 1, 3, none⟩ = false :=
  ⟨h.st.unfrozen 0, h.st.unfrozen 1, h.st.unfrozen 2, h.st.unfrozen 3⟩

set_option maxRecDepth 100000 in
set_option maxHeartbeats 1000000 in
theorem cycle_arg (f : Fx) (s : St) (n : Int) (hn : n < 0 ∨ 1048576 < n ∨ fitsB f.bits = false) (w : World) :
    Calls Try.prog 8 #[vF f, vS s, .int .i64 n] w fun e w' => e = .returned (.tuple #[.int .i64 0, .int .i64 0, .int .i64 1]) ∧ Below w.heap.size w w' := by
  have Hf := hide (fits_any f.bits)
  unfold vF vS
  by_cases h1 : n < 0
  · clear hn
    go_enter Try.func8, Try.ntmps8
    go_wp2
    go_ret3
    exact ⟨rfl, Joins.below_alloc2 _ _ _⟩
  · by_cases h2 : 1048576 < n
    · clear hn
      go_enter Try.func8, Try.ntmps8
      go_wp2
      go_ret3
      exact ⟨rfl, Joins.below_alloc2 _ _ _⟩
    · have h3 : fitsB f.bits = false := by
        rcases hn with h | h | h
        · exact absurd h h1
        · exact absurd h h2
        · exact h
      rw [h3] at Hf
      clear hn
      go_enter Try.func8, Try.ntmps8
      go_wp2_with fail
      refine (unhide Hf _).mono ?_
      rintro e w' ⟨rfl, rfl⟩
      go_wp2
      go_ret3
      exact ⟨rfl, Joins.below_alloc2 _ _ _⟩

set_option maxRecDepth 100000 in
set_option maxHeartbeats 1000000 in
theorem cycle_in (f : Fx) (s : St) (n : Nat) (hn : n ≤ 1048576) (hf : fitsB f.bits = true) (w : World) :
    Calls Try.prog 8 #[vF f, vS s, .int .i64 n] w fun e w' => CycPost f s n e ∧ Below w.heap.size w w' := by
  have Hf := hide (fits_any f.bits)
  rw [hf] at Hf
  have Hk := hide (keptState_any s.x1 s.x2 s.y1 s.y2)
  have Hp := hide (period_any f (kpS s) n hn)
  have Hl := hide (lead_any f (kpS s))
  have Hfit := hide hf
  clear hf
  unfold vF vS at *
  go_enter Try.func8, Try.ntmps8
  go_wp2_with fail
  refine (unhide Hf _).mono ?_
  rintro e w' ⟨rfl, rfl⟩
  go_wp2_with fail
  refine (unhide Hk _).mono ?_
  rintro e w1 ⟨rfl, hb1⟩
  have P1 := (PW.start w (aF f) (aS s)).later hb1
  obtain ⟨c0, c1, c2, c3, c4, c5, d0, d1, d2, d3⟩ := P1.cells
  obtain ⟨e0, e1, e2, e3⟩ := P1.unfrozen
  have P2 := hide (P1.setS (kpS s))
  clear P1 hb1
  go_wp2_with fail
  clear c0 c1 c2 c3 c4 c5 d0 d1 d2 d3 e0 e1 e2 e3
  refine (unhide Hp _).mono ?_
  rintro e w2 ⟨⟨b, o, rfl, hper⟩, hb2⟩
  have P3 := (unhide P2).later hb2
  clear P2 hb2
  obtain ⟨c0, c1, c2, c3, c4, c5, d0, d1, d2, d3⟩ := P3.cells
  have HP3 := hide P3
  clear P3
  rcases hper with ⟨rfl, p, C, hp, hC0, hC1, rfl, hpC, hmin⟩ | ⟨rfl, rfl, hnone⟩
  · have Hm := hide (And.intro hpC hmin)
    clear hpC hmin
    go_wp2_with fail
    refine (unhide Hl C p (by omega) (by omega) (unhide Hm).1 _).mono ?_
    rintro e w3 ⟨⟨A, rfl, hA, hAmin⟩, hb3⟩
    have HA := hide (And.intro hA hAmin)
    have HL := hide ((unhide HP3).later hb3).low
    clear hA hAmin hb3 HP3 c0 c1 c2 c3 c4 c5 d0 d1 d2 d3
    have hApC : Hid (A ≤ p) := by
      refine Nat.le_of_not_lt fun h => ?_
      exact (unhide HA).2 p h (unhide Hm).1
    have hA2 : A ≤ 4194304 := by have := unhide hApC; omega
    have hun : Hid (∀ i j : Nat, i < j → j < A + C → so f (kpS s) i ≠ so f (kpS s) j) := fun i j h1 h2 => orb_unlike hC0 (unhide Hm).1 (unhide Hm).2 (unhide HA).2 i j h1 h2
    by_cases hle : (n : Int) < (A : Int) + (C : Int)
    · go_wp2
      go_ret3
      refine ⟨⟨0, 0, 10, rfl, .inr ⟨by omega, by omega, unhide Hfit, .inl ⟨rfl, rfl, rfl, fun i j h1 h2 => unhide hun i j h1 (by omega)⟩⟩⟩, unhide HL⟩
    · go_wp2
      go_ret3
      exact ⟨⟨A, C, 0, rfl, .inr ⟨by omega, by omega, unhide Hfit, .inr ⟨rfl, A, C, rfl, rfl, hC0, by omega, (unhide HA).1, unhide hun⟩⟩⟩, unhide HL⟩
  · have Hn := hide hnone
    clear hnone
    go_wp2
    go_ret3
    exact ⟨⟨0, 0, 10, rfl, .inr ⟨by omega, by omega, unhide Hfit, .inl ⟨rfl, rfl, rfl, fun i j h1 h2 => none_again (unhide Hn) i j h1 (by omega)⟩⟩⟩, (unhide HP3).low⟩

/-- What Cycle answers. -/
theorem cycle_any (f : Fx) (s : St) (n : Int) (w : World) :
    Calls Try.prog 8 #[vF f, vS s, .int .i64 n] w fun e w' => CycPost f s n e ∧ Below w.heap.size w w' := by
  by_cases h : n < 0 ∨ 1048576 < n ∨ fitsB f.bits = false
  · refine (cycle_arg f s n h w).mono ?_
    rintro e w' ⟨rfl, hb⟩
    exact ⟨⟨0, 0, 1, rfl, .inl ⟨h, rfl, rfl, rfl⟩⟩, hb⟩
  · have h1 : 0 ≤ n ∧ n ≤ 1048576 := by omega
    have h2 : fitsB f.bits = true := by
      cases h3 : fitsB f.bits
      · exact absurd (.inr (.inr h3)) h
      · rfl
    obtain ⟨N, rfl⟩ := Int.eq_ofNat_of_zero_le h1.1
    exact cycle_in f s N (by omega) h2 w
end Go.Proofs.Ytmddclgidccnhab
