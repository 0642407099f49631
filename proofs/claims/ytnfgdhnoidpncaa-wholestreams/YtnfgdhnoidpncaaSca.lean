/- A stream's cells; it cleans a number and counts. -/
import Derived.Test.YtnfgdhnoidpncaaGre
namespace Go.Proofs.Ytnfgdhnoidpncaa
open Go.RowKit

/-- The cells of a stream: gain, sections, the guard, how many samples came, how many parts were changed, the states. -/
def SCells (w : World) (B : Nat) (gv sv : Value) (g : Gu) (t c : Nat) (sl : Value) : Prop :=
  w.there B 0 8 ∧ w.rangeAt B 0 [gv, sv, .bool g.flush, .bool g.clip, .bool g.mute, .int .u64 t, .int .u64 c, sl]
theorem SCells.grown {w w' : World} {B t c : Nat} {gv sv sl : Value} {g : Gu} {row : Option Nat} (h : SCells w B gv sv g t c sl) (k : w.grownBy w' row) (hB : B < w.heap.size) (hne : some B ≠ row) : SCells w' B gv sv g t c sl :=
  ⟨there_grown h.1 k hB hne, fun j v hv => k.cell (h.2 j v hv) hne⟩
theorem SCells.below {w w' : World} {B t c : Nat} {gv sv sl : Value} {g : Gu} (h : SCells w B gv sv g t c sl) (k : Below w.heap.size w w') (hB : B < w.heap.size) : SCells w' B gv sv g t c sl := h.grown (below_grown k none) hB (by simp)
theorem SCells.apart {w w' : World} {B t c B2 A : Nat} {gv sv sl : Value} {g : Gu} (h : SCells w B gv sv g t c sl) (k : Apart w w' B2 A) (hB : B < w.heap.size) (h1 : B ≠ B2) (h2 : B ≠ A) : SCells w' B gv sv g t c sl :=
  ⟨k.there h.1 hB h1 h2, k.range h.2 h1 h2⟩
theorem SCells.same {w w' : World} {B t c : Nat} {gv sv sl : Value} {g : Gu} (h : SCells w B gv sv g t c sl) (e : w'.heap[B]? = w.heap[B]?) : SCells w' B gv sv g t c sl := by
  refine ⟨fun j hj => ?_, fun j v hv => ?_⟩
  · rw [World.cell?_of_block (w := w) e, World.frozen?_of_block (w := w) e]; exact h.1 j hj
  · rw [World.cell?_of_block (w := w) e]; exact h.2 j v hv
theorem SCells.setC {w : World} {B t c : Nat} {gv sv sl : Value} {g : Gu} (h : SCells w B gv sv g t c sl) (c' : Nat) : SCells (w.setCell ⟨B, 6, none⟩ (.int .u64 c')) B gv sv g t c' sl := by
  refine ⟨there_setCell h.1 _ _, fun j v hv => ?_⟩
  have hj : j < 8 := (List.getElem?_eq_some_iff.1 hv).1
  by_cases h7 : j = 6
  · subst h7
    obtain rfl := Option.some.inj hv
    exact cell_eq (h.2 6 _ rfl)
  · rw [cell_ne (by intro e; have := (Addr.mk.inj e).2.1; omega)]
    refine h.2 j v ?_
    rcases (by omega : j = 0 ∨ j = 1 ∨ j = 2 ∨ j = 3 ∨ j = 4 ∨ j = 5 ∨ j = 7) with rfl | rfl | rfl | rfl | rfl | rfl | rfl <;> exact hv
theorem SCells.setT {w : World} {B t c : Nat} {gv sv sl : Value} {g : Gu} (h : SCells w B gv sv g t c sl) (t' : Nat) : SCells (w.setCell ⟨B, 5, none⟩ (.int .u64 t')) B gv sv g t' c sl := by
  refine ⟨there_setCell h.1 _ _, fun j v hv => ?_⟩
  have hj : j < 8 := (List.getElem?_eq_some_iff.1 hv).1
  by_cases h7 : j = 5
  · subst h7
    obtain rfl := Option.some.inj hv
    exact cell_eq (h.2 5 _ rfl)
  · rw [cell_ne (by intro e; have := (Addr.mk.inj e).2.1; omega)]
    refine h.2 j v ?_
    rcases (by omega : j = 0 ∨ j = 1 ∨ j = 2 ∨ j = 3 ∨ j = 4 ∨ j = 6 ∨ j = 7) with rfl | rfl | rfl | rfl | rfl | rfl | rfl <;> exact hv

set_option maxRecDepth 100000 in
set_option maxHeartbeats 2000000 in
theorem sclean_any (B t c : Nat) (gv sv sl : Value) (g : Gu) (x x' : Nat) (z : C2) (w : World) (hG : SCells w B gv sv g t c sl) (hB : B < w.heap.size) (hx : CIs (.complex .f64 x x') z) (hc : c ≤ 9000000000000000000) :
    Calls Try.prog 53 #[.pointer (some ⟨B, 0, none⟩), .complex .f64 x x'] w fun e w' => ∃ r i, e = .returned (.complex .f64 r i) ∧ CIs (.complex .f64 r i) (cl2 g z).1 ∧ SCells w' B gv sv g t (c + (cl2 g z).2) sl ∧ w.grownBy w' (some B) := by
  have Hc := hide (cleanC g hx)
  have hk := (cl2_count g z).1
  generalize cl2 g z = q at *
  obtain ⟨q, k⟩ := q
  dsimp only at *
  clear hx
  have HG := hide hG
  obtain ⟨fl, cp, mu⟩ := g
  unfold Gv at Hc
  dsimp only at Hc
  have c4 : w.cell? ⟨B, 2, none⟩ = some (.bool fl) := hG.2 2 _ rfl
  have c5 : w.cell? ⟨B, 3, none⟩ = some (.bool cp) := hG.2 3 _ rfl
  have c6 : w.cell? ⟨B, 4, none⟩ = some (.bool mu) := hG.2 4 _ rfl
  clear hG
  go_enter Try.func53, Try.ntmps53
  go_wp2_with fail
  refine (unhide Hc _).mono ?_
  rintro e w1 ⟨r, i, rfl, hq, hb1⟩
  have hG1 := (unhide HG).below hb1 hB
  have c7 : w1.cell? ⟨B, 6, none⟩ = some (.int .u64 c) := hG1.2 6 _ rfl
  have f7 : w1.frozen? ⟨B, 6, none⟩ = false := (hG1.1 6 (by omega)).2
  have H1 := hide (And.intro hq (And.intro hb1 hG1))
  clear hq hb1 hG1 c4 c5 c6
  go_wp2
  go_ret
  obtain ⟨hq, hb1, hG1⟩ := unhide H1
  refine ⟨r, i, rfl, hq, ?_, grown_setCells (o := 6) (cs := [.int .u64 ((c : Int) + (k : Int))]) (below_grown hb1 _)⟩
  have := hG1.setC (c + k)
  rwa [Int.natCast_add] at this
end Go.Proofs.Ytnfgdhnoidpncaa
