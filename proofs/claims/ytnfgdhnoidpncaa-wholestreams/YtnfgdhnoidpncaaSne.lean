/- A new stream: what package stream's New lays in memory where all is finite. -/
import Derived.Test.YtnfgdhnoidpncaaSnx
namespace Go.Proofs.Ytnfgdhnoidpncaa
open Go.RowKit

theorem made_ss (m j : Nat) (hj : j < m) : (madeCells (Value.agg #[c0, c0]).cells m)[j]? = some c0 := by
  have h7 : j % 2 < 2 := Nat.mod_lt _ (by omega)
  simp only [madeCells, Array.getElem?_map, Array.getElem?_range, hj, if_true, Option.map_some, Value.cells]
  congr 1
  have e : (#[c0, c0] : Array Value).size = 2 := rfl
  rw [e]
  generalize j % 2 = r at h7
  rcases (by omega : r = 0 ∨ r = 1) with rfl | rfl <;> rfl
theorem make_sts (n : Nat) (hn : n ≤ 16) (w : World) : (Instr.makeSlice 57 (.int .i64 n) (.int .i64 n)).run Try.prog w = .ok (.slice (some ⟨w.heap.size, 0, none⟩) n n) (w.alloc (.cells (madeCells (Value.agg #[c0, c0]).cells (n * 2)) 74)) := by
  obtain ⟨i0, hi, hz0, hz1, hz2⟩ := info_parts infoz_st2
  have h := run_make (P := Try.prog) w 57 74 i0 _ Try.underlying57 hi hz0 .i64 .i64 (n : Int) (n : Int) (by omega) (by omega) (by rw [hz2]; omega) (by omega)
  rw [hz1] at h
  simpa using h
theorem made_row (w : World) (n : Nat) : StRow (w.alloc (.cells (madeCells (Value.agg #[c0, c0]).cells (n * 2)) 74)) w.heap.size n rest0 ∧ (w.alloc (.cells (madeCells (Value.agg #[c0, c0]).cells (n * 2)) 74)).there w.heap.size 0 (n * 2) := by
  have hc : ∀ j, j < n * 2 → (w.alloc (.cells (madeCells (Value.agg #[c0, c0]).cells (n * 2)) 74)).cell? ⟨w.heap.size, j, none⟩ = some c0 := fun j hj => by rw [cell_of_row _ w.heap.size j _ _ _ (heap_alloc_new _ _)]; exact made_ss _ _ hj
  refine ⟨fun i hi => ⟨c0, c0, fun j v hv => ?_, c0_is, c0_is⟩, fun j hj => ?_⟩
  · have hj : j < 2 := (List.getElem?_eq_some_iff.1 hv).1
    rw [hc (i * 2 + j) (by omega), ← hv]
    rcases (by omega : j = 0 ∨ j = 1) with rfl | rfl <;> rfl
  · rw [Nat.zero_add, hc j hj, frozen_of_row _ w.heap.size j _ _ (heap_alloc_new _ _)]; exact ⟨rfl, rfl⟩
theorem info_grd : (Try.prog.info? 30).map (·.size) = some 3 := by kernel_rfl
theorem build_filt (r i : Nat) (a : Option Addr) (n c : Nat) (w : World) : (Instr.build 27 #[(0, .complex .f64 r i), (1, .slice a n c)]).run Try.prog w = .ok (.agg #[.complex .f64 r i, .slice a n c]) w := by go_simp
theorem build_strm (r i : Nat) (a b : Option Addr) (n c n' c' : Nat) (fl cp mu : Bool) (w : World) : (Instr.build 59 #[(0, .agg #[.complex .f64 r i, .slice a n c]), (1, .agg #[.bool fl, .bool cp, .bool mu]), (4, .slice b n' c')]).run Try.prog w = .ok (.agg #[.complex .f64 r i, .slice a n c, .bool fl, .bool cp, .bool mu, .int .u64 0, .int .u64 0, .slice b n' c']) w := by go_simp
theorem box_strm (r i : Nat) (a b : Option Addr) (n c n' c' : Nat) (fl cp mu : Bool) (w : World) : (Instr.box 59 (.agg #[.complex .f64 r i, .slice a n c, .bool fl, .bool cp, .bool mu, .int .u64 0, .int .u64 0, .slice b n' c'])).run Try.prog w = .ok (.pointer (some ⟨w.heap.size, 0, none⟩)) (w.alloc (.cells #[.complex .f64 r i, .slice a n c, .bool fl, .bool cp, .bool mu, .int .u64 0, .int .u64 0, .slice b n' c'] 59)) := by go_simp

/-- What the slots of the region that lays the stream come to hold. -/
def n4V (F n c r r' : Nat) (ad : Option Addr) (g : Gu) : Nat → Value → Prop
  | 17, v => v = .pointer (some ⟨F, 0, none⟩)
  | 18, v => v = .complex .f64 r r'
  | 19, v => v = .pointer (some ⟨F, 1, none⟩)
  | 20, v => v = .slice ad n c
  | 21, v => ∃ a k, v = .slice a n k
  | 23, v => v = .agg #[.bool g.flush, .bool g.clip, .bool g.mute]
  | 24, v => v = .pointer (some ⟨F, 1, none⟩)
  | 25, v => v = .slice ad n c
  | 26, v => v = .int .i64 n
  | 27, v => ∃ A, v = .slice (some ⟨A, 0, none⟩) n n
  | 29, v => ∃ B, v = .pointer (some ⟨B, 0, none⟩)
  | 4, v => ∃ B, v = .pointer (some ⟨B, 0, none⟩)
  | 5, v => v = .int .i64 0
  | _, _ => True
/-- The stream that is laid. -/
def Laid (W w : World) (B n r r' : Nat) (sec : Nat → Sec) (g : Gu) : Prop :=
  ∃ A sv, SCells w B (.complex .f64 r r') sv g 0 0 (.slice (some ⟨A, 0, none⟩) n n) ∧ SecsIs w sv n sec ∧ InR sv n W.heap.size w.heap.size ∧ Off sv n B ∧ Off sv n A ∧ StRow w A n rest0 ∧ w.there A 0 (n * 2) ∧ B ≠ A ∧ W.heap.size ≤ B ∧ B < w.heap.size ∧ W.heap.size ≤ A ∧ A < w.heap.size
structure n4C (W : World) (n r r' : Nat) (sec : Nat → Sec) (g : Gu) (listed : Array Bool) (a : Act) (w : World) : Prop where
  grown : W.grownBy w none
  c4 : listed.getD 4 false = true → SecsIs w (a.eval (.tmp 21)) n sec ∧ InR (a.eval (.tmp 21)) n W.heap.size w.heap.size
  c5 : listed.getD 5 false = true → a.eval (.tmp 22) = .agg #[.complex .f64 r r', a.eval (.tmp 21)]
  c10 : listed.getD 10 false = true → ∃ A, a.eval (.tmp 27) = .slice (some ⟨A, 0, none⟩) n n ∧ W.heap.size ≤ A ∧ A < w.heap.size ∧ StRow w A n rest0 ∧ w.there A 0 (n * 2) ∧ (listed.getD 4 false = true → Off (a.eval (.tmp 21)) n A)
  c11 : listed.getD 11 false = true → a.eval (.tmp 28) = .agg #[.complex .f64 r r', a.eval (.tmp 21), .bool g.flush, .bool g.clip, .bool g.mute, .int .u64 0, .int .u64 0, a.eval (.tmp 27)]
  c12 : listed.getD 12 false = true → ∃ B, a.eval (.tmp 29) = .pointer (some ⟨B, 0, none⟩) ∧ Laid W w B n r r' sec g
  c13 : listed.getD 13 false = true → a.eval (.tmp 4) = a.eval (.tmp 29)
theorem Laid.grown {W w w' : World} {B n r r' : Nat} {sec : Nat → Sec} {g : Gu} (h : Laid W w B n r r' sec g) (hg : w.grownBy w' none) : Laid W w' B n r r' sec g := by
  obtain ⟨A, sv, h1, h2, h3, h4, h5, h6, h7, h8, h9, h10, h11, h12⟩ := h
  have hs := hg.size
  exact ⟨A, sv, h1.grown hg h10 (by simp), h2.below ⟨hg.os, hg.tape, hg.output, hg.size, fun k hk => hg.block k hk (by simp)⟩, fun hn b off m c e => by have := h3 hn b off m c e; omega, h4, h5, h6.grown hg (by simp), there_grown h7 hg h12 (by simp), h8, h9, by omega, h11, by omega⟩
/-- A step that only lays a value, or new blocks. -/
theorem n4C.same {W w w' : World} {n r r' : Nat} {sec : Nat → Sec} {g : Gu} {listed : Array Bool} {a : Act} (h : n4C W n r r' sec g listed a w) (hg : w.grownBy w' none) (i d : Nat) {o : Oper} (hd : o.dst = some d)
    (hi : i ≠ 4 ∧ i ≠ 5 ∧ i ≠ 10 ∧ i ≠ 11 ∧ i ≠ 12 ∧ i ≠ 13) (hs : d ≠ 21 ∧ d ≠ 22 ∧ d ≠ 27 ∧ d ≠ 28 ∧ d ≠ 29 ∧ d ≠ 4) (u : Value) : n4C W n r r' sec g (listed.setIfInBounds i true) (a.put o.dst u) w' := by
  obtain ⟨i1, i2, i3, i4, i5, i6⟩ := hi
  obtain ⟨s1, s2, s3, s4, s5, s6⟩ := hs
  have hw := hg.size
  refine ⟨grown_trans h.grown hg, ?_, ?_, ?_, ?_, ?_, ?_⟩
  all_goals rw [hd]
  all_goals simp only [getD_set_ne false i1, getD_set_ne false i2, getD_set_ne false i3, getD_set_ne false i4, getD_set_ne false i5, getD_set_ne false i6, put_other (Ne.symm s1), put_other (Ne.symm s2), put_other (Ne.symm s3), put_other (Ne.symm s4), put_other (Ne.symm s5), put_other (Ne.symm s6)]
  · intro l; obtain ⟨x, y⟩ := h.c4 l; exact ⟨x.below ⟨hg.os, hg.tape, hg.output, hg.size, fun k hk => hg.block k hk (by simp)⟩, fun hn b off m c e => by have := y hn b off m c e; omega⟩
  · exact h.c5
  · intro l; obtain ⟨A, e, x1, x2, x3, x4, x5⟩ := h.c10 l; exact ⟨A, e, x1, by omega, x3.grown hg (by simp), there_grown x4 hg x2 (by simp), x5⟩
  · exact h.c11
  · intro l; obtain ⟨B, e, x⟩ := h.c12 l; exact ⟨B, e, x.grown hg⟩
  · exact h.c13

theorem n4C.clone {W w w' : World} {n r r' : Nat} {sec : Nat → Sec} {g : Gu} {listed : Array Bool} {a : Act} (h : n4C W n r r' sec g listed a w) {o : Oper} (hz : 30 ≤ a.tmps.size) (hd : o.dst = some 21) (u5 : listed.getD 5 false = false) (u11 : listed.getD 11 false = false) (u12 : listed.getD 12 false = false) (u13 : listed.getD 13 false = false) {a2 : Option Addr} {c2 : Nat} (hS : SecsIs w' (.slice a2 n c2) n sec) (hI : InR (.slice a2 n c2) n w.heap.size w'.heap.size) (hg : w.grownBy w' none) :
    n4C W n r r' sec g (listed.setIfInBounds 4 true) (a.put o.dst (.slice a2 n c2)) w' := by
  have hs := hg.size
  have hs0 := h.grown.size
  have e21 : (a.put (some 21) (.slice a2 n c2)).eval (.tmp 21) = .slice a2 n c2 := put_same (by omega)
  rw [hd]
  refine ⟨grown_trans h.grown hg, fun _ => ?_, fun l => ?_, fun l => ?_, fun l => ?_, fun l => ?_, fun l => ?_⟩
  · rw [e21]; exact ⟨hS, fun hn b off m c e => by have := hI hn b off m c e; omega⟩
  · rw [getD_set_ne false (by omega)] at l; rw [u5] at l; cases l
  · rw [getD_set_ne false (by omega)] at l
    obtain ⟨A, x0, x1, x2, x3, x4, x5⟩ := h.c10 l
    exact ⟨A, by rw [put_other (by omega)]; exact x0, x1, by omega, x3.grown hg (by simp), there_grown x4 hg x2 (by simp), fun _ => by rw [e21]; exact fun hn b off m c e => by have := hI hn b off m c e; omega⟩
  · rw [getD_set_ne false (by omega)] at l; rw [u11] at l; cases l
  · rw [getD_set_ne false (by omega)] at l; rw [u12] at l; cases l
  · rw [getD_set_ne false (by omega)] at l; rw [u13] at l; cases l
theorem n4C.filt {W w : World} {n r r' : Nat} {sec : Nat → Sec} {g : Gu} {listed : Array Bool} {a : Act} (h : n4C W n r r' sec g listed a w) {o : Oper} (hz : 30 ≤ a.tmps.size) (hd : o.dst = some 22) (u11 : listed.getD 11 false = false) {u : Value} (hu : u = .agg #[.complex .f64 r r', a.eval (.tmp 21)]) : n4C W n r r' sec g (listed.setIfInBounds 5 true) (a.put o.dst u) w := by
  rw [hd]
  refine ⟨h.grown, fun l => ?_, fun l => ?_, fun l => ?_, fun l => ?_, fun l => ?_, fun l => ?_⟩
  · rw [put_other (by omega)]; rw [getD_set_ne false (by omega)] at l; exact h.c4 l
  · rw [put_same (by omega), put_other (by omega)]; exact hu
  · rw [getD_set_ne false (by omega)] at l
    simp only [put_other (show 27 ≠ 22 by omega), put_other (show 21 ≠ 22 by omega), getD_set_ne false (show (5 : Nat) ≠ 4 by omega)]
    exact h.c10 l
  · rw [getD_set_ne false (by omega)] at l; rw [u11] at l; cases l
  · rw [getD_set_ne false (by omega)] at l; rw [put_other (by omega)]; exact h.c12 l
  · rw [getD_set_ne false (by omega)] at l; rw [put_other (by omega), put_other (by omega)]; exact h.c13 l
theorem n4C.made {W w : World} {n r r' : Nat} {sec : Nat → Sec} {g : Gu} {listed : Array Bool} {a : Act} (h : n4C W n r r' sec g listed a w) {o : Oper} (hz : 30 ≤ a.tmps.size) (hd : o.dst = some 27) (u11 : listed.getD 11 false = false) (u12 : listed.getD 12 false = false) (u13 : listed.getD 13 false = false) :
    n4C W n r r' sec g (listed.setIfInBounds 10 true) (a.put o.dst (.slice (some ⟨w.heap.size, 0, none⟩) n n)) (w.alloc (.cells (madeCells (Value.agg #[c0, c0]).cells (n * 2)) 74)) := by
  have hg := World.grownBy_alloc w (.cells (madeCells (Value.agg #[c0, c0]).cells (n * 2)) 74) none
  obtain ⟨m1, m2⟩ := made_row w n
  have hs := h.grown.size
  rw [hd]
  refine ⟨grown_trans h.grown hg, fun l => ?_, fun l => ?_, fun l => ?_, fun l => ?_, fun l => ?_, fun l => ?_⟩
  · rw [getD_set_ne false (by omega)] at l; rw [put_other (by omega)]
    obtain ⟨x, y⟩ := h.c4 l
    exact ⟨x.below ((Below.refl _ _).alloc (Nat.le_refl _) _), fun hn b off m c e => by have := y hn b off m c e; simp; omega⟩
  · rw [getD_set_ne false (by omega)] at l; rw [put_other (by omega), put_other (by omega)]; exact h.c5 l
  · refine ⟨w.heap.size, put_same (by omega), hs, by simp, m1, m2, fun l4 => ?_⟩
    rw [getD_set_ne false (by omega)] at l4
    rw [put_other (by omega)]
    exact fun hn b off m c e => by have := (h.c4 l4).2 hn b off m c e; omega
  · rw [getD_set_ne false (by omega)] at l; rw [u11] at l; cases l
  · rw [getD_set_ne false (by omega)] at l; rw [u12] at l; cases l
  · rw [getD_set_ne false (by omega)] at l; rw [u13] at l; cases l
theorem n4C.strm {W w : World} {n r r' : Nat} {sec : Nat → Sec} {g : Gu} {listed : Array Bool} {a : Act} (h : n4C W n r r' sec g listed a w) {o : Oper} (hz : 30 ≤ a.tmps.size) (hd : o.dst = some 28) {u : Value} (hu : u = .agg #[.complex .f64 r r', a.eval (.tmp 21), .bool g.flush, .bool g.clip, .bool g.mute, .int .u64 0, .int .u64 0, a.eval (.tmp 27)]) : n4C W n r r' sec g (listed.setIfInBounds 11 true) (a.put o.dst u) w := by
  rw [hd]
  refine ⟨h.grown, fun l => ?_, fun l => ?_, fun l => ?_, fun l => ?_, fun l => ?_, fun l => ?_⟩
  · rw [put_other (by omega)]; rw [getD_set_ne false (by omega)] at l; exact h.c4 l
  · rw [getD_set_ne false (by omega)] at l; rw [put_other (by omega), put_other (by omega)]; exact h.c5 l
  · rw [getD_set_ne false (by omega)] at l
    simp only [put_other (show 27 ≠ 28 by omega), put_other (show 21 ≠ 28 by omega), getD_set_ne false (show (11 : Nat) ≠ 4 by omega)]
    exact h.c10 l
  · rw [put_same (by omega), put_other (by omega), put_other (by omega)]; exact hu
  · rw [getD_set_ne false (by omega)] at l; rw [put_other (by omega)]; exact h.c12 l
  · rw [getD_set_ne false (by omega)] at l; rw [put_other (by omega), put_other (by omega)]; exact h.c13 l
theorem n4C.boxed {W w : World} {n r r' : Nat} {sec : Nat → Sec} {g : Gu} {listed : Array Bool} {a : Act} (h : n4C W n r r' sec g listed a w) {o : Oper} (hz : 30 ≤ a.tmps.size) (hd : o.dst = some 29) (l4 : listed.getD 4 false = true) (l10 : listed.getD 10 false = true) (u13 : listed.getD 13 false = false) {sv sl : Value} (e21 : a.eval (.tmp 21) = sv) (e27 : a.eval (.tmp 27) = sl) :
    n4C W n r r' sec g (listed.setIfInBounds 12 true) (a.put o.dst (.pointer (some ⟨w.heap.size, 0, none⟩))) (w.alloc (.cells #[.complex .f64 r r', sv, .bool g.flush, .bool g.clip, .bool g.mute, .int .u64 0, .int .u64 0, sl] 59)) := by
  have hg := World.grownBy_alloc w (.cells #[.complex .f64 r r', sv, .bool g.flush, .bool g.clip, .bool g.mute, .int .u64 0, .int .u64 0, sl] 59) none
  have hs := h.grown.size
  have hcell : ∀ j x, [Value.complex .f64 r r', sv, .bool g.flush, .bool g.clip, .bool g.mute, .int .u64 0, .int .u64 0, sl][j]? = some x → (w.alloc (.cells #[.complex .f64 r r', sv, .bool g.flush, .bool g.clip, .bool g.mute, .int .u64 0, .int .u64 0, sl] 59)).cell? ⟨w.heap.size, 0 + j, none⟩ = some x := fun j x hx => by
    rw [Nat.zero_add, cell_of_row _ w.heap.size _ _ _ _ (heap_alloc_new _ _), List.getElem?_toArray]; exact hx
  have hth : (w.alloc (.cells #[.complex .f64 r r', sv, .bool g.flush, .bool g.clip, .bool g.mute, .int .u64 0, .int .u64 0, sl] 59)).there w.heap.size 0 8 := fun j hj => by
    refine ⟨?_, ?_⟩
    · rcases (by omega : j = 0 ∨ j = 1 ∨ j = 2 ∨ j = 3 ∨ j = 4 ∨ j = 5 ∨ j = 6 ∨ j = 7) with rfl | rfl | rfl | rfl | rfl | rfl | rfl | rfl <;> rw [hcell _ _ rfl] <;> rfl
    · rw [Nat.zero_add, frozen_of_row _ _ _ _ _ (heap_alloc_new _ _)]
  obtain ⟨x, y⟩ := h.c4 l4
  obtain ⟨A, x0, x1, x2, x3, x4, x5⟩ := h.c10 l10
  rw [e21] at x y
  have x5' := x5 l4
  rw [e21] at x5'
  have eA : sl = .slice (some ⟨A, 0, none⟩) n n := e27.symm.trans x0
  subst eA
  rw [hd]
  refine ⟨grown_trans h.grown hg, fun l => ?_, fun l => ?_, fun l => ?_, fun l => ?_, fun l => ?_, fun l => ?_⟩
  · rw [put_other (by omega), e21]
    exact ⟨x.below ((Below.refl _ _).alloc (Nat.le_refl _) _), fun hn b off m c e => by have := y hn b off m c e; simp; omega⟩
  · rw [getD_set_ne false (by omega)] at l; rw [put_other (by omega), put_other (by omega)]; exact h.c5 l
  · exact ⟨A, by rw [put_other (by omega)]; exact x0, x1, by simp; omega, x3.grown hg (by simp), there_grown x4 hg x2 (by simp), fun _ => by rw [put_other (by omega), e21]; exact x5'⟩
  · rw [getD_set_ne false (by omega)] at l; rw [put_other (by omega), put_other (by omega), put_other (by omega)]; exact h.c11 l
  · refine ⟨w.heap.size, put_same (by omega), A, sv, ⟨hth, hcell⟩, x.below ((Below.refl _ _).alloc (Nat.le_refl _) _), fun hn b off m c e => by have := y hn b off m c e; simp; omega, fun hn b off m c e => by have := y hn b off m c e; omega, x5', x3.grown hg (by simp), there_grown x4 hg x2 (by simp), by omega, hs, by simp, x1, by simp; omega⟩
  · rw [getD_set_ne false (by omega)] at l; rw [u13] at l; cases l
theorem n4C.asg {W w : World} {n r r' : Nat} {sec : Nat → Sec} {g : Gu} {listed : Array Bool} {a : Act} (h : n4C W n r r' sec g listed a w) {o : Oper} (hz : 30 ≤ a.tmps.size) (hd : o.dst = some 4) : n4C W n r r' sec g (listed.setIfInBounds 13 true) (a.put o.dst (a.eval (.tmp 29))) w := by
  rw [hd]
  refine ⟨h.grown, fun l => ?_, fun l => ?_, fun l => ?_, fun l => ?_, fun l => ?_, fun l => ?_⟩
  · rw [put_other (by omega)]; rw [getD_set_ne false (by omega)] at l; exact h.c4 l
  · rw [getD_set_ne false (by omega)] at l; rw [put_other (by omega), put_other (by omega)]; exact h.c5 l
  · rw [getD_set_ne false (by omega)] at l
    simp only [put_other (show 27 ≠ 4 by omega), put_other (show 21 ≠ 4 by omega), getD_set_ne false (show (13 : Nat) ≠ 4 by omega)]
    exact h.c10 l
  · rw [getD_set_ne false (by omega)] at l; rw [put_other (by omega), put_other (by omega), put_other (by omega)]; exact h.c11 l
  · rw [getD_set_ne false (by omega)] at l; rw [put_other (by omega)]; exact h.c12 l
  · rw [put_same (by omega), put_other (by omega)]

set_option maxRecDepth 100000 in
set_option maxHeartbeats 2000000 in
theorem snew_any (r r' n : Nat) (v : Value) (g : Gu) (G : C2) (sec : Nat → Sec) (w : World) (hg : FinV (.complex .f64 r r')) (hG : CIs (.complex .f64 r r') G) (hv : SecsIs w v n sec) (hn : n ≤ 16) :
    Calls Try.prog 6 #[.agg #[.complex .f64 r r', v], Gv g] w fun e w' => ∃ B, e = .returned (.tuple #[.pointer (some ⟨B, 0, none⟩), .int .i64 0]) ∧ Laid w w' B n r r' sec g ∧ Below w.heap.size w w' := by
  obtain ⟨ad, c, rfl, _⟩ := id hv
  have Hn := hide (fun w' (h : SecsIs w' (.slice ad n c) n sec) => gnew_any r r' n (.slice ad n c) g G sec w' hg hG h hn)
  have Hv := hide hv
  clear hv hg
  unfold Gv at *
  go_enter Try.func6, Try.ntmps6
  go_wp2_with fail
  obtain ⟨W, hW⟩ : ∃ W, W = (w.alloc (Obj.cells #[.complex .f64 r r', .slice ad n c] 27)).alloc (Obj.cells #[.bool g.flush, .bool g.clip, .bool g.mute] 30) := ⟨_, rfl⟩
  rw [← hW]
  have hbW : Below w.heap.size w W := by rw [hW]; exact ((Below.refl _ _).alloc (Nat.le_refl _) _).alloc (by simp) _
  have hsW : W.heap.size = w.heap.size + 2 := by rw [hW]; simp
  have m0 : W.cell? ⟨w.heap.size, 0, none⟩ = some (.complex .f64 r r') := by rw [hW]; go_simp
  have m1 : W.cell? ⟨w.heap.size, 1, none⟩ = some (.slice ad n c) := by rw [hW]; go_simp
  have m2 : W.rangeAt (w.heap.size + 1) 0 [.bool g.flush, .bool g.clip, .bool g.mute] := fun j x hx => by
    have e := cell_of_row _ _ j _ _ _ (heap_alloc_new (w.alloc (Obj.cells #[.complex .f64 r r', .slice ad n c] 27)) (Obj.cells #[.bool g.flush, .bool g.clip, .bool g.mute] 30))
    rw [World.size_alloc] at e
    rw [hW, Nat.zero_add, e, List.getElem?_toArray]; exact hx
  clear hW
  refine (unhide Hn W ((unhide Hv).below hbW)).mono ?_
  rintro e w1 ⟨B0, L0, rfl, _, hbl⟩
  have n0 : w1.cell? ⟨w.heap.size, 0, none⟩ = some (.complex .f64 r r') := (hbl.cell (by show w.heap.size < _; omega)).trans m0
  have n1 : w1.cell? ⟨w.heap.size, 1, none⟩ = some (.slice ad n c) := (hbl.cell (by show w.heap.size < _; omega)).trans m1
  have n2 : w1.rangeAt (w.heap.size + 1) 0 [.bool g.flush, .bool g.clip, .bool g.mute] := fun j x hx => (hbl.cell (by show w.heap.size + 1 < _; omega)).trans (m2 j x hx)
  have hbw1 : Below w.heap.size w w1 := hbW.trans (hbl.mono (by omega))
  have Hv1 := hide ((unhide Hv).below hbw1)
  have hs1 := hbl.size
  have HB := hide (And.intro hbw1 n2)
  have N0 := hide n0
  have N1 := hide n1
  clear hbl hbW m0 m1 m2 n2 hbw1 n0 n1 Hn Hv
  go_wp2_with fail
  rename_i K hK
  have HK := hide hK
  clear hK
  refine region_slotsA (n4V w.heap.size n c r r' ad g) (n4C w1 n r r' sec g) (by kernel_rfl) (by kernel_rfl) (by kernel_rfl) 30 (by kernel_rfl) rfl ?_ ?_ ?_
  · exact ⟨grown_drew _ _, fun h => by simp at h, fun h => by simp at h, fun h => by simp at h, fun h => by simp at h, fun h => by simp at h, fun h => by simp at h⟩
  · intro listed a' w2 i o hI ho hsz hl hd
    have hi : i < 15 := by simpa using (Array.getElem?_eq_some_iff.1 ho).1
    have hc : n4C w1 n r r' sec g listed a' w2 := hI.world
    have hsz' : listed.size = 15 := hsz
    have hz : 30 ≤ a'.tmps.size := Nat.le_of_eq hI.size.symm
    have hcell : ∀ p v, w1.cell? p = some v → w2.cell? p = some v := fun p v h => hc.grown.cell h (by simp)
    have hw12 := hc.grown.size
    rcases (by omega : i = 0 ∨ i = 1 ∨ i = 2 ∨ i = 3 ∨ i = 4 ∨ i = 5 ∨ i = 6 ∨ i = 7 ∨ i = 8 ∨ i = 9 ∨ i = 10 ∨ i = 11 ∨ i = 12 ∨ i = 13 ∨ i = 14) with rfl | rfl | rfl | rfl | rfl | rfl | rfl | rfl | rfl | rfl | rfl | rfl | rfl | rfl | rfl
    all_goals obtain rfl := Option.some.inj ho
    · exact (ok_field rfl rfl (hI.base 2 (by kernel_rfl)) (field_filt0 _ _) rfl (fun u => hc.same (grown_refl _ _) 0 17 rfl (by omega) (by omega) u)).toR
    · exact (ok_load rfl rfl (hI.slot 0 _ 17 rfl rfl (hd ⟨0, .data⟩ (by simp) rfl)) (load_c _ _ _ _ (hcell _ _ (unhide N0))) rfl (fun u => hc.same (grown_refl _ _) 1 18 rfl (by omega) (by omega) u)).toR
    · exact (ok_field rfl rfl (hI.base 2 (by kernel_rfl)) (field_filt1 _ _) rfl (fun u => hc.same (grown_refl _ _) 2 19 rfl (by omega) (by omega) u)).toR
    · exact (ok_load rfl rfl (hI.slot 2 _ 19 rfl rfl (hd ⟨2, .data⟩ (by simp) rfl)) (load_secs _ _ _ _ _ (hcell _ _ (unhide N1))) rfl (fun u => hc.same (grown_refl _ _) 3 20 rfl (by omega) (by omega) u)).toR
    · have k2 : a'.eval (.tmp 20) = .slice ad n c := hI.slot 3 _ 20 rfl rfl (hd ⟨3, .data⟩ (by simp) rfl)
      have u5 : listed.getD 5 false = false := hI.not_yet hsz' (by omega) hl 5 rfl ⟨4, .data⟩ (by simp) rfl rfl
      have u11 : listed.getD 11 false = false := by
        cases h7 : listed.getD 11 false with
        | false => rfl
        | true => have h6 := hI.closed 11 _ rfl h7 ⟨5, .data⟩ (by simp) rfl; rw [u5] at h6; cases h6
      have u12 : listed.getD 12 false = false := by
        cases h7 : listed.getD 12 false with
        | false => rfl
        | true => have h6 := hI.closed 12 _ rfl h7 ⟨11, .data⟩ (by simp) rfl; rw [u11] at h6; cases h6
      have u13 : listed.getD 13 false = false := by
        cases h7 : listed.getD 13 false with
        | false => rfl
        | true => have h6 := hI.closed 13 _ rfl h7 ⟨12, .data⟩ (by simp) rfl; rw [u12] at h6; cases h6
      refine .inr (.inr ⟨18, #[a'.eval (.tmp 20)], ?_, ?_⟩)
      · simp [execOp]
        go_simp
      rw [k2]
      refine (sclone_any (.slice ad n c) n sec w2 ((unhide Hv1).below ⟨hc.grown.os, hc.grown.tape, hc.grown.output, hc.grown.size, fun k hk => hc.grown.block k hk (by simp)⟩) hn).mono ?_
      rintro e w5 ⟨a2, c2, rfl, hS5, hI5, hb5⟩
      exact ⟨_, rfl, slot_of rfl ⟨a2, c2, rfl⟩, hc.clone hz rfl u5 u11 u12 u13 hS5 hI5 (below_grown hb5 none)⟩
    · have k1 : a'.eval (.tmp 18) = .complex .f64 r r' := hI.slot 1 _ 18 rfl rfl (hd ⟨1, .data⟩ (by simp) rfl)
      obtain ⟨a2, c2, k2⟩ := hI.slot 4 _ 21 rfl rfl (hd ⟨4, .data⟩ (by simp) rfl)
      have u11 : listed.getD 11 false = false := hI.not_yet hsz' (by omega) hl 11 rfl ⟨5, .data⟩ (by simp) rfl rfl
      refine .inl ⟨.agg #[.complex .f64 r r', .slice a2 n c2], w2, ?_, slot_of rfl trivial, hc.filt hz rfl u11 (by rw [k2])⟩
      simp [execOp, k1, k2, build_filt]
    · exact (ok_load rfl rfl (hI.base 3 (by kernel_rfl)) (run_loadAt_mid w2 (w.heap.size + 1) 0 30 _ _ (fun j x hx => hcell _ _ ((unhide HB).2 j x hx)) Try.underlying30 rfl info_grd) rfl (fun u => hc.same (grown_refl _ _) 6 23 rfl (by omega) (by omega) u)).toR
    · exact (ok_field rfl rfl (hI.base 2 (by kernel_rfl)) (field_filt1 _ _) rfl (fun u => hc.same (grown_refl _ _) 7 24 rfl (by omega) (by omega) u)).toR
    · exact (ok_load rfl rfl (hI.slot 7 _ 24 rfl rfl (hd ⟨7, .data⟩ (by simp) rfl)) (load_secs _ _ _ _ _ (hcell _ _ (unhide N1))) rfl (fun u => hc.same (grown_refl _ _) 8 25 rfl (by omega) (by omega) u)).toR
    · have k1 : a'.eval (.tmp 25) = .slice ad n c := hI.slot 8 _ 25 rfl rfl (hd ⟨8, .data⟩ (by simp) rfl)
      refine .inl ⟨.int .i64 n, w2, ?_, slot_of rfl rfl, (fun u => hc.same (grown_refl _ _) 9 26 rfl (by omega) (by omega) u) _⟩
      rw [Act.eval, Array.getD_eq_getD_getElem?] at k1
      simp only [execOp]
      go_simp
    · have k1 : a'.eval (.tmp 26) = .int .i64 n := hI.slot 9 _ 26 rfl rfl (hd ⟨9, .data⟩ (by simp) rfl)
      have u11 : listed.getD 11 false = false := hI.not_yet hsz' (by omega) hl 11 rfl ⟨10, .data⟩ (by simp) rfl rfl
      have u12 : listed.getD 12 false = false := by
        cases h7 : listed.getD 12 false with
        | false => rfl
        | true => have h6 := hI.closed 12 _ rfl h7 ⟨11, .data⟩ (by simp) rfl; rw [u11] at h6; cases h6
      have u13 : listed.getD 13 false = false := by
        cases h7 : listed.getD 13 false with
        | false => rfl
        | true => have h6 := hI.closed 13 _ rfl h7 ⟨12, .data⟩ (by simp) rfl; rw [u12] at h6; cases h6
      refine .inl ⟨.slice (some ⟨w2.heap.size, 0, none⟩) n n, _, ?_, slot_of rfl ⟨_, rfl⟩, hc.made hz rfl u11 u12 u13⟩
      simp [execOp, k1, make_sts n hn]
    · have k5 := hc.c5 (hd ⟨5, .data⟩ (by simp) rfl)
      have k6 : a'.eval (.tmp 23) = .agg #[.bool g.flush, .bool g.clip, .bool g.mute] := hI.slot 6 _ 23 rfl rfl (hd ⟨6, .data⟩ (by simp) rfl)
      obtain ⟨A, k10⟩ := hI.slot 10 _ 27 rfl rfl (hd ⟨10, .data⟩ (by simp) rfl)
      have l4 : listed.getD 4 false = true := hI.closed 5 _ rfl (hd ⟨5, .data⟩ (by simp) rfl) ⟨4, .data⟩ (by simp) rfl
      obtain ⟨a2, c2, k2⟩ := hI.slot 4 _ 21 rfl rfl l4
      rw [k2] at k5
      refine .inl ⟨.agg #[.complex .f64 r r', .slice a2 n c2, .bool g.flush, .bool g.clip, .bool g.mute, .int .u64 0, .int .u64 0, .slice (some ⟨A, 0, none⟩) n n], w2, ?_, slot_of rfl trivial, hc.strm hz rfl (by rw [k2, k10])⟩
      simp [execOp, k5, k6, k10, build_strm]
    · have l11 := hd ⟨11, .data⟩ (by simp) rfl
      have l5 : listed.getD 5 false = true := hI.closed 11 _ rfl l11 ⟨5, .data⟩ (by simp) rfl
      have l4 : listed.getD 4 false = true := hI.closed 5 _ rfl l5 ⟨4, .data⟩ (by simp) rfl
      have l10 : listed.getD 10 false = true := hI.closed 11 _ rfl l11 ⟨10, .data⟩ (by simp) rfl
      have u13 : listed.getD 13 false = false := hI.not_yet hsz' (by omega) hl 13 rfl ⟨12, .data⟩ (by simp) rfl rfl
      obtain ⟨a2, c2, k2⟩ := hI.slot 4 _ 21 rfl rfl l4
      obtain ⟨A, k10⟩ := hI.slot 10 _ 27 rfl rfl l10
      have k11 := hc.c11 l11
      rw [k2, k10] at k11
      refine .inl ⟨.pointer (some ⟨w2.heap.size, 0, none⟩), _, ?_, slot_of rfl ⟨_, rfl⟩, hc.boxed hz rfl l4 l10 u13 k2 k10⟩
      simp [execOp, k11, box_strm]
    · obtain ⟨B, k12⟩ := hI.slot 12 _ 29 rfl rfl (hd ⟨12, .data⟩ (by simp) rfl)
      refine .inl ⟨a'.eval (.tmp 29), w2, ?_, slot_of rfl ⟨B, k12⟩, hc.asg hz rfl⟩
      simp [execOp]
    · exact (ok_assign (d := 5) rfl rfl rfl rfl (fun u => hc.same (grown_refl _ _) 14 5 rfl (by omega) (by omega) u)).toR
  · intro listed a' w2 hI hall
    have hw : n4C w1 n r r' sec g listed a' w2 := hI.world
    obtain ⟨B, e29, hL⟩ := hw.c12 (hall 12 (by decide))
    have e4 := (hw.c13 (hall 13 (by decide))).trans e29
    have hgw := hw.grown
    clear hw e29
    have k5 := hI.slot 14 _ 5 rfl rfl (hall 14 (by decide))
    have E := act_lit a' 30 hI.size
    rw [hI.defers] at E
    replace E : a' = ⟨#[a'.eval (.tmp 0), a'.eval (.tmp 1), a'.eval (.tmp 2), a'.eval (.tmp 3), a'.eval (.tmp 4), a'.eval (.tmp 5), a'.eval (.tmp 6), a'.eval (.tmp 7), a'.eval (.tmp 8), a'.eval (.tmp 9), a'.eval (.tmp 10), a'.eval (.tmp 11), a'.eval (.tmp 12), a'.eval (.tmp 13), a'.eval (.tmp 14), a'.eval (.tmp 15), a'.eval (.tmp 16), a'.eval (.tmp 17), a'.eval (.tmp 18), a'.eval (.tmp 19), a'.eval (.tmp 20), a'.eval (.tmp 21), a'.eval (.tmp 22), a'.eval (.tmp 23), a'.eval (.tmp 24), a'.eval (.tmp 25), a'.eval (.tmp 26), a'.eval (.tmp 27), a'.eval (.tmp 28), a'.eval (.tmp 29)], _⟩ := E
    rw [hI.base 0 (by kernel_rfl), hI.base 1 (by kernel_rfl), hI.base 2 (by kernel_rfl), hI.base 3 (by kernel_rfl), hI.base 6 (by kernel_rfl), hI.base 7 (by kernel_rfl), hI.base 8 (by kernel_rfl), hI.base 9 (by kernel_rfl), hI.base 10 (by kernel_rfl), hI.base 11 (by kernel_rfl), hI.base 12 (by kernel_rfl), hI.base 13 (by kernel_rfl), hI.base 14 (by kernel_rfl), hI.base 15 (by kernel_rfl), hI.base 16 (by kernel_rfl)] at E
    clear hI
    generalize a'.eval (.tmp 4) = y4 at E e4
    subst e4
    generalize a'.eval (.tmp 5) = y5 at E k5
    generalize a'.eval (.tmp 17) = y17 at E
    generalize a'.eval (.tmp 18) = y18 at E
    generalize a'.eval (.tmp 19) = y19 at E
    generalize a'.eval (.tmp 20) = y20 at E
    generalize a'.eval (.tmp 21) = y21 at E
    generalize a'.eval (.tmp 22) = y22 at E
    generalize a'.eval (.tmp 23) = y23 at E
    generalize a'.eval (.tmp 24) = y24 at E
    generalize a'.eval (.tmp 25) = y25 at E
    generalize a'.eval (.tmp 26) = y26 at E
    generalize a'.eval (.tmp 27) = y27 at E
    generalize a'.eval (.tmp 28) = y28 at E
    generalize a'.eval (.tmp 29) = y29 at E
    simp [Act.eval] at E
    subst E
    have k5' : y5 = .int .i64 0 := k5
    subst k5'
    refine unhide HK _ _ ?_
    clear HK hall
    go_wp2
    go_ret2
    obtain ⟨hb1, _⟩ := unhide HB
    have hs := hb1.size
    obtain ⟨A, sv, q1, q2, q3, q4, q5, q6, q7, q8, q9, q10, q11, q12⟩ := hL
    exact ⟨B, rfl, ⟨A, sv, q1, q2, fun hn b off m c e => by have := q3 hn b off m c e; omega, q4, q5, q6, q7, q8, by omega, q10, by omega, q12⟩, hb1.trans ⟨hgw.os, hgw.tape, hgw.output, hgw.size, fun k hk => hgw.block k (by omega) (by simp)⟩⟩
end Go.Proofs.Ytnfgdhnoidpncaa
