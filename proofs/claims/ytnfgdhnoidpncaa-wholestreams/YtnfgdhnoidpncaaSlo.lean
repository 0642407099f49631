/- The stream that bytes are: what Load does with bytes that Save gave. -/
import Derived.Test.YtnfgdhnoidpncaaSlx
namespace Go.Proofs.Ytnfgdhnoidpncaa
open Go.RowKit

theorem infoz_sec6 : (Try.prog.info? 52).map (fun i => (i.zero, i.size, i.bytes)) = some (some (.agg #[c0, c0, c0, c0, c0]), 5, 80) := by kernel_rfl
theorem make_secs (n : Nat) (hn : n ≤ 16) (w : World) : (Instr.makeSlice 25 (.int .u8 n) (.int .u8 n)).run Try.prog w = .ok (.slice (some ⟨w.heap.size, 0, none⟩) n n) (w.alloc (.cells (madeCells (Value.agg #[c0, c0, c0, c0, c0]).cells (n * 5)) 52)) := by
  obtain ⟨i0, hi, hz0, hz1, hz2⟩ := info_parts infoz_sec6
  have h := run_make (P := Try.prog) w 25 52 i0 _ Try.underlying25 hi hz0 .u8 .u8 (n : Int) (n : Int) (by omega) (by omega) (by rw [hz2]; omega) (by omega)
  rw [hz1] at h
  simpa using h

/-- The filter that is being read: its gain and its sections' row. -/
structure LdAt (w : World) (Br F S n : Nat) (gv : Value) : Prop where
  cells : w.rangeAt F 0 [gv, .slice (some ⟨S, 0, none⟩) n n]
  row : w.there S 0 (n * 5)
  ne : F ≠ S
  fb : Br < F
  sb : Br < S
  fl : F < w.heap.size
  sl : S < w.heap.size
theorem LdAt.same {w w' : World} {Br F S n : Nat} {gv : Value} {O : Nat → Prop} (h : LdAt w Br F S n gv) (hb : But O w w') (h1 : ¬ O F) (h2 : ¬ O S) : LdAt w' Br F S n gv :=
  ⟨cells_same (hb.block F h.fl h1) h.cells, there_same (hb.block S h.sl h2) h.row, h.ne, h.fb, h.sb, Nat.lt_of_lt_of_le h.fl hb.size, Nat.lt_of_lt_of_le h.sl hb.size⟩

theorem run_alloc_filt (w : World) : (Instr.alloc 27 true (.tuple #[])).run Try.prog w = .ok (.pointer (some ⟨w.heap.size, 0, none⟩)) (w.alloc (.cells #[.complex .f64 0 0, .slice none 0 0] 27)) := by go_simp
theorem made_s5 (m j : Nat) (hj : j < m) : (madeCells (Value.agg #[c0, c0, c0, c0, c0]).cells m)[j]? = some c0 := by
  have h7 : j % 5 < 5 := Nat.mod_lt _ (by omega)
  simp only [madeCells, Array.getElem?_map, Array.getElem?_range, hj, if_true, Option.map_some, Value.cells]
  congr 1
  have e : (#[c0, c0, c0, c0, c0] : Array Value).size = 5 := rfl
  rw [e]
  generalize j % 5 = r at h7
  rcases (by omega : r = 0 ∨ r = 1 ∨ r = 2 ∨ r = 3 ∨ r = 4) with rfl | rfl | rfl | rfl | rfl <;> rfl
/-- What the slots of the region that begins the filter come to hold. -/
def l6V (A n cap x0 x1 : Nat) : Nat → Value → Prop
  | 26, v => v = .complex .f64 x0 x1
  | 27, v => v = .slice (some ⟨A, 0, none⟩) (38 + 112 * n) cap
  | 28, v => v = .pointer (some ⟨A, 5, none⟩)
  | 29, v => v = .int .u8 (n : Nat)
  | 30, v => ∃ S, v = .slice (some ⟨S, 0, none⟩) n n
  | 5, v => ∃ F, v = .pointer (some ⟨F, 0, none⟩)
  | _, _ => True
structure l6C (W : World) (Br A n N cap : Nat) (X : Nat → Nat) (listed : Array Bool) (a : Act) (w : World) : Prop where
  but : But (fun k => k = Br) W w
  rb0 : listed.getD 0 false = false → RB w Br A 0 N cap X
  rb1 : listed.getD 0 false = true → RB w Br A 2 N cap X
  c4 : listed.getD 4 false = true → ∃ S, a.eval (.tmp 30) = .slice (some ⟨S, 0, none⟩) n n ∧ W.heap.size ≤ S ∧ S < w.heap.size ∧ w.there S 0 (n * 5)
  c5 : listed.getD 5 false = true → a.eval (.tmp 31) = .agg #[.complex .f64 (X 0) (X 1), a.eval (.tmp 30)]
  c6 : listed.getD 6 false = true → ∃ F, a.eval (.tmp 5) = .pointer (some ⟨F, 0, none⟩) ∧ W.heap.size ≤ F ∧ F < w.heap.size ∧ w.there F 0 2 ∧ (listed.getD 4 false = true → ∀ S m c, a.eval (.tmp 30) = .slice (some ⟨S, 0, none⟩) m c → F ≠ S)
  c7 : listed.getD 7 false = true → ∃ F, a.eval (.tmp 5) = .pointer (some ⟨F, 0, none⟩) ∧ w.rangeAt F 0 [.complex .f64 (X 0) (X 1), a.eval (.tmp 30)]
theorem l6C.same {W w : World} {Br A n N cap : Nat} {X : Nat → Nat} {listed : Array Bool} {a : Act} (h : l6C W Br A n N cap X listed a w) {o : Oper} (i d : Nat) (hd : o.dst = some d) (hi : i ≠ 0 ∧ i ≠ 4 ∧ i ≠ 5 ∧ i ≠ 6 ∧ i ≠ 7) (hs : d ≠ 30 ∧ d ≠ 31 ∧ d ≠ 5) (u : Value) : l6C W Br A n N cap X (listed.setIfInBounds i true) (a.put o.dst u) w := by
  obtain ⟨i1, i2, i3, i4, i5⟩ := hi
  obtain ⟨s1, s2, s3⟩ := hs
  refine ⟨h.but, ?_, ?_, ?_, ?_, ?_, ?_⟩
  all_goals try rw [hd]
  all_goals simp only [getD_set_ne false i1, getD_set_ne false i2, getD_set_ne false i3, getD_set_ne false i4, getD_set_ne false i5, put_other (Ne.symm s1), put_other (Ne.symm s2), put_other (Ne.symm s3)]
  · exact h.rb0
  · exact h.rb1
  · exact h.c4
  · exact h.c5
  · exact h.c6
  · exact h.c7
theorem l6C.num {W w w' : World} {Br A n N cap : Nat} {X : Nat → Nat} {listed : Array Bool} {a : Act} (h : l6C W Br A n N cap X listed a w) {o : Oper} (hd : o.dst = some 26) (hBr : Br < W.heap.size) (u5 : listed.getD 5 false = false) (u7 : listed.getD 7 false = false) (hl : 0 < listed.size) (hb : But (fun k => k = Br) w w') (hR : RB w' Br A 2 N cap X) (u : Value) : l6C W Br A n N cap X (listed.setIfInBounds 0 true) (a.put o.dst u) w' := by
  have hs := hb.size
  rw [hd]
  refine ⟨h.but.trans hb (fun k hk => .inl hk), fun l => ?_, fun _ => hR, fun l => ?_, fun l => ?_, fun l => ?_, fun l => ?_⟩
  · rw [listed_set rfl hl] at l; cases l
  · rw [getD_set_ne false (by omega)] at l
    rw [put_other (by omega)]
    obtain ⟨S, e, x1, x2, x3⟩ := h.c4 l
    exact ⟨S, e, x1, by omega, there_same (hb.block S x2 (by omega)) x3⟩
  · rw [getD_set_ne false (by omega), u5] at l; cases l
  · rw [getD_set_ne false (by omega)] at l
    simp only [put_other (show 5 ≠ 26 by omega), put_other (show 30 ≠ 26 by omega), getD_set_ne false (show (0 : Nat) ≠ 4 by omega)]
    obtain ⟨F, e, x1, x2, x3, x4⟩ := h.c6 l
    exact ⟨F, e, x1, by omega, there_same (hb.block F x2 (by omega)) x3, x4⟩
  · rw [getD_set_ne false (by omega), u7] at l; cases l
theorem l6C.made {W w : World} {Br A n N cap : Nat} {X : Nat → Nat} {listed : Array Bool} {a : Act} (h : l6C W Br A n N cap X listed a w) {o : Oper} (hz : 88 ≤ a.tmps.size) (hd : o.dst = some 30) (u5 : listed.getD 5 false = false) (u7 : listed.getD 7 false = false) :
    l6C W Br A n N cap X (listed.setIfInBounds 4 true) (a.put o.dst (.slice (some ⟨w.heap.size, 0, none⟩) n n)) (w.alloc (.cells (madeCells (Value.agg #[c0, c0, c0, c0, c0]).cells (n * 5)) 52)) := by
  have hb : But (fun _ => False) w (w.alloc (.cells (madeCells (Value.agg #[c0, c0, c0, c0, c0]).cells (n * 5)) 52)) := But.low ((Below.refl _ _).alloc (Nat.le_refl _) _)
  have hs := h.but.size
  rw [hd]
  refine ⟨h.but.trans hb (fun _ e => e.elim), fun l => ?_, fun l => ?_, fun _ => ?_, fun l => ?_, fun l => ?_, fun l => ?_⟩
  · rw [getD_set_ne false (by omega)] at l; exact (h.rb0 l).same hb (fun e => e) (fun e => e)
  · rw [getD_set_ne false (by omega)] at l; exact (h.rb1 l).same hb (fun e => e) (fun e => e)
  · refine ⟨w.heap.size, put_same (by omega), hs, by simp, fun j hj => ?_⟩
    rw [Nat.zero_add, cell_of_row _ w.heap.size j _ _ _ (heap_alloc_new _ _), made_s5 _ _ hj, frozen_of_row _ w.heap.size j _ _ (heap_alloc_new _ _)]; exact ⟨rfl, rfl⟩
  · rw [getD_set_ne false (by omega), u5] at l; cases l
  · rw [getD_set_ne false (by omega)] at l
    obtain ⟨F, e, x1, x2, x3, x4⟩ := h.c6 l
    refine ⟨F, by rw [put_other (by omega)]; exact e, x1, by simp; omega, there_same (hb.block F x2 (fun e => e)) x3, fun _ S m c eS => ?_⟩
    rw [put_same (by omega)] at eS
    injection eS with e1; injection e1 with e1; injection e1 with e1
    omega
  · rw [getD_set_ne false (by omega), u7] at l; cases l
theorem l6C.bld {W w : World} {Br A n N cap : Nat} {X : Nat → Nat} {listed : Array Bool} {a : Act} (h : l6C W Br A n N cap X listed a w) {o : Oper} (hz : 88 ≤ a.tmps.size) (hd : o.dst = some 31) (u7 : listed.getD 7 false = false) {u : Value} (hu : u = .agg #[.complex .f64 (X 0) (X 1), a.eval (.tmp 30)]) : l6C W Br A n N cap X (listed.setIfInBounds 5 true) (a.put o.dst u) w := by
  rw [hd]
  refine ⟨h.but, fun l => ?_, fun l => ?_, fun l => ?_, fun l => ?_, fun l => ?_, fun l => ?_⟩
  · rw [getD_set_ne false (by omega)] at l; exact h.rb0 l
  · rw [getD_set_ne false (by omega)] at l; exact h.rb1 l
  · rw [getD_set_ne false (by omega)] at l; rw [put_other (by omega)]; exact h.c4 l
  · rw [put_same (by omega), put_other (by omega)]; exact hu
  · rw [getD_set_ne false (by omega)] at l
    simp only [put_other (show 5 ≠ 31 by omega), put_other (show 30 ≠ 31 by omega), getD_set_ne false (show (5 : Nat) ≠ 4 by omega)]
    exact h.c6 l
  · rw [getD_set_ne false (by omega), u7] at l; cases l
theorem l6C.flt {W w : World} {Br A n N cap : Nat} {X : Nat → Nat} {listed : Array Bool} {a : Act} (h : l6C W Br A n N cap X listed a w) {o : Oper} (hz : 88 ≤ a.tmps.size) (hd : o.dst = some 5) (u7 : listed.getD 7 false = false) :
    l6C W Br A n N cap X (listed.setIfInBounds 6 true) (a.put o.dst (.pointer (some ⟨w.heap.size, 0, none⟩))) (w.alloc (.cells #[.complex .f64 0 0, .slice none 0 0] 27)) := by
  have hb : But (fun _ => False) w (w.alloc (.cells #[.complex .f64 0 0, .slice none 0 0] 27)) := But.low ((Below.refl _ _).alloc (Nat.le_refl _) _)
  have hs := h.but.size
  rw [hd]
  refine ⟨h.but.trans hb (fun _ e => e.elim), fun l => ?_, fun l => ?_, fun l => ?_, fun l => ?_, fun _ => ?_, fun l => ?_⟩
  · rw [getD_set_ne false (by omega)] at l; exact (h.rb0 l).same hb (fun e => e) (fun e => e)
  · rw [getD_set_ne false (by omega)] at l; exact (h.rb1 l).same hb (fun e => e) (fun e => e)
  · rw [getD_set_ne false (by omega)] at l
    obtain ⟨S, e, x1, x2, x3⟩ := h.c4 l
    exact ⟨S, by rw [put_other (by omega)]; exact e, x1, by simp; omega, there_same (hb.block S x2 (fun e => e)) x3⟩
  · rw [getD_set_ne false (by omega)] at l; rw [put_other (by omega), put_other (by omega)]; exact h.c5 l
  · refine ⟨w.heap.size, put_same (by omega), hs, by simp, fun j hj => ?_, fun l S m c eS => ?_⟩
    · rw [Nat.zero_add, cell_of_row _ w.heap.size j _ _ _ (heap_alloc_new _ _), frozen_of_row _ w.heap.size j _ _ (heap_alloc_new _ _)]
      rcases (by omega : j = 0 ∨ j = 1) with rfl | rfl <;> exact ⟨rfl, rfl⟩
    · rw [getD_set_ne false (by omega)] at l
      rw [put_other (by omega)] at eS
      obtain ⟨S', e, x1, x2, x3⟩ := h.c4 l
      rw [e] at eS
      injection eS with e1; injection e1 with e1; injection e1 with e1
      omega
  · rw [getD_set_ne false (by omega), u7] at l; cases l
theorem l6C.sto {W w : World} {Br A n N cap : Nat} {X : Nat → Nat} {listed : Array Bool} {a : Act} (h : l6C W Br A n N cap X listed a w) {o : Oper} (hd : o.dst = none) {F : Nat} (l6 : listed.getD 6 false = true) (l4 : listed.getD 4 false = true) (l0 : listed.getD 0 false = true) (hBr : Br < W.heap.size) (hAW : A < W.heap.size) (eF : a.eval (.tmp 5) = .pointer (some ⟨F, 0, none⟩)) {sl : Value} (e30 : a.eval (.tmp 30) = sl) :
    l6C W Br A n N cap X (listed.setIfInBounds 7 true) (a.put o.dst undef) (w.setCells F 0 [.complex .f64 (X 0) (X 1), sl]) := by
  obtain ⟨F', e, x1, x2, x3, x4⟩ := h.c6 l6
  have eq : F' = F := by rw [e] at eF; injection eF with e1; injection e1 with e1; injection e1
  subst eq
  obtain ⟨S, eS, y1, y2, y3⟩ := h.c4 l4
  have hFS := x4 l4 S n n eS
  have hev : ∀ t, (a.put o.dst undef).eval (.tmp t) = a.eval (.tmp t) := fun t => by rw [hd]; rfl
  have hg : w.grownBy (w.setCells F' 0 [.complex .f64 (X 0) (X 1), sl]) (some F') := grown_setCells (grown_refl _ _)
  have hb : But (fun k => k = F') w (w.setCells F' 0 [.complex .f64 (X 0) (X 1), sl]) := ⟨hg.os, hg.tape, hg.output, hg.size, fun k hk hn => hg.block k hk (by intro e; exact hn (Option.some.inj e))⟩
  have hs := hg.size
  refine ⟨h.but.trans hb (fun k hk => .inr (by omega)), fun l => ?_, fun _ => (h.rb1 l0).same hb (by omega) (by omega), fun _ => ?_, fun l => ?_, fun _ => ?_, fun _ => ?_⟩
  · rw [getD_set_ne false (by omega), l0] at l; cases l
  · rw [hev]; exact ⟨S, eS, y1, by omega, there_same (hb.block S y2 (by omega)) y3⟩
  · rw [getD_set_ne false (by omega)] at l; rw [hev, hev]; exact h.c5 l
  · rw [hev, hev]; exact ⟨F', e, x1, by omega, there_set x3, fun _ => x4 l4⟩
  · rw [hev, hev, e30]; exact ⟨F', e, World.rangeAt_setCells_same w F' 0 _ x3⟩
theorem index_b5 (A l cap : Nat) (w : World) (h : 5 < l) : (Instr.indexAt 22 (.slice (some ⟨A, 0, none⟩) l cap) (.int .i64 5)).run Try.prog w = .ok (.pointer (some ⟨A, 5, none⟩)) w := by
  have h' : (5 : Int) < (l : Int) := by omega
  go_simp
theorem load_u8 (p : Addr) (b : Nat) (w : World) (h : w.cell? p = some (.int .u8 (b : Nat))) : (Instr.loadAt 5 (.pointer (some p))).run Try.prog w = .ok (.int .u8 (b : Nat)) w := by go_simp

/-- What the slots of the region that reads a section come to hold. -/
def l10V (F S n k q : Nat) (X : Nat → Nat) : Nat → Value → Prop
  | 38, v => v = .pointer (some ⟨F, 1, none⟩)
  | 39, v => v = .slice (some ⟨S, 0, none⟩) n n
  | 40, v => v = .int .i64 k
  | 41, v => v = .complex .f64 (X q) (X (q + 1))
  | 42, v => v = .complex .f64 (X (q + 2)) (X (q + 3))
  | 43, v => v = .complex .f64 (X (q + 4)) (X (q + 5))
  | 44, v => v = .complex .f64 (X (q + 6)) (X (q + 7))
  | 45, v => v = .complex .f64 (X (q + 8)) (X (q + 9))
  | 46, v => v = .agg #[.complex .f64 (X q) (X (q + 1)), .complex .f64 (X (q + 2)) (X (q + 3)), .complex .f64 (X (q + 4)) (X (q + 5)), .complex .f64 (X (q + 6)) (X (q + 7)), .complex .f64 (X (q + 8)) (X (q + 9))]
  | 47, v => v = .pointer (some ⟨S, k * 5, none⟩)
  | _, _ => True
def sv5 (X : Nat → Nat) (q : Nat) : List Value := [.complex .f64 (X q) (X (q + 1)), .complex .f64 (X (q + 2)) (X (q + 3)), .complex .f64 (X (q + 4)) (X (q + 5)), .complex .f64 (X (q + 6)) (X (q + 7)), .complex .f64 (X (q + 8)) (X (q + 9))]
structure l10C (W : World) (Br A S k q N cap : Nat) (X : Nat → Nat) (listed : Array Bool) (w : World) : Prop where
  but : listed.getD 10 false = false → But (fun k => k = Br) W w
  rb : ∀ m, m ≤ 5 → (∀ j, j < m → listed.getD (3 + j) false = true) → (∀ j, m ≤ j → j < 5 → listed.getD (3 + j) false = false) → RB w Br A (q + 2 * m) N cap X
  fin : listed.getD 10 false = true → ∃ w0, But (fun k => k = Br) W w0 ∧ w = w0.setCells S (k * 5) (sv5 X q)
theorem l10C.same {W w : World} {Br A S k q N cap : Nat} {X : Nat → Nat} {listed : Array Bool} (h : l10C W Br A S k q N cap X listed w) (i : Nat) (hi : i < 3 ∨ i = 8 ∨ i = 9) : l10C W Br A S k q N cap X (listed.setIfInBounds i true) w := by
  have e : ∀ j, j ≠ i → (listed.setIfInBounds i true).getD j false = listed.getD j false := fun j hj => getD_set_ne false (Ne.symm hj)
  refine ⟨fun l => h.but (by rwa [e 10 (by omega)] at l), fun m hm hp hu => h.rb m hm (fun j hj => ?_) (fun j hj h5 => ?_), fun l => h.fin (by rwa [e 10 (by omega)] at l)⟩
  · have := hp j hj; rwa [e (3 + j) (by omega)] at this
  · have := hu j hj h5; rwa [e (3 + j) (by omega)] at this
theorem l10C.num {W w w' : World} {Br A S k q N cap m : Nat} {X : Nat → Nat} {listed : Array Bool} (h : l10C W Br A S k q N cap X listed w) (hm : m < 5) (hz : listed.size = 11) (hb : But (fun k => k = Br) w w') (hR : RB w' Br A (q + 2 * m + 2) N cap X) (u10 : listed.getD 10 false = false) (hu : ∀ j, m < j → j < 5 → listed.getD (3 + j) false = false) : l10C W Br A S k q N cap X (listed.setIfInBounds (3 + m) true) w' := by
  have hself := listed_set (listed := listed) hz (show 3 + m < 11 by omega)
  have e : ∀ j, j ≠ 3 + m → (listed.setIfInBounds (3 + m) true).getD j false = listed.getD j false := fun j hj => getD_set_ne false (Ne.symm hj)
  refine ⟨fun _ => (h.but u10).trans hb (fun k hk => .inl hk), fun m' hm' hp' hu' => ?_, fun l => by rw [e 10 (by omega), u10] at l; cases l⟩
  have h1 : m < m' := by
    apply Nat.lt_of_not_le
    intro hle
    have := hu' m hle hm
    rw [hself] at this; cases this
  have h2 : m' = m + 1 := by
    apply Nat.le_antisymm _ h1
    apply Nat.le_of_not_lt
    intro hlt
    have := hp' (m + 1) hlt
    rw [e (3 + (m + 1)) (by omega), hu (m + 1) (by omega) (by omega)] at this
    cases this
  subst h2
  rw [show q + 2 * (m + 1) = q + 2 * m + 2 by omega]
  exact hR
theorem l10C.sto {W w : World} {Br A S k q N cap : Nat} {X : Nat → Nat} {listed : Array Bool} (h : l10C W Br A S k q N cap X listed w) (hz : listed.size = 11) (u10 : listed.getD 10 false = false) (hS1 : S ≠ Br) (hS2 : S ≠ A) : l10C W Br A S k q N cap X (listed.setIfInBounds 10 true) (w.setCells S (k * 5) (sv5 X q)) := by
  have hself := listed_set (listed := listed) hz (show 10 < 11 by omega)
  have e : ∀ j, j < 5 → (listed.setIfInBounds 10 true).getD (3 + j) false = listed.getD (3 + j) false := fun j hj => getD_set_ne false (by omega)
  have hg : w.grownBy (w.setCells S (k * 5) (sv5 X q)) (some S) := grown_setCells (grown_refl _ _)
  have hb : But (fun k => k = S) w (w.setCells S (k * 5) (sv5 X q)) := ⟨hg.os, hg.tape, hg.output, hg.size, fun k hk hn => hg.block k hk (by intro e; exact hn (Option.some.inj e))⟩
  refine ⟨fun l => (by rw [hself] at l; cases l), fun m hm hp hu => ?_, fun _ => ⟨w, h.but u10, rfl⟩⟩
  exact (h.rb m hm (fun j hj => by have := hp j hj; rwa [e j (by omega)] at this) (fun j hj h5 => by have := hu j hj h5; rwa [e j h5] at this)).same hb (by omega) (by omega)
theorem field_filt1' (b : Nat) (w : World) : (Instr.fieldAt 27 (.pointer (some ⟨b, 0, none⟩)) 1).run Try.prog w = .ok (.pointer (some ⟨b, 1, none⟩)) w := field_filt1 b w
theorem build_sec (a a' b b' c c' d d' e e' : Nat) (w : World) : (Instr.build 52 #[(0, .complex .f64 a a'), (1, .complex .f64 b b'), (2, .complex .f64 c c'), (3, .complex .f64 d d'), (4, .complex .f64 e e')]).run Try.prog w = .ok (.agg #[.complex .f64 a a', .complex .f64 b b', .complex .f64 c c', .complex .f64 d d', .complex .f64 e e']) w := by go_simp

def l19V (B A2 n k q : Nat) (X : Nat → Nat) : Nat → Value → Prop
  | 77, v => v = .pointer (some ⟨B, 0, none⟩)
  | 78, v => v = .pointer (some ⟨B, 0, none⟩)
  | 79, v => v = .pointer (some ⟨B, 7, none⟩)
  | 80, v => v = .slice (some ⟨A2, 0, none⟩) n n
  | 81, v => v = .int .i64 k
  | 82, v => v = .complex .f64 (X q) (X (q + 1))
  | 83, v => v = .complex .f64 (X (q + 2)) (X (q + 3))
  | 84, v => v = .agg #[.complex .f64 (X q) (X (q + 1)), .complex .f64 (X (q + 2)) (X (q + 3))]
  | 85, v => v = .pointer (some ⟨A2, k * 2, none⟩)
  | _, _ => True
def sv2 (X : Nat → Nat) (q : Nat) : List Value := [.complex .f64 (X q) (X (q + 1)), .complex .f64 (X (q + 2)) (X (q + 3))]
structure l19C (W : World) (Br A A2 k q N cap : Nat) (X : Nat → Nat) (listed : Array Bool) (w : World) : Prop where
  but : listed.getD 9 false = false → But (fun k => k = Br) W w
  r0 : listed.getD 5 false = false → RB w Br A q N cap X
  r1 : listed.getD 5 false = true → listed.getD 6 false = false → RB w Br A (q + 2) N cap X
  r2 : listed.getD 6 false = true → RB w Br A (q + 4) N cap X
  fin : listed.getD 9 false = true → ∃ w0, But (fun k => k = Br) W w0 ∧ w = w0.setCells A2 (k * 2) (sv2 X q)
theorem l19C.same {W w : World} {Br A A2 k q N cap : Nat} {X : Nat → Nat} {listed : Array Bool} (h : l19C W Br A A2 k q N cap X listed w) (i : Nat) (h5 : i ≠ 5) (h6 : i ≠ 6) (h9 : i ≠ 9) : l19C W Br A A2 k q N cap X (listed.setIfInBounds i true) w := by
  refine ⟨?_, ?_, ?_, ?_, ?_⟩
  all_goals simp only [getD_set_ne false h5, getD_set_ne false h6, getD_set_ne false h9]
  · exact h.but
  · exact h.r0
  · exact h.r1
  · exact h.r2
  · exact h.fin
theorem l19C.n0 {W w w' : World} {Br A A2 k q N cap : Nat} {X : Nat → Nat} {listed : Array Bool} (h : l19C W Br A A2 k q N cap X listed w) (hz : listed.size = 10) (hb : But (fun k => k = Br) w w') (hR : RB w' Br A (q + 2) N cap X) (u6 : listed.getD 6 false = false) (u9 : listed.getD 9 false = false) : l19C W Br A A2 k q N cap X (listed.setIfInBounds 5 true) w' := by
  have hself := listed_set (listed := listed) hz (show 5 < 10 by omega)
  refine ⟨fun _ => (h.but u9).trans hb (fun k hk => .inl hk), fun l => ?_, fun _ _ => hR, fun l => ?_, fun l => ?_⟩
  · rw [hself] at l; cases l
  · rw [getD_set_ne false (by omega), u6] at l; cases l
  · rw [getD_set_ne false (by omega), u9] at l; cases l
theorem l19C.n1 {W w w' : World} {Br A A2 k q N cap : Nat} {X : Nat → Nat} {listed : Array Bool} (h : l19C W Br A A2 k q N cap X listed w) (hz : listed.size = 10) (hb : But (fun k => k = Br) w w') (hR : RB w' Br A (q + 4) N cap X) (l5 : listed.getD 5 false = true) (u9 : listed.getD 9 false = false) : l19C W Br A A2 k q N cap X (listed.setIfInBounds 6 true) w' := by
  have hself := listed_set (listed := listed) hz (show 6 < 10 by omega)
  refine ⟨fun _ => (h.but u9).trans hb (fun k hk => .inl hk), fun l => ?_, fun _ l => ?_, fun _ => hR, fun l => ?_⟩
  · rw [getD_set_ne false (by omega), l5] at l; cases l
  · rw [hself] at l; cases l
  · rw [getD_set_ne false (by omega), u9] at l; cases l
theorem l19C.sto {W w : World} {Br A A2 k q N cap : Nat} {X : Nat → Nat} {listed : Array Bool} (h : l19C W Br A A2 k q N cap X listed w) (hz : listed.size = 10) (u9 : listed.getD 9 false = false) (hS1 : A2 ≠ Br) (hS2 : A2 ≠ A) : l19C W Br A A2 k q N cap X (listed.setIfInBounds 9 true) (w.setCells A2 (k * 2) (sv2 X q)) := by
  have hself := listed_set (listed := listed) hz (show 9 < 10 by omega)
  have hg : w.grownBy (w.setCells A2 (k * 2) (sv2 X q)) (some A2) := grown_setCells (grown_refl _ _)
  have hb : But (fun k => k = A2) w (w.setCells A2 (k * 2) (sv2 X q)) := ⟨hg.os, hg.tape, hg.output, hg.size, fun k hk hn => hg.block k hk (by intro e; exact hn (Option.some.inj e))⟩
  refine ⟨fun l => ?_, fun l => ?_, fun l l' => ?_, fun l => ?_, fun _ => ⟨w, h.but u9, rfl⟩⟩
  · rw [hself] at l; cases l
  · rw [getD_set_ne false (by omega)] at l; exact (h.r0 l).same hb (by omega) (by omega)
  · rw [getD_set_ne false (by omega)] at l l'; exact (h.r1 l l').same hb (by omega) (by omega)
  · rw [getD_set_ne false (by omega)] at l; exact (h.r2 l).same hb (by omega) (by omega)
/-- The stream that is being filled. -/
structure LdS (w : World) (Br B A2 n x0 x1 : Nat) (sv : Value) (sec : Nat → Sec) (g : Gu) (t c : Nat) (N7 N8 : Nat) : Prop where
  cells : SCells w B (.complex .f64 x0 x1) sv g t c (.slice (some ⟨A2, 0, none⟩) n n)
  secs : SecsIs w sv n sec
  inr : InR sv n N7 N8
  offB : Off sv n B
  offA : Off sv n A2
  there : w.there A2 0 (n * 2)
  ne : B ≠ A2
  b1 : N7 ≤ B
  b2 : B < N8
  a1 : N7 ≤ A2
  a2 : A2 < N8
  br : Br < N7
  le : N8 ≤ w.heap.size
theorem LdS.same {w w' : World} {Br B A2 n x0 x1 : Nat} {sv : Value} {sec : Nat → Sec} {g : Gu} {t c N7 N8 : Nat} (h : LdS w Br B A2 n x0 x1 sv sec g t c N7 N8) (hb : But (fun k => k = Br) w w') : LdS w' Br B A2 n x0 x1 sv sec g t c N7 N8 := by
  obtain ⟨h1, h2, h3, h4, h5, h6, h7, h8, h9, h10, h11, h12, h13⟩ := h
  have hs := hb.size
  exact ⟨h1.same (hb.block B (by omega) (by omega)), h2.same (O := fun k => N7 ≤ k ∧ k < N8) (fun hn b off m c e => h3 hn b off m c e) (fun k hk => hb.block k (by omega) (by omega)) hs, h3, h4, h5, there_same (hb.block A2 (by omega) (by omega)) h6, h7, h8, h9, h10, h11, h12, by omega⟩
theorem sv5_secs {w : World} {S n : Nat} {X : Nat → Nat} {G : C2} {sec : Nat → Sec} {st : Nat → C2 × C2} {t c : Nat} (hX : Words n G sec st t c X) (hS : S < w.heap.size) (hV : ∀ i, i < n → w.rangeAt S (i * 5) (sv5 X (2 + 10 * i))) : SecsIs w (.slice (some ⟨S, 0, none⟩) n n) n sec :=
  ⟨some ⟨S, 0, none⟩, n, rfl, fun i hi => ⟨S, _, _, _, _, _, rfl, hS, hV i hi, (hX.sect i hi 0 (by omega)).1, (hX.sect i hi 1 (by omega)).1, (hX.sect i hi 2 (by omega)).1, (hX.sect i hi 3 (by omega)).1, (hX.sect i hi 4 (by omega)).1, (hX.sect i hi 0 (by omega)).2, (hX.sect i hi 1 (by omega)).2, (hX.sect i hi 2 (by omega)).2, (hX.sect i hi 3 (by omega)).2, (hX.sect i hi 4 (by omega)).2⟩⟩
theorem LdS.set2 {w : World} {Br B A2 n x0 x1 : Nat} {sv : Value} {sec : Nat → Sec} {g : Gu} {N7 N8 : Nat} (h : LdS w Br B A2 n x0 x1 sv sec g 0 0 N7 N8) (t c : Nat) : LdS ((w.setCell ⟨B, 5, none⟩ (.int .u64 (t : Nat))).setCell ⟨B, 6, none⟩ (.int .u64 (c : Nat))) Br B A2 n x0 x1 sv sec g t c N7 N8 ∧ But (fun k => k = B) w ((w.setCell ⟨B, 5, none⟩ (.int .u64 (t : Nat))).setCell ⟨B, 6, none⟩ (.int .u64 (c : Nat))) := by
  have hb : But (fun k => k = B) w ((w.setCell ⟨B, 5, none⟩ (.int .u64 (t : Nat))).setCell ⟨B, 6, none⟩ (.int .u64 (c : Nat))) := (but_set w ⟨B, 5, none⟩ _).trans (but_set _ ⟨B, 6, none⟩ _) (fun k hk => .inl hk)
  obtain ⟨h1, h2, h3, h4, h5, h6, h7, h8, h9, h10, h11, h12, h13⟩ := h
  have hs := hb.size
  exact ⟨⟨(h1.setT t).setC c, h2.same (O := fun k => k ≠ B ∧ k < N8) (fun hn b off m c e => ⟨h4 hn b off m c e, (h3 hn b off m c e).2⟩) (fun k hk => hb.block k (by omega) (fun e => hk.1 e)) hs, h3, h4, h5, there_same (hb.block A2 (by omega) (by omega)) h6, h7, h8, h9, h10, h11, h12, by omega⟩, hb⟩
theorem build_stt (a a' b b' : Nat) (w : World) : (Instr.build 74 #[(0, .complex .f64 a a'), (1, .complex .f64 b b')]).run Try.prog w = .ok (.agg #[.complex .f64 a a', .complex .f64 b b']) w := by go_simp

set_option maxRecDepth 100000 in
set_option maxHeartbeats 4000000 in
theorem sload_any {w : World} {A cap n : Nat} {G : C2} {sec : Nat → Sec} {g : Gu} {st : Nat → C2 × C2} {t c : Nat} (hS : SavedAt w A n G sec g st t c) (hX : Words n G sec st t c (svN n G sec st t c)) (hn : n ≤ 16) (hA : A < w.heap.size) (hcap : 38 + 112 * n ≤ cap) (hc9 : cap ≤ 9223372036854775807) (htle : t ≤ 2000000000) (hcle : c ≤ 2000000000000) :
    Calls Try.prog 13 #[.slice (some ⟨A, 0, none⟩) (38 + 112 * n) cap] w fun e w' => ∃ B O, e = .returned (.tuple #[.pointer (some ⟨B, 0, none⟩), .int .i64 0]) ∧ SAt w' O B n G sec g st t c ∧ (∀ k, O k → w.heap.size ≤ k) ∧ Below w.heap.size w w' := by
  have h4 : w.cell? ⟨A, 4, none⟩ = some (.int .u8 (gbyte g : Nat)) := hS 4 (by omega)
  have h5 : w.cell? ⟨A, 5, none⟩ = some (.int .u8 (n : Nat)) := hS 5 (by omega)
  have hgb : gbyte g < 8 := by obtain ⟨fl, cp, mu⟩ := g; cases fl <;> cases cp <;> cases mu <;> decide
  have hby : ∀ j, j < 4 + 14 * n → ∀ i, i < 8 → w.cell? ⟨A, 6 + 8 * j + i, none⟩ = some (.int .u8 (be8 (svN n G sec st t c j) i : Nat)) := fun j hj i hi => by
    rw [hS _ (by omega), svB_at _ _ _ _ _ _ _ _ _ hi]
  have Hf := hide (fits_any (w := w) (A := A) (n := n) (cap := cap) (gb := gbyte g) (X := svN n G sec st t c) hA (fun j hj => by
    have hj4 : j < 4 := hj
    rcases (by omega : j = 0 ∨ j = 1 ∨ j = 2 ∨ j = 3) with rfl | rfl | rfl | rfl <;> exact hS _ (by omega)) h4 hgb h5 hby hX.small hX.nan hn hcap hc9)
  have HX := hide (And.intro hX hby)
  generalize svN n G sec st t c = X at *
  have hn16 : ((n : Nat) : Int) ≤ 16 := by omega
  clear hX hby hS
  go_enter Try.func13, Try.ntmps13
  go_wp2_with fail
  refine (unhide Hf).mono ?_
  rintro e w1 ⟨rfl, hb1⟩
  have hA1 : A < w1.heap.size := Nat.lt_of_lt_of_le hA hb1.size
  have k4 : w1.cell? ⟨A, 4, none⟩ = some (.int .u8 (gbyte g : Nat)) := (hb1.cell (by exact hA)).trans h4
  have k5 : w1.cell? ⟨A, 5, none⟩ = some (.int .u8 (n : Nat)) := (hb1.cell (by exact hA)).trans h5
  have Hb1 := hide hb1
  clear hb1 h4 h5 Hf
  go_wp2_with fail
  obtain ⟨W, hW⟩ : ∃ W, w1.alloc (Obj.cells #[.slice (some ⟨A, 6, none⟩) (38 + 112 * n - 6) (cap - 6)] 79) = W := ⟨_, rfl⟩
  rw [hW]
  have hbW : Below w1.heap.size w1 W := by rw [← hW]; exact (Below.refl _ _).alloc (Nat.le_refl _) _
  have hsW : w1.heap.size < W.heap.size := by rw [← hW]; simp
  have hRW : RB W w1.heap.size A 0 (4 + 14 * n) cap X := by
    obtain ⟨hX, hby⟩ := unhide HX
    refine ⟨⟨_, by rw [← hW]; exact Boxed.new _ _ _, fun _ => by congr 1; all_goals omega⟩, fun j hj i hi => ?_, hX.small, by omega, by omega, by omega, hc9⟩
    rw [hbW.cell (by show A < _; omega), (unhide Hb1).cell (by exact hA)]
    exact hby j hj i hi
  have m5 : W.cell? ⟨A, 5, none⟩ = some (.int .u8 (n : Nat)) := (hbW.cell (by exact hA1)).trans k5
  have hAW : A < W.heap.size := by omega
  have HW := hide (And.intro hbW (And.intro hRW hW))
  rename_i K hK
  have hrest : ∀ (F S : Nat) (W6 : World), RB W6 w1.heap.size A 2 (4 + 14 * n) cap X → Below w.heap.size w W6 → LdAt W6 w1.heap.size F S n (.complex .f64 (X 0) (X 1)) → K { tmps := #[.slice (some ⟨A, 0, none⟩) (38 + 112 * n) cap, undef, .pointer none, .int .i64 0, .pointer (some ⟨w1.heap.size, 0, none⟩), .pointer (some ⟨F, 0, none⟩), undef, undef, undef, undef, .bool (decide (16 < (n : Int))), .slice (some ⟨A, 0, none⟩) (38 + 112 * n) cap, .int .i64 (38 + 112 * (n : Int)), .bool true, .bool true, .slice (some ⟨A, 0, none⟩) (38 + 112 * n) cap, .pointer (some ⟨A, 5, none⟩), .int .u8 (n : Nat), .bool (decide (16 < (n : Int))), .bool (decide (16 < (n : Int))), .bool false, .slice (some ⟨A, 0, none⟩) (38 + 112 * n) cap, .bool true, .bool false, .slice (some ⟨A, 0, none⟩) (38 + 112 * n) cap, .slice (some ⟨A, 6, none⟩) (38 + 112 * n - 6) (cap - 6), .complex .f64 (X 0) (X 1), .slice (some ⟨A, 0, none⟩) (38 + 112 * n) cap, .pointer (some ⟨A, 5, none⟩), .int .u8 (n : Nat), .slice (some ⟨S, 0, none⟩) n n, .agg #[.complex .f64 (X 0) (X 1), .slice (some ⟨S, 0, none⟩) n n], undef, undef, undef, undef, undef, undef, undef, undef, undef, undef, undef, undef, undef, undef, undef, undef, undef, undef, undef, undef, undef, undef, undef, undef, undef, undef, undef, undef, undef, undef, undef, undef, undef, undef, undef, undef, undef, undef, undef, undef, undef, undef, undef, undef, undef, undef, undef, undef, undef, undef, undef, undef, undef, undef, undef, undef], defers := [] } W6 := by
    intro F S W6 h6 hb6 hL6
    clear HW hbW hRW hW m5
    refine hK _ _ ?_
    clear hK
    have d1 : W6.cell? ⟨F, 1, none⟩ = some (.slice (some ⟨S, 0, none⟩) n n) := hL6.cells 1 _ rfl
    have H6 := hide (And.intro h6 (And.intro hb6 hL6))
    clear h6 hb6 hL6
    go_wp2_with fail
    go_loopw [35] (fun i wr => ∃ k : Nat, k ≤ n ∧ i = .int .i64 k ∧ RB wr w1.heap.size A (2 + 10 * k) (4 + 14 * n) cap X ∧ Below w.heap.size w wr ∧ LdAt wr w1.heap.size F S n (.complex .f64 (X 0) (X 1)) ∧ ∀ i, i < k → wr.rangeAt S (i * 5) (sv5 X (2 + 10 * i)))
      (fun i _ => n - (intOf i).toNat)
    case atStart => exact ⟨0, Nat.zero_le _, rfl, (unhide H6).1, (unhide H6).2.1, (unhide H6).2.2, fun i hi => by omega⟩
    case round =>
      obtain ⟨k, hk, rfl, hR, hb, hL, hV⟩ := hrel
      have e1 : wr.cell? ⟨F, 1, none⟩ = some (.slice (some ⟨S, 0, none⟩) n n) := hL.cells 1 _ rfl
      by_cases hkn : k < n
      · have hkn' : (k : Int) < (n : Int) := by omega
        have HH := hide (And.intro hR (And.intro hb (And.intro hL hV)))
        have hSb := hL.sb
        have hFb := hL.fb
        have hAb : A < w1.heap.size := hA1
        clear hR hb hL hV d1
        go_wp2_with fail
        refine region_slots (l10V F S n k (2 + 10 * k) X) (l10C wr w1.heap.size A S k (2 + 10 * k) (4 + 14 * n) cap X) (by kernel_rfl) (by kernel_rfl) (by kernel_rfl) 88 (by kernel_rfl) rfl ?_ ?_ ?_
        · refine ⟨fun _ => But.low (still_drew wr _), fun m hm hp _ => ?_, fun h => by simp at h⟩
          have : m = 0 := by
            cases m with
            | zero => rfl
            | succ m => have := hp 0 (by omega); simp at this
          subst this
          exact (unhide HH).1.same (But.low (O := fun _ => False) (still_drew wr _)) (fun e => e) (fun e => e)
        · intro listed a' w2 i o hI ho hsz hl hd
          have hi : i < 11 := by simpa using (Array.getElem?_eq_some_iff.1 ho).1
          have hc : l10C wr w1.heap.size A S k (2 + 10 * k) (4 + 14 * n) cap X listed w2 := hI.world
          have hsz' : listed.size = 11 := hsz
          rcases (by omega : i = 0 ∨ i = 1 ∨ i = 2 ∨ i = 3 ∨ i = 4 ∨ i = 5 ∨ i = 6 ∨ i = 7 ∨ i = 8 ∨ i = 9 ∨ i = 10) with rfl | rfl | rfl | rfl | rfl | rfl | rfl | rfl | rfl | rfl | rfl
          all_goals obtain rfl := Option.some.inj ho
          · exact ok_field rfl rfl (hI.base 5 (by kernel_rfl)) (field_filt1 _ _) rfl (hc.same 0 (by omega))
          · have u10 : listed.getD 10 false = false := hI.not_yet hsz' (by omega) hl 10 rfl ⟨1, .phase⟩ (by simp) rfl rfl
            exact ok_load rfl rfl (hI.slot 0 _ 38 rfl rfl (hd ⟨0, .data⟩ (by simp) rfl)) (load_secs _ _ _ _ _ ((hc.but u10).cell e1 (by show ¬ (F = w1.heap.size); omega))) rfl (hc.same 1 (by omega))
          · exact ok_move rfl rfl (hI.base 6 (by kernel_rfl)) rfl (hc.same 2 (by omega))
          · have u3 := unlisted hl hsz' (by omega)
            have u4 : listed.getD 4 false = false := by
              cases h7 : listed.getD 4 false with
              | false => rfl
              | true => have h6 := hI.closed 4 _ rfl h7 ⟨3, .chain⟩ (by simp) rfl; rw [u3] at h6; cases h6
            have u5 : listed.getD 5 false = false := by
              cases h7 : listed.getD 5 false with
              | false => rfl
              | true => have h6 := hI.closed 5 _ rfl h7 ⟨4, .chain⟩ (by simp) rfl; rw [u4] at h6; cases h6
            have u6 : listed.getD 6 false = false := by
              cases h7 : listed.getD 6 false with
              | false => rfl
              | true => have h6 := hI.closed 6 _ rfl h7 ⟨5, .chain⟩ (by simp) rfl; rw [u5] at h6; cases h6
            have u7 : listed.getD 7 false = false := by
              cases h7 : listed.getD 7 false with
              | false => rfl
              | true => have h6 := hI.closed 7 _ rfl h7 ⟨6, .chain⟩ (by simp) rfl; rw [u6] at h6; cases h6
            have u10 : listed.getD 10 false = false := hI.not_yet hsz' (by omega) hl 10 rfl ⟨3, .phase⟩ (by simp) rfl rfl
            refine .inr (.inr ⟨30, #[a'.eval (.tmp 4)], ?_, ?_⟩)
            · simp [execOp]
              go_simp
            rw [show a'.eval (.tmp 4) = .pointer (some ⟨w1.heap.size, 0, none⟩) from hI.base 4 (by kernel_rfl)]
            refine (rnumber_any (hc.rb 0 (by omega) (fun j hj => by omega) (fun j hj h5 => by rcases (by omega : j = 0 ∨ j = 1 ∨ j = 2 ∨ j = 3 ∨ j = 4) with rfl | rfl | rfl | rfl | rfl <;> assumption)) (by omega)).mono ?_
            rintro e w5 ⟨rfl, hR5, hb5⟩
            exact ⟨_, rfl, slot_of rfl rfl, hc.num (m := 0) (by omega) hsz' hb5 hR5 u10 (fun j hj h5 => by rcases (by omega : j = 1 ∨ j = 2 ∨ j = 3 ∨ j = 4) with rfl | rfl | rfl | rfl <;> assumption)⟩
          · have u4 := unlisted hl hsz' (by omega)
            have u5 : listed.getD 5 false = false := by
              cases h7 : listed.getD 5 false with
              | false => rfl
              | true => have h6 := hI.closed 5 _ rfl h7 ⟨4, .chain⟩ (by simp) rfl; rw [u4] at h6; cases h6
            have u6 : listed.getD 6 false = false := by
              cases h7 : listed.getD 6 false with
              | false => rfl
              | true => have h6 := hI.closed 6 _ rfl h7 ⟨5, .chain⟩ (by simp) rfl; rw [u5] at h6; cases h6
            have u7 : listed.getD 7 false = false := by
              cases h7 : listed.getD 7 false with
              | false => rfl
              | true => have h6 := hI.closed 7 _ rfl h7 ⟨6, .chain⟩ (by simp) rfl; rw [u6] at h6; cases h6
            have u10 : listed.getD 10 false = false := hI.not_yet hsz' (by omega) hl 10 rfl ⟨4, .phase⟩ (by simp) rfl rfl
            have l3 : listed.getD 3 false = true := hd ⟨3, .chain⟩ (by simp) rfl
            refine .inr (.inr ⟨30, #[a'.eval (.tmp 4)], ?_, ?_⟩)
            · simp [execOp]
              go_simp
            rw [show a'.eval (.tmp 4) = .pointer (some ⟨w1.heap.size, 0, none⟩) from hI.base 4 (by kernel_rfl)]
            refine (rnumber_any (hc.rb 1 (by omega) (fun j hj => by rcases (by omega : j = 0) with rfl <;> assumption) (fun j hj h5 => by rcases (by omega : j = 1 ∨ j = 2 ∨ j = 3 ∨ j = 4) with rfl | rfl | rfl | rfl <;> assumption)) (by omega)).mono ?_
            rintro e w5 ⟨rfl, hR5, hb5⟩
            exact ⟨_, rfl, slot_of rfl rfl, hc.num (m := 1) (by omega) hsz' hb5 hR5 u10 (fun j hj h5 => by rcases (by omega : j = 2 ∨ j = 3 ∨ j = 4) with rfl | rfl | rfl <;> assumption)⟩
          · have u5 := unlisted hl hsz' (by omega)
            have u6 : listed.getD 6 false = false := by
              cases h7 : listed.getD 6 false with
              | false => rfl
              | true => have h6 := hI.closed 6 _ rfl h7 ⟨5, .chain⟩ (by simp) rfl; rw [u5] at h6; cases h6
            have u7 : listed.getD 7 false = false := by
              cases h7 : listed.getD 7 false with
              | false => rfl
              | true => have h6 := hI.closed 7 _ rfl h7 ⟨6, .chain⟩ (by simp) rfl; rw [u6] at h6; cases h6
            have u10 : listed.getD 10 false = false := hI.not_yet hsz' (by omega) hl 10 rfl ⟨5, .phase⟩ (by simp) rfl rfl
            have l4 : listed.getD 4 false = true := hd ⟨4, .chain⟩ (by simp) rfl
            have l3 : listed.getD 3 false = true := hI.closed 4 _ rfl l4 ⟨3, .chain⟩ (by simp) rfl
            refine .inr (.inr ⟨30, #[a'.eval (.tmp 4)], ?_, ?_⟩)
            · simp [execOp]
              go_simp
            rw [show a'.eval (.tmp 4) = .pointer (some ⟨w1.heap.size, 0, none⟩) from hI.base 4 (by kernel_rfl)]
            refine (rnumber_any (hc.rb 2 (by omega) (fun j hj => by rcases (by omega : j = 0 ∨ j = 1) with rfl | rfl <;> assumption) (fun j hj h5 => by rcases (by omega : j = 2 ∨ j = 3 ∨ j = 4) with rfl | rfl | rfl <;> assumption)) (by omega)).mono ?_
            rintro e w5 ⟨rfl, hR5, hb5⟩
            exact ⟨_, rfl, slot_of rfl rfl, hc.num (m := 2) (by omega) hsz' hb5 hR5 u10 (fun j hj h5 => by rcases (by omega : j = 3 ∨ j = 4) with rfl | rfl <;> assumption)⟩
          · have u6 := unlisted hl hsz' (by omega)
            have u7 : listed.getD 7 false = false := by
              cases h7 : listed.getD 7 false with
              | false => rfl
              | true => have h6 := hI.closed 7 _ rfl h7 ⟨6, .chain⟩ (by simp) rfl; rw [u6] at h6; cases h6
            have u10 : listed.getD 10 false = false := hI.not_yet hsz' (by omega) hl 10 rfl ⟨6, .phase⟩ (by simp) rfl rfl
            have l5 : listed.getD 5 false = true := hd ⟨5, .chain⟩ (by simp) rfl
            have l4 : listed.getD 4 false = true := hI.closed 5 _ rfl l5 ⟨4, .chain⟩ (by simp) rfl
            have l3 : listed.getD 3 false = true := hI.closed 4 _ rfl l4 ⟨3, .chain⟩ (by simp) rfl
            refine .inr (.inr ⟨30, #[a'.eval (.tmp 4)], ?_, ?_⟩)
            · simp [execOp]
              go_simp
            rw [show a'.eval (.tmp 4) = .pointer (some ⟨w1.heap.size, 0, none⟩) from hI.base 4 (by kernel_rfl)]
            refine (rnumber_any (hc.rb 3 (by omega) (fun j hj => by rcases (by omega : j = 0 ∨ j = 1 ∨ j = 2) with rfl | rfl | rfl <;> assumption) (fun j hj h5 => by rcases (by omega : j = 3 ∨ j = 4) with rfl | rfl <;> assumption)) (by omega)).mono ?_
            rintro e w5 ⟨rfl, hR5, hb5⟩
            exact ⟨_, rfl, slot_of rfl rfl, hc.num (m := 3) (by omega) hsz' hb5 hR5 u10 (fun j hj h5 => by rcases (by omega : j = 4) with rfl <;> assumption)⟩
          · have u7 := unlisted hl hsz' (by omega)
            have u10 : listed.getD 10 false = false := hI.not_yet hsz' (by omega) hl 10 rfl ⟨7, .chain⟩ (by simp) rfl rfl
            have l6 : listed.getD 6 false = true := hd ⟨6, .chain⟩ (by simp) rfl
            have l5 : listed.getD 5 false = true := hI.closed 6 _ rfl l6 ⟨5, .chain⟩ (by simp) rfl
            have l4 : listed.getD 4 false = true := hI.closed 5 _ rfl l5 ⟨4, .chain⟩ (by simp) rfl
            have l3 : listed.getD 3 false = true := hI.closed 4 _ rfl l4 ⟨3, .chain⟩ (by simp) rfl
            refine .inr (.inr ⟨30, #[a'.eval (.tmp 4)], ?_, ?_⟩)
            · simp [execOp]
              go_simp
            rw [show a'.eval (.tmp 4) = .pointer (some ⟨w1.heap.size, 0, none⟩) from hI.base 4 (by kernel_rfl)]
            refine (rnumber_any (hc.rb 4 (by omega) (fun j hj => by rcases (by omega : j = 0 ∨ j = 1 ∨ j = 2 ∨ j = 3) with rfl | rfl | rfl | rfl <;> assumption) (fun j hj h5 => by rcases (by omega : j = 4) with rfl <;> assumption)) (by omega)).mono ?_
            rintro e w5 ⟨rfl, hR5, hb5⟩
            exact ⟨_, rfl, slot_of rfl rfl, hc.num (m := 4) (by omega) hsz' hb5 hR5 u10 (fun j hj h5 => by omega)⟩
          · skip
            have y41 : a'.eval (.tmp 41) = .complex .f64 (X (2 + 10 * k)) (X (2 + 10 * k + 1)) := hI.slot 3 _ 41 rfl rfl (hd ⟨3, .data⟩ (by simp) rfl)
            have y42 : a'.eval (.tmp 42) = .complex .f64 (X (2 + 10 * k + 2)) (X (2 + 10 * k + 3)) := hI.slot 4 _ 42 rfl rfl (hd ⟨4, .data⟩ (by simp) rfl)
            have y43 : a'.eval (.tmp 43) = .complex .f64 (X (2 + 10 * k + 4)) (X (2 + 10 * k + 5)) := hI.slot 5 _ 43 rfl rfl (hd ⟨5, .data⟩ (by simp) rfl)
            have y44 : a'.eval (.tmp 44) = .complex .f64 (X (2 + 10 * k + 6)) (X (2 + 10 * k + 7)) := hI.slot 6 _ 44 rfl rfl (hd ⟨6, .data⟩ (by simp) rfl)
            have y45 : a'.eval (.tmp 45) = .complex .f64 (X (2 + 10 * k + 8)) (X (2 + 10 * k + 9)) := hI.slot 7 _ 45 rfl rfl (hd ⟨7, .data⟩ (by simp) rfl)
            refine ok_run (d := 46) (r := .agg #[.complex .f64 (X (2 + 10 * k)) (X (2 + 10 * k + 1)), .complex .f64 (X (2 + 10 * k + 2)) (X (2 + 10 * k + 3)), .complex .f64 (X (2 + 10 * k + 4)) (X (2 + 10 * k + 5)), .complex .f64 (X (2 + 10 * k + 6)) (X (2 + 10 * k + 7)), .complex .f64 (X (2 + 10 * k + 8)) (X (2 + 10 * k + 9))]) (w' := w2) ?_ rfl rfl (hc.same 8 (by omega))
            simp [execOp, y41, y42, y43, y44, y45, build_sec]
          · exact ok_index rfl rfl (hI.slot 1 _ 39 rfl rfl (hd ⟨1, .data⟩ (by simp) rfl)) (hI.slot 2 _ 40 rfl rfl (hd ⟨2, .data⟩ (by simp) rfl)) (index_secs _ _ _ _ _ hkn (by omega)) rfl (hc.same 9 (by omega))
          · have u10 := unlisted hl hsz' (by omega)
            have hth : w2.there S (k * 5) 5 := there_part (there_same ((hc.but u10).block S (unhide HH).2.2.1.sl (by omega)) (unhide HH).2.2.1.row) (by omega)
            exact ok_store rfl rfl (hI.slot 9 _ 47 rfl rfl (hd ⟨9, .data⟩ (by simp) rfl)) (hI.slot 8 _ 46 rfl rfl (hd ⟨8, .data⟩ (by simp) rfl)) info_sec (by simp [Value.oneCell']) hth (hc.sto hsz' u10 (by omega) (by omega))
        · intro listed a' w2 hI hall
          have hw10 : l10C wr w1.heap.size A S k (2 + 10 * k) (4 + 14 * n) cap X listed w2 := hI.world
          have hR10 := hw10.rb 5 (by omega) (fun j hj => hall (3 + j) (by simp; omega)) (fun j hj h5 => by omega)
          obtain ⟨w0, hbt, ew⟩ := hw10.fin (hall 10 (by decide))
          clear hw10
          have E := act_lit a' 88 hI.size
          rw [hI.defers] at E
          replace E : a' = ⟨#[a'.eval (.tmp 0), a'.eval (.tmp 1), a'.eval (.tmp 2), a'.eval (.tmp 3), a'.eval (.tmp 4), a'.eval (.tmp 5), a'.eval (.tmp 6), a'.eval (.tmp 7), a'.eval (.tmp 8), a'.eval (.tmp 9), a'.eval (.tmp 10), a'.eval (.tmp 11), a'.eval (.tmp 12), a'.eval (.tmp 13), a'.eval (.tmp 14), a'.eval (.tmp 15), a'.eval (.tmp 16), a'.eval (.tmp 17), a'.eval (.tmp 18), a'.eval (.tmp 19), a'.eval (.tmp 20), a'.eval (.tmp 21), a'.eval (.tmp 22), a'.eval (.tmp 23), a'.eval (.tmp 24), a'.eval (.tmp 25), a'.eval (.tmp 26), a'.eval (.tmp 27), a'.eval (.tmp 28), a'.eval (.tmp 29), a'.eval (.tmp 30), a'.eval (.tmp 31), a'.eval (.tmp 32), a'.eval (.tmp 33), a'.eval (.tmp 34), a'.eval (.tmp 35), a'.eval (.tmp 36), a'.eval (.tmp 37), a'.eval (.tmp 38), a'.eval (.tmp 39), a'.eval (.tmp 40), a'.eval (.tmp 41), a'.eval (.tmp 42), a'.eval (.tmp 43), a'.eval (.tmp 44), a'.eval (.tmp 45), a'.eval (.tmp 46), a'.eval (.tmp 47), a'.eval (.tmp 48), a'.eval (.tmp 49), a'.eval (.tmp 50), a'.eval (.tmp 51), a'.eval (.tmp 52), a'.eval (.tmp 53), a'.eval (.tmp 54), a'.eval (.tmp 55), a'.eval (.tmp 56), a'.eval (.tmp 57), a'.eval (.tmp 58), a'.eval (.tmp 59), a'.eval (.tmp 60), a'.eval (.tmp 61), a'.eval (.tmp 62), a'.eval (.tmp 63), a'.eval (.tmp 64), a'.eval (.tmp 65), a'.eval (.tmp 66), a'.eval (.tmp 67), a'.eval (.tmp 68), a'.eval (.tmp 69), a'.eval (.tmp 70), a'.eval (.tmp 71), a'.eval (.tmp 72), a'.eval (.tmp 73), a'.eval (.tmp 74), a'.eval (.tmp 75), a'.eval (.tmp 76), a'.eval (.tmp 77), a'.eval (.tmp 78), a'.eval (.tmp 79), a'.eval (.tmp 80), a'.eval (.tmp 81), a'.eval (.tmp 82), a'.eval (.tmp 83), a'.eval (.tmp 84), a'.eval (.tmp 85), a'.eval (.tmp 86), a'.eval (.tmp 87)], _⟩ := E
          rw [hI.base 0 (by kernel_rfl), hI.base 1 (by kernel_rfl), hI.base 2 (by kernel_rfl), hI.base 3 (by kernel_rfl), hI.base 4 (by kernel_rfl), hI.base 5 (by kernel_rfl), hI.base 6 (by kernel_rfl), hI.base 7 (by kernel_rfl), hI.base 8 (by kernel_rfl), hI.base 9 (by kernel_rfl), hI.base 10 (by kernel_rfl), hI.base 11 (by kernel_rfl), hI.base 12 (by kernel_rfl), hI.base 13 (by kernel_rfl), hI.base 14 (by kernel_rfl), hI.base 15 (by kernel_rfl), hI.base 16 (by kernel_rfl), hI.base 17 (by kernel_rfl), hI.base 18 (by kernel_rfl), hI.base 19 (by kernel_rfl), hI.base 20 (by kernel_rfl), hI.base 21 (by kernel_rfl), hI.base 22 (by kernel_rfl), hI.base 23 (by kernel_rfl), hI.base 24 (by kernel_rfl), hI.base 25 (by kernel_rfl), hI.base 26 (by kernel_rfl), hI.base 27 (by kernel_rfl), hI.base 28 (by kernel_rfl), hI.base 29 (by kernel_rfl), hI.base 30 (by kernel_rfl), hI.base 31 (by kernel_rfl), hI.base 32 (by kernel_rfl), hI.base 33 (by kernel_rfl), hI.base 34 (by kernel_rfl), hI.base 35 (by kernel_rfl), hI.base 36 (by kernel_rfl), hI.base 37 (by kernel_rfl), hI.base 48 (by kernel_rfl), hI.base 49 (by kernel_rfl), hI.base 50 (by kernel_rfl), hI.base 51 (by kernel_rfl), hI.base 52 (by kernel_rfl), hI.base 53 (by kernel_rfl), hI.base 54 (by kernel_rfl), hI.base 55 (by kernel_rfl), hI.base 56 (by kernel_rfl), hI.base 57 (by kernel_rfl), hI.base 58 (by kernel_rfl), hI.base 59 (by kernel_rfl), hI.base 60 (by kernel_rfl), hI.base 61 (by kernel_rfl), hI.base 62 (by kernel_rfl), hI.base 63 (by kernel_rfl), hI.base 64 (by kernel_rfl), hI.base 65 (by kernel_rfl), hI.base 66 (by kernel_rfl), hI.base 67 (by kernel_rfl), hI.base 68 (by kernel_rfl), hI.base 69 (by kernel_rfl), hI.base 70 (by kernel_rfl), hI.base 71 (by kernel_rfl), hI.base 72 (by kernel_rfl), hI.base 73 (by kernel_rfl), hI.base 74 (by kernel_rfl), hI.base 75 (by kernel_rfl), hI.base 76 (by kernel_rfl), hI.base 77 (by kernel_rfl), hI.base 78 (by kernel_rfl), hI.base 79 (by kernel_rfl), hI.base 80 (by kernel_rfl), hI.base 81 (by kernel_rfl), hI.base 82 (by kernel_rfl), hI.base 83 (by kernel_rfl), hI.base 84 (by kernel_rfl), hI.base 85 (by kernel_rfl), hI.base 86 (by kernel_rfl), hI.base 87 (by kernel_rfl)] at E
          clear hI
          generalize a'.eval (.tmp 38) = y38 at E
          generalize a'.eval (.tmp 39) = y39 at E
          generalize a'.eval (.tmp 40) = y40 at E
          generalize a'.eval (.tmp 41) = y41 at E
          generalize a'.eval (.tmp 42) = y42 at E
          generalize a'.eval (.tmp 43) = y43 at E
          generalize a'.eval (.tmp 44) = y44 at E
          generalize a'.eval (.tmp 45) = y45 at E
          generalize a'.eval (.tmp 46) = y46 at E
          generalize a'.eval (.tmp 47) = y47 at E
          simp [Act.eval] at E
          subst E
          clear hall
          have HE := hide (And.intro hR10 (And.intro hbt ew))
          clear hR10 hbt ew
          go_wp2
          go_roundw
          case rel =>
            obtain ⟨hR10, hbt, ew⟩ := unhide HE
            obtain ⟨hR, hb, hL, hV⟩ := unhide HH
            have hg : w0.grownBy w2 (some S) := by rw [ew]; exact grown_setCells (grown_refl _ _)
            have hb2 : But (fun k => k = S) w0 w2 := ⟨hg.os, hg.tape, hg.output, hg.size, fun k hk hn => hg.block k hk (by intro e; exact hn (Option.some.inj e))⟩
            have hL0 := hL.same hbt (by omega) (by omega)
            have hws := hb.size
            have hs1 := (unhide Hb1).size
            refine ⟨k + 1, by omega, by go_num, by rw [show 2 + 10 * (k + 1) = 2 + 10 * k + 2 * 5 by omega]; exact hR10, (hb.trans ⟨hbt.os, hbt.tape, hbt.output, hbt.size, fun i hi => hbt.block i (by omega) (by omega)⟩).trans ⟨hb2.os, hb2.tape, hb2.output, hb2.size, fun i hi => hb2.block i (by have := hbt.size; omega) (by omega)⟩, ⟨cells_same (hb2.block F hL0.fl hL0.ne) hL0.cells, by rw [ew]; exact there_set hL0.row, hL0.ne, hL0.fb, hL0.sb, Nat.lt_of_lt_of_le hL0.fl hb2.size, Nat.lt_of_lt_of_le hL0.sl hb2.size⟩, fun i hi => ?_⟩
            by_cases hik : i = k
            · subst hik
              rw [ew]
              exact World.rangeAt_setCells_same w0 S (i * 5) _ (there_part hL0.row (by simp [sv5]; omega))
            · rw [ew]
              exact World.rangeAt_setCells_apart (cells_same (hbt.block S hL.sl (by omega)) (hV i (by omega))) S _ _ (.inr (by simp only [sv5, List.length_cons, List.length_nil]; omega))
          case measure => simp [intOf]; omega
      · have : k = n := by omega
        subst this
        have m4 : wr.cell? ⟨A, 4, none⟩ = some (.int .u8 (gbyte g : Nat)) := ((hb.cell (by exact hA)).trans ((unhide Hb1).cell (by exact hA)).symm).trans k4
        have f0 : wr.cell? ⟨F, 0, none⟩ = some (.complex .f64 (X 0) (X 1)) := hL.cells 0 _ rfl
        have hFl := hL.fl
        have hsec := sv5_secs (unhide HX).1 hL.sl hV
        have HS := hide (And.intro hsec (And.intro hR (And.intro hb hL)))
        have hAr : A < wr.heap.size := by have := hb.size; omega
        have Hgo := hide (guardOf_any g)
        have Hne := hide (fun W (h : SecsIs W (.slice (some ⟨S, 0, none⟩) k k) k sec) => snew_any (X 0) (X 1) k (.slice (some ⟨S, 0, none⟩) k k) g G sec W (unhide HX).1.gain.1 (unhide HX).1.gain.2 h hn)
        have i4 : (4 : Int) < 38 + 112 * (k : Int) := by omega
        have i4' : (4 : Int) < ((38 + 112 * k : Nat) : Int) := by omega
        clear hsec hR hb hL hV d1
        go_wp2_with fail
        go_region_law (first
          | (go_simp; go_at_call 6; refine (unhide Hne w7 ((unhide HS).1.below ((still_drew wr _).trans hb7))).mono ?_; rintro e w8 ⟨B, rfl, hLd, hb8⟩; dsimp only)
          | (go_simp; go_at_call 31; refine (unhide Hgo _).mono ?_; rintro e w7 ⟨rfl, hb7⟩; have q0 : w7.cell? ⟨F, 0, none⟩ = some (.complex .f64 (X 0) (X 1)) := (hb7.cell (by show F < _; simp; omega)).trans f0; have q1 : w7.cell? ⟨F, 1, none⟩ = some (.slice (some ⟨S, 0, none⟩) k k) := (hb7.cell (by show F < _; simp; omega)).trans e1; dsimp only))
        all_goals
          obtain ⟨hsec, hR, hb, hL⟩ := unhide HS
          have hbr7 : Below wr.heap.size wr w7 := (still_drew wr _).trans hb7
          have hs7 := hbr7.size
          have hs8 := hb8.size
          have hws := hb.size
          have hs1 := (unhide Hb1).size
          have hbr8 : Below wr.heap.size wr w8 := hbr7.trans (hb8.mono hs7)
          have hR8 := hR.same (But.low (O := fun _ => False) hbr8) (fun e => e) (fun e => e)
          have hw8 : Below w.heap.size w w8 := hb.trans (hbr8.mono hws)
          obtain ⟨A2, sv2', q1', q2, q3, q4, q5, q6, q7, q8, q9, q10, q11, q12⟩ := hLd
          have hfb := hL.fb
          have hfl := hL.fl
          have hD8 : LdS w8 w1.heap.size B A2 k (X 0) (X 1) sv2' sec g 0 0 w7.heap.size w8.heap.size := ⟨q1', q2, q3, q4, q5, q7, q8, q9, q10, q11, q12, by omega, Nat.le_refl _⟩
          have hat := (unhide HX).1.at_
          have hch := (unhide HX).1.chg
          have H8 := hide (And.intro hR8 (And.intro hw8 hD8))
          have hN7 : w.heap.size ≤ w7.heap.size := by omega
          have hAb : A < w1.heap.size := hA1
          clear hsec hR hb hL hbr7 hbr8 hR8 hw8 q1' q2 q3 q4 q5 q6 q7 q8 q9 q10 q11 q12 hD8 hb7 hb8 HS Hne Hgo f0 e1 m4 q0 q1 hs7 hs8 hws hs1 hfb hfl
          go_wp2_with fail
          refine (rword_any (unhide H8).1 (by omega)).mono ?_
          rintro e w9 ⟨rfl, hR9, hb9⟩
          have H9 := hide (And.intro hR9 hb9)
          clear hR9 hb9
          rw [hat]
          go_wp2_with fail
          refine (rword_any (unhide H9).1 (by omega)).mono ?_
          rintro e w10 ⟨rfl, hR10, hb10⟩
          obtain ⟨hR8, hw8, hD8⟩ := unhide H8
          obtain ⟨hR9, hb9⟩ := unhide H9
          have hD10 := (hD8.same hb9).same hb10
          have hs9 := hb9.size
          have hs10 := hb10.size
          have hle8 := hD8.le
          have hw10 : Below w.heap.size w w10 := (hw8.trans ⟨hb9.os, hb9.tape, hb9.output, hb9.size, fun i hi => hb9.block i (by have := hw8.size; omega) (by have := (unhide Hb1).size; omega)⟩).trans ⟨hb10.os, hb10.tape, hb10.output, hb10.size, fun i hi => hb10.block i (by have := hw8.size; omega) (by have := (unhide Hb1).size; omega)⟩
          have c5 : w10.cell? ⟨B, 5, none⟩ = some (.int .u64 0) := hD10.cells.2 5 _ rfl
          have c6 : w10.cell? ⟨B, 6, none⟩ = some (.int .u64 0) := hD10.cells.2 6 _ rfl
          have c7 : w10.cell? ⟨B, 7, none⟩ = some (.slice (some ⟨A2, 0, none⟩) k k) := hD10.cells.2 7 _ rfl
          have g5 : w10.frozen? ⟨B, 5, none⟩ = false := (hD10.cells.1 5 (by omega)).2
          have g6 : w10.frozen? ⟨B, 6, none⟩ = false := (hD10.cells.1 6 (by omega)).2
          have H10 := hide (And.intro hR10 (And.intro hw10 hD10))
          have hsq : 2 + 10 * k + 1 = 3 + 10 * k := by omega
          rw [hsq, hch]
          clear hR10 hw10 hD10 hR9 hb9 hR8 hw8 hD8 hb10 hs9 hs10 hle8 H8 H9 hsq
          go_wp2_with fail
          obtain ⟨hR10, hw10, hD10⟩ := unhide H10
          obtain ⟨hD11, hb11⟩ := hD10.set2 t c
          have hBA : B ≠ A := by have := hD10.b1; omega
          have hBb : w1.heap.size < B := by have := hD10.b1; have := hD10.br; omega
          have hR11 := hR10.same hb11 (by omega) (by omega)
          have hw11 : Below w.heap.size w _ := hw10.trans ⟨hb11.os, hb11.tape, hb11.output, hb11.size, fun i hi => hb11.block i (by have := hw10.size; omega) (by have := hD10.b1; omega)⟩
          have H11 := hide (And.intro hR11 (And.intro hw11 hD11))
          clear hR10 hw10 hD10 hD11 hb11 hR11 hw11 H10 c5 c6 c7 g5 g6
          go_loopw [74] (fun i wr => ∃ q : Nat, q ≤ k ∧ i = .int .i64 q ∧ RB wr w1.heap.size A (4 + 10 * k + 4 * q) (4 + 14 * k) cap X ∧ Below w.heap.size w wr ∧ LdS wr w1.heap.size B A2 k (X 0) (X 1) sv2' sec g t c w7.heap.size w8.heap.size ∧ ∀ i, i < q → wr.rangeAt A2 (i * 2) (sv2 X (4 + 10 * k + 4 * i)))
            (fun i _ => k - (intOf i).toNat)
          case atStart => exact ⟨0, Nat.zero_le _, rfl, by rw [show 4 + 10 * k + 4 * 0 = 2 + 10 * k + 1 + 1 by omega]; exact (unhide H11).1, (unhide H11).2.1, (unhide H11).2.2, fun i hi => by omega⟩
          case round =>
            obtain ⟨q, hq, rfl, hR, hb, hD, hV⟩ := hrel
            by_cases hqk : q < k
            · have hqk' : (q : Int) < (k : Int) := by omega
              have HH := hide (And.intro hR (And.intro hb (And.intro hD hV)))
              have hA2b : w1.heap.size < A2 := by have := hD.a1; have := hD.br; omega
              have hA2A : A2 ≠ A := by omega
              have e7 : wr.cell? ⟨B, 7, none⟩ = some (.slice (some ⟨A2, 0, none⟩) k k) := hD.cells.2 7 _ rfl
              clear hR hb hD hV
              go_wp2_with fail
              refine region_slots (l19V B A2 k q (4 + 10 * k + 4 * q) X) (l19C wr w1.heap.size A A2 q (4 + 10 * k + 4 * q) (4 + 14 * k) cap X) (by kernel_rfl) (by kernel_rfl) (by kernel_rfl) 88 (by kernel_rfl) rfl ?_ ?_ ?_
              · exact ⟨fun _ => But.low (still_drew wr _), fun _ => (unhide HH).1.same (But.low (O := fun _ => False) (still_drew wr _)) (fun e => e) (fun e => e), fun h => by simp at h, fun h => by simp at h, fun h => by simp at h⟩
              · intro listed a' w2 i o hI ho hsz hl hd
                have hi : i < 10 := by simpa using (Array.getElem?_eq_some_iff.1 ho).1
                have hc : l19C wr w1.heap.size A A2 q (4 + 10 * k + 4 * q) (4 + 14 * k) cap X listed w2 := hI.world
                have hsz' : listed.size = 10 := hsz
                rcases (by omega : i = 0 ∨ i = 1 ∨ i = 2 ∨ i = 3 ∨ i = 4 ∨ i = 5 ∨ i = 6 ∨ i = 7 ∨ i = 8 ∨ i = 9) with rfl | rfl | rfl | rfl | rfl | rfl | rfl | rfl | rfl | rfl
                all_goals obtain rfl := Option.some.inj ho
                · exact ok_move rfl rfl (hI.base 7 (by kernel_rfl)) rfl (hc.same 0 (by omega) (by omega) (by omega))
                · exact ok_nil rfl rfl (hI.slot 0 _ 77 rfl rfl (hd ⟨0, .data⟩ (by simp) rfl)) rfl (hc.same 1 (by omega) (by omega) (by omega))
                · exact ok_field rfl rfl (hI.slot 1 _ 78 rfl rfl (hd ⟨1, .data⟩ (by simp) rfl)) (field_sst _ _) rfl (hc.same 2 (by omega) (by omega) (by omega))
                · have u9 : listed.getD 9 false = false := hI.not_yet hsz' (by omega) hl 9 rfl ⟨3, .phase⟩ (by simp) rfl rfl
                  exact ok_load rfl rfl (hI.slot 2 _ 79 rfl rfl (hd ⟨2, .data⟩ (by simp) rfl)) (load_sts _ _ _ _ _ ((hc.but u9).cell e7 (by show ¬ (B = w1.heap.size); omega))) rfl (hc.same 3 (by omega) (by omega) (by omega))
                · exact ok_move rfl rfl (hI.base 9 (by kernel_rfl)) rfl (hc.same 4 (by omega) (by omega) (by omega))
                · have u5 := unlisted hl hsz' (by omega)
                  have u6 : listed.getD 6 false = false := hI.not_yet hsz' (by omega) hl 6 rfl ⟨5, .chain⟩ (by simp) rfl rfl
                  have u9 : listed.getD 9 false = false := hI.not_yet hsz' (by omega) hl 9 rfl ⟨5, .phase⟩ (by simp) rfl rfl
                  refine .inr (.inr ⟨30, #[a'.eval (.tmp 4)], ?_, ?_⟩)
                  · simp [execOp]
                    go_simp
                  rw [show a'.eval (.tmp 4) = .pointer (some ⟨w1.heap.size, 0, none⟩) from hI.base 4 (by kernel_rfl)]
                  refine (rnumber_any (hc.r0 u5) (by omega)).mono ?_
                  rintro e w5 ⟨rfl, hR5, hb5⟩
                  exact ⟨_, rfl, slot_of rfl rfl, hc.n0 hsz' hb5 hR5 u6 u9⟩
                · have u6 := unlisted hl hsz' (by omega)
                  have l5 : listed.getD 5 false = true := hd ⟨5, .chain⟩ (by simp) rfl
                  have u9 : listed.getD 9 false = false := hI.not_yet hsz' (by omega) hl 9 rfl ⟨6, .chain⟩ (by simp) rfl rfl
                  refine .inr (.inr ⟨30, #[a'.eval (.tmp 4)], ?_, ?_⟩)
                  · simp [execOp]
                    go_simp
                  rw [show a'.eval (.tmp 4) = .pointer (some ⟨w1.heap.size, 0, none⟩) from hI.base 4 (by kernel_rfl)]
                  refine (rnumber_any (hc.r1 l5 u6) (by omega)).mono ?_
                  rintro e w5 ⟨rfl, hR5, hb5⟩
                  exact ⟨_, rfl, slot_of rfl rfl, hc.n1 hsz' hb5 hR5 l5 u9⟩
                · have y82 : a'.eval (.tmp 82) = .complex .f64 (X (4 + 10 * k + 4 * q)) (X (4 + 10 * k + 4 * q + 1)) := (hI.slot 5 _ 82 rfl rfl (hd ⟨5, .data⟩ (by simp) rfl))
                  have y83 : a'.eval (.tmp 83) = .complex .f64 (X (4 + 10 * k + 4 * q + 2)) (X (4 + 10 * k + 4 * q + 3)) := (hI.slot 6 _ 83 rfl rfl (hd ⟨6, .data⟩ (by simp) rfl))
                  refine ok_run (d := 84) (r := .agg #[.complex .f64 (X (4 + 10 * k + 4 * q)) (X (4 + 10 * k + 4 * q + 1)), .complex .f64 (X (4 + 10 * k + 4 * q + 2)) (X (4 + 10 * k + 4 * q + 3))]) (w' := w2) ?_ rfl rfl (hc.same 7 (by omega) (by omega) (by omega))
                  simp [execOp, y82, y83, build_stt]
                · exact ok_index rfl rfl (hI.slot 3 _ 80 rfl rfl (hd ⟨3, .data⟩ (by simp) rfl)) (hI.slot 4 _ 81 rfl rfl (hd ⟨4, .data⟩ (by simp) rfl)) (index_sts _ _ _ _ _ hqk (by omega)) rfl (hc.same 8 (by omega) (by omega) (by omega))
                · have u9 := unlisted hl hsz' (by omega)
                  have hth : w2.there A2 (q * 2) 2 := there_part (there_same ((hc.but u9).block A2 (by have := (unhide HH).2.2.1.a2; have := (unhide HH).2.2.1.le; omega) (by omega)) (unhide HH).2.2.1.there) (by omega)
                  exact ok_store rfl rfl (hI.slot 8 _ 85 rfl rfl (hd ⟨8, .data⟩ (by simp) rfl)) (hI.slot 7 _ 84 rfl rfl (hd ⟨7, .data⟩ (by simp) rfl)) info_st (by simp [Value.oneCell']) hth (hc.sto hsz' u9 (by omega) (by omega))
              · intro listed a' w2 hI hall
                have hw19 : l19C wr w1.heap.size A A2 q (4 + 10 * k + 4 * q) (4 + 14 * k) cap X listed w2 := hI.world
                have hR19 := hw19.r2 (hall 6 (by decide))
                obtain ⟨w0, hbt, ew⟩ := hw19.fin (hall 9 (by decide))
                clear hw19
                have E := act_lit a' 88 hI.size
                rw [hI.defers] at E
                replace E : a' = ⟨#[a'.eval (.tmp 0), a'.eval (.tmp 1), a'.eval (.tmp 2), a'.eval (.tmp 3), a'.eval (.tmp 4), a'.eval (.tmp 5), a'.eval (.tmp 6), a'.eval (.tmp 7), a'.eval (.tmp 8), a'.eval (.tmp 9), a'.eval (.tmp 10), a'.eval (.tmp 11), a'.eval (.tmp 12), a'.eval (.tmp 13), a'.eval (.tmp 14), a'.eval (.tmp 15), a'.eval (.tmp 16), a'.eval (.tmp 17), a'.eval (.tmp 18), a'.eval (.tmp 19), a'.eval (.tmp 20), a'.eval (.tmp 21), a'.eval (.tmp 22), a'.eval (.tmp 23), a'.eval (.tmp 24), a'.eval (.tmp 25), a'.eval (.tmp 26), a'.eval (.tmp 27), a'.eval (.tmp 28), a'.eval (.tmp 29), a'.eval (.tmp 30), a'.eval (.tmp 31), a'.eval (.tmp 32), a'.eval (.tmp 33), a'.eval (.tmp 34), a'.eval (.tmp 35), a'.eval (.tmp 36), a'.eval (.tmp 37), a'.eval (.tmp 38), a'.eval (.tmp 39), a'.eval (.tmp 40), a'.eval (.tmp 41), a'.eval (.tmp 42), a'.eval (.tmp 43), a'.eval (.tmp 44), a'.eval (.tmp 45), a'.eval (.tmp 46), a'.eval (.tmp 47), a'.eval (.tmp 48), a'.eval (.tmp 49), a'.eval (.tmp 50), a'.eval (.tmp 51), a'.eval (.tmp 52), a'.eval (.tmp 53), a'.eval (.tmp 54), a'.eval (.tmp 55), a'.eval (.tmp 56), a'.eval (.tmp 57), a'.eval (.tmp 58), a'.eval (.tmp 59), a'.eval (.tmp 60), a'.eval (.tmp 61), a'.eval (.tmp 62), a'.eval (.tmp 63), a'.eval (.tmp 64), a'.eval (.tmp 65), a'.eval (.tmp 66), a'.eval (.tmp 67), a'.eval (.tmp 68), a'.eval (.tmp 69), a'.eval (.tmp 70), a'.eval (.tmp 71), a'.eval (.tmp 72), a'.eval (.tmp 73), a'.eval (.tmp 74), a'.eval (.tmp 75), a'.eval (.tmp 76), a'.eval (.tmp 77), a'.eval (.tmp 78), a'.eval (.tmp 79), a'.eval (.tmp 80), a'.eval (.tmp 81), a'.eval (.tmp 82), a'.eval (.tmp 83), a'.eval (.tmp 84), a'.eval (.tmp 85), a'.eval (.tmp 86), a'.eval (.tmp 87)], _⟩ := E
                rw [hI.base 0 (by kernel_rfl), hI.base 1 (by kernel_rfl), hI.base 2 (by kernel_rfl), hI.base 3 (by kernel_rfl), hI.base 4 (by kernel_rfl), hI.base 5 (by kernel_rfl), hI.base 6 (by kernel_rfl), hI.base 7 (by kernel_rfl), hI.base 8 (by kernel_rfl), hI.base 9 (by kernel_rfl), hI.base 10 (by kernel_rfl), hI.base 11 (by kernel_rfl), hI.base 12 (by kernel_rfl), hI.base 13 (by kernel_rfl), hI.base 14 (by kernel_rfl), hI.base 15 (by kernel_rfl), hI.base 16 (by kernel_rfl), hI.base 17 (by kernel_rfl), hI.base 18 (by kernel_rfl), hI.base 19 (by kernel_rfl), hI.base 20 (by kernel_rfl), hI.base 21 (by kernel_rfl), hI.base 22 (by kernel_rfl), hI.base 23 (by kernel_rfl), hI.base 24 (by kernel_rfl), hI.base 25 (by kernel_rfl), hI.base 26 (by kernel_rfl), hI.base 27 (by kernel_rfl), hI.base 28 (by kernel_rfl), hI.base 29 (by kernel_rfl), hI.base 30 (by kernel_rfl), hI.base 31 (by kernel_rfl), hI.base 32 (by kernel_rfl), hI.base 33 (by kernel_rfl), hI.base 34 (by kernel_rfl), hI.base 35 (by kernel_rfl), hI.base 36 (by kernel_rfl), hI.base 37 (by kernel_rfl), hI.base 38 (by kernel_rfl), hI.base 39 (by kernel_rfl), hI.base 40 (by kernel_rfl), hI.base 41 (by kernel_rfl), hI.base 42 (by kernel_rfl), hI.base 43 (by kernel_rfl), hI.base 44 (by kernel_rfl), hI.base 45 (by kernel_rfl), hI.base 46 (by kernel_rfl), hI.base 47 (by kernel_rfl), hI.base 48 (by kernel_rfl), hI.base 49 (by kernel_rfl), hI.base 50 (by kernel_rfl), hI.base 51 (by kernel_rfl), hI.base 52 (by kernel_rfl), hI.base 53 (by kernel_rfl), hI.base 54 (by kernel_rfl), hI.base 55 (by kernel_rfl), hI.base 56 (by kernel_rfl), hI.base 57 (by kernel_rfl), hI.base 58 (by kernel_rfl), hI.base 59 (by kernel_rfl), hI.base 60 (by kernel_rfl), hI.base 61 (by kernel_rfl), hI.base 62 (by kernel_rfl), hI.base 63 (by kernel_rfl), hI.base 64 (by kernel_rfl), hI.base 65 (by kernel_rfl), hI.base 66 (by kernel_rfl), hI.base 67 (by kernel_rfl), hI.base 68 (by kernel_rfl), hI.base 69 (by kernel_rfl), hI.base 70 (by kernel_rfl), hI.base 71 (by kernel_rfl), hI.base 72 (by kernel_rfl), hI.base 73 (by kernel_rfl), hI.base 74 (by kernel_rfl), hI.base 75 (by kernel_rfl), hI.base 76 (by kernel_rfl), hI.base 86 (by kernel_rfl), hI.base 87 (by kernel_rfl)] at E
                clear hI
                generalize a'.eval (.tmp 77) = y77 at E
                generalize a'.eval (.tmp 78) = y78 at E
                generalize a'.eval (.tmp 79) = y79 at E
                generalize a'.eval (.tmp 80) = y80 at E
                generalize a'.eval (.tmp 81) = y81 at E
                generalize a'.eval (.tmp 82) = y82 at E
                generalize a'.eval (.tmp 83) = y83 at E
                generalize a'.eval (.tmp 84) = y84 at E
                generalize a'.eval (.tmp 85) = y85 at E
                simp [Act.eval] at E
                subst E
                clear hall
                have HE := hide (And.intro hR19 (And.intro hbt ew))
                clear hR19 hbt ew
                go_wp2
                go_roundw
                case rel =>
                  obtain ⟨hR19, hbt, ew⟩ := unhide HE
                  obtain ⟨hR, hb, hD, hV⟩ := unhide HH
                  have hg : w0.grownBy w2 (some A2) := by rw [ew]; exact grown_setCells (grown_refl _ _)
                  have hb2 : But (fun k => k = A2) w0 w2 := ⟨hg.os, hg.tape, hg.output, hg.size, fun k hk hn => hg.block k hk (by intro e; exact hn (Option.some.inj e))⟩
                  have hD0 := hD.same hbt
                  have hws := hb.size
                  have hs1 := (unhide Hb1).size
                  have hle := hD.le
                  have hle0 := hD0.le
                  have ha2 := hD.a2
                  have hb2s := hD.b2
                  have hs2 := hb2.size
                  refine ⟨q + 1, by omega, by go_num, by rw [show 4 + 10 * k + 4 * (q + 1) = 4 + 10 * k + 4 * q + 4 by omega]; exact hR19, (hb.trans ⟨hbt.os, hbt.tape, hbt.output, hbt.size, fun i hi => hbt.block i (by omega) (by omega)⟩).trans ⟨hb2.os, hb2.tape, hb2.output, hb2.size, fun i hi => hb2.block i (by have := hbt.size; omega) (by omega)⟩, ⟨hD0.cells.same (hb2.block B (by omega) hD0.ne), hD0.secs.same (O := fun k => k ≠ A2 ∧ k < w8.heap.size) (fun hn b off m c e => ⟨hD0.offA hn b off m c e, (hD0.inr hn b off m c e).2⟩) (fun k hk => hb2.block k (by omega) (fun e => hk.1 e)) hs2, hD0.inr, hD0.offB, hD0.offA, by rw [ew]; exact there_set hD0.there, hD0.ne, hD0.b1, hD0.b2, hD0.a1, hD0.a2, hD0.br, by omega⟩, fun i hi => ?_⟩
                  by_cases hik : i = q
                  · subst hik
                    rw [ew]
                    exact World.rangeAt_setCells_same w0 A2 (i * 2) _ (there_part hD0.there (by simp [sv2]; omega))
                  · rw [ew]
                    exact World.rangeAt_setCells_apart (cells_same (hbt.block A2 (by omega) (by omega)) (hV i (by omega))) A2 _ _ (.inr (by simp only [sv2, List.length_cons, List.length_nil]; omega))
                case measure => simp [intOf]; omega
            · have : q = k := by omega
              subst this
              have HH := hide (And.intro hb (And.intro hD hV))
              clear hR hb hD hV
              go_wp2
              go_ret2
              obtain ⟨hb, hD, hV⟩ := unhide HH
              have hXw := (unhide HX).1
              refine ⟨B, fun j => w7.heap.size ≤ j ∧ j < w8.heap.size, rfl, ⟨A2, q, X 0, X 1, sv2', hD.cells, hXw.gain.2, hXw.gain.1, hD.secs, fun i hi => ⟨_, _, hV i hi, (hXw.stat i hi).1, (hXw.stat i hi).2⟩, hD.there, hD.ne, hD.offB, hD.offA, ⟨hD.b1, hD.b2⟩, ⟨hD.a1, hD.a2⟩, fun hn b off m c e => hD.inr hn b off m c e, fun j hj => by have := hD.le; omega, htle, hcle⟩, fun j hj => by omega, hb⟩
  have HK := hide hrest
  clear hrest hK hbW hRW hW
  have hz5 : w1.heap.size < W.heap.size := hsW
  refine region_slotsA (l6V A n cap (X 0) (X 1)) (l6C W w1.heap.size A n (4 + 14 * n) cap X) (by kernel_rfl) (by kernel_rfl) (by kernel_rfl) 88 (by kernel_rfl) rfl ?_ ?_ ?_
  · exact ⟨But.low (still_drew W _), fun _ => (unhide HW).2.1.same (But.low (O := fun _ => False) (still_drew W _)) (fun e => e) (fun e => e), fun h => by simp at h, fun h => by simp at h, fun h => by simp at h, fun h => by simp at h, fun h => by simp at h⟩
  · intro listed a' w2 i o hI ho hsz hl hd
    have hi : i < 8 := by simpa using (Array.getElem?_eq_some_iff.1 ho).1
    have hc : l6C W w1.heap.size A n (4 + 14 * n) cap X listed a' w2 := hI.world
    have hsz' : listed.size = 8 := hsz
    have hz : 88 ≤ a'.tmps.size := Nat.le_of_eq hI.size.symm
    rcases (by omega : i = 0 ∨ i = 1 ∨ i = 2 ∨ i = 3 ∨ i = 4 ∨ i = 5 ∨ i = 6 ∨ i = 7) with rfl | rfl | rfl | rfl | rfl | rfl | rfl | rfl
    all_goals obtain rfl := Option.some.inj ho
    · have u0 := unlisted hl hsz' (by omega)
      have u5 : listed.getD 5 false = false := hI.not_yet hsz' (by omega) hl 5 rfl ⟨0, .data⟩ (by simp) rfl rfl
      have u7 : listed.getD 7 false = false := hI.not_yet hsz' (by omega) hl 7 rfl ⟨0, .chain⟩ (by simp) rfl rfl
      refine .inr (.inr ⟨30, #[a'.eval (.tmp 4)], ?_, ?_⟩)
      · simp [execOp]
        go_simp
      rw [show a'.eval (.tmp 4) = .pointer (some ⟨w1.heap.size, 0, none⟩) from hI.base 4 (by kernel_rfl)]
      refine (rnumber_any (hc.rb0 u0) (by omega)).mono ?_
      rintro e w5 ⟨rfl, hR5, hb5⟩
      exact ⟨_, rfl, slot_of rfl rfl, hc.num rfl hz5 u5 u7 (by omega) hb5 hR5 _⟩
    · exact (ok_move rfl rfl (hI.base 0 (by kernel_rfl)) rfl (fun u => hc.same 1 27 rfl (by omega) (by omega) u)).toR
    · exact (ok_index rfl rfl (hI.slot 1 _ 27 rfl rfl (hd ⟨1, .data⟩ (by simp) rfl)) rfl (index_b5 _ _ _ _ (by omega)) rfl (fun u => hc.same 2 28 rfl (by omega) (by omega) u)).toR
    · exact (ok_load rfl rfl (hI.slot 2 _ 28 rfl rfl (hd ⟨2, .data⟩ (by simp) rfl)) (load_u8 _ _ _ (hc.but.cell m5 (by show ¬ (A = w1.heap.size); omega))) rfl (fun u => hc.same 3 29 rfl (by omega) (by omega) u)).toR
    · have k1 : a'.eval (.tmp 29) = .int .u8 (n : Nat) := hI.slot 3 _ 29 rfl rfl (hd ⟨3, .data⟩ (by simp) rfl)
      have u5 : listed.getD 5 false = false := hI.not_yet hsz' (by omega) hl 5 rfl ⟨4, .data⟩ (by simp) rfl rfl
      have u7 : listed.getD 7 false = false := hI.not_yet hsz' (by omega) hl 7 rfl ⟨4, .phase⟩ (by simp) rfl rfl
      refine .inl ⟨.slice (some ⟨w2.heap.size, 0, none⟩) n n, _, ?_, slot_of rfl ⟨_, rfl⟩, hc.made hz rfl u5 u7⟩
      simp [execOp, k1, make_secs n hn]
    · have k1 : a'.eval (.tmp 26) = .complex .f64 (X 0) (X 1) := hI.slot 0 _ 26 rfl rfl (hd ⟨0, .data⟩ (by simp) rfl)
      obtain ⟨S, k2⟩ := hI.slot 4 _ 30 rfl rfl (hd ⟨4, .data⟩ (by simp) rfl)
      have u7 : listed.getD 7 false = false := hI.not_yet hsz' (by omega) hl 7 rfl ⟨5, .data⟩ (by simp) rfl rfl
      refine .inl ⟨.agg #[.complex .f64 (X 0) (X 1), .slice (some ⟨S, 0, none⟩) n n], w2, ?_, slot_of rfl trivial, hc.bld hz rfl u7 (by rw [k2])⟩
      simp [execOp, k1, k2, build_filt]
    · have u7 : listed.getD 7 false = false := hI.not_yet hsz' (by omega) hl 7 rfl ⟨6, .data⟩ (by simp) rfl rfl
      refine .inl ⟨_, _, ?_, slot_of rfl ⟨w2.heap.size, rfl⟩, hc.flt hz rfl u7⟩
      simp [execOp, run_alloc_filt]
    · have l5 := hd ⟨5, .data⟩ (by simp) rfl
      have l6 := hd ⟨6, .data⟩ (by simp) rfl
      have l0 : listed.getD 0 false = true := hd ⟨0, .chain⟩ (by simp) rfl
      have l4 : listed.getD 4 false = true := hI.closed 5 _ rfl l5 ⟨4, .data⟩ (by simp) rfl
      obtain ⟨F, e, n1, n2, ht, _⟩ := hc.c6 l6
      obtain ⟨S, k2⟩ := hI.slot 4 _ 30 rfl rfl l4
      have k5 := hc.c5 l5
      rw [k2] at k5
      refine okR_sto rfl e k5 (run_storeAt_mid w2 F 0 27 #[.complex .f64 (X 0) (X 1), .slice (some ⟨S, 0, none⟩) n n] ht info_filt (by simp [Value.oneCell'])) ⟨fun d' h => (by cases h), hc.sto rfl l6 l4 l0 hz5 hAW e k2⟩
  · intro listed a' w2 hI hall
    have hw : l6C W w1.heap.size A n (4 + 14 * n) cap X listed a' w2 := hI.world
    obtain ⟨S, e30, s1, s2, s3⟩ := hw.c4 (hall 4 (by decide))
    obtain ⟨F, e5, f1, f2, f3, f4⟩ := hw.c6 (hall 6 (by decide))
    obtain ⟨F', e5', hra⟩ := hw.c7 (hall 7 (by decide))
    have eF : F' = F := by rw [e5] at e5'; injection e5' with e1; injection e1 with e1; injection e1 with e1; exact e1.symm
    subst eF
    have hFS := f4 (hall 4 (by decide)) S n n e30
    have e31 := hw.c5 (hall 5 (by decide))
    rw [e30] at e31 hra
    have hR6 := hw.rb1 (hall 0 (by decide))
    have hbut := hw.but
    clear hw e5'
    have k26 := hI.slot 0 _ 26 rfl rfl (hall 0 (by decide))
    have k27 := hI.slot 1 _ 27 rfl rfl (hall 1 (by decide))
    have k28 := hI.slot 2 _ 28 rfl rfl (hall 2 (by decide))
    have k29 := hI.slot 3 _ 29 rfl rfl (hall 3 (by decide))
    have E := act_lit a' 88 hI.size
    rw [hI.defers] at E
    replace E : a' = ⟨#[a'.eval (.tmp 0), a'.eval (.tmp 1), a'.eval (.tmp 2), a'.eval (.tmp 3), a'.eval (.tmp 4), a'.eval (.tmp 5), a'.eval (.tmp 6), a'.eval (.tmp 7), a'.eval (.tmp 8), a'.eval (.tmp 9), a'.eval (.tmp 10), a'.eval (.tmp 11), a'.eval (.tmp 12), a'.eval (.tmp 13), a'.eval (.tmp 14), a'.eval (.tmp 15), a'.eval (.tmp 16), a'.eval (.tmp 17), a'.eval (.tmp 18), a'.eval (.tmp 19), a'.eval (.tmp 20), a'.eval (.tmp 21), a'.eval (.tmp 22), a'.eval (.tmp 23), a'.eval (.tmp 24), a'.eval (.tmp 25), a'.eval (.tmp 26), a'.eval (.tmp 27), a'.eval (.tmp 28), a'.eval (.tmp 29), a'.eval (.tmp 30), a'.eval (.tmp 31), a'.eval (.tmp 32), a'.eval (.tmp 33), a'.eval (.tmp 34), a'.eval (.tmp 35), a'.eval (.tmp 36), a'.eval (.tmp 37), a'.eval (.tmp 38), a'.eval (.tmp 39), a'.eval (.tmp 40), a'.eval (.tmp 41), a'.eval (.tmp 42), a'.eval (.tmp 43), a'.eval (.tmp 44), a'.eval (.tmp 45), a'.eval (.tmp 46), a'.eval (.tmp 47), a'.eval (.tmp 48), a'.eval (.tmp 49), a'.eval (.tmp 50), a'.eval (.tmp 51), a'.eval (.tmp 52), a'.eval (.tmp 53), a'.eval (.tmp 54), a'.eval (.tmp 55), a'.eval (.tmp 56), a'.eval (.tmp 57), a'.eval (.tmp 58), a'.eval (.tmp 59), a'.eval (.tmp 60), a'.eval (.tmp 61), a'.eval (.tmp 62), a'.eval (.tmp 63), a'.eval (.tmp 64), a'.eval (.tmp 65), a'.eval (.tmp 66), a'.eval (.tmp 67), a'.eval (.tmp 68), a'.eval (.tmp 69), a'.eval (.tmp 70), a'.eval (.tmp 71), a'.eval (.tmp 72), a'.eval (.tmp 73), a'.eval (.tmp 74), a'.eval (.tmp 75), a'.eval (.tmp 76), a'.eval (.tmp 77), a'.eval (.tmp 78), a'.eval (.tmp 79), a'.eval (.tmp 80), a'.eval (.tmp 81), a'.eval (.tmp 82), a'.eval (.tmp 83), a'.eval (.tmp 84), a'.eval (.tmp 85), a'.eval (.tmp 86), a'.eval (.tmp 87)], _⟩ := E
    rw [hI.base 0 (by kernel_rfl), hI.base 1 (by kernel_rfl), hI.base 2 (by kernel_rfl), hI.base 3 (by kernel_rfl), hI.base 4 (by kernel_rfl), hI.base 6 (by kernel_rfl), hI.base 7 (by kernel_rfl), hI.base 8 (by kernel_rfl), hI.base 9 (by kernel_rfl), hI.base 10 (by kernel_rfl), hI.base 11 (by kernel_rfl), hI.base 12 (by kernel_rfl), hI.base 13 (by kernel_rfl), hI.base 14 (by kernel_rfl), hI.base 15 (by kernel_rfl), hI.base 16 (by kernel_rfl), hI.base 17 (by kernel_rfl), hI.base 18 (by kernel_rfl), hI.base 19 (by kernel_rfl), hI.base 20 (by kernel_rfl), hI.base 21 (by kernel_rfl), hI.base 22 (by kernel_rfl), hI.base 23 (by kernel_rfl), hI.base 24 (by kernel_rfl), hI.base 25 (by kernel_rfl), hI.base 32 (by kernel_rfl), hI.base 33 (by kernel_rfl), hI.base 34 (by kernel_rfl), hI.base 35 (by kernel_rfl), hI.base 36 (by kernel_rfl), hI.base 37 (by kernel_rfl), hI.base 38 (by kernel_rfl), hI.base 39 (by kernel_rfl), hI.base 40 (by kernel_rfl), hI.base 41 (by kernel_rfl), hI.base 42 (by kernel_rfl), hI.base 43 (by kernel_rfl), hI.base 44 (by kernel_rfl), hI.base 45 (by kernel_rfl), hI.base 46 (by kernel_rfl), hI.base 47 (by kernel_rfl), hI.base 48 (by kernel_rfl), hI.base 49 (by kernel_rfl), hI.base 50 (by kernel_rfl), hI.base 51 (by kernel_rfl), hI.base 52 (by kernel_rfl), hI.base 53 (by kernel_rfl), hI.base 54 (by kernel_rfl), hI.base 55 (by kernel_rfl), hI.base 56 (by kernel_rfl), hI.base 57 (by kernel_rfl), hI.base 58 (by kernel_rfl), hI.base 59 (by kernel_rfl), hI.base 60 (by kernel_rfl), hI.base 61 (by kernel_rfl), hI.base 62 (by kernel_rfl), hI.base 63 (by kernel_rfl), hI.base 64 (by kernel_rfl), hI.base 65 (by kernel_rfl), hI.base 66 (by kernel_rfl), hI.base 67 (by kernel_rfl), hI.base 68 (by kernel_rfl), hI.base 69 (by kernel_rfl), hI.base 70 (by kernel_rfl), hI.base 71 (by kernel_rfl), hI.base 72 (by kernel_rfl), hI.base 73 (by kernel_rfl), hI.base 74 (by kernel_rfl), hI.base 75 (by kernel_rfl), hI.base 76 (by kernel_rfl), hI.base 77 (by kernel_rfl), hI.base 78 (by kernel_rfl), hI.base 79 (by kernel_rfl), hI.base 80 (by kernel_rfl), hI.base 81 (by kernel_rfl), hI.base 82 (by kernel_rfl), hI.base 83 (by kernel_rfl), hI.base 84 (by kernel_rfl), hI.base 85 (by kernel_rfl), hI.base 86 (by kernel_rfl), hI.base 87 (by kernel_rfl)] at E
    clear hI
    generalize a'.eval (.tmp 5) = y5 at E e5
    subst e5
    generalize a'.eval (.tmp 26) = y26 at E k26
    generalize a'.eval (.tmp 27) = y27 at E k27
    generalize a'.eval (.tmp 28) = y28 at E k28
    generalize a'.eval (.tmp 29) = y29 at E k29
    generalize a'.eval (.tmp 30) = y30 at E e30
    subst e30
    generalize a'.eval (.tmp 31) = y31 at E e31
    subst e31
    simp [Act.eval] at E
    subst E
    have k26' : y26 = .complex .f64 (X 0) (X 1) := k26
    have k27' : y27 = .slice (some ⟨A, 0, none⟩) (38 + 112 * n) cap := k27
    have k28' : y28 = .pointer (some ⟨A, 5, none⟩) := k28
    have k29' : y29 = .int .u8 (n : Nat) := k29
    subst k26' k27' k28' k29'
    exact unhide HK F' S w2 hR6 (((unhide Hb1).trans ((unhide HW).1.mono (unhide Hb1).size)).trans ⟨hbut.os, hbut.tape, hbut.output, hbut.size, fun k hk => hbut.block k (by have := (unhide Hb1).size; omega) (by have := (unhide Hb1).size; omega)⟩) ⟨hra, s3, hFS, by omega, by omega, f2, s2⟩
end Go.Proofs.Ytnfgdhnoidpncaa
