/- What package quant's Step answers: the answer, the next state and whether the answer had to be kept within, of all whole numbers. -/
import Derived.Test.YtmddclgidccnhabQb
import Derived.Test.YtmddclgidccnhabOpi
namespace Go.Proofs.Ytmddclgidccnhab
open Go.RowKit

theorem unl {listed : Array Bool} {i n : Nat} (h : listed.getD i true = false) (hs : listed.size = n) (hi : i < n) : listed.getD i false = false := by
  have hlt : i < listed.size := by omega
  rw [Array.getD_eq_getD_getElem?, Array.getElem?_eq_getElem hlt] at h ⊢
  exact h
theorem lset {listed : Array Bool} {i n : Nat} (hs : listed.size = n) (hi : i < n) : (listed.setIfInBounds i true).getD i false = true := by
  simp [show i < listed.size by omega]

/-- The blocks of a step: the section's, the state's, the next state's. -/
structure QW (w : World) (fs ss rs : Array Value) (w' : World) : Prop where
  low : Below w.heap.size w w'
  sec : Blk w' w.heap.size fs 23
  st : Blk w' (w.heap.size + 1) ss 25
  res : Blk w' (w.heap.size + 2) rs 25
theorem QW.later {w a b : World} {fs ss rs : Array Value} (h : QW w fs ss rs a) (hb : Below a.heap.size a b) : QW w fs ss rs b :=
  ⟨h.low.trans (hb.mono h.low.size), h.sec.below hb h.sec.lt, h.st.below hb h.st.lt, h.res.below hb h.res.lt⟩

/-- A row of cells, stored over a block whole. -/
theorem Blk.all {w : World} {b : Nat} {cs ds : Array Value} {t : TypeId} (h : Blk w b cs t) (hn : ds.size = cs.size) : Blk (w.setCells b 0 ds.toList) b ds t := by
  have key : ∀ (vs : List Value) (i : Nat) (w : World) (xs : Array Value), Blk w b xs t → i + vs.length ≤ xs.size → ∃ ys : Array Value, Blk (w.setCells b i vs) b ys t ∧ ys.size = xs.size ∧ (∀ j, j < i → ys[j]? = xs[j]?) ∧ (∀ j, j < vs.length → ys[i + j]? = vs[j]?) := by
    intro vs
    induction vs with
    | nil => intro i w xs hx _; exact ⟨xs, hx, rfl, fun _ _ => rfl, fun j hj => absurd hj (Nat.not_lt_zero j)⟩
    | cons v r ih =>
      intro i w xs hx hl
      rw [World.setCells]
      have hl' : i + (r.length + 1) ≤ xs.size := hl
      have hs : (xs.setIfInBounds i v).size = xs.size := by simp
      obtain ⟨ys, h1, h2, h3, h4⟩ := ih (i + 1) (w.setCell ⟨b, i, none⟩ v) (xs.setIfInBounds i v) (hx.put i v) (by omega)
      refine ⟨ys, h1, h2.trans hs, fun j hj => ?_, fun j hj => ?_⟩
      · rw [h3 j (by omega), Array.getElem?_setIfInBounds_ne (by omega)]
      · cases j with
        | zero => rw [Nat.add_zero, h3 i (by omega), Array.getElem?_setIfInBounds_self_of_lt (by omega)]; rfl
        | succ j =>
          have := h4 j (by simpa using hj)
          rw [show i + (j + 1) = i + 1 + j by omega, this]; simp
  obtain ⟨ys, h1, h2, _, h4⟩ := key ds.toList 0 w cs h (by simp [hn])
  have : ys = ds := by
    apply Array.ext
    · omega
    · intro j h5 h6
      have := h4 j (by simpa using h6)
      rw [Nat.zero_add] at this
      simp [h5, h6] at this
      exact this
  rw [this] at h1
  exact h1

def tv (T : Int) : Value := .agg #[.int .i64 (T / 18446744073709551616), .int .u64 (T % 18446744073709551616)]
def q3V (n b0 b1 b2 a1 a2 x1 x2 y1 y2 x : Int) : Nat → Value → Prop
  | 2, v => v = .int .i64 (kp x)
  | 17, v => v = .agg #[.int .i64 n, .int .i64 b0, .int .i64 b1, .int .i64 b2, .int .i64 a1, .int .i64 a2]
  | 18, v => v = .agg #[.int .i64 n, .int .i64 (kp b0), .int .i64 (kp b1), .int .i64 (kp b2), .int .i64 (kp a1), .int .i64 (kp a2)]
  | 19, v => v = .agg #[.int .i64 x1, .int .i64 x2, .int .i64 y1, .int .i64 y2]
  | 20, v => v = .agg #[.int .i64 (kp x1), .int .i64 (kp x2), .int .i64 (kp y1), .int .i64 (kp y2)]
  | 21, v => v = .int .i64 (x)
  | 22, v => v = .int .i64 (kp x)
  | _, _ => True
def q3C (w : World) (n b0 b1 b2 a1 a2 x1 x2 y1 y2 _x : Int) (listed : Array Bool) (w' : World) : Prop :=
  QW w (if listed.getD 6 false then #[.int .i64 n, .int .i64 (kp b0), .int .i64 (kp b1), .int .i64 (kp b2), .int .i64 (kp a1), .int .i64 (kp a2)] else #[.int .i64 n, .int .i64 b0, .int .i64 b1, .int .i64 b2, .int .i64 a1, .int .i64 a2]) (if listed.getD 7 false then #[.int .i64 (kp x1), .int .i64 (kp x2), .int .i64 (kp y1), .int .i64 (kp y2)] else #[.int .i64 x1, .int .i64 x2, .int .i64 y1, .int .i64 y2]) #[.int .i64 0, .int .i64 0, .int .i64 0, .int .i64 0] w'
theorem q3C.same {w : World} {n b0 b1 b2 a1 a2 x1 x2 y1 y2 x : Int} {listed : Array Bool} {w' w'' : World} (h : q3C w n b0 b1 b2 a1 a2 x1 x2 y1 y2 x listed w') (i : Nat) (h6 : i ≠ 6) (h7 : i ≠ 7) (hb : Below w'.heap.size w' w'') : q3C w n b0 b1 b2 a1 a2 x1 x2 y1 y2 x (listed.setIfInBounds i true) w'' := by
  unfold q3C
  rw [getD_set_ne false h6, getD_set_ne false h7]
  exact QW.later h hb
def q5V (w : World) (b0 b1 b2 a1 a2 x1 x2 y1 y2 x T1 T2 T3 T4 T5 : Int) : Nat → Value → Prop
  | 23, v => v = tv 0
  | 24, v => v = .pointer (some ⟨w.heap.size, 1, none⟩)
  | 25, v => v = .int .i64 (kp b0)
  | 26, v => v = .int .i64 (kp x)
  | 27, v => v = .int .i64 (kp b0 * kp x)
  | 28, v => v = tv (T1)
  | 29, v => v = .pointer (some ⟨w.heap.size, 2, none⟩)
  | 30, v => v = .int .i64 (kp b1)
  | 31, v => v = .pointer (some ⟨w.heap.size + 1, 0, none⟩)
  | 32, v => v = .int .i64 (kp x1)
  | 33, v => v = .int .i64 (kp b1 * kp x1)
  | 34, v => v = tv (T2)
  | 35, v => v = .pointer (some ⟨w.heap.size, 3, none⟩)
  | 36, v => v = .int .i64 (kp b2)
  | 37, v => v = .pointer (some ⟨w.heap.size + 1, 1, none⟩)
  | 38, v => v = .int .i64 (kp x2)
  | 39, v => v = .int .i64 (kp b2 * kp x2)
  | 40, v => v = tv (T3)
  | 41, v => v = .pointer (some ⟨w.heap.size, 4, none⟩)
  | 42, v => v = .int .i64 (kp a1)
  | 43, v => v = .int .i64 (-kp a1)
  | 44, v => v = .pointer (some ⟨w.heap.size + 1, 2, none⟩)
  | 45, v => v = .int .i64 (kp y1)
  | 46, v => v = .int .i64 (-kp a1 * kp y1)
  | 47, v => v = tv (T4)
  | 48, v => v = .pointer (some ⟨w.heap.size, 5, none⟩)
  | 49, v => v = .int .i64 (kp a2)
  | 50, v => v = .int .i64 (-kp a2)
  | 51, v => v = .pointer (some ⟨w.heap.size + 1, 3, none⟩)
  | 52, v => v = .int .i64 (kp y2)
  | 53, v => v = .int .i64 (-kp a2 * kp y2)
  | 54, v => v = tv (T5)
  | _, _ => True
def q5C (w : World) (Z : Nat) (n b0 b1 b2 a1 a2 x1 x2 y1 y2 T5 : Int) (listed : Array Bool) (w' : World) : Prop :=
  QW w #[.int .i64 n, .int .i64 (kp b0), .int .i64 (kp b1), .int .i64 (kp b2), .int .i64 (kp a1), .int .i64 (kp a2)] #[.int .i64 (kp x1), .int .i64 (kp x2), .int .i64 (kp y1), .int .i64 (kp y2)] #[.int .i64 0, .int .i64 0, .int .i64 0, .int .i64 0] w' ∧ Blk w' Z (if listed.getD 32 false then #[.int .i64 ((T5) / 18446744073709551616), .int .u64 ((T5) % 18446744073709551616)] else #[.int .i64 0, .int .u64 0]) 65
theorem q5C.same {w : World} {Z : Nat} {n b0 b1 b2 a1 a2 x1 x2 y1 y2 T5 : Int} {listed : Array Bool} {w' w'' : World} (h : q5C w Z n b0 b1 b2 a1 a2 x1 x2 y1 y2 T5 listed w') (i : Nat) (h6 : i ≠ 32) (hb : Below w'.heap.size w' w'') : q5C w Z n b0 b1 b2 a1 a2 x1 x2 y1 y2 T5 (listed.setIfInBounds i true) w'' := by
  unfold q5C
  rw [getD_set_ne false h6]
  exact ⟨h.1.later hb, h.2.below hb h.2.lt⟩
theorem run_results_q {w : World} {tmps : Array Value} {y o : Value} {b : Nat} {c0 c1 c2 c3 : Value} (h6 : tmps.getD 6 undef = y) (h7 : tmps.getD 7 undef = .pointer (some ⟨b, 0, none⟩)) (h8 : tmps.getD 8 undef = o) (hr : Blk w b #[c0, c1, c2, c3] 25) :
    (results Try.f11 tmps).run Try.prog w = .ok (.tuple #[y, .agg #[c0, c1, c2, c3], o]) w := by
  have hl := run_loadVar_mid (P := Try.prog) w b 0 25 [c0, c1, c2, c3] _ hr.range Try.underlying25 rfl infoSt
  rw [Array.getD_eq_getD_getElem?] at h6 h7 h8
  simp [results, h6, h7, h8, asAddr, hl]
theorem loadFx (b : Nat) (c0 c1 c2 c3 c4 c5 : Int) (w : World) (h : Blk w b #[.int .i64 c0, .int .i64 c1, .int .i64 c2, .int .i64 c3, .int .i64 c4, .int .i64 c5] 23) :
    (Instr.loadAt 23 (.pointer (some ⟨b, 0, none⟩))).run Try.prog w = .ok (.agg #[.int .i64 c0, .int .i64 c1, .int .i64 c2, .int .i64 c3, .int .i64 c4, .int .i64 c5]) w := by
  have e0 := h.cell 0 rfl
  have e1 := h.cell 1 rfl
  have e2 := h.cell 2 rfl
  have e3 := h.cell 3 rfl
  have e4 := h.cell 4 rfl
  have e5 := h.cell 5 rfl
  clear h
  go_simp
theorem loadSt (b : Nat) (c0 c1 c2 c3 : Int) (w : World) (h : Blk w b #[.int .i64 c0, .int .i64 c1, .int .i64 c2, .int .i64 c3] 25) :
    (Instr.loadAt 25 (.pointer (some ⟨b, 0, none⟩))).run Try.prog w = .ok (.agg #[.int .i64 c0, .int .i64 c1, .int .i64 c2, .int .i64 c3]) w := by
  have e0 := h.cell 0 rfl
  have e1 := h.cell 1 rfl
  have e2 := h.cell 2 rfl
  have e3 := h.cell 3 rfl
  clear h
  go_simp
theorem loadTo (b : Nat) (c0 c1 : Int) (w : World) (h : Blk w b #[.int .i64 c0, .int .u64 c1] 65) :
    (Instr.loadAt 65 (.pointer (some ⟨b, 0, none⟩))).run Try.prog w = .ok (.agg #[.int .i64 c0, .int .u64 c1]) w := by
  have e0 := h.cell 0 rfl
  have e1 := h.cell 1 rfl
  clear h
  go_simp

set_option maxRecDepth 100000 in
set_option maxHeartbeats 4000000 in
theorem qstep_walk (n b0 b1 b2 a1 a2 x1 x2 y1 y2 x : Int) (T1 T2 T3 T4 T5 : Int) (hT1 : T1 = 0 + kp b0 * kp x) (hT2 : T2 = T1 + kp b1 * kp x1) (hT3 : T3 = T2 + kp b2 * kp x2) (hT4 : T4 = T3 + -kp a1 * kp y1) (hT5 : T5 = T4 + -kp a2 * kp y2) (hn : fitsB n = true) (w : World) :
    Calls Try.prog 11 #[.agg #[.int .i64 n, .int .i64 b0, .int .i64 b1, .int .i64 b2, .int .i64 a1, .int .i64 a2], .agg #[.int .i64 x1, .int .i64 x2, .int .i64 y1, .int .i64 y2], .int .i64 x] w
      fun e w' => (∃ z, kp z = kp (rnd (T5) n.toNat) ∧ offB z = offB (rnd (T5) n.toNat) ∧ e = .returned (.tuple #[.int .i64 (kp z), .agg #[.int .i64 (kp x), .int .i64 (kp x1), .int .i64 (kp z), .int .i64 (kp y1)], .bool (offB z)])) ∧ Below w.heap.size w w' := by
  have hn' : 1 ≤ n ∧ n ≤ 31 := by simpa [fitsB] using hn
  have Hf := hide (fits_any n)
  rw [hn] at Hf
  have Hs := hide (keptSection_any n b0 b1 b2 a1 a2)
  have Ht := hide (keptState_any x1 x2 y1 y2)
  have Hx := hide (kept_any x)
  have g0 := prod_bound (kp_low b0) (kp_low x)
  have g1 := prod_bound (kp_low b1) (kp_low x1)
  have g2 := prod_bound (kp_low b2) (kp_low x2)
  have g3 := prod_bound (kp_low a1) (kp_low y1)
  have g4 := prod_bound (kp_low a2) (kp_low y2)
  have i3 := kp_low a1
  have i4 := kp_low a2
  rw [← Int.neg_neg (kp a1 * kp y1), ← Int.neg_mul] at g3
  rw [← Int.neg_neg (kp a2 * kp y2), ← Int.neg_mul] at g4
  have HG := hide (And.intro g0 (And.intro g1 (And.intro g2 (And.intro g3 (And.intro g4 (And.intro i3 i4))))))
  have HO := hide (over_any (T5) n (by clear HG; subst hT5 hT4 hT3 hT2 hT1; generalize kp b0 * kp x = p0 at *; generalize kp b1 * kp x1 = p1 at *; generalize kp b2 * kp x2 = p2 at *; generalize -kp a1 * kp y1 = p3 at *; generalize -kp a2 * kp y2 = p4 at *; omega) hn'.1 hn'.2)
  have HT := hide (And.intro hT1 (And.intro hT2 (And.intro hT3 (And.intro hT4 hT5))))
  clear hT1 hT2 hT3 hT4 hT5
  clear hn g0 g1 g2 g3 g4 i3 i4
  have Hn := hide hn'
  clear hn'
  go_enter Try.func11, Try.ntmps11
  go_wp2_with fail
  refine (unhide Hf _).mono ?_
  rintro e w' ⟨rfl, rfl⟩
  go_wp2_with fail
  rename_i K hK
  have HK := hide hK
  clear hK
  obtain ⟨W, hW⟩ : ∃ W, W = (((w.alloc (Obj.cells #[.int .i64 n, .int .i64 b0, .int .i64 b1, .int .i64 b2, .int .i64 a1, .int .i64 a2] 23)).alloc (Obj.cells #[.int .i64 x1, .int .i64 x2, .int .i64 y1, .int .i64 y2] 25)).alloc (Obj.cells #[.int .i64 0, .int .i64 0, .int .i64 0, .int .i64 0] 25)) := ⟨_, rfl⟩
  rw [← hW]
  have hQ : QW w #[.int .i64 n, .int .i64 b0, .int .i64 b1, .int .i64 b2, .int .i64 a1, .int .i64 a2] #[.int .i64 x1, .int .i64 x2, .int .i64 y1, .int .i64 y2] #[.int .i64 0, .int .i64 0, .int .i64 0, .int .i64 0] W := by
    rw [hW]
    refine ⟨Joins.below_alloc3 _ _ _ _, ?_, ?_, ?_⟩
    · exact (Blk.alloc.below (Joins.below_alloc2 _ _ _) (by simp))
    · have := (Blk.alloc (w := w.alloc (Obj.cells #[.int .i64 n, .int .i64 b0, .int .i64 b1, .int .i64 b2, .int .i64 a1, .int .i64 a2] 23)) (cs := #[.int .i64 x1, .int .i64 x2, .int .i64 y1, .int .i64 y2]) (t := 25)).below (Joins.below_alloc1 _ (Obj.cells #[.int .i64 0, .int .i64 0, .int .i64 0, .int .i64 0] 25)) (by simp)
      simpa using this
    · have := Blk.alloc (w := (w.alloc (Obj.cells #[.int .i64 n, .int .i64 b0, .int .i64 b1, .int .i64 b2, .int .i64 a1, .int .i64 a2] 23)).alloc (Obj.cells #[.int .i64 x1, .int .i64 x2, .int .i64 y1, .int .i64 y2] 25)) (cs := #[.int .i64 0, .int .i64 0, .int .i64 0, .int .i64 0]) (t := 25)
      simpa using this
  clear hW
  refine region_slots (q3V n b0 b1 b2 a1 a2 x1 x2 y1 y2 x) (q3C w n b0 b1 b2 a1 a2 x1 x2 y1 y2 x) (by kernel_rfl) (by kernel_rfl) (by kernel_rfl) 72 (by kernel_rfl) rfl ?_ ?_ ?_
  · exact QW.later hQ (Below.refl _ W).drew
  · intro listed a w1 i o hI ho hsz hl hd
    have hi : i < 9 := by simpa using (Array.getElem?_eq_some_iff.1 ho).1
    have hsz' : listed.size = 9 := by simpa using hsz
    have e3 : a.eval (.tmp 3) = .pointer (some ⟨w.heap.size, 0, none⟩) := (hI.base 3 (by kernel_rfl)).trans rfl
    have e4 : a.eval (.tmp 4) = .pointer (some ⟨w.heap.size + 1, 0, none⟩) := (hI.base 4 (by kernel_rfl)).trans rfl
    have hc : q3C w n b0 b1 b2 a1 a2 x1 x2 y1 y2 x listed w1 := hI.world
    have c6 : ∀ j, (j = 0 ∨ j = 1) → listed.getD j true = false → listed.getD 6 false = false := by
      intro j hj hlj
      cases h6 : listed.getD 6 false with
      | false => rfl
      | true =>
        exfalso
        have := hI.closed 6 _ rfl h6 ⟨j, .phase⟩ (by rcases hj with rfl | rfl <;> simp) rfl
        rw [unl hlj hsz' (by omega)] at this
        cases this
    have c7 : ∀ j, (j = 2 ∨ j = 3) → listed.getD j true = false → listed.getD 7 false = false := by
      intro j hj hlj
      cases h7 : listed.getD 7 false with
      | false => rfl
      | true =>
        exfalso
        have := hI.closed 7 _ rfl h7 ⟨j, .phase⟩ (by rcases hj with rfl | rfl <;> simp) rfl
        rw [unl hlj hsz' (by omega)] at this
        cases this
    have c8 : listed.getD 4 true = false → listed.getD 8 false = false := by
      intro hlj
      cases h7 : listed.getD 8 false with
      | false => rfl
      | true =>
        exfalso
        have := hI.closed 8 _ rfl h7 ⟨4, .phase⟩ (by simp) rfl
        rw [unl hlj hsz' (by omega)] at this
        cases this
    rcases (by omega : i = 0 ∨ i = 1 ∨ i = 2 ∨ i = 3 ∨ i = 4 ∨ i = 5 ∨ i = 6 ∨ i = 7 ∨ i = 8) with rfl | rfl | rfl | rfl | rfl | rfl | rfl | rfl | rfl
    all_goals obtain rfl := Option.some.inj ho
    · have hs := hc.sec
      rw [c6 0 (.inl rfl) hl, if_neg (by simp)] at hs
      exact okR_load rfl e3 (loadFx _ _ _ _ _ _ _ _ hs) ⟨slotR rfl rfl, hc.same 0 (by omega) (by omega) (Below.refl _ _)⟩
    · have k1 := hI.slot 0 _ 17 rfl rfl (hd ⟨0, .data⟩ (by simp) rfl)
      refine okR_call1 enter_keptSection rfl k1 ((unhide Hs w1).mono ?_)
      rintro e w' ⟨rfl, hb⟩
      exact ⟨_, rfl, slotR rfl rfl, hc.same 1 (by omega) (by omega) hb⟩
    · have hs := hc.st
      rw [c7 2 (.inl rfl) hl, if_neg (by simp)] at hs
      exact okR_load rfl e4 (loadSt _ _ _ _ _ _ hs) ⟨slotR rfl rfl, hc.same 2 (by omega) (by omega) (Below.refl _ _)⟩
    · have k1 := hI.slot 2 _ 19 rfl rfl (hd ⟨2, .data⟩ (by simp) rfl)
      refine okR_call1 enter_keptState rfl k1 ((unhide Ht w1).mono ?_)
      rintro e w' ⟨rfl, hb⟩
      exact ⟨_, rfl, slotR rfl rfl, hc.same 3 (by omega) (by omega) hb⟩
    · have e2 : a.eval (.tmp 2) = .int .i64 x := (hI.pre 8 _ 2 rfl rfl (c8 hl)).trans rfl
      exact okR_move rfl e2 ⟨slotR rfl rfl, hc.same 4 (by omega) (by omega) (Below.refl _ _)⟩
    · have k1 := hI.slot 4 _ 21 rfl rfl (hd ⟨4, .data⟩ (by simp) rfl)
      refine okR_call1 enter_kept rfl k1 ((unhide Hx w1).mono ?_)
      rintro e w' ⟨rfl, rfl⟩
      exact ⟨_, rfl, slotR rfl rfl, hc.same 5 (by omega) (by omega) (Below.refl _ _)⟩
    · have k1 := hI.slot 1 _ 18 rfl rfl (hd ⟨1, .data⟩ (by simp) rfl)
      have ht : w1.there w.heap.size 0 6 := by
        have := hc.sec.there
        split at this <;> exact this
      refine okR_store rfl e3 k1 (run_storeAt_mid w1 w.heap.size 0 23 #[.int .i64 n, .int .i64 (kp b0), .int .i64 (kp b1), .int .i64 (kp b2), .int .i64 (kp a1), .int .i64 (kp a2)] ht infoFx (by simp [Value.oneCell'])) ⟨slotN rfl, ?_⟩
      unfold q3C
      rw [lset hsz' (by omega), if_pos rfl, getD_set_ne false (by omega)]
      refine ⟨Below.setCells hc.low (Nat.le_refl _) _ _, hc.sec.all (by split <;> rfl), hc.st.other (by omega) _ _, hc.res.other (by omega) _ _⟩
    · have k1 := hI.slot 3 _ 20 rfl rfl (hd ⟨3, .data⟩ (by simp) rfl)
      have ht : w1.there (w.heap.size + 1) 0 4 := by
        have := hc.st.there
        split at this <;> exact this
      refine okR_store rfl e4 k1 (run_storeAt_mid w1 (w.heap.size + 1) 0 25 #[.int .i64 (kp x1), .int .i64 (kp x2), .int .i64 (kp y1), .int .i64 (kp y2)] ht infoSt (by simp [Value.oneCell'])) ⟨slotN rfl, ?_⟩
      unfold q3C
      rw [lset hsz' (by omega), getD_set_ne false (by omega), if_pos rfl]
      refine ⟨Below.setCells hc.low (by omega) _ _, hc.sec.other (by omega) _ _, hc.st.all (by split <;> rfl), hc.res.other (by omega) _ _⟩
    · have k1 := hI.slot 5 _ 22 rfl rfl (hd ⟨5, .data⟩ (by simp) rfl)
      exact okR_assign rfl k1 ⟨slotR rfl rfl, hc.same 8 (by omega) (by omega) (Below.refl _ _)⟩
  · intro listed a' w1 hI hall
    have hc : q3C w n b0 b1 b2 a1 a2 x1 x2 y1 y2 x listed w1 := hI.world
    unfold q3C at hc
    rw [hall 6 (by decide), hall 7 (by decide), if_pos rfl, if_pos rfl] at hc
    have E := act_lit a' 72 hI.size
    rw [hI.defers] at E
    replace E : a' = ⟨#[a'.eval (.tmp 0), a'.eval (.tmp 1), a'.eval (.tmp 2), a'.eval (.tmp 3), a'.eval (.tmp 4), a'.eval (.tmp 5), a'.eval (.tmp 6), a'.eval (.tmp 7), a'.eval (.tmp 8), a'.eval (.tmp 9), a'.eval (.tmp 10), a'.eval (.tmp 11), a'.eval (.tmp 12), a'.eval (.tmp 13), a'.eval (.tmp 14), a'.eval (.tmp 15), a'.eval (.tmp 16), a'.eval (.tmp 17), a'.eval (.tmp 18), a'.eval (.tmp 19), a'.eval (.tmp 20), a'.eval (.tmp 21), a'.eval (.tmp 22), a'.eval (.tmp 23), a'.eval (.tmp 24), a'.eval (.tmp 25), a'.eval (.tmp 26), a'.eval (.tmp 27), a'.eval (.tmp 28), a'.eval (.tmp 29), a'.eval (.tmp 30), a'.eval (.tmp 31), a'.eval (.tmp 32), a'.eval (.tmp 33), a'.eval (.tmp 34), a'.eval (.tmp 35), a'.eval (.tmp 36), a'.eval (.tmp 37), a'.eval (.tmp 38), a'.eval (.tmp 39), a'.eval (.tmp 40), a'.eval (.tmp 41), a'.eval (.tmp 42), a'.eval (.tmp 43), a'.eval (.tmp 44), a'.eval (.tmp 45), a'.eval (.tmp 46), a'.eval (.tmp 47), a'.eval (.tmp 48), a'.eval (.tmp 49), a'.eval (.tmp 50), a'.eval (.tmp 51), a'.eval (.tmp 52), a'.eval (.tmp 53), a'.eval (.tmp 54), a'.eval (.tmp 55), a'.eval (.tmp 56), a'.eval (.tmp 57), a'.eval (.tmp 58), a'.eval (.tmp 59), a'.eval (.tmp 60), a'.eval (.tmp 61), a'.eval (.tmp 62), a'.eval (.tmp 63), a'.eval (.tmp 64), a'.eval (.tmp 65), a'.eval (.tmp 66), a'.eval (.tmp 67), a'.eval (.tmp 68), a'.eval (.tmp 69), a'.eval (.tmp 70), a'.eval (.tmp 71)], _⟩ := E
    have s2 : a'.eval (.tmp 2) = .int .i64 (kp x) := hI.slot 8 _ 2 rfl rfl (hall 8 (by decide))
    have s17 : a'.eval (.tmp 17) = .agg #[.int .i64 n, .int .i64 b0, .int .i64 b1, .int .i64 b2, .int .i64 a1, .int .i64 a2] := hI.slot 0 _ 17 rfl rfl (hall 0 (by decide))
    have s18 : a'.eval (.tmp 18) = .agg #[.int .i64 n, .int .i64 (kp b0), .int .i64 (kp b1), .int .i64 (kp b2), .int .i64 (kp a1), .int .i64 (kp a2)] := hI.slot 1 _ 18 rfl rfl (hall 1 (by decide))
    have s19 : a'.eval (.tmp 19) = .agg #[.int .i64 x1, .int .i64 x2, .int .i64 y1, .int .i64 y2] := hI.slot 2 _ 19 rfl rfl (hall 2 (by decide))
    have s20 : a'.eval (.tmp 20) = .agg #[.int .i64 (kp x1), .int .i64 (kp x2), .int .i64 (kp y1), .int .i64 (kp y2)] := hI.slot 3 _ 20 rfl rfl (hall 3 (by decide))
    have s21 : a'.eval (.tmp 21) = .int .i64 (x) := hI.slot 4 _ 21 rfl rfl (hall 4 (by decide))
    have s22 : a'.eval (.tmp 22) = .int .i64 (kp x) := hI.slot 5 _ 22 rfl rfl (hall 5 (by decide))
    rw [hI.base 0 (by kernel_rfl), hI.base 1 (by kernel_rfl), hI.base 3 (by kernel_rfl), hI.base 4 (by kernel_rfl), hI.base 5 (by kernel_rfl), hI.base 6 (by kernel_rfl), hI.base 7 (by kernel_rfl), hI.base 8 (by kernel_rfl), hI.base 9 (by kernel_rfl), hI.base 10 (by kernel_rfl), hI.base 11 (by kernel_rfl), hI.base 12 (by kernel_rfl), hI.base 13 (by kernel_rfl), hI.base 14 (by kernel_rfl), hI.base 15 (by kernel_rfl), hI.base 16 (by kernel_rfl), hI.base 23 (by kernel_rfl), hI.base 24 (by kernel_rfl), hI.base 25 (by kernel_rfl), hI.base 26 (by kernel_rfl), hI.base 27 (by kernel_rfl), hI.base 28 (by kernel_rfl), hI.base 29 (by kernel_rfl), hI.base 30 (by kernel_rfl), hI.base 31 (by kernel_rfl), hI.base 32 (by kernel_rfl), hI.base 33 (by kernel_rfl), hI.base 34 (by kernel_rfl), hI.base 35 (by kernel_rfl), hI.base 36 (by kernel_rfl), hI.base 37 (by kernel_rfl), hI.base 38 (by kernel_rfl), hI.base 39 (by kernel_rfl), hI.base 40 (by kernel_rfl), hI.base 41 (by kernel_rfl), hI.base 42 (by kernel_rfl), hI.base 43 (by kernel_rfl), hI.base 44 (by kernel_rfl), hI.base 45 (by kernel_rfl), hI.base 46 (by kernel_rfl), hI.base 47 (by kernel_rfl), hI.base 48 (by kernel_rfl), hI.base 49 (by kernel_rfl), hI.base 50 (by kernel_rfl), hI.base 51 (by kernel_rfl), hI.base 52 (by kernel_rfl), hI.base 53 (by kernel_rfl), hI.base 54 (by kernel_rfl), hI.base 55 (by kernel_rfl), hI.base 56 (by kernel_rfl), hI.base 57 (by kernel_rfl), hI.base 58 (by kernel_rfl), hI.base 59 (by kernel_rfl), hI.base 60 (by kernel_rfl), hI.base 61 (by kernel_rfl), hI.base 62 (by kernel_rfl), hI.base 63 (by kernel_rfl), hI.base 64 (by kernel_rfl), hI.base 65 (by kernel_rfl), hI.base 66 (by kernel_rfl), hI.base 67 (by kernel_rfl), hI.base 68 (by kernel_rfl), hI.base 69 (by kernel_rfl), hI.base 70 (by kernel_rfl), hI.base 71 (by kernel_rfl), s2, s17, s18, s19, s20, s21, s22] at E
    clear s2 s17 s18 s19 s20 s21 s22 hI hall
    subst E
    refine unhide HK _ _ ?_
    clear HK
    go_wp2_with fail
    rename_i K hK
    have HK := hide hK
    clear hK
    obtain ⟨Z, hZ⟩ : ∃ Z, Z = w1.heap.size := ⟨_, rfl⟩
    obtain ⟨W5, hW5⟩ : ∃ W5, W5 = w1.alloc (Obj.cells #[.int .i64 0, .int .u64 0] 65) := ⟨_, rfl⟩
    rw [← hW5, ← hZ]
    have hQ5 : QW w #[.int .i64 n, .int .i64 (kp b0), .int .i64 (kp b1), .int .i64 (kp b2), .int .i64 (kp a1), .int .i64 (kp a2)] #[.int .i64 (kp x1), .int .i64 (kp x2), .int .i64 (kp y1), .int .i64 (kp y2)] #[.int .i64 0, .int .i64 0, .int .i64 0, .int .i64 0] W5 := by rw [hW5]; exact hc.later (Joins.below_alloc1 _ _)
    have hZ5 : Blk W5 Z #[.int .i64 0, .int .u64 0] 65 := by rw [hW5, hZ]; exact Blk.alloc
    have hZ3 : w.heap.size + 2 < Z := by rw [hZ]; exact hc.res.lt
    clear hW5 hZ hc hQ
    refine region_slots (q5V w b0 b1 b2 a1 a2 x1 x2 y1 y2 x T1 T2 T3 T4 T5) (q5C w Z n b0 b1 b2 a1 a2 x1 x2 y1 y2 T5) (by kernel_rfl) (by kernel_rfl) (by kernel_rfl) 72 (by kernel_rfl) rfl ?_ ?_ ?_
    · exact ⟨hQ5.later (Below.refl _ W5).drew, hZ5.below (Below.refl _ W5).drew hZ5.lt⟩
    · intro listed a w1 i o hI ho hsz hl hd
      have hi : i < 33 := by simpa using (Array.getElem?_eq_some_iff.1 ho).1
      have hsz' : listed.size = 33 := by simpa using hsz
      have e2 : a.eval (.tmp 2) = .int .i64 (kp x) := (hI.base 2 (by kernel_rfl)).trans rfl
      have e3 : a.eval (.tmp 3) = .pointer (some ⟨w.heap.size, 0, none⟩) := (hI.base 3 (by kernel_rfl)).trans rfl
      have e4 : a.eval (.tmp 4) = .pointer (some ⟨w.heap.size + 1, 0, none⟩) := (hI.base 4 (by kernel_rfl)).trans rfl
      have e9 : a.eval (.tmp 9) = .pointer (some ⟨Z, 0, none⟩) := (hI.base 9 (by kernel_rfl)).trans rfl
      have hc : q5C w Z n b0 b1 b2 a1 a2 x1 x2 y1 y2 T5 listed w1 := hI.world
      obtain ⟨g0, g1, g2, g3, g4, i3, i4⟩ := unhide HG
      obtain ⟨hT1, hT2, hT3, hT4, hT5⟩ := unhide HT
      rcases (by omega : i = 0 ∨ i = 1 ∨ i = 2 ∨ i = 3 ∨ i = 4 ∨ i = 5 ∨ i = 6 ∨ i = 7 ∨ i = 8 ∨ i = 9 ∨ i = 10 ∨ i = 11 ∨ i = 12 ∨ i = 13 ∨ i = 14 ∨ i = 15 ∨ i = 16 ∨ i = 17 ∨ i = 18 ∨ i = 19 ∨ i = 20 ∨ i = 21 ∨ i = 22 ∨ i = 23 ∨ i = 24 ∨ i = 25 ∨ i = 26 ∨ i = 27 ∨ i = 28 ∨ i = 29 ∨ i = 30 ∨ i = 31 ∨ i = 32) with rfl | rfl | rfl | rfl | rfl | rfl | rfl | rfl | rfl | rfl | rfl | rfl | rfl | rfl | rfl | rfl | rfl | rfl | rfl | rfl | rfl | rfl | rfl | rfl | rfl | rfl | rfl | rfl | rfl | rfl | rfl | rfl | rfl
      all_goals obtain rfl := Option.some.inj ho
      · have h32 : listed.getD 32 false = false := by
          cases h6 : listed.getD 32 false with
          | false => rfl
          | true =>
            exfalso
            have := hI.closed 32 _ rfl h6 ⟨0, .phase⟩ (by simp) rfl
            rw [unl hl hsz' (by omega)] at this
            cases this
        have hs := hc.2
        rw [h32, if_neg (by simp)] at hs
        exact okR_load rfl e9 (loadTo _ _ _ _ hs) ⟨slotR rfl rfl, hc.same 0 (by omega) (Below.refl _ _)⟩
      · exact okR_field rfl e3 (fieldFx _ 1 (by omega) _) ⟨slotR rfl rfl, hc.same 1 (by omega) (Below.refl _ _)⟩
      · have k1 := hI.slot 1 _ 24 rfl rfl (hd ⟨1, .data⟩ (by simp) rfl)
        exact okR_load rfl k1 (loadI _ _ _ (hc.1.sec.cell 1 rfl)) ⟨slotR rfl rfl, hc.same 2 (by omega) (Below.refl _ _)⟩
      · exact okR_move rfl e2 ⟨slotR rfl rfl, hc.same 3 (by omega) (Below.refl _ _)⟩
      · have k1 := hI.slot 2 _ 25 rfl rfl (hd ⟨2, .data⟩ (by simp) rfl)
        have k2 := hI.slot 3 _ 26 rfl rfl (hd ⟨3, .data⟩ (by simp) rfl)
        exact okR_mul rfl k1 k2 (by unfold i64; omega) ⟨slotR rfl rfl, hc.same 4 (by omega) (Below.refl _ _)⟩
      · have k1 := hI.slot 0 _ 23 rfl rfl (hd ⟨0, .data⟩ (by simp) rfl)
        have k2 := hI.slot 4 _ 27 rfl rfl (hd ⟨4, .data⟩ (by simp) rfl)
        refine okR_call2 enter_plus rfl k1 k2 ((plus_any _ _ (by omega) (by unfold i64; omega) w1).mono ?_)
        rintro e w' ⟨rfl, hb⟩
        exact ⟨_, rfl, slotR rfl (by rw [← hT1]; rfl), hc.same 5 (by omega) hb⟩
      · exact okR_field rfl e3 (fieldFx _ 2 (by omega) _) ⟨slotR rfl rfl, hc.same 6 (by omega) (Below.refl _ _)⟩
      · have k1 := hI.slot 6 _ 29 rfl rfl (hd ⟨6, .data⟩ (by simp) rfl)
        exact okR_load rfl k1 (loadI _ _ _ (hc.1.sec.cell 2 rfl)) ⟨slotR rfl rfl, hc.same 7 (by omega) (Below.refl _ _)⟩
      · exact okR_field rfl e4 (fieldSt _ 0 (by omega) _) ⟨slotR rfl rfl, hc.same 8 (by omega) (Below.refl _ _)⟩
      · have k1 := hI.slot 8 _ 31 rfl rfl (hd ⟨8, .data⟩ (by simp) rfl)
        exact okR_load rfl k1 (loadI _ _ _ (hc.1.st.cell 0 rfl)) ⟨slotR rfl rfl, hc.same 9 (by omega) (Below.refl _ _)⟩
      · have k1 := hI.slot 7 _ 30 rfl rfl (hd ⟨7, .data⟩ (by simp) rfl)
        have k2 := hI.slot 9 _ 32 rfl rfl (hd ⟨9, .data⟩ (by simp) rfl)
        exact okR_mul rfl k1 k2 (by unfold i64; omega) ⟨slotR rfl rfl, hc.same 10 (by omega) (Below.refl _ _)⟩
      · have k1 := hI.slot 5 _ 28 rfl rfl (hd ⟨5, .data⟩ (by simp) rfl)
        have k2 := hI.slot 10 _ 33 rfl rfl (hd ⟨10, .data⟩ (by simp) rfl)
        refine okR_call2 enter_plus rfl k1 k2 ((plus_any _ _ (by omega) (by unfold i64; omega) w1).mono ?_)
        rintro e w' ⟨rfl, hb⟩
        exact ⟨_, rfl, slotR rfl (by rw [← hT2]; rfl), hc.same 11 (by omega) hb⟩
      · exact okR_field rfl e3 (fieldFx _ 3 (by omega) _) ⟨slotR rfl rfl, hc.same 12 (by omega) (Below.refl _ _)⟩
      · have k1 := hI.slot 12 _ 35 rfl rfl (hd ⟨12, .data⟩ (by simp) rfl)
        exact okR_load rfl k1 (loadI _ _ _ (hc.1.sec.cell 3 rfl)) ⟨slotR rfl rfl, hc.same 13 (by omega) (Below.refl _ _)⟩
      · exact okR_field rfl e4 (fieldSt _ 1 (by omega) _) ⟨slotR rfl rfl, hc.same 14 (by omega) (Below.refl _ _)⟩
      · have k1 := hI.slot 14 _ 37 rfl rfl (hd ⟨14, .data⟩ (by simp) rfl)
        exact okR_load rfl k1 (loadI _ _ _ (hc.1.st.cell 1 rfl)) ⟨slotR rfl rfl, hc.same 15 (by omega) (Below.refl _ _)⟩
      · have k1 := hI.slot 13 _ 36 rfl rfl (hd ⟨13, .data⟩ (by simp) rfl)
        have k2 := hI.slot 15 _ 38 rfl rfl (hd ⟨15, .data⟩ (by simp) rfl)
        exact okR_mul rfl k1 k2 (by unfold i64; omega) ⟨slotR rfl rfl, hc.same 16 (by omega) (Below.refl _ _)⟩
      · have k1 := hI.slot 11 _ 34 rfl rfl (hd ⟨11, .data⟩ (by simp) rfl)
        have k2 := hI.slot 16 _ 39 rfl rfl (hd ⟨16, .data⟩ (by simp) rfl)
        refine okR_call2 enter_plus rfl k1 k2 ((plus_any _ _ (by omega) (by unfold i64; omega) w1).mono ?_)
        rintro e w' ⟨rfl, hb⟩
        exact ⟨_, rfl, slotR rfl (by rw [← hT3]; rfl), hc.same 17 (by omega) hb⟩
      · exact okR_field rfl e3 (fieldFx _ 4 (by omega) _) ⟨slotR rfl rfl, hc.same 18 (by omega) (Below.refl _ _)⟩
      · have k1 := hI.slot 18 _ 41 rfl rfl (hd ⟨18, .data⟩ (by simp) rfl)
        exact okR_load rfl k1 (loadI _ _ _ (hc.1.sec.cell 4 rfl)) ⟨slotR rfl rfl, hc.same 19 (by omega) (Below.refl _ _)⟩
      · have k1 := hI.slot 19 _ 42 rfl rfl (hd ⟨19, .data⟩ (by simp) rfl)
        exact okR_neg rfl k1 (by unfold i32 at i3; unfold i64; omega) ⟨slotR rfl rfl, hc.same 20 (by omega) (Below.refl _ _)⟩
      · exact okR_field rfl e4 (fieldSt _ 2 (by omega) _) ⟨slotR rfl rfl, hc.same 21 (by omega) (Below.refl _ _)⟩
      · have k1 := hI.slot 21 _ 44 rfl rfl (hd ⟨21, .data⟩ (by simp) rfl)
        exact okR_load rfl k1 (loadI _ _ _ (hc.1.st.cell 2 rfl)) ⟨slotR rfl rfl, hc.same 22 (by omega) (Below.refl _ _)⟩
      · have k1 := hI.slot 20 _ 43 rfl rfl (hd ⟨20, .data⟩ (by simp) rfl)
        have k2 := hI.slot 22 _ 45 rfl rfl (hd ⟨22, .data⟩ (by simp) rfl)
        exact okR_mul rfl k1 k2 (by unfold i64; omega) ⟨slotR rfl rfl, hc.same 23 (by omega) (Below.refl _ _)⟩
      · have k1 := hI.slot 17 _ 40 rfl rfl (hd ⟨17, .data⟩ (by simp) rfl)
        have k2 := hI.slot 23 _ 46 rfl rfl (hd ⟨23, .data⟩ (by simp) rfl)
        refine okR_call2 enter_plus rfl k1 k2 ((plus_any _ _ (by omega) (by unfold i64; omega) w1).mono ?_)
        rintro e w' ⟨rfl, hb⟩
        exact ⟨_, rfl, slotR rfl (by rw [← hT4]; rfl), hc.same 24 (by omega) hb⟩
      · exact okR_field rfl e3 (fieldFx _ 5 (by omega) _) ⟨slotR rfl rfl, hc.same 25 (by omega) (Below.refl _ _)⟩
      · have k1 := hI.slot 25 _ 48 rfl rfl (hd ⟨25, .data⟩ (by simp) rfl)
        exact okR_load rfl k1 (loadI _ _ _ (hc.1.sec.cell 5 rfl)) ⟨slotR rfl rfl, hc.same 26 (by omega) (Below.refl _ _)⟩
      · have k1 := hI.slot 26 _ 49 rfl rfl (hd ⟨26, .data⟩ (by simp) rfl)
        exact okR_neg rfl k1 (by unfold i32 at i4; unfold i64; omega) ⟨slotR rfl rfl, hc.same 27 (by omega) (Below.refl _ _)⟩
      · exact okR_field rfl e4 (fieldSt _ 3 (by omega) _) ⟨slotR rfl rfl, hc.same 28 (by omega) (Below.refl _ _)⟩
      · have k1 := hI.slot 28 _ 51 rfl rfl (hd ⟨28, .data⟩ (by simp) rfl)
        exact okR_load rfl k1 (loadI _ _ _ (hc.1.st.cell 3 rfl)) ⟨slotR rfl rfl, hc.same 29 (by omega) (Below.refl _ _)⟩
      · have k1 := hI.slot 27 _ 50 rfl rfl (hd ⟨27, .data⟩ (by simp) rfl)
        have k2 := hI.slot 29 _ 52 rfl rfl (hd ⟨29, .data⟩ (by simp) rfl)
        exact okR_mul rfl k1 k2 (by unfold i64; omega) ⟨slotR rfl rfl, hc.same 30 (by omega) (Below.refl _ _)⟩
      · have k1 := hI.slot 24 _ 47 rfl rfl (hd ⟨24, .data⟩ (by simp) rfl)
        have k2 := hI.slot 30 _ 53 rfl rfl (hd ⟨30, .data⟩ (by simp) rfl)
        refine okR_call2 enter_plus rfl k1 k2 ((plus_any _ _ (by omega) (by unfold i64; omega) w1).mono ?_)
        rintro e w' ⟨rfl, hb⟩
        exact ⟨_, rfl, slotR rfl (by rw [← hT5]; rfl), hc.same 31 (by omega) hb⟩
      · have k1 := hI.slot 31 _ 54 rfl rfl (hd ⟨31, .data⟩ (by simp) rfl)
        have ht : w1.there Z 0 2 := by
          have := hc.2.there
          split at this <;> exact this
        refine okR_store rfl e9 k1 (run_storeAt_mid w1 Z 0 65 #[.int .i64 ((T5) / 18446744073709551616), .int .u64 ((T5) % 18446744073709551616)] ht infoTo (by simp [Value.oneCell'])) ⟨slotN rfl, ?_⟩
        unfold q5C
        rw [lset hsz' (by omega), if_pos rfl]
        exact ⟨⟨Below.setCells hc.1.low (by omega) _ _, hc.1.sec.other (by omega) _ _, hc.1.st.other (by omega) _ _, hc.1.res.other (by omega) _ _⟩, hc.2.all (by split <;> rfl)⟩
    · intro listed a' w5 hI hall
      have hc : q5C w Z n b0 b1 b2 a1 a2 x1 x2 y1 y2 T5 listed w5 := hI.world
      unfold q5C at hc
      rw [hall 32 (by decide), if_pos rfl] at hc
      have E := act_lit a' 72 hI.size
      rw [hI.defers] at E
      replace E : a' = ⟨#[a'.eval (.tmp 0), a'.eval (.tmp 1), a'.eval (.tmp 2), a'.eval (.tmp 3), a'.eval (.tmp 4), a'.eval (.tmp 5), a'.eval (.tmp 6), a'.eval (.tmp 7), a'.eval (.tmp 8), a'.eval (.tmp 9), a'.eval (.tmp 10), a'.eval (.tmp 11), a'.eval (.tmp 12), a'.eval (.tmp 13), a'.eval (.tmp 14), a'.eval (.tmp 15), a'.eval (.tmp 16), a'.eval (.tmp 17), a'.eval (.tmp 18), a'.eval (.tmp 19), a'.eval (.tmp 20), a'.eval (.tmp 21), a'.eval (.tmp 22), a'.eval (.tmp 23), a'.eval (.tmp 24), a'.eval (.tmp 25), a'.eval (.tmp 26), a'.eval (.tmp 27), a'.eval (.tmp 28), a'.eval (.tmp 29), a'.eval (.tmp 30), a'.eval (.tmp 31), a'.eval (.tmp 32), a'.eval (.tmp 33), a'.eval (.tmp 34), a'.eval (.tmp 35), a'.eval (.tmp 36), a'.eval (.tmp 37), a'.eval (.tmp 38), a'.eval (.tmp 39), a'.eval (.tmp 40), a'.eval (.tmp 41), a'.eval (.tmp 42), a'.eval (.tmp 43), a'.eval (.tmp 44), a'.eval (.tmp 45), a'.eval (.tmp 46), a'.eval (.tmp 47), a'.eval (.tmp 48), a'.eval (.tmp 49), a'.eval (.tmp 50), a'.eval (.tmp 51), a'.eval (.tmp 52), a'.eval (.tmp 53), a'.eval (.tmp 54), a'.eval (.tmp 55), a'.eval (.tmp 56), a'.eval (.tmp 57), a'.eval (.tmp 58), a'.eval (.tmp 59), a'.eval (.tmp 60), a'.eval (.tmp 61), a'.eval (.tmp 62), a'.eval (.tmp 63), a'.eval (.tmp 64), a'.eval (.tmp 65), a'.eval (.tmp 66), a'.eval (.tmp 67), a'.eval (.tmp 68), a'.eval (.tmp 69), a'.eval (.tmp 70), a'.eval (.tmp 71)], _⟩ := E
      have s23 : a'.eval (.tmp 23) = tv 0 := hI.slot 0 _ 23 rfl rfl (hall 0 (by decide))
      have s24 : a'.eval (.tmp 24) = .pointer (some ⟨w.heap.size, 1, none⟩) := hI.slot 1 _ 24 rfl rfl (hall 1 (by decide))
      have s25 : a'.eval (.tmp 25) = .int .i64 (kp b0) := hI.slot 2 _ 25 rfl rfl (hall 2 (by decide))
      have s26 : a'.eval (.tmp 26) = .int .i64 (kp x) := hI.slot 3 _ 26 rfl rfl (hall 3 (by decide))
      have s27 : a'.eval (.tmp 27) = .int .i64 (kp b0 * kp x) := hI.slot 4 _ 27 rfl rfl (hall 4 (by decide))
      have s28 : a'.eval (.tmp 28) = tv (T1) := hI.slot 5 _ 28 rfl rfl (hall 5 (by decide))
      have s29 : a'.eval (.tmp 29) = .pointer (some ⟨w.heap.size, 2, none⟩) := hI.slot 6 _ 29 rfl rfl (hall 6 (by decide))
      have s30 : a'.eval (.tmp 30) = .int .i64 (kp b1) := hI.slot 7 _ 30 rfl rfl (hall 7 (by decide))
      have s31 : a'.eval (.tmp 31) = .pointer (some ⟨w.heap.size + 1, 0, none⟩) := hI.slot 8 _ 31 rfl rfl (hall 8 (by decide))
      have s32 : a'.eval (.tmp 32) = .int .i64 (kp x1) := hI.slot 9 _ 32 rfl rfl (hall 9 (by decide))
      have s33 : a'.eval (.tmp 33) = .int .i64 (kp b1 * kp x1) := hI.slot 10 _ 33 rfl rfl (hall 10 (by decide))
      have s34 : a'.eval (.tmp 34) = tv (T2) := hI.slot 11 _ 34 rfl rfl (hall 11 (by decide))
      have s35 : a'.eval (.tmp 35) = .pointer (some ⟨w.heap.size, 3, none⟩) := hI.slot 12 _ 35 rfl rfl (hall 12 (by decide))
      have s36 : a'.eval (.tmp 36) = .int .i64 (kp b2) := hI.slot 13 _ 36 rfl rfl (hall 13 (by decide))
      have s37 : a'.eval (.tmp 37) = .pointer (some ⟨w.heap.size + 1, 1, none⟩) := hI.slot 14 _ 37 rfl rfl (hall 14 (by decide))
      have s38 : a'.eval (.tmp 38) = .int .i64 (kp x2) := hI.slot 15 _ 38 rfl rfl (hall 15 (by decide))
      have s39 : a'.eval (.tmp 39) = .int .i64 (kp b2 * kp x2) := hI.slot 16 _ 39 rfl rfl (hall 16 (by decide))
      have s40 : a'.eval (.tmp 40) = tv (T3) := hI.slot 17 _ 40 rfl rfl (hall 17 (by decide))
      have s41 : a'.eval (.tmp 41) = .pointer (some ⟨w.heap.size, 4, none⟩) := hI.slot 18 _ 41 rfl rfl (hall 18 (by decide))
      have s42 : a'.eval (.tmp 42) = .int .i64 (kp a1) := hI.slot 19 _ 42 rfl rfl (hall 19 (by decide))
      have s43 : a'.eval (.tmp 43) = .int .i64 (-kp a1) := hI.slot 20 _ 43 rfl rfl (hall 20 (by decide))
      have s44 : a'.eval (.tmp 44) = .pointer (some ⟨w.heap.size + 1, 2, none⟩) := hI.slot 21 _ 44 rfl rfl (hall 21 (by decide))
      have s45 : a'.eval (.tmp 45) = .int .i64 (kp y1) := hI.slot 22 _ 45 rfl rfl (hall 22 (by decide))
      have s46 : a'.eval (.tmp 46) = .int .i64 (-kp a1 * kp y1) := hI.slot 23 _ 46 rfl rfl (hall 23 (by decide))
      have s47 : a'.eval (.tmp 47) = tv (T4) := hI.slot 24 _ 47 rfl rfl (hall 24 (by decide))
      have s48 : a'.eval (.tmp 48) = .pointer (some ⟨w.heap.size, 5, none⟩) := hI.slot 25 _ 48 rfl rfl (hall 25 (by decide))
      have s49 : a'.eval (.tmp 49) = .int .i64 (kp a2) := hI.slot 26 _ 49 rfl rfl (hall 26 (by decide))
      have s50 : a'.eval (.tmp 50) = .int .i64 (-kp a2) := hI.slot 27 _ 50 rfl rfl (hall 27 (by decide))
      have s51 : a'.eval (.tmp 51) = .pointer (some ⟨w.heap.size + 1, 3, none⟩) := hI.slot 28 _ 51 rfl rfl (hall 28 (by decide))
      have s52 : a'.eval (.tmp 52) = .int .i64 (kp y2) := hI.slot 29 _ 52 rfl rfl (hall 29 (by decide))
      have s53 : a'.eval (.tmp 53) = .int .i64 (-kp a2 * kp y2) := hI.slot 30 _ 53 rfl rfl (hall 30 (by decide))
      have s54 : a'.eval (.tmp 54) = tv (T5) := hI.slot 31 _ 54 rfl rfl (hall 31 (by decide))
      rw [hI.base 0 (by kernel_rfl), hI.base 1 (by kernel_rfl), hI.base 2 (by kernel_rfl), hI.base 3 (by kernel_rfl), hI.base 4 (by kernel_rfl), hI.base 5 (by kernel_rfl), hI.base 6 (by kernel_rfl), hI.base 7 (by kernel_rfl), hI.base 8 (by kernel_rfl), hI.base 9 (by kernel_rfl), hI.base 10 (by kernel_rfl), hI.base 11 (by kernel_rfl), hI.base 12 (by kernel_rfl), hI.base 13 (by kernel_rfl), hI.base 14 (by kernel_rfl), hI.base 15 (by kernel_rfl), hI.base 16 (by kernel_rfl), hI.base 17 (by kernel_rfl), hI.base 18 (by kernel_rfl), hI.base 19 (by kernel_rfl), hI.base 20 (by kernel_rfl), hI.base 21 (by kernel_rfl), hI.base 22 (by kernel_rfl), hI.base 55 (by kernel_rfl), hI.base 56 (by kernel_rfl), hI.base 57 (by kernel_rfl), hI.base 58 (by kernel_rfl), hI.base 59 (by kernel_rfl), hI.base 60 (by kernel_rfl), hI.base 61 (by kernel_rfl), hI.base 62 (by kernel_rfl), hI.base 63 (by kernel_rfl), hI.base 64 (by kernel_rfl), hI.base 65 (by kernel_rfl), hI.base 66 (by kernel_rfl), hI.base 67 (by kernel_rfl), hI.base 68 (by kernel_rfl), hI.base 69 (by kernel_rfl), hI.base 70 (by kernel_rfl), hI.base 71 (by kernel_rfl), s23, s24, s25, s26, s27, s28, s29, s30, s31, s32, s33, s34, s35, s36, s37, s38, s39, s40, s41, s42, s43, s44, s45, s46, s47, s48, s49, s50, s51, s52, s53, s54] at E
      clear s23 s24 s25 s26 s27 s28 s29 s30 s31 s32 s33 s34 s35 s36 s37 s38 s39 s40 s41 s42 s43 s44 s45 s46 s47 s48 s49 s50 s51 s52 s53 s54 hI hall
      subst E
      refine unhide HK _ _ ?_
      clear HK
      have c0 := hc.2.cell 0 rfl
      have c1 := hc.2.cell 1 rfl
      have c2 := hc.1.sec.cell 0 rfl
      go_wp2_with fail
      refine (unhide HO _).mono ?_
      rintro e w6 ⟨⟨z, rfl, hz1, hz2⟩, hb⟩
      have hc6 := hc.1.later hb
      clear c0 c1 c2
      have Hw := hide (within_any z)
      have Hz := hide (And.intro hz1 hz2)
      clear hz1 hz2 hb hc
      have d0 : w6.cell? ⟨w.heap.size + 1, 0, none⟩ = some (.int .i64 (kp x1)) := hc6.st.cell 0 rfl
      have d1 : w6.cell? ⟨w.heap.size + 1, 2, none⟩ = some (.int .i64 (kp y1)) := hc6.st.cell 2 rfl
      have d2 : w6.cell? ⟨w.heap.size + 1 + 1, 0, none⟩ = some (.int .i64 0) := hc6.res.cell 0 rfl
      have d3 : w6.cell? ⟨w.heap.size + 1 + 1, 1, none⟩ = some (.int .i64 0) := hc6.res.cell 1 rfl
      have d4 : w6.cell? ⟨w.heap.size + 1 + 1, 2, none⟩ = some (.int .i64 0) := hc6.res.cell 2 rfl
      have d5 : w6.cell? ⟨w.heap.size + 1 + 1, 3, none⟩ = some (.int .i64 0) := hc6.res.cell 3 rfl
      have d6 : w6.frozen? ⟨w.heap.size + 1 + 1, 0, none⟩ = false := hc6.res.unfrozen 0
      have d7 : w6.frozen? ⟨w.heap.size + 1 + 1, 1, none⟩ = false := hc6.res.unfrozen 1
      have d8 : w6.frozen? ⟨w.heap.size + 1 + 1, 2, none⟩ = false := hc6.res.unfrozen 2
      have d9 : w6.frozen? ⟨w.heap.size + 1 + 1, 3, none⟩ = false := hc6.res.unfrozen 3
      have Hc6 := hide hc6
      clear hc6 Hf Hs Ht Hx HG HT HO Hn hQ5 hZ5 hZ3
      go_wp2_with fail
      refine (unhide Hw _).mono ?_
      rintro e w' ⟨rfl, rfl⟩
      go_wp2_with fail
      go_region_held3 (fun v => v.cell? ⟨w.heap.size + 1, 0, none⟩ = some (.int .i64 (kp x1)) ∧ v.cell? ⟨w.heap.size + 1, 2, none⟩ = some (.int .i64 (kp y1))) (go_keep) (fail)
      go_wp2
      have hB := ((((unhide Hc6).res.put 0 (.int .i64 (kp x))).put 1 (.int .i64 (kp x1))).put 2 (.int .i64 (kp z))).put 3 (.int .i64 (kp y1))
      refine bodyPost_ret (run_results_q rfl rfl rfl hB) rfl ?_
      have hl := (unhide Hc6).low
      exact ⟨⟨z, (unhide Hz).1, (unhide Hz).2, rfl⟩, (Below.setCells (b := w.heap.size + 2) hl (by omega) 0 [.int .i64 (kp x), .int .i64 (kp x1), .int .i64 (kp z), .int .i64 (kp y1)]).drew⟩

set_option maxRecDepth 100000 in
set_option maxHeartbeats 1000000 in
theorem qstep_out (n b0 b1 b2 a1 a2 x1 x2 y1 y2 x : Int) (hn : fitsB n = false) (w : World) :
    Calls Try.prog 11 #[.agg #[.int .i64 n, .int .i64 b0, .int .i64 b1, .int .i64 b2, .int .i64 a1, .int .i64 a2], .agg #[.int .i64 x1, .int .i64 x2, .int .i64 y1, .int .i64 y2], .int .i64 x] w
      fun e w' => e = .returned (.tuple #[.int .i64 0, .agg #[.int .i64 0, .int .i64 0, .int .i64 0, .int .i64 0], .bool false]) ∧ Below w.heap.size w w' := by
  have Hf := hide (fits_any n)
  rw [hn] at Hf
  clear hn
  go_enter Try.func11, Try.ntmps11
  go_wp2_with fail
  refine (unhide Hf _).mono ?_
  rintro e w' ⟨rfl, rfl⟩
  go_wp2
  have hB := Blk.alloc (w := (w.alloc (Obj.cells #[.int .i64 n, .int .i64 b0, .int .i64 b1, .int .i64 b2, .int .i64 a1, .int .i64 a2] 23)).alloc (Obj.cells #[.int .i64 x1, .int .i64 x2, .int .i64 y1, .int .i64 y2] 25)) (cs := #[.int .i64 0, .int .i64 0, .int .i64 0, .int .i64 0]) (t := 25)
  refine bodyPost_ret (run_results_q rfl rfl rfl (by simpa using hB)) rfl ?_
  exact ⟨rfl, Joins.below_alloc3 _ _ _ _⟩

/-- A section and a state as values. -/
def vF (f : Fx) : Value := .agg #[.int .i64 f.bits, .int .i64 f.b0, .int .i64 f.b1, .int .i64 f.b2, .int .i64 f.a1, .int .i64 f.a2]
def vS (s : St) : Value := .agg #[.int .i64 s.x1, .int .i64 s.x2, .int .i64 s.y1, .int .i64 s.y2]

theorem fits_of {f : Fx} (h : fitsB f.bits = true) : f.fits := by simpa [fitsB, Fx.fits] using h
theorem not_fits_of {f : Fx} (h : fitsB f.bits = false) : ¬ f.fits := by
  intro h'
  have : fitsB f.bits = true := by simpa [fitsB, Fx.fits] using h'
  rw [this] at h; cases h

/-- What Step answers. -/
theorem qstep_any (f : Fx) (s : St) (x : Int) (w : World) :
    Calls Try.prog 11 #[vF f, vS s, .int .i64 x] w
      fun e w' => e = .returned (.tuple #[.int .i64 (ans f s x), vS (nxt f s x), .bool (outs f s x)]) ∧ Below w.heap.size w w' := by
  cases h : fitsB f.bits with
  | true =>
    have hf := fits_of h
    refine (qstep_walk f.bits f.b0 f.b1 f.b2 f.a1 f.a2 s.x1 s.x2 s.y1 s.y2 x _ _ _ _ _ rfl rfl rfl rfl rfl h w).mono ?_
    rintro e w' ⟨⟨z, h1, h2, rfl⟩, hb⟩
    have ht : 0 + kp f.b0 * kp x + kp f.b1 * kp s.x1 + kp f.b2 * kp s.x2 + -kp f.a1 * kp s.y1 + -kp f.a2 * kp s.y2 = tot f s x := by
      unfold tot
      rw [Int.neg_mul, Int.neg_mul]; omega
    rw [ht] at h1 h2
    have e1 : kp z = ans f s x := by rw [h1]; unfold ans; rw [if_pos hf]; rfl
    have e2 : offB z = outs f s x := by rw [h2]; unfold outs; rw [decide_eq_true hf, Bool.true_and]; rfl
    have e3 : nxt f s x = ⟨kp x, kp s.x1, kp z, kp s.y1⟩ := by unfold nxt; rw [if_pos hf, e1]
    rw [e3]
    exact ⟨by rw [e1, e2]; rfl, hb⟩
  | false =>
    have hf := not_fits_of h
    refine (qstep_out f.bits f.b0 f.b1 f.b2 f.a1 f.a2 s.x1 s.x2 s.y1 s.y2 x h w).mono ?_
    rintro e w' ⟨rfl, hb⟩
    have e1 : ans f s x = 0 := by unfold ans; rw [if_neg hf]
    have e2 : outs f s x = false := by unfold outs; rw [decide_eq_false hf, Bool.false_and]
    have e3 : nxt f s x = ⟨0, 0, 0, 0⟩ := by unfold nxt; rw [if_neg hf]
    rw [e1, e2, e3]
    exact ⟨rfl, hb⟩
end Go.Proofs.Ytmddclgidccnhab
