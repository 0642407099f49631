/- QuantComes: its walk. -/
import Derived.Test.YtmddclgidccnhabQk
namespace Go.Proofs.Ytmddclgidccnhab
open Go.RowKit Go.Maps

def j8V (w : World) (st : St) : Nat → Value → Prop
  | 58, v => v = .pointer (some ⟨w.heap.size + 1, 0, none⟩)
  | 59, v => v = .int .i64 (st.x1)
  | 60, v => v = .int .i64 (kp st.x1)
  | 61, v => v = .pointer (some ⟨w.heap.size + 1, 1, none⟩)
  | 62, v => v = .int .i64 (st.x2)
  | 63, v => v = .int .i64 (kp st.x2)
  | 64, v => v = .pointer (some ⟨w.heap.size + 1, 2, none⟩)
  | 65, v => v = .int .i64 (st.y1)
  | 66, v => v = .int .i64 (kp st.y1)
  | 67, v => v = .pointer (some ⟨w.heap.size + 1, 3, none⟩)
  | 68, v => v = .int .i64 (st.y2)
  | 69, v => v = .int .i64 (kp st.y2)
  | 70, v => v = vS (kpS st)
  | _, _ => True
def j13V (f : Fx) (u : Value) (g k : Nat) (s0 s1 : St) (y : Int) (o : Bool) : Nat → Value → Prop
  | 11, v => v = .int .i64 (y)
  | 13, v => v = .bool o
  | 80, v => v = .tuple #[.int .i64 y, vS s1, .bool o]
  | 81, v => v = vF f
  | 82, v => v = u
  | 83, v => v = .int .i64 ((k : Int))
  | 84, v => v = .pointer (some ⟨g, k * 4, none⟩)
  | 85, v => v = vS s0
  | 86, v => v = .tuple #[.int .i64 y, vS s1, .bool o]
  | 87, v => v = .int .i64 (y)
  | 88, v => v = vS s1
  | 89, v => v = .bool o
  | _, _ => True
theorem PW.grown {w a b : World} {fs ss : Array Value} {row : Option Nat} (h : PW w fs ss a) (hg : a.grownBy b row) (hr : ∀ k, row = some k → w.heap.size + 1 < k) : PW w fs ss b :=
  ⟨h.low.grown hg h.low.size (fun k e => by have := hr k e; omega), (hg.block _ h.sec.lt (by intro e; have := hr _ e.symm; omega)).trans h.sec, (hg.block _ h.st.lt (by intro e; have := hr _ e.symm; omega)).trans h.st⟩
theorem grown_of_below {w w' : World} (hb : Below w.heap.size w w') : w.grownBy w' none := ⟨hb.os, hb.tape, hb.output, hb.size, fun k hk _ => hb.block k hk⟩

/-- Worlds that are alike in all blocks. -/
def Stl (w w' : World) : Prop := ∀ B, Below B w w'
theorem Stl.refl (w : World) : Stl w w := fun B => Below.refl B w
theorem Stl.drewN {w w' : World} (h : Stl w w') (n : Nat) : Stl w (w'.drewN n) := fun B => (h B).trans ((Joins.below_draws _ w' n).mono (Nat.le_refl _))
theorem St.ne_cases {u v : St} (h : u ≠ v) : ((u.x1 == v.x1) = false) ∨ ((u.x1 == v.x1) = true ∧ (u.x2 == v.x2) = false) ∨ ((u.x1 == v.x1) = true ∧ (u.x2 == v.x2) = true ∧ (u.y1 == v.y1) = false) ∨ ((u.x1 == v.x1) = true ∧ (u.x2 == v.x2) = true ∧ (u.y1 == v.y1) = true ∧ (u.y2 == v.y2) = false) := by
  obtain ⟨a, b, c, d⟩ := u
  obtain ⟨a', b', c', d'⟩ := v
  simp only [beq_iff_eq, beq_eq_false_iff_ne, ne_eq]
  by_cases h1 : a = a'
  · by_cases h2 : b = b'
    · by_cases h3 : c = c'
      · by_cases h4 : d = d'
        · exact absurd (by rw [h1, h2, h3, h4]) h
        · exact .inr (.inr (.inr ⟨h1, h2, h3, h4⟩))
      · exact .inr (.inr (.inl ⟨h1, h2, h3⟩))
    · exact .inr (.inl ⟨h1, h2⟩)
  · exact .inl h1
theorem Stl.cell {w w' : World} (h : Stl w w') (p : Addr) : w'.cell? p = w.cell? p := (h (p.block + 1)).cell (Nat.lt_succ_self _)

set_option maxRecDepth 100000 in
set_option maxHeartbeats 8000000 in
theorem comes_any (f : Fx) (st : St) (w : World) :
    Calls Try.prog 4 #[vF f, vS st] w fun e w' => e = .returned (.bool true) ∧ Below w.heap.size w w' := by
  obtain ⟨i0, hi0, hz0, hz1, hz2⟩ := info_parts infoz_St
  have Hc := hide (cycle_any f st)
  have HS := hide (fun k => qstep_any f (so f (kpS st) k) 0)
  have K0 := hide (docKept_any st.x1)
  have K1 := hide (docKept_any st.x2)
  have K2 := hide (docKept_any st.y1)
  have K3 := hide (docKept_any st.y2)
  unfold vF vS at *
  go_enter Try.func4, Try.ntmps4
  go_wp2_with fail
  refine (awake_any _).mono ?_
  rintro e w1 ⟨rfl, hb1⟩
  have P1 := (PW.start w (aF f) (aS st)).later hb1
  obtain ⟨c0, c1, c2, c3, c4, c5, d0, d1, d2, d3⟩ := P1.cells
  clear hb1
  go_wp2_with fail
  refine (unhide Hc 200 _).mono ?_
  rintro e w2 ⟨⟨a, b, er, rfl, hcyc⟩, hb2⟩
  have P2 := P1.later hb2
  clear c0 c1 c2 c3 c4 c5 d0 d1 d2 d3 P1 hb2
  obtain ⟨c0, c1, c2, c3, c4, c5, d0, d1, d2, d3⟩ := P2.cells
  have HP2 := hide P2
  clear P2
  rcases hcyc with ⟨h, rfl, rfl, rfl⟩ | ⟨_, _, hfit, ⟨rfl, rfl, rfl, _⟩ | ⟨rfl, A, C, rfl, rfl, hC, hle, hAC, hun⟩⟩
  · have hf : ¬ (1 ≤ f.bits ∧ f.bits ≤ 31) := by
      rcases h with h | h | h
      · omega
      · omega
      · simpa [fitsB] using h
    clear h
    by_cases h1 : 1 ≤ f.bits
    · have h2 : ¬ f.bits ≤ 31 := fun h => hf ⟨h1, h⟩
      have h3 : decide (f.bits ≤ 31) = false := decide_eq_false h2
      clear hf
      go_wp2
      go_ret
      exact ⟨rfl, (unhide HP2).low⟩
    · clear hf
      go_wp2
      go_ret
      exact ⟨rfl, (unhide HP2).low⟩
  · have hf : 1 ≤ f.bits ∧ f.bits ≤ 31 := by simpa [fitsB] using hfit
    clear hfit
    go_wp2
    go_ret
    exact ⟨rfl, (unhide HP2).low⟩
  · have Hu := hide (And.intro hfit (And.intro hAC hun))
    clear hfit hAC hun
    have hAC2 : A + C ≤ 200 := by omega
    clear hle
    go_wp2_with fail
    rename_i K hK
    have HK := hide hK
    clear hK c0 c1 c2 c3 c4 c5 d0 d1 d2 d3
    refine region_slotsA (j8V w st) (alC 8 13 14 w2 (kpS st)) (by kernel_rfl) (by kernel_rfl) (by kernel_rfl) 138 (by kernel_rfl) rfl alC.start ?_ ?_
    · intro listed a w1 i o hI ho hsz hl hd
      have hi : i < 15 := by simpa using (Array.getElem?_eq_some_iff.1 ho).1
      have hsz' : listed.size = 15 := by simpa using hsz
      have e3 : a.eval (.tmp 3) = .pointer (some ⟨w.heap.size + 1, 0, none⟩) := (hI.base 3 (by kernel_rfl)).trans rfl
      have hc : alC 8 13 14 w2 (kpS st) listed a w1 := hI.world
      rcases (by omega : i = 0 ∨ i = 1 ∨ i = 2 ∨ i = 3 ∨ i = 4 ∨ i = 5 ∨ i = 6 ∨ i = 7 ∨ i = 8 ∨ i = 9 ∨ i = 10 ∨ i = 11 ∨ i = 12 ∨ i = 13 ∨ i = 14) with rfl | rfl | rfl | rfl | rfl | rfl | rfl | rfl | rfl | rfl | rfl | rfl | rfl | rfl | rfl
      all_goals obtain rfl := Option.some.inj ho
      · exact okR_field rfl e3 (fieldSt _ 0 (by omega) _) ⟨slotR rfl rfl, hc.same 0 (e := 58) rfl (by omega) (by omega) (by omega) (Below.refl _ _)⟩
      · have k1 := hI.slot 0 _ 58 rfl rfl (hd ⟨0, .data⟩ (by simp) rfl)
        exact okR_load rfl k1 (loadI _ _ _ ((unhide HP2).later hc.1 |>.st.cell 0 rfl)) ⟨slotR rfl rfl, hc.same 1 (e := 59) rfl (by omega) (by omega) (by omega) (Below.refl _ _)⟩
      · have k1 := hI.slot 1 _ 59 rfl rfl (hd ⟨1, .data⟩ (by simp) rfl)
        refine okR_call1 enter_docKept rfl k1 ((unhide K0 w1).mono ?_)
        rintro e w' ⟨rfl, rfl⟩
        exact ⟨_, rfl, slotR rfl rfl, hc.same 2 (e := 60) rfl (by omega) (by omega) (by omega) (Below.refl _ _)⟩
      · exact okR_field rfl e3 (fieldSt _ 1 (by omega) _) ⟨slotR rfl rfl, hc.same 3 (e := 61) rfl (by omega) (by omega) (by omega) (Below.refl _ _)⟩
      · have k1 := hI.slot 3 _ 61 rfl rfl (hd ⟨3, .data⟩ (by simp) rfl)
        exact okR_load rfl k1 (loadI _ _ _ ((unhide HP2).later hc.1 |>.st.cell 1 rfl)) ⟨slotR rfl rfl, hc.same 4 (e := 62) rfl (by omega) (by omega) (by omega) (Below.refl _ _)⟩
      · have k1 := hI.slot 4 _ 62 rfl rfl (hd ⟨4, .data⟩ (by simp) rfl)
        refine okR_call1 enter_docKept rfl k1 ((unhide K1 w1).mono ?_)
        rintro e w' ⟨rfl, rfl⟩
        exact ⟨_, rfl, slotR rfl rfl, hc.same 5 (e := 63) rfl (by omega) (by omega) (by omega) (Below.refl _ _)⟩
      · exact okR_field rfl e3 (fieldSt _ 2 (by omega) _) ⟨slotR rfl rfl, hc.same 6 (e := 64) rfl (by omega) (by omega) (by omega) (Below.refl _ _)⟩
      · have k1 := hI.slot 6 _ 64 rfl rfl (hd ⟨6, .data⟩ (by simp) rfl)
        exact okR_load rfl k1 (loadI _ _ _ ((unhide HP2).later hc.1 |>.st.cell 2 rfl)) ⟨slotR rfl rfl, hc.same 7 (e := 65) rfl (by omega) (by omega) (by omega) (Below.refl _ _)⟩
      · have k1 := hI.slot 7 _ 65 rfl rfl (hd ⟨7, .data⟩ (by simp) rfl)
        refine okR_call1 enter_docKept rfl k1 ((unhide K2 w1).mono ?_)
        rintro e w' ⟨rfl, rfl⟩
        exact ⟨_, rfl, slotR rfl rfl, hc.same 8 (e := 66) rfl (by omega) (by omega) (by omega) (Below.refl _ _)⟩
      · exact okR_field rfl e3 (fieldSt _ 3 (by omega) _) ⟨slotR rfl rfl, hc.same 9 (e := 67) rfl (by omega) (by omega) (by omega) (Below.refl _ _)⟩
      · have k1 := hI.slot 9 _ 67 rfl rfl (hd ⟨9, .data⟩ (by simp) rfl)
        exact okR_load rfl k1 (loadI _ _ _ ((unhide HP2).later hc.1 |>.st.cell 3 rfl)) ⟨slotR rfl rfl, hc.same 10 (e := 68) rfl (by omega) (by omega) (by omega) (Below.refl _ _)⟩
      · have k1 := hI.slot 10 _ 68 rfl rfl (hd ⟨10, .data⟩ (by simp) rfl)
        refine okR_call1 enter_docKept rfl k1 ((unhide K3 w1).mono ?_)
        rintro e w' ⟨rfl, rfl⟩
        exact ⟨_, rfl, slotR rfl rfl, hc.same 11 (e := 69) rfl (by omega) (by omega) (by omega) (Below.refl _ _)⟩
      · have k1 := hI.slot 2 _ 60 rfl rfl (hd ⟨2, .data⟩ (by simp) rfl)
        have k2 := hI.slot 5 _ 63 rfl rfl (hd ⟨5, .data⟩ (by simp) rfl)
        have k3 := hI.slot 8 _ 66 rfl rfl (hd ⟨8, .data⟩ (by simp) rfl)
        have k4 := hI.slot 11 _ 69 rfl rfl (hd ⟨11, .data⟩ (by simp) rfl)
        exact okR_build rfl k1 k2 k3 k4 ⟨slotR rfl rfl, hc.same 12 (e := 70) rfl (by omega) (by omega) (by omega) (Below.refl _ _)⟩
      · have u14 : listed.getD 14 false = false := by
          cases h6 : listed.getD 14 false with
          | false => rfl
          | true =>
            exfalso
            have := hI.closed 14 _ rfl h6 ⟨13, .phase⟩ (by simp) rfl
            rw [unl hl hsz' (by omega)] at this
            cases this
        exact okR_allocSt rfl ⟨slotR rfl trivial, hc.alloc hI.size (show 8 < 138 by omega) rfl (by omega) u14⟩
      · have k1 := hI.slot 12 _ 70 rfl rfl (hd ⟨12, .data⟩ (by simp) rfl)
        have l13 := hd ⟨13, .data⟩ (by simp) rfl
        obtain ⟨N, n1, n2, n3⟩ := hc.2 l13
        refine okR_store rfl n1 k1 (run_storeAt_mid w1 N 0 25 (aS (kpS st)) n3.there infoSt (by simp [aS, Value.oneCell'])) ⟨slotN rfl, hc.store rfl l13 n1 (by omega)⟩
    · intro listed a' w3 hI hall
      have hc : alC 8 13 14 w2 (kpS st) listed a' w3 := hI.world
      obtain ⟨hb3, hN⟩ := hc
      obtain ⟨N, n1, n2, n3⟩ := hN (hall 13 (by decide))
      rw [hall 14 (by decide), if_pos rfl] at n3
      have E := act_lit a' 138 hI.size
      rw [hI.defers] at E
      replace E : a' = ⟨#[a'.eval (.tmp 0), a'.eval (.tmp 1), a'.eval (.tmp 2), a'.eval (.tmp 3), a'.eval (.tmp 4), a'.eval (.tmp 5), a'.eval (.tmp 6), a'.eval (.tmp 7), a'.eval (.tmp 8), a'.eval (.tmp 9), a'.eval (.tmp 10), a'.eval (.tmp 11), a'.eval (.tmp 12), a'.eval (.tmp 13), a'.eval (.tmp 14), a'.eval (.tmp 15), a'.eval (.tmp 16), a'.eval (.tmp 17), a'.eval (.tmp 18), a'.eval (.tmp 19), a'.eval (.tmp 20), a'.eval (.tmp 21), a'.eval (.tmp 22), a'.eval (.tmp 23), a'.eval (.tmp 24), a'.eval (.tmp 25), a'.eval (.tmp 26), a'.eval (.tmp 27), a'.eval (.tmp 28), a'.eval (.tmp 29), a'.eval (.tmp 30), a'.eval (.tmp 31), a'.eval (.tmp 32), a'.eval (.tmp 33), a'.eval (.tmp 34), a'.eval (.tmp 35), a'.eval (.tmp 36), a'.eval (.tmp 37), a'.eval (.tmp 38), a'.eval (.tmp 39), a'.eval (.tmp 40), a'.eval (.tmp 41), a'.eval (.tmp 42), a'.eval (.tmp 43), a'.eval (.tmp 44), a'.eval (.tmp 45), a'.eval (.tmp 46), a'.eval (.tmp 47), a'.eval (.tmp 48), a'.eval (.tmp 49), a'.eval (.tmp 50), a'.eval (.tmp 51), a'.eval (.tmp 52), a'.eval (.tmp 53), a'.eval (.tmp 54), a'.eval (.tmp 55), a'.eval (.tmp 56), a'.eval (.tmp 57), a'.eval (.tmp 58), a'.eval (.tmp 59), a'.eval (.tmp 60), a'.eval (.tmp 61), a'.eval (.tmp 62), a'.eval (.tmp 63), a'.eval (.tmp 64), a'.eval (.tmp 65), a'.eval (.tmp 66), a'.eval (.tmp 67), a'.eval (.tmp 68), a'.eval (.tmp 69), a'.eval (.tmp 70), a'.eval (.tmp 71), a'.eval (.tmp 72), a'.eval (.tmp 73), a'.eval (.tmp 74), a'.eval (.tmp 75), a'.eval (.tmp 76), a'.eval (.tmp 77), a'.eval (.tmp 78), a'.eval (.tmp 79), a'.eval (.tmp 80), a'.eval (.tmp 81), a'.eval (.tmp 82), a'.eval (.tmp 83), a'.eval (.tmp 84), a'.eval (.tmp 85), a'.eval (.tmp 86), a'.eval (.tmp 87), a'.eval (.tmp 88), a'.eval (.tmp 89), a'.eval (.tmp 90), a'.eval (.tmp 91), a'.eval (.tmp 92), a'.eval (.tmp 93), a'.eval (.tmp 94), a'.eval (.tmp 95), a'.eval (.tmp 96), a'.eval (.tmp 97), a'.eval (.tmp 98), a'.eval (.tmp 99), a'.eval (.tmp 100), a'.eval (.tmp 101), a'.eval (.tmp 102), a'.eval (.tmp 103), a'.eval (.tmp 104), a'.eval (.tmp 105), a'.eval (.tmp 106), a'.eval (.tmp 107), a'.eval (.tmp 108), a'.eval (.tmp 109), a'.eval (.tmp 110), a'.eval (.tmp 111), a'.eval (.tmp 112), a'.eval (.tmp 113), a'.eval (.tmp 114), a'.eval (.tmp 115), a'.eval (.tmp 116), a'.eval (.tmp 117), a'.eval (.tmp 118), a'.eval (.tmp 119), a'.eval (.tmp 120), a'.eval (.tmp 121), a'.eval (.tmp 122), a'.eval (.tmp 123), a'.eval (.tmp 124), a'.eval (.tmp 125), a'.eval (.tmp 126), a'.eval (.tmp 127), a'.eval (.tmp 128), a'.eval (.tmp 129), a'.eval (.tmp 130), a'.eval (.tmp 131), a'.eval (.tmp 132), a'.eval (.tmp 133), a'.eval (.tmp 134), a'.eval (.tmp 135), a'.eval (.tmp 136), a'.eval (.tmp 137)], _⟩ := E
      rw [hI.base 0 (by kernel_rfl), hI.base 1 (by kernel_rfl), hI.base 2 (by kernel_rfl), hI.base 3 (by kernel_rfl), hI.base 4 (by kernel_rfl), hI.base 5 (by kernel_rfl), hI.base 6 (by kernel_rfl), hI.base 7 (by kernel_rfl), hI.base 9 (by kernel_rfl), hI.base 10 (by kernel_rfl), hI.base 11 (by kernel_rfl), hI.base 12 (by kernel_rfl), hI.base 13 (by kernel_rfl), hI.base 14 (by kernel_rfl), hI.base 15 (by kernel_rfl), hI.base 16 (by kernel_rfl), hI.base 17 (by kernel_rfl), hI.base 18 (by kernel_rfl), hI.base 19 (by kernel_rfl), hI.base 20 (by kernel_rfl), hI.base 21 (by kernel_rfl), hI.base 22 (by kernel_rfl), hI.base 23 (by kernel_rfl), hI.base 24 (by kernel_rfl), hI.base 25 (by kernel_rfl), hI.base 26 (by kernel_rfl), hI.base 27 (by kernel_rfl), hI.base 28 (by kernel_rfl), hI.base 29 (by kernel_rfl), hI.base 30 (by kernel_rfl), hI.base 31 (by kernel_rfl), hI.base 32 (by kernel_rfl), hI.base 33 (by kernel_rfl), hI.base 34 (by kernel_rfl), hI.base 35 (by kernel_rfl), hI.base 36 (by kernel_rfl), hI.base 37 (by kernel_rfl), hI.base 38 (by kernel_rfl), hI.base 39 (by kernel_rfl), hI.base 40 (by kernel_rfl), hI.base 41 (by kernel_rfl), hI.base 42 (by kernel_rfl), hI.base 43 (by kernel_rfl), hI.base 44 (by kernel_rfl), hI.base 45 (by kernel_rfl), hI.base 46 (by kernel_rfl), hI.base 47 (by kernel_rfl), hI.base 48 (by kernel_rfl), hI.base 49 (by kernel_rfl), hI.base 50 (by kernel_rfl), hI.base 51 (by kernel_rfl), hI.base 52 (by kernel_rfl), hI.base 53 (by kernel_rfl), hI.base 54 (by kernel_rfl), hI.base 55 (by kernel_rfl), hI.base 56 (by kernel_rfl), hI.base 57 (by kernel_rfl), hI.base 71 (by kernel_rfl), hI.base 72 (by kernel_rfl), hI.base 73 (by kernel_rfl), hI.base 74 (by kernel_rfl), hI.base 75 (by kernel_rfl), hI.base 76 (by kernel_rfl), hI.base 77 (by kernel_rfl), hI.base 78 (by kernel_rfl), hI.base 79 (by kernel_rfl), hI.base 80 (by kernel_rfl), hI.base 81 (by kernel_rfl), hI.base 82 (by kernel_rfl), hI.base 83 (by kernel_rfl), hI.base 84 (by kernel_rfl), hI.base 85 (by kernel_rfl), hI.base 86 (by kernel_rfl), hI.base 87 (by kernel_rfl), hI.base 88 (by kernel_rfl), hI.base 89 (by kernel_rfl), hI.base 90 (by kernel_rfl), hI.base 91 (by kernel_rfl), hI.base 92 (by kernel_rfl), hI.base 93 (by kernel_rfl), hI.base 94 (by kernel_rfl), hI.base 95 (by kernel_rfl), hI.base 96 (by kernel_rfl), hI.base 97 (by kernel_rfl), hI.base 98 (by kernel_rfl), hI.base 99 (by kernel_rfl), hI.base 100 (by kernel_rfl), hI.base 101 (by kernel_rfl), hI.base 102 (by kernel_rfl), hI.base 103 (by kernel_rfl), hI.base 104 (by kernel_rfl), hI.base 105 (by kernel_rfl), hI.base 106 (by kernel_rfl), hI.base 107 (by kernel_rfl), hI.base 108 (by kernel_rfl), hI.base 109 (by kernel_rfl), hI.base 110 (by kernel_rfl), hI.base 111 (by kernel_rfl), hI.base 112 (by kernel_rfl), hI.base 113 (by kernel_rfl), hI.base 114 (by kernel_rfl), hI.base 115 (by kernel_rfl), hI.base 116 (by kernel_rfl), hI.base 117 (by kernel_rfl), hI.base 118 (by kernel_rfl), hI.base 119 (by kernel_rfl), hI.base 120 (by kernel_rfl), hI.base 121 (by kernel_rfl), hI.base 122 (by kernel_rfl), hI.base 123 (by kernel_rfl), hI.base 124 (by kernel_rfl), hI.base 125 (by kernel_rfl), hI.base 126 (by kernel_rfl), hI.base 127 (by kernel_rfl), hI.base 128 (by kernel_rfl), hI.base 129 (by kernel_rfl), hI.base 130 (by kernel_rfl), hI.base 131 (by kernel_rfl), hI.base 132 (by kernel_rfl), hI.base 133 (by kernel_rfl), hI.base 134 (by kernel_rfl), hI.base 135 (by kernel_rfl), hI.base 136 (by kernel_rfl), hI.base 137 (by kernel_rfl)] at E
      generalize a'.eval (.tmp 58) = y58 at E
      generalize a'.eval (.tmp 59) = y59 at E
      generalize a'.eval (.tmp 60) = y60 at E
      generalize a'.eval (.tmp 61) = y61 at E
      generalize a'.eval (.tmp 62) = y62 at E
      generalize a'.eval (.tmp 63) = y63 at E
      generalize a'.eval (.tmp 64) = y64 at E
      generalize a'.eval (.tmp 65) = y65 at E
      generalize a'.eval (.tmp 66) = y66 at E
      generalize a'.eval (.tmp 67) = y67 at E
      generalize a'.eval (.tmp 68) = y68 at E
      generalize a'.eval (.tmp 69) = y69 at E
      generalize a'.eval (.tmp 70) = y70 at E
      rw [n1] at E
      clear hI hall n1
      subst E
      refine unhide HK _ _ ?_
      clear HK
      have P3 := (unhide HP2).later hb3
      have m0 : w3.cell? ⟨N, 0, none⟩ = some (.int .i64 (kp st.x1)) := n3.cell 0 rfl
      have m1 : w3.cell? ⟨N, 1, none⟩ = some (.int .i64 (kp st.x2)) := n3.cell 1 rfl
      have m2 : w3.cell? ⟨N, 2, none⟩ = some (.int .i64 (kp st.y1)) := n3.cell 2 rfl
      have m3 : w3.cell? ⟨N, 3, none⟩ = some (.int .i64 (kp st.y2)) := n3.cell 3 rfl
      have hM : w2.heap.size ≤ w3.heap.size := hb3.size
      have hMw : w.heap.size + 1 < w2.heap.size := (unhide HP2).st.lt
      clear n3 hb3 HP2
      have HP3 := hide P3
      clear P3 K0 K1 K2 K3
      go_wp2_with fail
      obtain ⟨S, hS⟩ : ∃ S, S = so f (kpS st) := ⟨_, rfl⟩
      have hSS : ∀ k, nxt f (S k) 0 = S (k + 1) := fun k => by rw [hS]; rfl
      have hS0 : S 0 = kpS st := by rw [hS]; rfl
      have HX := hide (unhide Hu).2.2
      rw [← hS] at HS Hu
      have HSS := hide hSS
      have hown0 : (w3.alloc (Obj.cells #[.int .i64 (kp st.x1), .int .i64 (kp st.x2), .int .i64 (kp st.y1), .int .i64 (kp st.y2)] 25)).ownsRow w2.heap.size 25 4 (.slice (some ⟨w3.heap.size, 0, none⟩) 1 1) 1 (cellsN S 1) := by
        have := World.ownsRow_lit (base := w2.heap.size) (e := 25) (size := 4) w3 (aS (kpS st)) 1 hM (by unfold maxLen; omega) rfl
        rw [show cellsN S 1 = (aS (kpS st)).toList by unfold cellsN cellsN; rw [hS0]; rfl]
        exact this
      clear hSS hS0 hS
      have Ho := hide hown0
      clear hown0 m0 m1 m2 m3
      go_loopw [9, 10] (fun v i wr => ∃ k : Nat, i = .int .i64 k ∧ k ≤ A + C ∧ Hid (wr.ownsRow w2.heap.size 25 4 v (k + 1) (cellsN S (k + 1))) ∧ Hid (PW w (aF f) (aS st) wr) ∧ w2.heap.size ≤ wr.heap.size) (fun _ i _ => A + C - (intOf i).toNat)
      case atStart =>
        exact ⟨0, rfl, Nat.zero_le _, Ho, (unhide HP3).later (Joins.below_alloc1 _ _), by simp; omega⟩
      case round =>
        obtain ⟨k, rfl, hk, hown, hP, hMr⟩ := hrel
        clear Ho HP3
        obtain ⟨g, cap, rfl⟩ := Joins.ownsRow_form (unhide hown) (by omega)
        by_cases hkl : (k : Int) < (A : Int) + (C : Int)
        · have hgl : g < wr.heap.size := ((unhide hown).lt g rfl).2
          have hgM : w2.heap.size ≤ g := ((unhide hown).lt g rfl).1
          have hcell : ∀ i j, i < k + 1 → j < 4 → wr.cell? ⟨g, i * 4 + j, none⟩ = (aS (S i))[j]? := fun i j h1 h2 => by
            rw [(unhide hown).cellAt _ (by omega), cellsN_at S _ _ _ h1 h2]
          have Hcell := hide hcell
          clear hcell
          go_wp2_with fail
          rename_i K hK
          have HK := hide hK
          clear hK
          have hcell := unhide Hcell
          refine region_slotsA (j13V f (.slice (some ⟨g, 0, none⟩) (k + 1) cap) g k (S k) (S (k + 1)) (ans f (S k) 0) (outs f (S k) 0)) (alC 12 10 12 wr (S (k + 1))) (by kernel_rfl) (by kernel_rfl) (by kernel_rfl) 138 (by kernel_rfl) rfl alC.start ?_ ?_
          · intro listed a w1 i o hI ho hsz hl hd
            have hi : i < 14 := by simpa using (Array.getElem?_eq_some_iff.1 ho).1
            have hsz' : listed.size = 14 := by simpa using hsz
            have e2 : a.eval (.tmp 2) = .pointer (some ⟨w.heap.size, 0, none⟩) := (hI.base 2 (by kernel_rfl)).trans rfl
            have e9 : a.eval (.tmp 9) = .slice (some ⟨g, 0, none⟩) (k + 1) cap := (hI.base 9 (by kernel_rfl)).trans rfl
            have e10 : a.eval (.tmp 10) = .int .i64 k := (hI.base 10 (by kernel_rfl)).trans rfl
            have hc : alC 12 10 12 wr (S (k + 1)) listed a w1 := hI.world
            rcases (by omega : i = 0 ∨ i = 1 ∨ i = 2 ∨ i = 3 ∨ i = 4 ∨ i = 5 ∨ i = 6 ∨ i = 7 ∨ i = 8 ∨ i = 9 ∨ i = 10 ∨ i = 11 ∨ i = 12 ∨ i = 13) with rfl | rfl | rfl | rfl | rfl | rfl | rfl | rfl | rfl | rfl | rfl | rfl | rfl | rfl
            all_goals obtain rfl := Option.some.inj ho
            · exact okR_load rfl e2 (loadFx _ _ _ _ _ _ _ _ ((unhide hP).later hc.1).sec) ⟨slotR rfl rfl, hc.same 0 (e := 81) rfl (by omega) (by omega) (by omega) (Below.refl _ _)⟩
            · exact okR_move rfl e9 ⟨slotR rfl rfl, hc.same 1 (e := 82) rfl (by omega) (by omega) (by omega) (Below.refl _ _)⟩
            · exact okR_move rfl e10 ⟨slotR rfl rfl, hc.same 2 (e := 83) rfl (by omega) (by omega) (by omega) (Below.refl _ _)⟩
            · have k1 := hI.slot 1 _ 82 rfl rfl (hd ⟨1, .data⟩ (by simp) rfl)
              have k2 := hI.slot 2 _ 83 rfl rfl (hd ⟨2, .data⟩ (by simp) rfl)
              exact okR_index rfl k1 k2 (index_St g (k + 1) cap k _ (by omega) (by omega)) ⟨slotR rfl rfl, hc.same 3 (e := 84) rfl (by omega) (by omega) (by omega) (Below.refl _ _)⟩
            · have k1 := hI.slot 3 _ 84 rfl rfl (hd ⟨3, .data⟩ (by simp) rfl)
              exact okR_load rfl k1 (loadStAt g (k * 4) (S k) _ (fun j hj => by rw [hc.1.cell (by exact hgl)]; exact hcell k j (by omega) hj)) ⟨slotR rfl rfl, hc.same 4 (e := 85) rfl (by omega) (by omega) (by omega) (Below.refl _ _)⟩
            · have k1 := hI.slot 0 _ 81 rfl rfl (hd ⟨0, .data⟩ (by simp) rfl)
              have k2 := hI.slot 4 _ 85 rfl rfl (hd ⟨4, .data⟩ (by simp) rfl)
              refine okR_call3 enter_step rfl k1 k2 rfl ((unhide HS k w1).mono ?_)
              rintro e w' ⟨rfl, hb'⟩
              exact ⟨_, rfl, slotR rfl (by rw [unhide HSS]; rfl), hc.same 5 (e := 86) rfl (by omega) (by omega) (by omega) hb'⟩
            · have k1 := hI.slot 5 _ 86 rfl rfl (hd ⟨5, .data⟩ (by simp) rfl)
              exact okR_move rfl k1 ⟨slotR rfl rfl, hc.same 6 (e := 80) rfl (by omega) (by omega) (by omega) (Below.refl _ _)⟩
            · have k1 := hI.slot 6 _ 80 rfl rfl (hd ⟨6, .data⟩ (by simp) rfl)
              exact okR_extract rfl k1 rfl ⟨slotR rfl rfl, hc.same 7 (e := 87) rfl (by omega) (by omega) (by omega) (Below.refl _ _)⟩
            · have k1 := hI.slot 6 _ 80 rfl rfl (hd ⟨6, .data⟩ (by simp) rfl)
              exact okR_extract rfl k1 rfl ⟨slotR rfl rfl, hc.same 8 (e := 88) rfl (by omega) (by omega) (by omega) (Below.refl _ _)⟩
            · have k1 := hI.slot 6 _ 80 rfl rfl (hd ⟨6, .data⟩ (by simp) rfl)
              exact okR_extract rfl k1 rfl ⟨slotR rfl rfl, hc.same 9 (e := 89) rfl (by omega) (by omega) (by omega) (Below.refl _ _)⟩
            · have u12 : listed.getD 12 false = false := by
                cases h6 : listed.getD 12 false with
                | false => rfl
                | true =>
                  exfalso
                  have := hI.closed 12 _ rfl h6 ⟨10, .phase⟩ (by simp) rfl
                  rw [unl hl hsz' (by omega)] at this
                  cases this
              exact okR_allocSt rfl ⟨slotR rfl trivial, hc.alloc hI.size (show 12 < 138 by omega) rfl (by omega) u12⟩
            · have k1 := hI.slot 7 _ 87 rfl rfl (hd ⟨7, .data⟩ (by simp) rfl)
              exact okR_assign rfl k1 ⟨slotR rfl rfl, hc.same 11 (e := 11) rfl (by omega) (by omega) (by omega) (Below.refl _ _)⟩
            · have k1 := hI.slot 8 _ 88 rfl rfl (hd ⟨8, .data⟩ (by simp) rfl)
              have l10 := hd ⟨10, .data⟩ (by simp) rfl
              obtain ⟨N, n1, n2, n3⟩ := hc.2 l10
              refine okR_store rfl n1 k1 (run_storeAt_mid w1 N 0 25 (aS (S (k + 1))) n3.there infoSt (by simp [aS, Value.oneCell'])) ⟨slotN rfl, hc.store rfl l10 n1 (by omega)⟩
            · have k1 := hI.slot 9 _ 89 rfl rfl (hd ⟨9, .data⟩ (by simp) rfl)
              exact okR_assign rfl k1 ⟨slotR rfl rfl, hc.same 13 (e := 13) rfl (by omega) (by omega) (by omega) (Below.refl _ _)⟩
          · intro listed a' w4 hI hall
            have hc : alC 12 10 12 wr (S (k + 1)) listed a' w4 := hI.world
            obtain ⟨hb4, hN⟩ := hc
            obtain ⟨N4, n1, n2, n3⟩ := hN (hall 10 (by decide))
            rw [hall 12 (by decide), if_pos rfl] at n3
            have E := act_lit a' 138 hI.size
            rw [hI.defers] at E
            replace E : a' = ⟨#[a'.eval (.tmp 0), a'.eval (.tmp 1), a'.eval (.tmp 2), a'.eval (.tmp 3), a'.eval (.tmp 4), a'.eval (.tmp 5), a'.eval (.tmp 6), a'.eval (.tmp 7), a'.eval (.tmp 8), a'.eval (.tmp 9), a'.eval (.tmp 10), a'.eval (.tmp 11), a'.eval (.tmp 12), a'.eval (.tmp 13), a'.eval (.tmp 14), a'.eval (.tmp 15), a'.eval (.tmp 16), a'.eval (.tmp 17), a'.eval (.tmp 18), a'.eval (.tmp 19), a'.eval (.tmp 20), a'.eval (.tmp 21), a'.eval (.tmp 22), a'.eval (.tmp 23), a'.eval (.tmp 24), a'.eval (.tmp 25), a'.eval (.tmp 26), a'.eval (.tmp 27), a'.eval (.tmp 28), a'.eval (.tmp 29), a'.eval (.tmp 30), a'.eval (.tmp 31), a'.eval (.tmp 32), a'.eval (.tmp 33), a'.eval (.tmp 34), a'.eval (.tmp 35), a'.eval (.tmp 36), a'.eval (.tmp 37), a'.eval (.tmp 38), a'.eval (.tmp 39), a'.eval (.tmp 40), a'.eval (.tmp 41), a'.eval (.tmp 42), a'.eval (.tmp 43), a'.eval (.tmp 44), a'.eval (.tmp 45), a'.eval (.tmp 46), a'.eval (.tmp 47), a'.eval (.tmp 48), a'.eval (.tmp 49), a'.eval (.tmp 50), a'.eval (.tmp 51), a'.eval (.tmp 52), a'.eval (.tmp 53), a'.eval (.tmp 54), a'.eval (.tmp 55), a'.eval (.tmp 56), a'.eval (.tmp 57), a'.eval (.tmp 58), a'.eval (.tmp 59), a'.eval (.tmp 60), a'.eval (.tmp 61), a'.eval (.tmp 62), a'.eval (.tmp 63), a'.eval (.tmp 64), a'.eval (.tmp 65), a'.eval (.tmp 66), a'.eval (.tmp 67), a'.eval (.tmp 68), a'.eval (.tmp 69), a'.eval (.tmp 70), a'.eval (.tmp 71), a'.eval (.tmp 72), a'.eval (.tmp 73), a'.eval (.tmp 74), a'.eval (.tmp 75), a'.eval (.tmp 76), a'.eval (.tmp 77), a'.eval (.tmp 78), a'.eval (.tmp 79), a'.eval (.tmp 80), a'.eval (.tmp 81), a'.eval (.tmp 82), a'.eval (.tmp 83), a'.eval (.tmp 84), a'.eval (.tmp 85), a'.eval (.tmp 86), a'.eval (.tmp 87), a'.eval (.tmp 88), a'.eval (.tmp 89), a'.eval (.tmp 90), a'.eval (.tmp 91), a'.eval (.tmp 92), a'.eval (.tmp 93), a'.eval (.tmp 94), a'.eval (.tmp 95), a'.eval (.tmp 96), a'.eval (.tmp 97), a'.eval (.tmp 98), a'.eval (.tmp 99), a'.eval (.tmp 100), a'.eval (.tmp 101), a'.eval (.tmp 102), a'.eval (.tmp 103), a'.eval (.tmp 104), a'.eval (.tmp 105), a'.eval (.tmp 106), a'.eval (.tmp 107), a'.eval (.tmp 108), a'.eval (.tmp 109), a'.eval (.tmp 110), a'.eval (.tmp 111), a'.eval (.tmp 112), a'.eval (.tmp 113), a'.eval (.tmp 114), a'.eval (.tmp 115), a'.eval (.tmp 116), a'.eval (.tmp 117), a'.eval (.tmp 118), a'.eval (.tmp 119), a'.eval (.tmp 120), a'.eval (.tmp 121), a'.eval (.tmp 122), a'.eval (.tmp 123), a'.eval (.tmp 124), a'.eval (.tmp 125), a'.eval (.tmp 126), a'.eval (.tmp 127), a'.eval (.tmp 128), a'.eval (.tmp 129), a'.eval (.tmp 130), a'.eval (.tmp 131), a'.eval (.tmp 132), a'.eval (.tmp 133), a'.eval (.tmp 134), a'.eval (.tmp 135), a'.eval (.tmp 136), a'.eval (.tmp 137)], _⟩ := E
            rw [hI.base 0 (by kernel_rfl), hI.base 1 (by kernel_rfl), hI.base 2 (by kernel_rfl), hI.base 3 (by kernel_rfl), hI.base 4 (by kernel_rfl), hI.base 5 (by kernel_rfl), hI.base 6 (by kernel_rfl), hI.base 7 (by kernel_rfl), hI.base 8 (by kernel_rfl), hI.base 9 (by kernel_rfl), hI.base 10 (by kernel_rfl), hI.base 14 (by kernel_rfl), hI.base 15 (by kernel_rfl), hI.base 16 (by kernel_rfl), hI.base 17 (by kernel_rfl), hI.base 18 (by kernel_rfl), hI.base 19 (by kernel_rfl), hI.base 20 (by kernel_rfl), hI.base 21 (by kernel_rfl), hI.base 22 (by kernel_rfl), hI.base 23 (by kernel_rfl), hI.base 24 (by kernel_rfl), hI.base 25 (by kernel_rfl), hI.base 26 (by kernel_rfl), hI.base 27 (by kernel_rfl), hI.base 28 (by kernel_rfl), hI.base 29 (by kernel_rfl), hI.base 30 (by kernel_rfl), hI.base 31 (by kernel_rfl), hI.base 32 (by kernel_rfl), hI.base 33 (by kernel_rfl), hI.base 34 (by kernel_rfl), hI.base 35 (by kernel_rfl), hI.base 36 (by kernel_rfl), hI.base 37 (by kernel_rfl), hI.base 38 (by kernel_rfl), hI.base 39 (by kernel_rfl), hI.base 40 (by kernel_rfl), hI.base 41 (by kernel_rfl), hI.base 42 (by kernel_rfl), hI.base 43 (by kernel_rfl), hI.base 44 (by kernel_rfl), hI.base 45 (by kernel_rfl), hI.base 46 (by kernel_rfl), hI.base 47 (by kernel_rfl), hI.base 48 (by kernel_rfl), hI.base 49 (by kernel_rfl), hI.base 50 (by kernel_rfl), hI.base 51 (by kernel_rfl), hI.base 52 (by kernel_rfl), hI.base 53 (by kernel_rfl), hI.base 54 (by kernel_rfl), hI.base 55 (by kernel_rfl), hI.base 56 (by kernel_rfl), hI.base 57 (by kernel_rfl), hI.base 58 (by kernel_rfl), hI.base 59 (by kernel_rfl), hI.base 60 (by kernel_rfl), hI.base 61 (by kernel_rfl), hI.base 62 (by kernel_rfl), hI.base 63 (by kernel_rfl), hI.base 64 (by kernel_rfl), hI.base 65 (by kernel_rfl), hI.base 66 (by kernel_rfl), hI.base 67 (by kernel_rfl), hI.base 68 (by kernel_rfl), hI.base 69 (by kernel_rfl), hI.base 70 (by kernel_rfl), hI.base 71 (by kernel_rfl), hI.base 72 (by kernel_rfl), hI.base 73 (by kernel_rfl), hI.base 74 (by kernel_rfl), hI.base 75 (by kernel_rfl), hI.base 76 (by kernel_rfl), hI.base 77 (by kernel_rfl), hI.base 78 (by kernel_rfl), hI.base 79 (by kernel_rfl), hI.base 90 (by kernel_rfl), hI.base 91 (by kernel_rfl), hI.base 92 (by kernel_rfl), hI.base 93 (by kernel_rfl), hI.base 94 (by kernel_rfl), hI.base 95 (by kernel_rfl), hI.base 96 (by kernel_rfl), hI.base 97 (by kernel_rfl), hI.base 98 (by kernel_rfl), hI.base 99 (by kernel_rfl), hI.base 100 (by kernel_rfl), hI.base 101 (by kernel_rfl), hI.base 102 (by kernel_rfl), hI.base 103 (by kernel_rfl), hI.base 104 (by kernel_rfl), hI.base 105 (by kernel_rfl), hI.base 106 (by kernel_rfl), hI.base 107 (by kernel_rfl), hI.base 108 (by kernel_rfl), hI.base 109 (by kernel_rfl), hI.base 110 (by kernel_rfl), hI.base 111 (by kernel_rfl), hI.base 112 (by kernel_rfl), hI.base 113 (by kernel_rfl), hI.base 114 (by kernel_rfl), hI.base 115 (by kernel_rfl), hI.base 116 (by kernel_rfl), hI.base 117 (by kernel_rfl), hI.base 118 (by kernel_rfl), hI.base 119 (by kernel_rfl), hI.base 120 (by kernel_rfl), hI.base 121 (by kernel_rfl), hI.base 122 (by kernel_rfl), hI.base 123 (by kernel_rfl), hI.base 124 (by kernel_rfl), hI.base 125 (by kernel_rfl), hI.base 126 (by kernel_rfl), hI.base 127 (by kernel_rfl), hI.base 128 (by kernel_rfl), hI.base 129 (by kernel_rfl), hI.base 130 (by kernel_rfl), hI.base 131 (by kernel_rfl), hI.base 132 (by kernel_rfl), hI.base 133 (by kernel_rfl), hI.base 134 (by kernel_rfl), hI.base 135 (by kernel_rfl), hI.base 136 (by kernel_rfl), hI.base 137 (by kernel_rfl)] at E
            generalize a'.eval (.tmp 11) = y11 at E
            generalize a'.eval (.tmp 13) = y13 at E
            generalize a'.eval (.tmp 80) = y80 at E
            generalize a'.eval (.tmp 81) = y81 at E
            generalize a'.eval (.tmp 82) = y82 at E
            generalize a'.eval (.tmp 83) = y83 at E
            generalize a'.eval (.tmp 84) = y84 at E
            generalize a'.eval (.tmp 85) = y85 at E
            generalize a'.eval (.tmp 86) = y86 at E
            generalize a'.eval (.tmp 87) = y87 at E
            generalize a'.eval (.tmp 88) = y88 at E
            generalize a'.eval (.tmp 89) = y89 at E
            rw [n1] at E
            clear hI hall n1 hcell
            subst E
            refine unhide HK _ _ ?_
            clear HK
            have m0 : w4.cell? ⟨N4, 0, none⟩ = some (.int .i64 (S (k + 1)).x1) := n3.cell 0 rfl
            have m1 : w4.cell? ⟨N4, 1, none⟩ = some (.int .i64 (S (k + 1)).x2) := n3.cell 1 rfl
            have m2 : w4.cell? ⟨N4, 2, none⟩ = some (.int .i64 (S (k + 1)).y1) := n3.cell 2 rfl
            have m3 : w4.cell? ⟨N4, 3, none⟩ = some (.int .i64 (S (k + 1)).y2) := n3.cell 3 rfl
            have o2 : Hid ((w4.alloc (Obj.cells #[.int .i64 (S (k + 1)).x1, .int .i64 (S (k + 1)).x2, .int .i64 (S (k + 1)).y1, .int .i64 (S (k + 1)).y2] 25)).ownsRow w2.heap.size 25 4 (.slice (some ⟨g, 0, none⟩) (k + 1) cap) (k + 1) (cellsN S (k + 1))) := hide (((unhide hown).kept (grown_of_below hb4) (.inr (by simp [Value.ownBlock]))).alloc _)
            have hnews : Hid (∀ j u, (aS (S (k + 1))).toList[j]? = some u → (w4.alloc (Obj.cells #[.int .i64 (S (k + 1)).x1, .int .i64 (S (k + 1)).x2, .int .i64 (S (k + 1)).y1, .int .i64 (S (k + 1)).y2] 25)).cell? ((⟨w4.heap.size, 0, none⟩ : Addr).add j) = some u) := hide (by
              intro j u hu
              rw [Addr.add_mid, Nat.zero_add]
              exact (Blk.alloc (w := w4) (cs := aS (S (k + 1))) (t := 25)).cell j (by simpa using hu))
            have hbase : Hid (w2.heap.size ≤ (w4.alloc (Obj.cells #[.int .i64 (S (k + 1)).x1, .int .i64 (S (k + 1)).x2, .int .i64 (S (k + 1)).y1, .int .i64 (S (k + 1)).y2] 25)).heap.size) := hide (by have := hb4.size; simp; omega)
            have hH : Hid ((w4.alloc (Obj.cells #[.int .i64 (S (k + 1)).x1, .int .i64 (S (k + 1)).x2, .int .i64 (S (k + 1)).y1, .int .i64 (S (k + 1)).y2] 25)).heap.size = w4.heap.size + 1) := hide (by simp)
            have HP4 := hide ((unhide hP).later hb4)
            have hs4 := hb4.size
            clear n3 hb4 hP hown
            go_wp2_with (first
              | (at_builtin; refine wpList_append_lies _ rfl (.tmp 90) (.tmp 92) 34 rfl w2.heap.size 25 i0 (.agg #[.int .i64 0, .int .i64 0, .int .i64 0, .int .i64 0]) 4 32 Try.underlying34 hi0 hz0 hz1 hz2 rfl (by decide) (.slice (some ⟨g, 0, none⟩) (k + 1) cap) (k + 1) (cellsN S (k + 1)) rfl o2.out ⟨w4.heap.size, 0, none⟩ 1 1 (aS (S (k + 1))).toList rfl rfl hnews.out (aS_one _) Nat.one_pos (by unfold maxLen; omega) (by omega) hbase.out (w4.heap.size + 1) hH.out ?_; intro gg cap9 w9 hown9 hg9 hat9 hlt9)
              | fail)
            go_roundw
            case rel =>
              refine ⟨k + 1, by go_num, by omega, hown9, ?_, ?_⟩
              · exact ((unhide HP4).later (Joins.below_alloc1 _ _)).grown hg9 (fun q e => by have : g = q := by simpa [Value.ownBlock] using e
                                                                                             omega)
              · have := hg9.size
                simp at this
                omega
            case measure => simp [intOf]; omega
        · obtain rfl : k = A + C := by omega
          have hgl : g < wr.heap.size := ((unhide hown).lt g rfl).2
          have Hcell : Hid (∀ i j, i < A + C + 1 → j < 4 → wr.cell? ⟨g, i * 4 + j, none⟩ = (aS (S i))[j]?) := hide (fun i j h1 h2 => by
            rw [(unhide hown).cellAt _ (by omega), cellsN_at S _ _ _ h1 h2])
          have HPk := hP
          obtain ⟨W, hW⟩ : ∃ W, W = wr := ⟨_, rfl⟩
          clear hown HS HSS hP
          go_wp2_with fail
          rw [← hW] at Hcell HPk ⊢
          clear hgl hMr hW hkl hk
          go_loopw [96] (fun i wr => ∃ m : Nat, i = .int .i64 m ∧ m ≤ A + C + 1 ∧ Hid (Stl W wr)) (fun i _ => A + C + 1 - (intOf i).toNat)
          case atStart => exact ⟨0, rfl, Nat.zero_le _, Stl.refl W⟩
          case round =>
            obtain ⟨m, rfl, hm, hst⟩ := hrel
            by_cases hml : (m : Int) < (A : Int) + (C : Int) + 1
            · go_wp2_with fail
              have hst0 := hst
              go_loopw [15] (fun j wr => ∃ l : Nat, j = .int .i64 l ∧ l ≤ m ∧ Hid (Stl W wr)) (fun j _ => m - (intOf j).toNat)
              case atStart => exact ⟨0, rfl, Nat.zero_le _, hst0⟩
              case round =>
                obtain ⟨l, rfl, hl, hst2⟩ := hrel
                clear hst hst0
                by_cases hlm : (l : Int) < (m : Int)
                · have q0 : wr.cell? ⟨g, m * 4, none⟩ = some (.int .i64 (S m).x1) := (hst2.out.cell _).trans (unhide Hcell m 0 (by omega) (by omega))
                  have q1 : wr.cell? ⟨g, m * 4 + 1, none⟩ = some (.int .i64 (S m).x2) := (hst2.out.cell _).trans (unhide Hcell m 1 (by omega) (by omega))
                  have q2 : wr.cell? ⟨g, m * 4 + 2, none⟩ = some (.int .i64 (S m).y1) := (hst2.out.cell _).trans (unhide Hcell m 2 (by omega) (by omega))
                  have q3 : wr.cell? ⟨g, m * 4 + 3, none⟩ = some (.int .i64 (S m).y2) := (hst2.out.cell _).trans (unhide Hcell m 3 (by omega) (by omega))
                  have r0 : wr.cell? ⟨g, l * 4, none⟩ = some (.int .i64 (S l).x1) := (hst2.out.cell _).trans (unhide Hcell l 0 (by omega) (by omega))
                  have r1 : wr.cell? ⟨g, l * 4 + 1, none⟩ = some (.int .i64 (S l).x2) := (hst2.out.cell _).trans (unhide Hcell l 1 (by omega) (by omega))
                  have r2 : wr.cell? ⟨g, l * 4 + 2, none⟩ = some (.int .i64 (S l).y1) := (hst2.out.cell _).trans (unhide Hcell l 2 (by omega) (by omega))
                  have r3 : wr.cell? ⟨g, l * 4 + 3, none⟩ = some (.int .i64 (S l).y2) := (hst2.out.cell _).trans (unhide Hcell l 3 (by omega) (by omega))
                  have b1 : (l : Int) < (A : Int) + (C : Int) + 1 := by omega
                  by_cases hmA : m = A + C
                  · have g1 : ((m : Int) == (A : Int) + (C : Int)) = true := by rw [beq_iff_eq]; omega
                    by_cases hlA : l = A
                    · have hEq : S m = S l := by rw [hmA, hlA]; exact (unhide Hu).2.1
                      rw [hEq] at q0 q1 q2 q3
                      have g6 : ((l : Int) == (A : Int)) = true := by rw [beq_iff_eq]; omega
                      clear hEq hmA hlA
                      generalize S l = v at *
                      go_wp2_with fail
                      go_quiet (fail)
                      go_wp2
                      go_roundw
                      case rel => exact ⟨l + 1, by go_num, by omega, hst2.out.drewN _⟩
                      case measure => simp [intOf]; omega
                    · have hne : S m ≠ S l := by
                        rw [hmA, (unhide Hu).2.1]
                        by_cases h : A < l
                        · exact (unhide Hu).2.2 A l h (by omega)
                        · exact fun e => (unhide Hu).2.2 l A (by omega) (by omega) e.symm
                      have g6 : ((l : Int) == (A : Int)) = false := by rw [beq_eq_false_iff_ne]; omega
                      clear hmA hlA
                      generalize S m = u at *
                      generalize S l = v at *
                      rcases St.ne_cases hne with g2 | ⟨g2, g3⟩ | ⟨g2, g3, g4⟩ | ⟨g2, g3, g4, g5⟩
                      all_goals clear hne
                      all_goals
                        go_wp2_with fail
                        go_quiet (fail)
                        go_wp2
                        go_roundw
                        case rel => exact ⟨l + 1, by go_num, by omega, hst2.out.drewN _⟩
                        case measure => simp [intOf]; omega
                  · have g1 : ((m : Int) == (A : Int) + (C : Int)) = false := by rw [beq_eq_false_iff_ne]; omega
                    have hne : S m ≠ S l := fun e => (unhide Hu).2.2 l m (by omega) (by omega) e.symm
                    clear hmA
                    generalize S m = u at *
                    generalize S l = v at *
                    rcases St.ne_cases hne with g2 | ⟨g2, g3⟩ | ⟨g2, g3, g4⟩ | ⟨g2, g3, g4, g5⟩
                    all_goals clear hne
                    all_goals
                      go_wp2_with fail
                      go_quiet (fail)
                      go_wp2
                      go_roundw
                      case rel => exact ⟨l + 1, by go_num, by omega, hst2.out.drewN _⟩
                      case measure => simp [intOf]; omega
                · obtain rfl : l = m := by omega
                  go_wp2
                  go_roundw
                  case rel => exact ⟨l + 1, by go_num, by omega, hst2⟩
                  case measure => simp [intOf]; omega
            · obtain ⟨c0, c1, c2, c3, c4, c5, d0, d1, d2, d3⟩ := ((unhide HPk).later (hst.out _)).cells
              have HP5 := hide ((unhide HPk).later (hst.out _))
              have HcM := hide (unhide Hc ((A : Int) + (C : Int) - 1))
              clear Hcell Hc hst HPk
              go_wp2_with fail
              refine (unhide HcM _).mono ?_
              rintro e w6 ⟨⟨a, b, er, rfl, hcyc⟩, hb6⟩
              have hlow := ((unhide HP5).later hb6).low
              have HL := hide hlow
              obtain ⟨u1, u2, u3⟩ := unhide Hu
              obtain rfl : er = 10 := by
                rcases hcyc with ⟨h, _⟩ | ⟨_, _, _, ⟨h, _⟩ | ⟨_, A2, C2, _, _, h1, h2, h3, _⟩⟩
                · rcases h with h | h | h
                  · omega
                  · omega
                  · rw [u1] at h; cases h
                · exact h
                · exact absurd h3.symm (unhide HX A2 (A2 + C2) (by omega) (by omega))
              clear hcyc hb6 hlow u1 u2 u3
              go_wp2
              go_ret
              exact ⟨rfl, unhide HL⟩
end Go.Proofs.Ytmddclgidccnhab
