/- QuantWithin's walk. -/
import Derived.Test.YtmddclgidccnhaaQp
namespace Go.Proofs.Ytmddclgidccnhaa
open Go.ChangeShapes Go.WideShapes Go.ChangeAt Go.RowKit

def lowB (n : Int) : Bool := decide (-2147483648 ≤ n ∧ n ≤ 2147483647)
theorem lowB_of {n : Int} (h : i32 n) : lowB n = true := by unfold lowB; unfold i32 at h; simpa using h

set_option maxRecDepth 100000 in
theorem lawWithin_any (n : Int) (w : World) :
    Calls Try.prog 19 #[.int .i64 n] w fun e w' => e = .returned (.bool (lowB n)) ∧ w' = w := by
  by_cases h1 : -2147483648 ≤ n
  · by_cases h2 : n ≤ 2147483647
    · have Hk : Hid (lowB n = true) := by simp [Hid, lowB, h1, h2]
      go_enter Try.func19, Try.ntmps19
      go_wp2
      go_ret
      rw [unhide Hk]; exact ⟨rfl, rfl⟩
    · have Hk : Hid (lowB n = false) := by simp [Hid, lowB, h2]
      go_enter Try.func19, Try.ntmps19
      go_wp2
      go_ret
      rw [unhide Hk]; exact ⟨rfl, rfl⟩
  · have Hk : Hid (lowB n = false) := by simp [Hid, lowB, h1]
    go_enter Try.func19, Try.ntmps19
    go_wp2
    go_ret
    rw [unhide Hk]; exact ⟨rfl, rfl⟩

set_option maxRecDepth 100000 in
set_option maxHeartbeats 4000000 in
theorem qwithin_in (n b0 b1 b2 a1 a2 x1 x2 y1 y2 x y p q r s : Int) (o : Bool) (hn : 1 ≤ n ∧ n ≤ 31)
    (ly : lowB y = true) (lp : lowB p = true) (lq : lowB q = true) (lr : lowB r = true) (ls : lowB s = true)
    (ho : o = true → y = -2147483648 ∨ y = 2147483647)
    (hk : lowB x = true → lowB x1 = true → lowB y1 = true → p = x ∧ q = x1 ∧ r = y ∧ s = y1)
    (Hs : Hid (∀ w, Calls Try.prog 14 #[.agg #[.int .i64 n, .int .i64 b0, .int .i64 b1, .int .i64 b2, .int .i64 a1, .int .i64 a2], .agg #[.int .i64 x1, .int .i64 x2, .int .i64 y1, .int .i64 y2], .int .i64 x] w
      fun e w' => e = .returned (.tuple #[.int .i64 y, .agg #[.int .i64 p, .int .i64 q, .int .i64 r, .int .i64 s], .bool o]) ∧ Below w.heap.size w w'))
    (H0 : Hid (∀ w, ∃ p q r s, Calls Try.prog 14 #[.agg #[.int .i64 n, .int .i64 0, .int .i64 0, .int .i64 0, .int .i64 0, .int .i64 0], .agg #[.int .i64 x1, .int .i64 x2, .int .i64 y1, .int .i64 y2], .int .i64 x] w
      fun e w' => e = .returned (.tuple #[.int .i64 0, .agg #[.int .i64 p, .int .i64 q, .int .i64 r, .int .i64 s], .bool false]) ∧ Below w.heap.size w w')) (w : World) :
    Calls Try.prog 6 #[.agg #[.int .i64 n, .int .i64 b0, .int .i64 b1, .int .i64 b2, .int .i64 a1, .int .i64 a2], .agg #[.int .i64 x1, .int .i64 x2, .int .i64 y1, .int .i64 y2], .int .i64 x] w
      fun e w' => e = .returned (.bool true) ∧ Below w.heap.size w w' := by
  have Ly := hide (lawWithin_any y); rw [ly] at Ly
  have Lp := hide (lawWithin_any p); rw [lp] at Lp
  have Lq := hide (lawWithin_any q); rw [lq] at Lq
  have Lr := hide (lawWithin_any r); rw [lr] at Lr
  have Ls := hide (lawWithin_any s); rw [ls] at Ls
  have Hk := hide hk
  clear ly lp lq lr ls hk
  cases o
  · clear ho
    go_enter Try.func6, Try.ntmps6
    go_wp2_with fail
    refine (awake_any _).mono ?_
    rintro e w1 ⟨rfl, hb1⟩
    have P1 := hide ((PW.start w #[.int .i64 n, .int .i64 b0, .int .i64 b1, .int .i64 b2, .int .i64 a1, .int .i64 a2] #[.int .i64 x1, .int .i64 x2, .int .i64 y1, .int .i64 y2]).later hb1)
    clear hb1
    obtain ⟨c0, c1, c2, c3, c4, c5, d0, d1, d2, d3⟩ := (unhide P1).cells
    go_wp2_with fail
    refine (unhide Hs _).mono ?_
    rintro e w2 ⟨rfl, hb2⟩
    clear c0 c1 c2 c3 c4 c5 d0 d1 d2 d3
    go_wp2_with fail
    obtain ⟨A, hA⟩ : ∃ A, A = w2.heap.size := ⟨_, rfl⟩
    obtain ⟨W, hW⟩ : ∃ W, W = w2.alloc (Obj.cells #[.int .i64 p, .int .i64 q, .int .i64 r, .int .i64 s] 40) := ⟨_, rfl⟩
    rw [← hW, ← hA]
    have hP2 := (unhide P1).later (hb2.trans ((Below.refl _ w2).alloc hb2.size (Obj.cells #[.int .i64 p, .int .i64 q, .int .i64 r, .int .i64 s] 40)))
    rw [← hW] at hP2
    have hBA : Blk W A #[.int .i64 p, .int .i64 q, .int .i64 r, .int .i64 s] 40 := by rw [hW, hA]; exact Blk.alloc
    clear hA hW hb2 P1
    have k0 : W.cell? ⟨A, 0, none⟩ = some (.int .i64 p) := hBA.cell 0 rfl
    have k1 : W.cell? ⟨A, 1, none⟩ = some (.int .i64 q) := hBA.cell 1 rfl
    have k2 : W.cell? ⟨A, 2, none⟩ = some (.int .i64 r) := hBA.cell 2 rfl
    have k3 : W.cell? ⟨A, 3, none⟩ = some (.int .i64 s) := hBA.cell 3 rfl
    obtain ⟨c0, c1, c2, c3, c4, c5, d0, d1, d2, d3⟩ := hP2.cells
    have P2 := hide hP2
    have BA := hide hBA
    clear hP2 hBA
    refine (unhide Ly _).mono ?_
    rintro e w' ⟨rfl, rfl⟩
    go_wp2_with fail
    refine (unhide Lp _).mono ?_
    rintro e w' ⟨rfl, rfl⟩
    go_wp2_with fail
    refine (unhide Lq _).mono ?_
    rintro e w' ⟨rfl, rfl⟩
    go_wp2_with fail
    refine (unhide Lr _).mono ?_
    rintro e w' ⟨rfl, rfl⟩
    go_wp2_with fail
    refine (unhide Ls _).mono ?_
    rintro e w' ⟨rfl, rfl⟩
    go_wp2_with fail
    obtain ⟨p', q', r', s', H0'⟩ := unhide H0 w'
    refine H0'.mono ?_
    rintro e w3 ⟨rfl, hb3⟩
    clear H0'
    have hP3 := (unhide P2).later hb3
    have hBA3 := (unhide BA).below hb3 (unhide BA).lt
    clear k0 k1 k2 k3 c0 c1 c2 c3 c4 c5 d0 d1 d2 d3 P2 BA
    go_wp2_with fail
    obtain ⟨V, hV⟩ : ∃ V, V = w3.alloc (Obj.cells #[.int .i64 p', .int .i64 q', .int .i64 r', .int .i64 s'] 40) := ⟨_, rfl⟩
    rw [← hV]
    have hb4 : Below w3.heap.size w3 V := by rw [hV]; exact Joins.below_alloc1 _ _
    have hP4 := hP3.later hb4
    have hBA4 := hBA3.below hb4 hBA3.lt
    clear hV hb4 hP3 hBA3 hb3
    obtain ⟨c0, c1, c2, c3, c4, c5, d0, d1, d2, d3⟩ := hP4.cells
    have k0 : V.cell? ⟨A, 0, none⟩ = some (.int .i64 p) := hBA4.cell 0 rfl
    have k1 : V.cell? ⟨A, 1, none⟩ = some (.int .i64 q) := hBA4.cell 1 rfl
    have k2 : V.cell? ⟨A, 2, none⟩ = some (.int .i64 r) := hBA4.cell 2 rfl
    have k3 : V.cell? ⟨A, 3, none⟩ = some (.int .i64 s) := hBA4.cell 3 rfl
    have HL := hide hP4.low
    clear hP4 hBA4
    have Lx := hide (lawWithin_any x)
    cases hx : lowB x
    · rw [hx] at Lx
      refine (unhide Lx _).mono ?_
      rintro e w' ⟨rfl, rfl⟩
      go_wp2
      go_ret
      exact ⟨rfl, unhide HL⟩
    · rw [hx] at Lx
      refine (unhide Lx _).mono ?_
      rintro e w' ⟨rfl, rfl⟩
      go_wp2_with fail
      have Lx1 := hide (lawWithin_any x1)
      cases hx1 : lowB x1
      · rw [hx1] at Lx1
        refine (unhide Lx1 _).mono ?_
        rintro e w' ⟨rfl, rfl⟩
        go_wp2
        go_ret
        exact ⟨rfl, unhide HL⟩
      · rw [hx1] at Lx1
        refine (unhide Lx1 _).mono ?_
        rintro e w' ⟨rfl, rfl⟩
        go_wp2_with fail
        have Ly1 := hide (lawWithin_any y1)
        cases hy1 : lowB y1
        · rw [hy1] at Ly1
          refine (unhide Ly1 _).mono ?_
          rintro e w' ⟨rfl, rfl⟩
          go_wp2
          go_ret
          exact ⟨rfl, unhide HL⟩
        · rw [hy1] at Ly1
          refine (unhide Ly1 _).mono ?_
          rintro e w' ⟨rfl, rfl⟩
          obtain ⟨rfl, rfl, rfl, rfl⟩ := unhide Hk hx hx1 hy1
          go_wp2
          go_ret
          exact ⟨rfl, unhide HL⟩
  · rcases ho rfl with rfl | rfl
    · clear ho
      go_enter Try.func6, Try.ntmps6
      go_wp2_with fail
      refine (awake_any _).mono ?_
      rintro e w1 ⟨rfl, hb1⟩
      have P1 := hide ((PW.start w #[.int .i64 n, .int .i64 b0, .int .i64 b1, .int .i64 b2, .int .i64 a1, .int .i64 a2] #[.int .i64 x1, .int .i64 x2, .int .i64 y1, .int .i64 y2]).later hb1)
      clear hb1
      obtain ⟨c0, c1, c2, c3, c4, c5, d0, d1, d2, d3⟩ := (unhide P1).cells
      go_wp2_with fail
      refine (unhide Hs _).mono ?_
      rintro e w2 ⟨rfl, hb2⟩
      clear c0 c1 c2 c3 c4 c5 d0 d1 d2 d3
      go_wp2_with fail
      obtain ⟨A, hA⟩ : ∃ A, A = w2.heap.size := ⟨_, rfl⟩
      obtain ⟨W, hW⟩ : ∃ W, W = w2.alloc (Obj.cells #[.int .i64 p, .int .i64 q, .int .i64 r, .int .i64 s] 40) := ⟨_, rfl⟩
      rw [← hW, ← hA]
      have hP2 := (unhide P1).later (hb2.trans ((Below.refl _ w2).alloc hb2.size (Obj.cells #[.int .i64 p, .int .i64 q, .int .i64 r, .int .i64 s] 40)))
      rw [← hW] at hP2
      have hBA : Blk W A #[.int .i64 p, .int .i64 q, .int .i64 r, .int .i64 s] 40 := by rw [hW, hA]; exact Blk.alloc
      clear hA hW hb2 P1
      have k0 : W.cell? ⟨A, 0, none⟩ = some (.int .i64 p) := hBA.cell 0 rfl
      have k1 : W.cell? ⟨A, 1, none⟩ = some (.int .i64 q) := hBA.cell 1 rfl
      have k2 : W.cell? ⟨A, 2, none⟩ = some (.int .i64 r) := hBA.cell 2 rfl
      have k3 : W.cell? ⟨A, 3, none⟩ = some (.int .i64 s) := hBA.cell 3 rfl
      obtain ⟨c0, c1, c2, c3, c4, c5, d0, d1, d2, d3⟩ := hP2.cells
      have P2 := hide hP2
      have BA := hide hBA
      clear hP2 hBA
      refine (unhide Ly _).mono ?_
      rintro e w' ⟨rfl, rfl⟩
      go_wp2_with fail
      refine (unhide Lp _).mono ?_
      rintro e w' ⟨rfl, rfl⟩
      go_wp2_with fail
      refine (unhide Lq _).mono ?_
      rintro e w' ⟨rfl, rfl⟩
      go_wp2_with fail
      refine (unhide Lr _).mono ?_
      rintro e w' ⟨rfl, rfl⟩
      go_wp2_with fail
      refine (unhide Ls _).mono ?_
      rintro e w' ⟨rfl, rfl⟩
      go_wp2_with fail
      obtain ⟨p', q', r', s', H0'⟩ := unhide H0 w'
      refine H0'.mono ?_
      rintro e w3 ⟨rfl, hb3⟩
      clear H0'
      have hP3 := (unhide P2).later hb3
      have hBA3 := (unhide BA).below hb3 (unhide BA).lt
      clear k0 k1 k2 k3 c0 c1 c2 c3 c4 c5 d0 d1 d2 d3 P2 BA
      go_wp2_with fail
      obtain ⟨V, hV⟩ : ∃ V, V = w3.alloc (Obj.cells #[.int .i64 p', .int .i64 q', .int .i64 r', .int .i64 s'] 40) := ⟨_, rfl⟩
      rw [← hV]
      have hb4 : Below w3.heap.size w3 V := by rw [hV]; exact Joins.below_alloc1 _ _
      have hP4 := hP3.later hb4
      have hBA4 := hBA3.below hb4 hBA3.lt
      clear hV hb4 hP3 hBA3 hb3
      obtain ⟨c0, c1, c2, c3, c4, c5, d0, d1, d2, d3⟩ := hP4.cells
      have k0 : V.cell? ⟨A, 0, none⟩ = some (.int .i64 p) := hBA4.cell 0 rfl
      have k1 : V.cell? ⟨A, 1, none⟩ = some (.int .i64 q) := hBA4.cell 1 rfl
      have k2 : V.cell? ⟨A, 2, none⟩ = some (.int .i64 r) := hBA4.cell 2 rfl
      have k3 : V.cell? ⟨A, 3, none⟩ = some (.int .i64 s) := hBA4.cell 3 rfl
      have HL := hide hP4.low
      clear hP4 hBA4
      have Lx := hide (lawWithin_any x)
      cases hx : lowB x
      · rw [hx] at Lx
        refine (unhide Lx _).mono ?_
        rintro e w' ⟨rfl, rfl⟩
        go_wp2
        go_ret
        exact ⟨rfl, unhide HL⟩
      · rw [hx] at Lx
        refine (unhide Lx _).mono ?_
        rintro e w' ⟨rfl, rfl⟩
        go_wp2_with fail
        have Lx1 := hide (lawWithin_any x1)
        cases hx1 : lowB x1
        · rw [hx1] at Lx1
          refine (unhide Lx1 _).mono ?_
          rintro e w' ⟨rfl, rfl⟩
          go_wp2
          go_ret
          exact ⟨rfl, unhide HL⟩
        · rw [hx1] at Lx1
          refine (unhide Lx1 _).mono ?_
          rintro e w' ⟨rfl, rfl⟩
          go_wp2_with fail
          have Ly1 := hide (lawWithin_any y1)
          cases hy1 : lowB y1
          · rw [hy1] at Ly1
            refine (unhide Ly1 _).mono ?_
            rintro e w' ⟨rfl, rfl⟩
            go_wp2
            go_ret
            exact ⟨rfl, unhide HL⟩
          · rw [hy1] at Ly1
            refine (unhide Ly1 _).mono ?_
            rintro e w' ⟨rfl, rfl⟩
            obtain ⟨rfl, rfl, rfl, rfl⟩ := unhide Hk hx hx1 hy1
            go_wp2
            go_ret
            exact ⟨rfl, unhide HL⟩
    · clear ho
      go_enter Try.func6, Try.ntmps6
      go_wp2_with fail
      refine (awake_any _).mono ?_
      rintro e w1 ⟨rfl, hb1⟩
      have P1 := hide ((PW.start w #[.int .i64 n, .int .i64 b0, .int .i64 b1, .int .i64 b2, .int .i64 a1, .int .i64 a2] #[.int .i64 x1, .int .i64 x2, .int .i64 y1, .int .i64 y2]).later hb1)
      clear hb1
      obtain ⟨c0, c1, c2, c3, c4, c5, d0, d1, d2, d3⟩ := (unhide P1).cells
      go_wp2_with fail
      refine (unhide Hs _).mono ?_
      rintro e w2 ⟨rfl, hb2⟩
      clear c0 c1 c2 c3 c4 c5 d0 d1 d2 d3
      go_wp2_with fail
      obtain ⟨A, hA⟩ : ∃ A, A = w2.heap.size := ⟨_, rfl⟩
      obtain ⟨W, hW⟩ : ∃ W, W = w2.alloc (Obj.cells #[.int .i64 p, .int .i64 q, .int .i64 r, .int .i64 s] 40) := ⟨_, rfl⟩
      rw [← hW, ← hA]
      have hP2 := (unhide P1).later (hb2.trans ((Below.refl _ w2).alloc hb2.size (Obj.cells #[.int .i64 p, .int .i64 q, .int .i64 r, .int .i64 s] 40)))
      rw [← hW] at hP2
      have hBA : Blk W A #[.int .i64 p, .int .i64 q, .int .i64 r, .int .i64 s] 40 := by rw [hW, hA]; exact Blk.alloc
      clear hA hW hb2 P1
      have k0 : W.cell? ⟨A, 0, none⟩ = some (.int .i64 p) := hBA.cell 0 rfl
      have k1 : W.cell? ⟨A, 1, none⟩ = some (.int .i64 q) := hBA.cell 1 rfl
      have k2 : W.cell? ⟨A, 2, none⟩ = some (.int .i64 r) := hBA.cell 2 rfl
      have k3 : W.cell? ⟨A, 3, none⟩ = some (.int .i64 s) := hBA.cell 3 rfl
      obtain ⟨c0, c1, c2, c3, c4, c5, d0, d1, d2, d3⟩ := hP2.cells
      have P2 := hide hP2
      have BA := hide hBA
      clear hP2 hBA
      refine (unhide Ly _).mono ?_
      rintro e w' ⟨rfl, rfl⟩
      go_wp2_with fail
      refine (unhide Lp _).mono ?_
      rintro e w' ⟨rfl, rfl⟩
      go_wp2_with fail
      refine (unhide Lq _).mono ?_
      rintro e w' ⟨rfl, rfl⟩
      go_wp2_with fail
      refine (unhide Lr _).mono ?_
      rintro e w' ⟨rfl, rfl⟩
      go_wp2_with fail
      refine (unhide Ls _).mono ?_
      rintro e w' ⟨rfl, rfl⟩
      go_wp2_with fail
      obtain ⟨p', q', r', s', H0'⟩ := unhide H0 w'
      refine H0'.mono ?_
      rintro e w3 ⟨rfl, hb3⟩
      clear H0'
      have hP3 := (unhide P2).later hb3
      have hBA3 := (unhide BA).below hb3 (unhide BA).lt
      clear k0 k1 k2 k3 c0 c1 c2 c3 c4 c5 d0 d1 d2 d3 P2 BA
      go_wp2_with fail
      obtain ⟨V, hV⟩ : ∃ V, V = w3.alloc (Obj.cells #[.int .i64 p', .int .i64 q', .int .i64 r', .int .i64 s'] 40) := ⟨_, rfl⟩
      rw [← hV]
      have hb4 : Below w3.heap.size w3 V := by rw [hV]; exact Joins.below_alloc1 _ _
      have hP4 := hP3.later hb4
      have hBA4 := hBA3.below hb4 hBA3.lt
      clear hV hb4 hP3 hBA3 hb3
      obtain ⟨c0, c1, c2, c3, c4, c5, d0, d1, d2, d3⟩ := hP4.cells
      have k0 : V.cell? ⟨A, 0, none⟩ = some (.int .i64 p) := hBA4.cell 0 rfl
      have k1 : V.cell? ⟨A, 1, none⟩ = some (.int .i64 q) := hBA4.cell 1 rfl
      have k2 : V.cell? ⟨A, 2, none⟩ = some (.int .i64 r) := hBA4.cell 2 rfl
      have k3 : V.cell? ⟨A, 3, none⟩ = some (.int .i64 s) := hBA4.cell 3 rfl
      have HL := hide hP4.low
      clear hP4 hBA4
      have Lx := hide (lawWithin_any x)
      cases hx : lowB x
      · rw [hx] at Lx
        refine (unhide Lx _).mono ?_
        rintro e w' ⟨rfl, rfl⟩
        go_wp2
        go_ret
        exact ⟨rfl, unhide HL⟩
      · rw [hx] at Lx
        refine (unhide Lx _).mono ?_
        rintro e w' ⟨rfl, rfl⟩
        go_wp2_with fail
        have Lx1 := hide (lawWithin_any x1)
        cases hx1 : lowB x1
        · rw [hx1] at Lx1
          refine (unhide Lx1 _).mono ?_
          rintro e w' ⟨rfl, rfl⟩
          go_wp2
          go_ret
          exact ⟨rfl, unhide HL⟩
        · rw [hx1] at Lx1
          refine (unhide Lx1 _).mono ?_
          rintro e w' ⟨rfl, rfl⟩
          go_wp2_with fail
          have Ly1 := hide (lawWithin_any y1)
          cases hy1 : lowB y1
          · rw [hy1] at Ly1
            refine (unhide Ly1 _).mono ?_
            rintro e w' ⟨rfl, rfl⟩
            go_wp2
            go_ret
            exact ⟨rfl, unhide HL⟩
          · rw [hy1] at Ly1
            refine (unhide Ly1 _).mono ?_
            rintro e w' ⟨rfl, rfl⟩
            obtain ⟨rfl, rfl, rfl, rfl⟩ := unhide Hk hx hx1 hy1
            go_wp2
            go_ret
            exact ⟨rfl, unhide HL⟩
end Go.Proofs.Ytmddclgidccnhaa
