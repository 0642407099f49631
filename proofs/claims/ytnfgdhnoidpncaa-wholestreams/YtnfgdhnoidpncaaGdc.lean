/- A guarded filter cleans a number and counts; what it tells. -/
import Derived.Test.YtnfgdhnoidpncaaGap
namespace Go.Proofs.Ytnfgdhnoidpncaa
open Go.RowKit

set_option maxRecDepth 100000 in
set_option maxHeartbeats 2000000 in
theorem dclean_any (B c : Nat) (gv lk sv : Value) (g : Gu) (x x' : Nat) (z : C2) (w : World) (hG : GCells w B gv lk sv g c) (hB : B < w.heap.size) (hx : CIs (.complex .f64 x x') z) (hc : c ≤ 9000000000000000000) :
    Calls Try.prog 43 #[.pointer (some ⟨B, 0, none⟩), .complex .f64 x x'] w fun e w' => ∃ r i, e = .returned (.complex .f64 r i) ∧ CIs (.complex .f64 r i) (cl2 g z).1 ∧ GCells w' B gv lk sv g (c + (cl2 g z).2) ∧ w.grownBy w' (some B) := by
  have Hc := hide (cleanC g hx)
  have hk := (cl2_count g z).1
  generalize cl2 g z = q at *
  obtain ⟨q, k⟩ := q
  dsimp only at *
  clear hx
  have HG := hide hG
  obtain ⟨fl, cp, mu⟩ := g
  unfold Gv at Hc
  dsimp only at Hc
  have c4 : w.cell? ⟨B, 4, none⟩ = some (.bool fl) := hG.2 4 _ rfl
  have c5 : w.cell? ⟨B, 5, none⟩ = some (.bool cp) := hG.2 5 _ rfl
  have c6 : w.cell? ⟨B, 6, none⟩ = some (.bool mu) := hG.2 6 _ rfl
  clear hG
  go_enter Try.func43, Try.ntmps43
  go_wp2_with fail
  refine (unhide Hc _).mono ?_
  rintro e w1 ⟨r, i, rfl, hq, hb1⟩
  have hG1 := (unhide HG).below hb1 hB
  have c7 : w1.cell? ⟨B, 7, none⟩ = some (.int .u64 c) := hG1.2 7 _ rfl
  have f7 : w1.frozen? ⟨B, 7, none⟩ = false := (hG1.1 7 (by omega)).2
  have H1 := hide (And.intro hq (And.intro hb1 hG1))
  clear hq hb1 hG1 c4 c5 c6
  go_wp2
  go_ret
  obtain ⟨hq, hb1, hG1⟩ := unhide H1
  refine ⟨r, i, rfl, hq, ?_, grown_setCells (o := 7) (cs := [.int .u64 ((c : Int) + (k : Int))]) (below_grown hb1 _)⟩
  have := hG1.set (c + k)
  rwa [Int.natCast_add] at this


set_option maxRecDepth 100000 in
set_option maxHeartbeats 1000000 in
theorem gstates_any (B L n cap c r r' : Nat) (sv : Value) (g : Gu) (sec : Nat → Sec) (st : Nat → C2 × C2) (w : World) (hG : GCells w B (.complex .f64 r r') (.slice (some ⟨L, 0, none⟩) n cap) sv g c) (hL : Links w L n sec st) (hn : n ≤ 16) (hLw : L < w.heap.size) :
    Calls Try.prog 24 #[.pointer (some ⟨B, 0, none⟩)] w fun e w' => ∃ A, e = .returned (.slice (some ⟨A, 0, none⟩) n n) ∧ w.heap.size ≤ A ∧ A < w'.heap.size ∧ StRow w' A n st ∧ Below w.heap.size w w' ∧ w'.there A 0 (n * 2) := by
  have Hs := hide (cstates_there B L n cap r r' sec st w (fun j v hv => hG.2 j v (by
    have hj : j < 2 := (List.getElem?_eq_some_iff.1 hv).1
    rcases (by omega : j = 0 ∨ j = 1) with rfl | rfl <;> exact hv)) hL hn hLw)
  clear hG hL
  go_enter Try.func24, Try.ntmps24
  go_wp2_with fail
  refine (unhide Hs).mono ?_
  rintro e w1 ⟨A, rfl, h1, h2, h3, h4, h5⟩
  have H := hide (And.intro h1 (And.intro h2 (And.intro h3 (And.intro h4 h5))))
  clear h1 h2 h3 h4 h5
  go_wp2
  go_ret
  obtain ⟨h1, h2, h3, h4, h5⟩ := unhide H
  exact ⟨A, rfl, h1, h2, h3, h4, h5⟩
end Go.Proofs.Ytnfgdhnoidpncaa
