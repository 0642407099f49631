/- NegQ. -/
import Derived.Test.YtlajalfdcfkmpaaXn
namespace Go.Proofs.Ytlajalfdcfkmpaa
open Go.RowKit Go.Maps

theorem slot_some {a : Act} {d : Nat} {b : Bool} (hv : a.eval (.tmp d) = .bool b) : a.tmps[d]? = some (.bool b) := by
  have hv' : a.tmps.getD d undef = .bool b := hv
  rw [Array.getD_eq_getD_getElem?] at hv'
  cases hx : a.tmps[d]? with
  | none => rw [hx] at hv'; cases hv'
  | some v => rw [hx] at hv'; exact congrArg some hv'
theorem wanted_none {ops : Array Oper} {a : Act} {o : Oper} (h : o.guard = none) : Region.wanted o (yielded ops a.tmps) = true := by simp [Region.wanted, h]
theorem wanted_yes {ops : Array Oper} {a : Act} {o p : Oper} {j d : Nat} (h : o.guard = some (j, true)) (hp : ops[j]? = some p) (hd : p.dst = some d) (hv : a.eval (.tmp d) = .bool true) : Region.wanted o (yielded ops a.tmps) = true := by
  have hg := slot_some hv
  simp [Region.wanted, h, yielded, hp, hd, hg]
theorem wanted_not {ops : Array Oper} {a : Act} {o p : Oper} {j d : Nat} (h : o.guard = some (j, true)) (hp : ops[j]? = some p) (hd : p.dst = some d) (hv : a.eval (.tmp d) = .bool false) : Region.wanted o (yielded ops a.tmps) = false := by
  have hg := slot_some hv
  simp [Region.wanted, h, yielded, hp, hd, hg]
section
variable {o : Oper} {a : Act} {w : World} {R : Value → World → Prop}
theorem okR_not {x : Operand} {p : Bool} (hop : o.op = .unOp .not 4 x) (hx : a.eval x = .bool p) (h : R (.bool (!p)) w) : StepOkR Try.prog o a w R := by
  refine .inl ⟨_, w, ?_, h⟩
  simp [execOp, hop, hx]
  go_simp
theorem okR_pickT {x y z : Operand} {v : Value} (hop : o.op = .pick x y z) (hx : a.eval x = .bool true) (hy : a.eval y = v) (h : R v w) : StepOkR Try.prog o a w R := by
  refine .inl ⟨_, w, ?_, h⟩
  simp [execOp, hop, hx, hy]
  go_simp
theorem okR_pickF {x y z : Operand} {v : Value} (hop : o.op = .pick x y z) (hx : a.eval x = .bool false) (hz : a.eval z = v) (h : R v w) : StepOkR Try.prog o a w R := by
  refine .inl ⟨_, w, ?_, h⟩
  simp [execOp, hop, hx, hz]
  go_simp
theorem okR_bQ {x y z : Operand} {p : Bool} {a1 a2 : Option Addr} {n1 c1 n2 c2 : Nat} (hop : o.op = .build 68 #[(0, x), (1, y), (2, z)]) (hx : a.eval x = .bool p) (hy : a.eval y = .slice a1 n1 c1) (hz : a.eval z = .slice a2 n2 c2) (h : R (.agg #[.bool p, .slice a1 n1 c1, .slice a2 n2 c2]) w) : StepOkR Try.prog o a w R := by
  refine .inl ⟨_, w, ?_, h⟩
  simp [execOp, hop, hx, hy, hz]
  go_simp
end
theorem enter_Zero (xs : Array Value) (w : World) : (callFunc 71 xs).run Try.prog w = .ok (.enter 71 xs) w := by go_simp
theorem two_blocks (w : World) (a b : Array Value) (t : TypeId) :
    Blk ((w.alloc (.cells a t)).alloc (.cells b t)) w.heap.size a t ∧ Blk ((w.alloc (.cells a t)).alloc (.cells b t)) (w.heap.size + 1) b t ∧ Below w.heap.size w ((w.alloc (.cells a t)).alloc (.cells b t)) := by
  have s1 : (w.alloc (.cells a t)).heap.size = w.heap.size + 1 := by simp
  have h1 : Blk (w.alloc (.cells a t)) w.heap.size a t := Blk.alloc
  have h2 : Blk ((w.alloc (.cells a t)).alloc (.cells b t)) (w.heap.size + 1) b t := by rw [← s1]; exact Blk.alloc
  have b1 := Joins.below_alloc1 w (.cells a t)
  have b2 := Joins.below_alloc1 (w.alloc (.cells a t)) (.cells b t)
  exact ⟨h1.below b2 h1.lt, h2, b1.trans (b2.mono b1.size)⟩
def negV (A : Nat) (zz : Bool) (p1 p2 : Option Addr) (m1 q1 m2 q2 : Nat) : Nat → Value → Prop
  | 3, v => v = .pointer (some ⟨A, 0, none⟩)
  | 4, v => v = .bool false
  | 5, v => v = .bool true
  | 6, v => v = .bool true
  | 7, v => v = .agg #[.bool false, .slice p1 m1 q1, .slice p2 m2 q2]
  | 8, v => v = .bool zz
  | 9, v => v = .bool (!zz)
  | 10, v => v = .bool (!zz)
  | 11, v => v = .pointer (some ⟨A, 1, none⟩)
  | 12, v => v = .slice p1 m1 q1
  | 13, v => v = .pointer (some ⟨A, 2, none⟩)
  | 14, v => v = .slice p2 m2 q2
  | 15, v => v = .agg #[.bool (!zz), .slice p1 m1 q1, .slice p2 m2 q2]
  | _, _ => True
def negW (A : Nat) (zz : Bool) (p1 p2 : Option Addr) (m1 q1 m2 q2 : Nat) : Nat → Value → Prop
  | 3, v => v = .pointer (some ⟨A, 0, none⟩)
  | 4, v => v = .bool true
  | 5, v => v = .bool false
  | 6, v => v = .bool false
  | 10, v => v = .bool (!zz)
  | 11, v => v = .pointer (some ⟨A, 1, none⟩)
  | 12, v => v = .slice p1 m1 q1
  | 13, v => v = .pointer (some ⟨A, 2, none⟩)
  | 14, v => v = .slice p2 m2 q2
  | 15, v => v = .agg #[.bool (!zz), .slice p1 m1 q1, .slice p2 m2 q2]
  | _, _ => True
theorem res_neg {w : World} {tmps : Array Value} {b : Nat} {c0 c1 c2 : Value} (h6 : tmps.getD 2 undef = .pointer (some ⟨b, 0, none⟩)) (hr : Blk w b #[c0, c1, c2] 68) :
    (results Try.f64 tmps).run Try.prog w = .ok (.agg #[c0, c1, c2]) w := by
  have hl := run_loadVar_mid (P := Try.prog) w b 0 68 [c0, c1, c2] _ hr.range Try.underlying68 rfl infoQ
  rw [Array.getD_eq_getD_getElem?] at h6
  simp [results, h6, asAddr, hl]
set_option maxRecDepth 100000 in
set_option maxHeartbeats 2000000 in
theorem neg_any {v : Value} {z : Int} {t : Nat} {w : World} (h : QA w v z t) :
    Calls Try.prog 64 #[v] w fun e w' => ∃ v', e = .returned v' ∧ QA w' v' (-z) t ∧ Below w.heap.size w w' := by
  have hk := h
  obtain ⟨vN, vD, rfl, hN, hD, hodd⟩ := h
  obtain ⟨p1, m1, q1, rfl, _⟩ := hN.form
  obtain ⟨p2, m2, q2, rfl, _⟩ := hD.form
  obtain ⟨A, hA⟩ : ∃ A, w.heap.size = A := ⟨_, rfl⟩
  obtain ⟨hBA, hBZ, hlw⟩ := two_blocks w #[.bool (decide (z < 0)), .slice p1 m1 q1, .slice p2 m2 q2] zQ 68
  obtain ⟨W, hW⟩ : ∃ W, W = (w.alloc (Obj.cells #[.bool (decide (z < 0)), .slice p1 m1 q1, .slice p2 m2 q2] 68)).alloc (Obj.cells zQ 68) := ⟨_, rfl⟩
  rw [← hW] at hBA hBZ hlw
  rw [hA] at hBA hBZ
  replace hN := hN.below hlw
  replace hD := hD.below hlw
  have hQ := hk.below hlw
  obtain ⟨Rel, hRelD⟩ : ∃ Rel : Int → Nat → Prop, Rel = fun z' t' => z' = -z ∧ t' = t := ⟨_, rfl⟩
  obtain ⟨zz, hzz0⟩ : ∃ zz, (!decide (-z < 0)) = zz := ⟨_, rfl⟩
  have hQR : ∀ w1, NA w1 (.slice p1 m1 q1) z.natAbs → NA w1 (.slice p2 m2 q2) (2 ^ t) → QR Rel w1 (.agg #[.bool (!zz), .slice p1 m1 q1, .slice p2 m2 q2]) := fun w1 a b => by
    refine ⟨-z, t, ⟨_, _, ?_, by rw [Int.natAbs_neg]; exact a, b, ?_⟩, by rw [hRelD]; exact ⟨rfl, rfl⟩⟩
    · rw [← hzz0, Bool.not_not]
    · rcases hodd with e | e
      · exact .inl e
      · exact .inr (by omega)
  by_cases h0 : z < 0
  · have hzz : zz = true := by rw [← hzz0]; simp; omega
    rw [decide_eq_true h0] at hBA hW hQ ⊢
    go_enter Try.func64, Try.ntmps64
    go_upto_region 1 with fail
    unfold zQ at hW
    rw [← hW]
    clear hW
    refine region_slotsG (negW A zz p1 p2 m1 q1 m2 q2) (kC W 13 [] (QF w (A + 1) Rel)) (by kernel_rfl) (by kernel_rfl) (by kernel_rfl) 16 (by kernel_rfl) rfl kC.start ?_ ?_
    · intro listed a w1 i o hI ho hsz hl hd
      have hi : i < 14 := by simpa using (Array.getElem?_eq_some_iff.1 ho).1
      have hsz' : listed.size = 14 := by simpa using hsz
      have e1 : a.eval (.tmp 1) = .pointer (some ⟨A, 0, none⟩) := (hI.base 1 (by kernel_rfl)).trans rfl
      have e2 : a.eval (.tmp 2) = .pointer (some ⟨A + 1, 0, none⟩) := (hI.base 2 (by kernel_rfl)).trans rfl
      have hc : kC W 13 [] (QF w (A + 1) Rel) listed a w1 := hI.world
      have l13 : listed.getD 13 false = false := hI.notYet hsz' 13 rfl (by kernel_rfl) hi hl
      obtain ⟨hB0, hps⟩ := hc.1 l13
      have kA := hBA.below hB0 hBA.lt
      have kZ := hBZ.below hB0 hBZ.lt
      rcases (by omega : i = 0 ∨ i = 1 ∨ i = 2 ∨ i = 3 ∨ i = 4 ∨ i = 5 ∨ i = 6 ∨ i = 7 ∨ i = 8 ∨ i = 9 ∨ i = 10 ∨ i = 11 ∨ i = 12 ∨ i = 13) with rfl | rfl | rfl | rfl | rfl | rfl | rfl | rfl | rfl | rfl | rfl | rfl | rfl | rfl
      all_goals obtain rfl := Option.some.inj ho
      · exact .inl ⟨wanted_none rfl, okR_field rfl e1 (fieldQ _ 0 (by decide) _) ⟨slotR rfl rfl, hc.same 0 rfl (by decide) (by simp)⟩⟩
      · have k1 := hI.slot 0 _ 3 rfl rfl (hd ⟨0, .data⟩ (by simp) rfl)
        exact .inl ⟨wanted_none rfl, okR_load rfl k1 (loadB _ _ _ (kA.cell 0 rfl)) ⟨slotR rfl rfl, hc.same 1 rfl (by decide) (by simp)⟩⟩
      · have k1 := hI.slot 1 _ 4 rfl rfl (hd ⟨1, .data⟩ (by simp) rfl)
        exact .inl ⟨wanted_none rfl, okR_not rfl k1 ⟨slotR rfl rfl, hc.same 2 rfl (by decide) (by simp)⟩⟩
      · have k1 := hI.slot 2 _ 5 rfl rfl (hd ⟨2, .data⟩ (by simp) rfl)
        exact .inl ⟨wanted_none rfl, okR_move rfl k1 ⟨slotR rfl rfl, hc.same 3 rfl (by decide) (by simp)⟩⟩
      · exact .inr ⟨wanted_not rfl rfl rfl (hI.slot 3 _ 6 rfl rfl (hd ⟨3, .guard⟩ (by simp) rfl)), slotR rfl trivial, hc.same 4 rfl (by decide) (by simp)⟩
      · exact .inr ⟨wanted_not rfl rfl rfl (hI.slot 3 _ 6 rfl rfl (hd ⟨3, .guard⟩ (by simp) rfl)), slotR rfl trivial, hc.same 5 rfl (by decide) (by simp)⟩
      · exact .inr ⟨wanted_not rfl rfl rfl (hI.slot 3 _ 6 rfl rfl (hd ⟨3, .guard⟩ (by simp) rfl)), slotR rfl trivial, hc.same 6 rfl (by decide) (by simp)⟩
      · have k1 := hI.slot 3 _ 6 rfl rfl (hd ⟨3, .data⟩ (by simp) rfl)
        exact .inl ⟨wanted_none rfl, okR_pickF rfl k1 rfl ⟨slotR rfl (by rw [hzz]; rfl), hc.same 7 rfl (by decide) (by simp)⟩⟩
      · exact .inl ⟨wanted_none rfl, okR_field rfl e1 (fieldQ _ 1 (by decide) _) ⟨slotR rfl rfl, hc.same 8 rfl (by decide) (by simp)⟩⟩
      · have k1 := hI.slot 8 _ 11 rfl rfl (hd ⟨8, .data⟩ (by simp) rfl)
        exact .inl ⟨wanted_none rfl, okR_load rfl k1 (loadL _ _ _ _ _ (kA.cell 1 rfl)) ⟨slotR rfl rfl, hc.same 9 rfl (by decide) (by simp)⟩⟩
      · exact .inl ⟨wanted_none rfl, okR_field rfl e1 (fieldQ _ 2 (by decide) _) ⟨slotR rfl rfl, hc.same 10 rfl (by decide) (by simp)⟩⟩
      · have k1 := hI.slot 10 _ 13 rfl rfl (hd ⟨10, .data⟩ (by simp) rfl)
        exact .inl ⟨wanted_none rfl, okR_load rfl k1 (loadL _ _ _ _ _ (kA.cell 2 rfl)) ⟨slotR rfl rfl, hc.same 11 rfl (by decide) (by simp)⟩⟩
      · have k1 := hI.slot 7 _ 10 rfl rfl (hd ⟨7, .data⟩ (by simp) rfl)
        have k2 := hI.slot 9 _ 12 rfl rfl (hd ⟨9, .data⟩ (by simp) rfl)
        have k3 := hI.slot 11 _ 14 rfl rfl (hd ⟨11, .data⟩ (by simp) rfl)
        exact .inl ⟨wanted_none rfl, okR_bQ rfl k1 k2 k3 ⟨slotR rfl rfl, hc.same 12 rfl (by decide) (by simp)⟩⟩
      · have k1 := hI.slot 12 _ 15 rfl rfl (hd ⟨12, .data⟩ (by simp) rfl)
        exact .inl ⟨wanted_none rfl, okR_store rfl e2 k1 (run_storeAt_mid w1 (A + 1) 0 68 #[.bool (!zz), .slice p1 m1 q1, .slice p2 m2 q2] kZ.there infoQ (by simp [Value.oneCell'])) ⟨slotN rfl, kC.last (by omega) (QF.store (hQR w1 (hN.below hB0) (hD.below hB0)) kZ (hlw.trans (hB0.mono hlw.size)) (by omega))⟩⟩
    · intro listed a' w9 hI hall
      obtain ⟨c0, c1', c2', hb, ⟨z', t', hq, hrel⟩, hlow⟩ := hI.world.2 (hall 13 (by decide))
      have E := hI.frame [3, 4, 5, 6, 7, 8, 9, 10, 11, 12, 13, 14, 15] (by kernel_rfl)
      simp only [putAll] at E
      generalize a'.eval (.tmp 3) = y3 at E
      generalize a'.eval (.tmp 4) = y4 at E
      generalize a'.eval (.tmp 5) = y5 at E
      generalize a'.eval (.tmp 6) = y6 at E
      generalize a'.eval (.tmp 7) = y7 at E
      generalize a'.eval (.tmp 8) = y8 at E
      generalize a'.eval (.tmp 9) = y9 at E
      generalize a'.eval (.tmp 10) = y10 at E
      generalize a'.eval (.tmp 11) = y11 at E
      generalize a'.eval (.tmp 12) = y12 at E
      generalize a'.eval (.tmp 13) = y13 at E
      generalize a'.eval (.tmp 14) = y14 at E
      generalize a'.eval (.tmp 15) = y15 at E
      simp only [Act.put, List.setIfInBounds_toArray, List.set_cons_zero, List.set_cons_succ] at E
      clear hI hall
      subst E
      have HH := hide (And.intro hb (And.intro hq (And.intro hrel hlow)))
      clear hb hq hrel hlow hBA hBZ hlw hN hD hQ hk
      go_wp2_with fail
      refine bodyPost_ret (res_neg rfl (unhide HH).1) rfl ?_
      obtain ⟨_, hq, hrel, hlow⟩ := unhide HH
      rw [hRelD] at hrel
      rw [hrel.1, hrel.2] at hq
      exact ⟨_, rfl, hq, by first | exact hlow | (rw [← hA]; exact hlow)⟩
  · have hzz : decide (z = 0) = zz := by rw [← hzz0, Bool.eq_iff_iff]; simp; omega
    rw [decide_eq_false h0] at hBA hW hQ ⊢
    go_enter Try.func64, Try.ntmps64
    go_upto_region 1 with fail
    unfold zQ at hW
    rw [← hW]
    clear hW
    refine region_slotsG (negV A zz p1 p2 m1 q1 m2 q2) (kC W 13 [] (QF w (A + 1) Rel)) (by kernel_rfl) (by kernel_rfl) (by kernel_rfl) 16 (by kernel_rfl) rfl kC.start ?_ ?_
    · intro listed a w1 i o hI ho hsz hl hd
      have hi : i < 14 := by simpa using (Array.getElem?_eq_some_iff.1 ho).1
      have hsz' : listed.size = 14 := by simpa using hsz
      have e1 : a.eval (.tmp 1) = .pointer (some ⟨A, 0, none⟩) := (hI.base 1 (by kernel_rfl)).trans rfl
      have e2 : a.eval (.tmp 2) = .pointer (some ⟨A + 1, 0, none⟩) := (hI.base 2 (by kernel_rfl)).trans rfl
      have hc : kC W 13 [] (QF w (A + 1) Rel) listed a w1 := hI.world
      have l13 : listed.getD 13 false = false := hI.notYet hsz' 13 rfl (by kernel_rfl) hi hl
      obtain ⟨hB0, hps⟩ := hc.1 l13
      have kA := hBA.below hB0 hBA.lt
      have kZ := hBZ.below hB0 hBZ.lt
      rcases (by omega : i = 0 ∨ i = 1 ∨ i = 2 ∨ i = 3 ∨ i = 4 ∨ i = 5 ∨ i = 6 ∨ i = 7 ∨ i = 8 ∨ i = 9 ∨ i = 10 ∨ i = 11 ∨ i = 12 ∨ i = 13) with rfl | rfl | rfl | rfl | rfl | rfl | rfl | rfl | rfl | rfl | rfl | rfl | rfl | rfl
      all_goals obtain rfl := Option.some.inj ho
      · exact .inl ⟨wanted_none rfl, okR_field rfl e1 (fieldQ _ 0 (by decide) _) ⟨slotR rfl rfl, hc.same 0 rfl (by decide) (by simp)⟩⟩
      · have k1 := hI.slot 0 _ 3 rfl rfl (hd ⟨0, .data⟩ (by simp) rfl)
        exact .inl ⟨wanted_none rfl, okR_load rfl k1 (loadB _ _ _ (kA.cell 0 rfl)) ⟨slotR rfl rfl, hc.same 1 rfl (by decide) (by simp)⟩⟩
      · have k1 := hI.slot 1 _ 4 rfl rfl (hd ⟨1, .data⟩ (by simp) rfl)
        exact .inl ⟨wanted_none rfl, okR_not rfl k1 ⟨slotR rfl rfl, hc.same 2 rfl (by decide) (by simp)⟩⟩
      · have k1 := hI.slot 2 _ 5 rfl rfl (hd ⟨2, .data⟩ (by simp) rfl)
        exact .inl ⟨wanted_none rfl, okR_move rfl k1 ⟨slotR rfl rfl, hc.same 3 rfl (by decide) (by simp)⟩⟩
      · exact .inl ⟨wanted_yes rfl rfl rfl (hI.slot 3 _ 6 rfl rfl (hd ⟨3, .guard⟩ (by simp) rfl)), okR_load rfl e1 (loadQ _ _ _ _ _ _ _ _ _ kA) ⟨slotR rfl rfl, hc.same 4 rfl (by decide) (by simp)⟩⟩
      · have k1 := hI.slot 4 _ 7 rfl rfl (hd ⟨4, .data⟩ (by simp) rfl)
        refine .inl ⟨wanted_yes rfl rfl rfl (hI.slot 3 _ 6 rfl rfl (hd ⟨3, .guard⟩ (by simp) rfl)), okR_call1 enter_Zero rfl k1 ((zero_any (hQ.below hB0)).mono ?_)⟩
        rintro e w' ⟨rfl, hB⟩
        exact ⟨_, rfl, slotR rfl (by rw [hzz]; rfl), hc.made l13 5 hI.size (show 8 < 16 by omega) rfl (by decide) hB (by simp) (by simp)⟩
      · have k1 := hI.slot 5 _ 8 rfl rfl (hd ⟨5, .data⟩ (by simp) rfl)
        exact .inl ⟨wanted_yes rfl rfl rfl (hI.slot 3 _ 6 rfl rfl (hd ⟨3, .guard⟩ (by simp) rfl)), okR_not rfl k1 ⟨slotR rfl rfl, hc.same 6 rfl (by decide) (by simp)⟩⟩
      · have k1 := hI.slot 3 _ 6 rfl rfl (hd ⟨3, .data⟩ (by simp) rfl)
        have k2 := hI.slot 6 _ 9 rfl rfl (hd ⟨6, .data⟩ (by simp) rfl)
        exact .inl ⟨wanted_none rfl, okR_pickT rfl k1 k2 ⟨slotR rfl rfl, hc.same 7 rfl (by decide) (by simp)⟩⟩
      · exact .inl ⟨wanted_none rfl, okR_field rfl e1 (fieldQ _ 1 (by decide) _) ⟨slotR rfl rfl, hc.same 8 rfl (by decide) (by simp)⟩⟩
      · have k1 := hI.slot 8 _ 11 rfl rfl (hd ⟨8, .data⟩ (by simp) rfl)
        exact .inl ⟨wanted_none rfl, okR_load rfl k1 (loadL _ _ _ _ _ (kA.cell 1 rfl)) ⟨slotR rfl rfl, hc.same 9 rfl (by decide) (by simp)⟩⟩
      · exact .inl ⟨wanted_none rfl, okR_field rfl e1 (fieldQ _ 2 (by decide) _) ⟨slotR rfl rfl, hc.same 10 rfl (by decide) (by simp)⟩⟩
      · have k1 := hI.slot 10 _ 13 rfl rfl (hd ⟨10, .data⟩ (by simp) rfl)
        exact .inl ⟨wanted_none rfl, okR_load rfl k1 (loadL _ _ _ _ _ (kA.cell 2 rfl)) ⟨slotR rfl rfl, hc.same 11 rfl (by decide) (by simp)⟩⟩
      · have k1 := hI.slot 7 _ 10 rfl rfl (hd ⟨7, .data⟩ (by simp) rfl)
        have k2 := hI.slot 9 _ 12 rfl rfl (hd ⟨9, .data⟩ (by simp) rfl)
        have k3 := hI.slot 11 _ 14 rfl rfl (hd ⟨11, .data⟩ (by simp) rfl)
        exact .inl ⟨wanted_none rfl, okR_bQ rfl k1 k2 k3 ⟨slotR rfl rfl, hc.same 12 rfl (by decide) (by simp)⟩⟩
      · have k1 := hI.slot 12 _ 15 rfl rfl (hd ⟨12, .data⟩ (by simp) rfl)
        exact .inl ⟨wanted_none rfl, okR_store rfl e2 k1 (run_storeAt_mid w1 (A + 1) 0 68 #[.bool (!zz), .slice p1 m1 q1, .slice p2 m2 q2] kZ.there infoQ (by simp [Value.oneCell'])) ⟨slotN rfl, kC.last (by omega) (QF.store (hQR w1 (hN.below hB0) (hD.below hB0)) kZ (hlw.trans (hB0.mono hlw.size)) (by omega))⟩⟩
    · intro listed a' w9 hI hall
      obtain ⟨c0, c1', c2', hb, ⟨z', t', hq, hrel⟩, hlow⟩ := hI.world.2 (hall 13 (by decide))
      have E := hI.frame [3, 4, 5, 6, 7, 8, 9, 10, 11, 12, 13, 14, 15] (by kernel_rfl)
      simp only [putAll] at E
      generalize a'.eval (.tmp 3) = y3 at E
      generalize a'.eval (.tmp 4) = y4 at E
      generalize a'.eval (.tmp 5) = y5 at E
      generalize a'.eval (.tmp 6) = y6 at E
      generalize a'.eval (.tmp 7) = y7 at E
      generalize a'.eval (.tmp 8) = y8 at E
      generalize a'.eval (.tmp 9) = y9 at E
      generalize a'.eval (.tmp 10) = y10 at E
      generalize a'.eval (.tmp 11) = y11 at E
      generalize a'.eval (.tmp 12) = y12 at E
      generalize a'.eval (.tmp 13) = y13 at E
      generalize a'.eval (.tmp 14) = y14 at E
      generalize a'.eval (.tmp 15) = y15 at E
      simp only [Act.put, List.setIfInBounds_toArray, List.set_cons_zero, List.set_cons_succ] at E
      clear hI hall
      subst E
      have HH := hide (And.intro hb (And.intro hq (And.intro hrel hlow)))
      clear hb hq hrel hlow hBA hBZ hlw hN hD hQ hk
      go_wp2_with fail
      refine bodyPost_ret (res_neg rfl (unhide HH).1) rfl ?_
      obtain ⟨_, hq, hrel, hlow⟩ := unhide HH
      rw [hRelD] at hrel
      rw [hrel.1, hrel.2] at hq
      exact ⟨_, rfl, hq, by first | exact hlow | (rw [← hA]; exact hlow)⟩
end Go.Proofs.Ytlajalfdcfkmpaa
