/- What a filter at work keeps in memory, and what its Step does. -/
import Derived.Test.YteoglcelgcjpoaaRst
namespace Go.Proofs.Yteoglcelgcjpoaa
open Go.RowKit

/-- The links of a filter at work: n sections and what they keep, in block L. -/
def Links (w : World) (L n : Nat) (sec : Nat → Sec) (st : Nat → C2 × C2) : Prop :=
  w.there L 0 (n * 7) ∧ ∀ i, i < n → ∃ u0 u1 u2 u3 u4 p q, w.rangeAt L (i * 7) [u0, u1, u2, u3, u4, p, q] ∧ CIs u0 (sec i).b0 ∧ CIs u1 (sec i).b1 ∧ CIs u2 (sec i).b2 ∧ CIs u3 (sec i).a1 ∧ CIs u4 (sec i).a2 ∧ CIs p (st i).1 ∧ CIs q (st i).2
/-- The number behind k sections. -/
def yAt (sec : Nat → Sec) (st : Nat → C2 × C2) (x : C2) : Nat → C2
  | 0 => x
  | k + 1 => rY (sec k) (st k).1 (yAt sec st x k)
/-- What section k keeps then. -/
def stAt (sec : Nat → Sec) (st : Nat → C2 × C2) (x : C2) (k : Nat) : C2 × C2 := (rS1 (sec k) (st k).2 (yAt sec st x k) (yAt sec st x (k + 1)), rS2 (sec k) (yAt sec st x k) (yAt sec st x (k + 1)))
def upTo (sec : Nat → Sec) (st : Nat → C2 × C2) (x : C2) (k : Nat) : Nat → C2 × C2 := fun i => if i < k then stAt sec st x i else st i

theorem Links.grown {w w' : World} {L n : Nat} {sec : Nat → Sec} {st : Nat → C2 × C2} {row : Option Nat} (h : Links w L n sec st) (hg : w.grownBy w' row) (hL : L < w.heap.size) (hne : some L ≠ row) : Links w' L n sec st := by
  have hb := hg.block L hL hne
  refine ⟨fun j hj => ?_, fun i hi => ?_⟩
  · rw [World.cell?_of_block (w := w) hb, World.frozen?_of_block (w := w) hb]; exact h.1 j hj
  · obtain ⟨u0, u1, u2, u3, u4, p, q, hr, hh⟩ := h.2 i hi
    exact ⟨u0, u1, u2, u3, u4, p, q, fun j v hv => by rw [World.cell?_of_block (w := w) hb]; exact hr j v hv, hh⟩
theorem Links.still {w w' : World} {L n : Nat} {sec : Nat → Sec} {st : Nat → C2 × C2} (h : Links w L n sec st) (hs : Still w w') : Links w' L n sec st := by
  refine ⟨hs.there h.1, fun i hi => ?_⟩
  obtain ⟨u0, u1, u2, u3, u4, p, q, hr, hh⟩ := h.2 i hi
  exact ⟨u0, u1, u2, u3, u4, p, q, hs.range hr, hh⟩
theorem Links.below {w w' : World} {L n : Nat} {sec : Nat → Sec} {st : Nat → C2 × C2} (h : Links w L n sec st) (hb : Below w.heap.size w w') (hL : L < w.heap.size) : Links w' L n sec st :=
  h.grown (row := none) ⟨hb.os, hb.tape, hb.output, hb.size, fun k hk _ => hb.block k hk⟩ hL (by simp)
theorem below_grown {w w' : World} (hb : Below w.heap.size w w') (row : Option Nat) : w.grownBy w' row := ⟨hb.os, hb.tape, hb.output, hb.size, fun k hk _ => hb.block k hk⟩
theorem there_part {w : World} {b n o m : Nat} (h : w.there b 0 n) (ho : o + m ≤ n) : w.there b o m := fun j hj => by
  have := h (o + j) (by omega)
  rwa [Nat.zero_add] at this
theorem Links.set {w : World} {L n : Nat} {sec : Nat → Sec} {st : Nat → C2 × C2} (h : Links w L n sec st) {k : Nat} (hk : k < n) {u v : Value} {z1 z2 : C2} (hu : CIs u z1) (hv : CIs v z2) :
    Links (w.setCells L (k * 7 + 5) [u, v]) L n sec (fun i => if i = k then (z1, z2) else st i) := by
  refine ⟨there_set h.1, fun i hi => ?_⟩
  obtain ⟨u0, u1, u2, u3, u4, p, q, hr, g0, g1, g2, g3, g4, g5, g6⟩ := h.2 i hi
  have ht : w.there L (k * 7 + 5) 2 := there_part h.1 (by omega)
  by_cases hik : i = k
  · subst hik
    refine ⟨u0, u1, u2, u3, u4, u, v, fun j x hx => ?_, g0, g1, g2, g3, g4, by simpa using hu, by simpa using hv⟩
    by_cases hj : j < 5
    · rw [World.cell?_setCells_out L [u, v] _ w ⟨L, i * 7 + j, none⟩ (fun _ _ => .inl (by show i * 7 + j < i * 7 + 5; omega))]
      refine hr j x ?_
      rcases (by omega : j = 0 ∨ j = 1 ∨ j = 2 ∨ j = 3 ∨ j = 4) with rfl | rfl | rfl | rfl | rfl <;> exact hx
    · have hs := World.rangeAt_setCells_same w L (i * 7 + 5) [u, v] ht
      have hj7 : j < 7 := (List.getElem?_eq_some_iff.1 hx).1
      rcases (by omega : j = 5 ∨ j = 6) with rfl | rfl
      · exact hs 0 x hx
      · exact hs 1 x hx
  · refine ⟨u0, u1, u2, u3, u4, p, q, World.rangeAt_setCells_apart hr L _ _ (.inr ?_), g0, g1, g2, g3, g4, by simpa [hik] using g5, by simpa [hik] using g6⟩
    simp only [List.length_cons, List.length_nil]
    omega
theorem upTo_succ (sec : Nat → Sec) (st : Nat → C2 × C2) (x : C2) (k : Nat) : upTo sec st x (k + 1) = fun i => if i = k then stAt sec st x k else upTo sec st x k i := by
  funext i
  unfold upTo
  by_cases h : i = k
  · subst h; simp
  · by_cases h2 : i < k
    · rw [if_pos (by omega), if_neg h, if_pos h2]
    · rw [if_neg (by omega), if_neg h, if_neg h2]
theorem upTo_zero (sec : Nat → Sec) (st : Nat → C2 × C2) (x : C2) : upTo sec st x 0 = st := by
  funext i; unfold upTo; rw [if_neg (by omega)]

theorem run_store_c (a : Addr) (x y : Nat) (m : Mode) (w : World) : (store a (.complex .f64 x y) m).run Try.prog w = stored Try.prog w a (.complex .f64 x y) m := run_store Try.prog w a _ m rfl
theorem field_link0 (b off : Nat) (w : World) : (Instr.fieldAt 66 (.pointer (some ⟨b, off, none⟩)) 0).run Try.prog w = .ok (.pointer (some ⟨b, off, none⟩)) w := by go_simp
theorem field_link1 (b off : Nat) (w : World) : (Instr.fieldAt 66 (.pointer (some ⟨b, off, none⟩)) 1).run Try.prog w = .ok (.pointer (some ⟨b, off + 5, none⟩)) w := by go_simp
theorem field_casc0 (b : Nat) (w : World) : (Instr.fieldAt 64 (.pointer (some ⟨b, 0, none⟩)) 0).run Try.prog w = .ok (.pointer (some ⟨b, 0, none⟩)) w := by go_simp
theorem field_casc1 (b : Nat) (w : World) : (Instr.fieldAt 64 (.pointer (some ⟨b, 0, none⟩)) 1).run Try.prog w = .ok (.pointer (some ⟨b, 1, none⟩)) w := by go_simp
theorem load_links (p : Addr) (a : Option Addr) (n c : Nat) (w : World) (h : w.cell? p = some (.slice a n c)) : (Instr.loadAt 62 (.pointer (some p))).run Try.prog w = .ok (.slice a n c) w := by go_simp
theorem index_links (L n c k : Nat) (w : World) (h : k < n) (_hn : n ≤ 100) : (Instr.indexAt 62 (.slice (some ⟨L, 0, none⟩) n c) (.int .i64 k)).run Try.prog w = .ok (.pointer (some ⟨L, k * 7, none⟩)) w := by
  have h' : (k : Int) < (n : Int) := by omega
  go_simp

section
variable {o : Oper} {a : Act} {w : World} {V : Nat → Value → Prop} {C : World → Prop} {d : Nat}
theorem ok_nil {x : Operand} {p : Addr} (hop : o.op = .nilCheck x) (hd : o.dst = some d) (he : a.eval x = .pointer (some p)) (hV : V d (.pointer (some p))) (hC : C w) :
    StepOk Try.prog o a w (fun v => ∀ d, o.dst = some d → V d v) C :=
  .inl ⟨_, w, by simp [execOp, hop, he], slot_of hd hV, hC⟩
theorem ok_extract0 {x : Operand} {u v : Value} (hop : o.op = .extract x 0) (hd : o.dst = some d) (he : a.eval x = .tuple #[u, v]) (hV : V d u) (hC : C w) :
    StepOk Try.prog o a w (fun v => ∀ d, o.dst = some d → V d v) C :=
  .inl ⟨u, w, by simp [execOp, hop, he, Instr.extract], slot_of hd hV, hC⟩
theorem ok_extract1 {x : Operand} {u v : Value} (hop : o.op = .extract x 1) (hd : o.dst = some d) (he : a.eval x = .tuple #[u, v]) (hV : V d v) (hC : C w) :
    StepOk Try.prog o a w (fun v => ∀ d, o.dst = some d → V d v) C :=
  .inl ⟨v, w, by simp [execOp, hop, he, Instr.extract], slot_of hd hV, hC⟩
theorem ok_index {x y : Operand} {u v r : Value} {t : TypeId} (hop : o.op = .indexAddr t x y) (hd : o.dst = some d) (hx : a.eval x = u) (hy : a.eval y = v) (hr : (Instr.indexAt t u v).run Try.prog w = .ok r w) (hV : V d r) (hC : C w) :
    StepOk Try.prog o a w (fun v => ∀ d, o.dst = some d → V d v) C :=
  .inl ⟨r, w, by simp [execOp, hop, hx, hy, hr], slot_of hd hV, hC⟩
theorem ok_rstep {x y z : Operand} {u v r : Value} {tys : Array TypeId} (hop : o.op = .call { callee := .value (.func 23), args := #[x, y, z], argTypes := tys }) (hd : o.dst = some d) (hx : a.eval x = u) (hy : a.eval y = v) (hz : a.eval z = r)
    (hc : Calls Try.prog 23 #[u, v, r] w fun e w' => ∃ v, e = .returned v ∧ V d v ∧ C w') : StepOk Try.prog o a w (fun v => ∀ d, o.dst = some d → V d v) C := by
  refine .inr (.inr ⟨23, #[a.eval x, a.eval y, a.eval z], ?_, ?_⟩)
  · simp [execOp, hop]
    go_simp
  · rw [hx, hy, hz]
    exact hc.mono fun e w' ⟨v, h1, h2, h3⟩ => ⟨v, h1, slot_of hd h2, h3⟩
end

/-- What the slots of the region that steps come to hold. -/
def cV (B L n cap N k : Nat) (u5 : Value) (se st : Value) (zy z1 z2 : C2) : Nat → Value → Prop
  | 27, v => v = .pointer (some ⟨B, 0, none⟩)
  | 28, v => v = .pointer (some ⟨B, 0, none⟩)
  | 29, v => v = .pointer (some ⟨B, 1, none⟩)
  | 30, v => v = .slice (some ⟨L, 0, none⟩) n cap
  | 31, v => v = .int .i64 k
  | 32, v => v = .pointer (some ⟨N, 0, none⟩)
  | 33, v => v = se
  | 34, v => v = .pointer (some ⟨N, 5, none⟩)
  | 35, v => v = st
  | 36, v => v = u5
  | 37, v => ∃ y p q, v = .tuple #[y, .agg #[p, q]] ∧ CIs y zy ∧ CIs p z1 ∧ CIs q z2
  | 26, v => ∃ y p q, v = .tuple #[y, .agg #[p, q]] ∧ CIs y zy ∧ CIs p z1 ∧ CIs q z2
  | 38, v => CIs v zy
  | 39, v => ∃ p q, v = .agg #[p, q] ∧ CIs p z1 ∧ CIs q z2
  | 5, v => CIs v zy
  | 40, v => v = .pointer (some ⟨L, k * 7, none⟩)
  | 41, v => v = .pointer (some ⟨L, k * 7 + 5, none⟩)
  | _, _ => True
def cC (W : World) (L n k : Nat) (sec : Nat → Sec) (st : Nat → C2 × C2) (x : C2) (listed : Array Bool) (w : World) : Prop :=
  W.grownBy w (some L) ∧ Links w L n sec (if listed.getD 17 false then upTo sec st x (k + 1) else upTo sec st x k)
theorem cC.same {W w : World} {L n k : Nat} {sec : Nat → Sec} {st : Nat → C2 × C2} {x : C2} {listed : Array Bool} (h : cC W L n k sec st x listed w) (i : Nat) (hi : i ≠ 17) : cC W L n k sec st x (listed.setIfInBounds i true) w := by
  unfold cC
  rw [getD_set_ne false hi]
  exact h

set_option maxRecDepth 100000 in
set_option maxHeartbeats 2000000 in
theorem cstep_any (B L n cap g g' x x' : Nat) (G X : C2) (sec : Nat → Sec) (st : Nat → C2 × C2) (w : World) (hB : w.rangeAt B 0 [.complex .f64 g g', .slice (some ⟨L, 0, none⟩) n cap])
    (hg : CIs (.complex .f64 g g') G) (hx : CIs (.complex .f64 x x') X) (hL : Links w L n sec st) (hne : B ≠ L) (hn : n ≤ 16) (hLw : L < w.heap.size) :
    Calls Try.prog 12 #[.pointer (some ⟨B, 0, none⟩), .complex .f64 x x'] w fun e w' => ∃ y, e = .returned y ∧ CIs y (yAt sec st (cmul G X) n) ∧ Links w' L n sec (upTo sec st (cmul G X) n) ∧ w.grownBy w' (some L) := by
  have Hm := hide (mulC hg hx)
  have c0 : w.cell? ⟨B, 0, none⟩ = some (.complex .f64 g g') := hB 0 _ rfl
  have c1 : w.cell? ⟨B, 1, none⟩ = some (.slice (some ⟨L, 0, none⟩) n cap) := hB 1 _ rfl
  have H1 := hide c1
  have HL := hide hL
  clear hL hB
  go_enter Try.func12, Try.ntmps12
  go_wp2_with fail
  refine (unhide Hm _).mono ?_
  rintro e w1 ⟨y0, rfl, hy0, hs0⟩
  have c1' : w1.cell? ⟨B, 1, none⟩ = some (.slice (some ⟨L, 0, none⟩) n cap) := by rw [hs0.cell]; exact unhide H1
  go_wp2_with fail
  clear Hm
  go_loopw [5, 21] (fun y i wr => ∃ k : Nat, k ≤ n ∧ i = .int .i64 k ∧ CIs y (yAt sec st (cmul G X) k) ∧ Links wr L n sec (upTo sec st (cmul G X) k) ∧ w.grownBy wr (some L))
    (fun _ i _ => n - (intOf i).toNat)
  case atStart => exact ⟨0, Nat.zero_le _, rfl, hy0, by rw [upTo_zero]; exact (unhide HL).still hs0, hs0.grown _⟩
  case round =>
    obtain ⟨k, hk, rfl, hy, hLk, hgr⟩ := hrel
    by_cases hkn : k < n
    · have hkn' : (k : Int) < (n : Int) := by omega
      obtain ⟨v0, v1, v2, v3, v4, p, q, hra, i0, i1, i2, i3, i4, ip, iq⟩ := hLk.2 k hkn
      have hst : upTo sec st (cmul G X) k k = st k := by unfold upTo; rw [if_neg (by omega)]
      rw [hst] at ip iq
      obtain ⟨b0, b0', rfl, _⟩ := id i0
      obtain ⟨b1, b1', rfl, _⟩ := id i1
      obtain ⟨b2, b2', rfl, _⟩ := id i2
      obtain ⟨a1, a1', rfl, _⟩ := id i3
      obtain ⟨a2, a2', rfl, _⟩ := id i4
      obtain ⟨s, s', rfl, _⟩ := id ip
      obtain ⟨t, t', rfl, _⟩ := id iq
      obtain ⟨z, z', rfl, _⟩ := id hy
      have l0 : wr.cell? ⟨L, k * 7, none⟩ = some (.complex .f64 b0 b0') := hra 0 _ rfl
      have l1 : wr.cell? ⟨L, k * 7 + 1, none⟩ = some (.complex .f64 b1 b1') := hra 1 _ rfl
      have l2 : wr.cell? ⟨L, k * 7 + 2, none⟩ = some (.complex .f64 b2 b2') := hra 2 _ rfl
      have l3 : wr.cell? ⟨L, k * 7 + 3, none⟩ = some (.complex .f64 a1 a1') := hra 3 _ rfl
      have l4 : wr.cell? ⟨L, k * 7 + 4, none⟩ = some (.complex .f64 a2 a2') := hra 4 _ rfl
      have l5 : wr.cell? ⟨L, k * 7 + 5, none⟩ = some (.complex .f64 s s') := hra 5 _ rfl
      have l6 : wr.cell? ⟨L, k * 7 + 6, none⟩ = some (.complex .f64 t t') := hra 6 _ rfl
      have Hr := hide (rstep_any b0 b0' b1 b1' b2 b2' a1 a1' a2 a2' s s' t t' z z' (sec k) (st k).1 (st k).2 (yAt sec st (cmul G X) k) i0 i1 i2 i3 i4 ip iq hy)
      clear i0 i1 i2 i3 i4 ip iq hy hra
      have hsc := run_store_c
      go_wp2_with fail
      rename_i K hK
      have HK := hide hK
      clear hK l0 l1 l2 l3 l4 l5 l6 hsc c1'
      obtain ⟨W, hW⟩ : ∃ W, W = wr.alloc (Obj.cells #[.complex .f64 b0 b0', .complex .f64 b1 b1', .complex .f64 b2 b2', .complex .f64 a1 a1', .complex .f64 a2 a2', .complex .f64 s s', .complex .f64 t t'] 66) := ⟨_, rfl⟩
      rw [← hW]
      have hLr : L < wr.heap.size := Nat.lt_of_lt_of_le hLw hgr.size
      have hsW : W.heap.size = wr.heap.size + 1 := by rw [hW]; simp
      have hgW : wr.grownBy W (some L) := by rw [hW]; exact World.grownBy_alloc _ _ _
      have hLW : Links W L n sec (upTo sec st (cmul G X) k) := by rw [hW]; exact hLk.grown (World.grownBy_alloc _ _ none) hLr (by simp)
      have m0 : W.rangeAt wr.heap.size 0 [.complex .f64 b0 b0', .complex .f64 b1 b1', .complex .f64 b2 b2', .complex .f64 a1 a1', .complex .f64 a2 a2'] := by
        intro j v hv
        have hj : j < 5 := (List.getElem?_eq_some_iff.1 hv).1
        rw [hW]
        rcases (by omega : j = 0 ∨ j = 1 ∨ j = 2 ∨ j = 3 ∨ j = 4) with rfl | rfl | rfl | rfl | rfl <;> (obtain rfl := Option.some.inj hv; go_simp)
      have m1 : W.rangeAt wr.heap.size 5 [.complex .f64 s s', .complex .f64 t t'] := by
        intro j v hv
        have hj : j < 2 := (List.getElem?_eq_some_iff.1 hv).1
        rw [hW]
        rcases (by omega : j = 0 ∨ j = 1) with rfl | rfl <;> (obtain rfl := Option.some.inj hv; go_simp)
      have cW : W.cell? ⟨B, 1, none⟩ = some (.slice (some ⟨L, 0, none⟩) n cap) := (grown_trans hgr hgW).cell (unhide H1) (by intro e; exact hne (Option.some.inj e))
      have Hrel := hide (And.intro hgr hgW)
      clear hW
      refine region_slots (cV B L n cap wr.heap.size k (.complex .f64 z z') (.agg #[.complex .f64 b0 b0', .complex .f64 b1 b1', .complex .f64 b2 b2', .complex .f64 a1 a1', .complex .f64 a2 a2']) (.agg #[.complex .f64 s s', .complex .f64 t t']) (yAt sec st (cmul G X) (k + 1)) (stAt sec st (cmul G X) k).1 (stAt sec st (cmul G X) k).2)
        (cC W L n k sec st (cmul G X)) (by kernel_rfl) (by kernel_rfl) (by kernel_rfl) 44 (by kernel_rfl) rfl ?_ ?_ ?_
      · exact ⟨grown_drew _ _, by rw [if_neg (by simp)]; exact hLW.still (still_drew W)⟩
      · intro listed a' w2 i o hI ho hsz hl hd
        have hi : i < 18 := by simpa using (Array.getElem?_eq_some_iff.1 ho).1
        have hc : cC W L n k sec st (cmul G X) listed w2 := hI.world
        have hrg : ∀ o cs, W.rangeAt wr.heap.size o cs → w2.rangeAt wr.heap.size o cs := fun o cs h j v hv => hc.1.cell (h j v hv) (by intro e; have := Option.some.inj e; simp only at this; omega)
        rcases (by omega : i = 0 ∨ i = 1 ∨ i = 2 ∨ i = 3 ∨ i = 4 ∨ i = 5 ∨ i = 6 ∨ i = 7 ∨ i = 8 ∨ i = 9 ∨ i = 10 ∨ i = 11 ∨ i = 12 ∨ i = 13 ∨ i = 14 ∨ i = 15 ∨ i = 16 ∨ i = 17) with rfl | rfl | rfl | rfl | rfl | rfl | rfl | rfl | rfl | rfl | rfl | rfl | rfl | rfl | rfl | rfl | rfl | rfl
        all_goals obtain rfl := Option.some.inj ho
        · exact ok_move rfl rfl (hI.base 0 (by kernel_rfl)) rfl (hc.same 0 (by omega))
        · exact ok_nil rfl rfl (hI.slot 0 _ 27 rfl rfl (hd ⟨0, .data⟩ (by simp) rfl)) rfl (hc.same 1 (by omega))
        · exact ok_field rfl rfl (hI.slot 1 _ 28 rfl rfl (hd ⟨1, .data⟩ (by simp) rfl)) (field_casc1 _ _) rfl (hc.same 2 (by omega))
        · exact ok_load rfl rfl (hI.slot 2 _ 29 rfl rfl (hd ⟨2, .data⟩ (by simp) rfl)) (load_links _ _ _ _ _ (hc.1.cell cW (by intro e; exact hne (Option.some.inj e)))) rfl (hc.same 3 (by omega))
        · exact ok_move rfl rfl (hI.base 6 (by kernel_rfl)) rfl (hc.same 4 (by omega))
        · exact ok_field rfl rfl (hI.base 7 (by kernel_rfl)) (field_link0 _ _ _) rfl (hc.same 5 (by omega))
        · exact ok_load rfl rfl (hI.slot 5 _ 32 rfl rfl (hd ⟨5, .data⟩ (by simp) rfl)) (run_loadAt_mid w2 wr.heap.size 0 33 _ _ (hrg _ _ m0) Try.underlying33 rfl info_sec) rfl (hc.same 6 (by omega))
        · exact ok_field rfl rfl (hI.base 7 (by kernel_rfl)) (field_link1 _ _ _) rfl (hc.same 7 (by omega))
        · exact ok_load rfl rfl (hI.slot 7 _ 34 rfl rfl (hd ⟨7, .data⟩ (by simp) rfl)) (run_loadAt_mid w2 wr.heap.size 5 57 _ _ (hrg _ _ m1) Try.underlying57 rfl info_st) rfl (hc.same 8 (by omega))
        · have hun : listed.getD 14 false = false := by
            cases h14 : listed.getD 14 false with
            | false => rfl
            | true =>
              have h9 := hI.closed 14 _ rfl h14 ⟨9, .phase⟩ (by simp) rfl
              rw [Array.getD_eq_getD_getElem?] at h9 hl
              cases hh : listed[9]? with
              | none => rw [hh] at h9; simp at h9
              | some b => rw [hh] at h9 hl; simp at h9 hl; rw [h9] at hl; cases hl
          exact ok_move rfl rfl (hI.pre 14 _ 5 rfl rfl hun) rfl (hc.same 9 (by omega))
        · have hun : listed.getD 17 false = false := by
            cases h17 : listed.getD 17 false with
            | false => rfl
            | true =>
              have h9 := hI.closed 17 _ rfl h17 ⟨10, .phase⟩ (by simp) rfl
              rw [Array.getD_eq_getD_getElem?] at h9 hl
              cases hh : listed[10]? with
              | none => rw [hh] at h9; simp at h9
              | some b => rw [hh] at h9 hl; simp at h9 hl; rw [h9] at hl; cases hl
          refine ok_rstep rfl rfl (hI.slot 6 _ 33 rfl rfl (hd ⟨6, .data⟩ (by simp) rfl)) (hI.slot 8 _ 35 rfl rfl (hd ⟨8, .data⟩ (by simp) rfl)) (hI.slot 9 _ 36 rfl rfl (hd ⟨9, .data⟩ (by simp) rfl)) ?_
          refine (unhide Hr w2).mono ?_
          rintro e w3 ⟨y, u, v, rfl, hy, hu, hv, hbl⟩
          refine ⟨_, rfl, ⟨y, u, v, rfl, hy, hu, hv⟩, ?_⟩
          unfold cC
          rw [getD_set_ne false (by omega)]
          have hL2 : L < w2.heap.size := by have := hc.1.size; omega
          exact ⟨grown_trans hc.1 (below_grown hbl _), hc.2.below hbl hL2⟩
        · obtain ⟨y, u, v, k1, k2, k3, k4⟩ := hI.slot 10 _ 37 rfl rfl (hd ⟨10, .data⟩ (by simp) rfl)
          exact ok_move rfl rfl k1 ⟨y, u, v, rfl, k2, k3, k4⟩ (hc.same 11 (by omega))
        · obtain ⟨y, u, v, k1, k2, k3, k4⟩ := hI.slot 11 _ 26 rfl rfl (hd ⟨11, .data⟩ (by simp) rfl)
          exact ok_extract0 rfl rfl k1 k2 (hc.same 12 (by omega))
        · obtain ⟨y, u, v, k1, k2, k3, k4⟩ := hI.slot 11 _ 26 rfl rfl (hd ⟨11, .data⟩ (by simp) rfl)
          exact ok_extract1 rfl rfl k1 ⟨u, v, rfl, k3, k4⟩ (hc.same 13 (by omega))
        · have k1 := hI.slot 12 _ 38 rfl rfl (hd ⟨12, .data⟩ (by simp) rfl)
          exact ok_assign rfl rfl rfl k1 (hc.same 14 (by omega))
        · exact ok_index rfl rfl (hI.slot 3 _ 30 rfl rfl (hd ⟨3, .data⟩ (by simp) rfl)) (hI.slot 4 _ 31 rfl rfl (hd ⟨4, .data⟩ (by simp) rfl)) (index_links _ _ _ _ _ hkn (by omega)) rfl (hc.same 15 (by omega))
        · exact ok_field rfl rfl (hI.slot 15 _ 40 rfl rfl (hd ⟨15, .data⟩ (by simp) rfl)) (field_link1 _ _ _) rfl (hc.same 16 (by omega))
        · obtain ⟨u, v, k1, k2, k3⟩ := hI.slot 13 _ 39 rfl rfl (hd ⟨13, .data⟩ (by simp) rfl)
          have hun : listed.getD 17 false = false := by
            rw [Array.getD_eq_getD_getElem?] at hl ⊢
            have : 17 < listed.size := by rw [hsz]; decide
            rw [Array.getElem?_eq_getElem this] at hl ⊢
            exact hl
          have hLn := hc.2
          rw [hun] at hLn
          have hset := hLn.set hkn k2 k3
          refine ok_store rfl rfl (hI.slot 16 _ 41 rfl rfl (hd ⟨16, .data⟩ (by simp) rfl)) k1 info_st (by simp [k2.one, k3.one]) (there_part hLn.1 (by simp; omega)) ⟨grown_setCells hc.1, ?_⟩
          have h17 : (listed.setIfInBounds 17 true).getD 17 false = true := by
            have : 17 < listed.size := by rw [hsz]; decide
            simp [this]
          rw [h17, if_pos rfl, upTo_succ]
          exact hset
      · intro listed a' w2 hI hall
        have k5 := hI.slot 14 _ 5 rfl rfl (hall 14 (by decide))
        have E := act_lit a' 44 hI.size
        rw [hI.defers] at E
        replace E : a' = ⟨#[a'.eval (.tmp 0), a'.eval (.tmp 1), a'.eval (.tmp 2), a'.eval (.tmp 3), a'.eval (.tmp 4), a'.eval (.tmp 5), a'.eval (.tmp 6), a'.eval (.tmp 7), a'.eval (.tmp 8), a'.eval (.tmp 9), a'.eval (.tmp 10), a'.eval (.tmp 11), a'.eval (.tmp 12), a'.eval (.tmp 13), a'.eval (.tmp 14), a'.eval (.tmp 15), a'.eval (.tmp 16), a'.eval (.tmp 17), a'.eval (.tmp 18), a'.eval (.tmp 19), a'.eval (.tmp 20), a'.eval (.tmp 21), a'.eval (.tmp 22), a'.eval (.tmp 23), a'.eval (.tmp 24), a'.eval (.tmp 25), a'.eval (.tmp 26), a'.eval (.tmp 27), a'.eval (.tmp 28), a'.eval (.tmp 29), a'.eval (.tmp 30), a'.eval (.tmp 31), a'.eval (.tmp 32), a'.eval (.tmp 33), a'.eval (.tmp 34), a'.eval (.tmp 35), a'.eval (.tmp 36), a'.eval (.tmp 37), a'.eval (.tmp 38), a'.eval (.tmp 39), a'.eval (.tmp 40), a'.eval (.tmp 41), a'.eval (.tmp 42), a'.eval (.tmp 43)], _⟩ := E
        rw [hI.base 0 (by kernel_rfl), hI.base 1 (by kernel_rfl), hI.base 2 (by kernel_rfl), hI.base 3 (by kernel_rfl), hI.base 4 (by kernel_rfl), hI.base 6 (by kernel_rfl), hI.base 7 (by kernel_rfl), hI.base 8 (by kernel_rfl), hI.base 9 (by kernel_rfl), hI.base 10 (by kernel_rfl), hI.base 11 (by kernel_rfl), hI.base 12 (by kernel_rfl), hI.base 13 (by kernel_rfl), hI.base 14 (by kernel_rfl), hI.base 15 (by kernel_rfl), hI.base 16 (by kernel_rfl), hI.base 17 (by kernel_rfl), hI.base 18 (by kernel_rfl), hI.base 19 (by kernel_rfl), hI.base 20 (by kernel_rfl), hI.base 21 (by kernel_rfl), hI.base 22 (by kernel_rfl), hI.base 23 (by kernel_rfl), hI.base 24 (by kernel_rfl), hI.base 25 (by kernel_rfl), hI.base 42 (by kernel_rfl), hI.base 43 (by kernel_rfl)] at E
        have hw := hI.world
        clear hI
        generalize a'.eval (.tmp 5) = y5 at E k5
        generalize a'.eval (.tmp 26) = y26 at E
        generalize a'.eval (.tmp 27) = y27 at E
        generalize a'.eval (.tmp 28) = y28 at E
        generalize a'.eval (.tmp 29) = y29 at E
        generalize a'.eval (.tmp 30) = y30 at E
        generalize a'.eval (.tmp 31) = y31 at E
        generalize a'.eval (.tmp 32) = y32 at E
        generalize a'.eval (.tmp 33) = y33 at E
        generalize a'.eval (.tmp 34) = y34 at E
        generalize a'.eval (.tmp 35) = y35 at E
        generalize a'.eval (.tmp 36) = y36 at E
        generalize a'.eval (.tmp 37) = y37 at E
        generalize a'.eval (.tmp 38) = y38 at E
        generalize a'.eval (.tmp 39) = y39 at E
        generalize a'.eval (.tmp 40) = y40 at E
        generalize a'.eval (.tmp 41) = y41 at E
        simp [Act.eval] at E
        subst E
        obtain ⟨hg2, hL2⟩ := hw
        rw [hall 17 (by decide), if_pos rfl] at hL2
        refine unhide HK _ _ ?_
        clear HK
        clear hall
        go_wp2
        go_roundw
        case rel => exact ⟨k + 1, by omega, by go_num, k5, hL2, grown_trans (grown_trans (unhide Hrel).1 (unhide Hrel).2) hg2⟩
        case measure => simp [intOf]; omega
    · have : k = n := by omega
      subst this
      go_wp2
      go_ret
      exact ⟨_, rfl, hy, hLk, hgr⟩
end Go.Proofs.Yteoglcelgcjpoaa
