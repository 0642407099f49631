/- What a filter at work keeps in memory, and what its Step does. -/
import Derived.Test.YthafffnebaaeiaaDoorRst
namespace Go.Proofs.YthafffnebaaeiaaDoor
open Go.RowKit

/-- The links of a filter at work: n sections and what they keep, in block L. -/
def Links (w : World) (L n : Nat) (sec : Nat → Sec) (st : Nat → C2 × C2) : Prop :=
  w.there L 0 (n * 7) ∧ ∀ i, i < n → ∃ u0 u1 u2 u3 u4 p q, w.rangeAt L (i * 7) [u0, u1, u2, u3, u4, p, q] ∧ CIs u0 (sec i).b0 ∧ CIs u1 (sec i).b1 ∧ CIs u2 (sec i).b2 ∧ CIs u3 (sec i).a1 ∧ CIs u4 (sec i).a2 ∧ CIs p (st i).1 ∧ CIs q (st i).2
/-- The number behind k sections. -/
def yAt (sec : Nat → Sec) (st : Nat → C2 × C2) (x : C2) : Nat → C2
  | 0 => x
  | k + 1 => rY (sec k) (st k).1 (yAt sec st x k)
/-- What section k keeps then. -/
def stAt (sec : Nat → Sec) (st : Nat → C2 × C2) (x : C2) (k : Nat) : C2 × C2 := (rS1 (sec k) (st k).2 (yAt sec st x k) (yAt sec st x (k + 1)), rS2 (sec k) (yAt sec st x k) (yAt sec st x (k + 1)))
def upTo (sec : Nat → Sec) (st : Nat → C2 × C2) (x : C2) (k : Nat) : Nat → C2 × C2 := fun i => if i < k then stAt sec st x i else st i

theorem Links.grown {w w' : World} {L n : Nat} {sec : Nat → Sec} {st : Nat → C2 × C2} {row : Option Nat} (h : Links w L n sec st) (hg : w.grownBy w' row) (hL : L < w.heap.size) (hne : some L ≠ row) : Links w' L n sec st := by
  have hb := hg.block L hL hne
  refine ⟨fun j hj => ?_, fun i hi => ?_⟩
  · rw [World.cell?_of_block (w := w) hb, World.frozen?_of_block (w := w) hb]; exact h.1 j hj
  · obtain ⟨u0, u1, u2, u3, u4, p, q, hr, hh⟩ := h.2 i hi
    exact ⟨u0, u1, u2, u3, u4, p, q, fun j v hv => by rw [World.cell?_of_block (w := w) hb]; exact hr j v hv, hh⟩
theorem Links.still {w w' : World} {L n : Nat} {sec : Nat → Sec} {st : Nat → C2 × C2} (h : Links w L n sec st) (hs : Still w w') : Links w' L n sec st := by
  refine ⟨hs.there h.1, fun i hi => ?_⟩
  obtain ⟨u0, u1, u2, u3, u4, p, q, hr, hh⟩ := h.2 i hi
  exact ⟨u0, u1, u2, u3, u4, p, q, hs.range hr, hh⟩
theorem Links.below {w w' : World} {L n : Nat} {sec : Nat → Sec} {st : Nat → C2 × C2} (h : Links w L n sec st) (hb : Below w.heap.size w w') (hL : L < w.heap.size) : Links w' L n sec st :=
  h.grown (row := none) ⟨hb.os, hb.tape, hb.output, hb.size, fun k hk _ => hb.block k hk⟩ hL (by simp)
theorem below_grown {w w' : World} (hb : Below w.heap.size w w') (row : Option Nat) : w.grownBy w' row := ⟨hb.os, hb.tape, hb.output, hb.size, fun k hk _ => hb.block k hk⟩
theorem there_part {w : World} {b n o m : Nat} (h : w.there b 0 n) (ho : o + m ≤ n) : w.there b o m := fun j hj => by
  have := h (o + j) (by omega)
  rwa [Nat.zero_add] at this
theorem Links.set {w : World} {L n : Nat} {sec : Nat → Sec} {st : Nat → C2 × C2} (h : Links w L n sec st) {k : Nat} (hk : k < n) {u v : Value} {z1 z2 : C2} (hu : CIs u z1) (hv : CIs v z2) :
    Links (w.setCells L (k * 7 + 5) [u, v]) L n sec (fun i => if i = k then (z1, z2) else st i) := by
  refine ⟨there_set h.1, fun i hi => ?_⟩
  obtain ⟨u0, u1, u2, u3, u4, p, q, hr, g0, g1, g2, g3, g4, g5, g6⟩ := h.2 i hi
  have ht : w.there L (k * 7 + 5) 2 := there_part h.1 (by omega)
  by_cases hik : i = k
  · subst hik
    refine ⟨u0, u1, u2, u3, u4, u, v, fun j x hx => ?_, g0, g1, g2, g3, g4, by simpa using hu, by simpa using hv⟩
    by_cases hj : j < 5
    · rw [World.cell?_setCells_out L [u, v] _ w ⟨L, i * 7 + j, none⟩ (fun _ _ => .inl (by show i * 7 + j < i * 7 + 5; omega))]
      refine hr j x ?_
      rcases (by omega : j = 0 ∨ j = 1 ∨ j = 2 ∨ j = 3 ∨ j = 4) with rfl | rfl | rfl | rfl | rfl <;> exact hx
    · have hs := World.rangeAt_setCells_same w L (i * 7 + 5) [u, v] ht
      have hj7 : j < 7 := (List.getElem?_eq_some_iff.1 hx).1
      rcases (by omega : j = 5 ∨ j = 6) with rfl | rfl
      · exact hs 0 x hx
      · exact hs 1 x hx
  · refine ⟨u0, u1, u2, u3, u4, p, q, World.rangeAt_setCells_apart hr L _ _ (.inr ?_), g0, g1, g2, g3, g4, by simpa [hik] using g5, by simpa [hik] using g6⟩
    simp only [List.length_cons, List.length_nil]
    omega
theorem upTo_succ (sec : Nat → Sec) (st : Nat → C2 × C2) (x : C2) (k : Nat) : upTo sec st x (k + 1) = fun i => if i = k then stAt sec st x k else upTo sec st x k i := by
  funext i
  unfold upTo
  by_cases h : i = k
  · subst h; simp
  · by_cases h2 : i < k
    · rw [if_pos (by omega), if_neg h, if_pos h2]
    · rw [if_neg (by omega), if_neg h, if_neg h2]
theorem upTo_zero (sec : Nat → Sec) (st : Nat → C2 × C2) (x : C2) : upTo sec st x 0 = st := by
  funext i; unfold upTo; rw [if_neg (by omega)]

theorem run_store_c (a : Addr) (x y : Nat) (m : Mode) (w : World) : (store a (.complex .f64 x y) m).run Tryd.prog w = stored Tryd.prog w a (.complex .f64 x y) m := run_store Tryd.prog w a _ m rfl
theorem field_link0 (b off : Nat) (w : World) : (Instr.fieldAt 78 (.pointer (some ⟨b, off, none⟩)) 0).run Tryd.prog w = .ok (.pointer (some ⟨b, off, none⟩)) w := by go_simp
theorem field_link1 (b off : Nat) (w : World) : (Instr.fieldAt 78 (.pointer (some ⟨b, off, none⟩)) 1).run Tryd.prog w = .ok (.pointer (some ⟨b, off + 5, none⟩)) w := by go_simp
theorem field_casc0 (b : Nat) (w : World) : (Instr.fieldAt 65 (.pointer (some ⟨b, 0, none⟩)) 0).run Tryd.prog w = .ok (.pointer (some ⟨b, 0, none⟩)) w := by go_simp
theorem field_casc1 (b : Nat) (w : World) : (Instr.fieldAt 65 (.pointer (some ⟨b, 0, none⟩)) 1).run Tryd.prog w = .ok (.pointer (some ⟨b, 1, none⟩)) w := by go_simp
theorem load_links (p : Addr) (a : Option Addr) (n c : Nat) (w : World) (h : w.cell? p = some (.slice a n c)) : (Instr.loadAt 63 (.pointer (some p))).run Tryd.prog w = .ok (.slice a n c) w := by go_simp
theorem index_links (L n c k : Nat) (w : World) (h : k < n) (_hn : n ≤ 100) : (Instr.indexAt 63 (.slice (some ⟨L, 0, none⟩) n c) (.int .i64 k)).run Tryd.prog w = .ok (.pointer (some ⟨L, k * 7, none⟩)) w := by
  have h' : (k : Int) < (n : Int) := by omega
  go_simp

section
variable {o : Oper} {a : Act} {w : World} {V : Nat → Value → Prop} {C : World → Prop} {d : Nat}
theorem ok_nil {x : Operand} {p : Addr} (hop : o.op = .nilCheck x) (hd : o.dst = some d) (he : a.eval x = .pointer (some p)) (hV : V d (.pointer (some p))) (hC : C w) :
    StepOk Tryd.prog o a w (fun v => ∀ d, o.dst = some d → V d v) C :=
  .inl ⟨_, w, by simp [execOp, hop, he], slot_of hd hV, hC⟩
theorem ok_extract0 {x : Operand} {u v : Value} (hop : o.op = .extract x 0) (hd : o.dst = some d) (he : a.eval x = .tuple #[u, v]) (hV : V d u) (hC : C w) :
    StepOk Tryd.prog o a w (fun v => ∀ d, o.dst = some d → V d v) C :=
  .inl ⟨u, w, by simp [execOp, hop, he, Instr.extract], slot_of hd hV, hC⟩
theorem ok_extract1 {x : Operand} {u v : Value} (hop : o.op = .extract x 1) (hd : o.dst = some d) (he : a.eval x = .tuple #[u, v]) (hV : V d v) (hC : C w) :
    StepOk Tryd.prog o a w (fun v => ∀ d, o.dst = some d → V d v) C :=
  .inl ⟨v, w, by simp [execOp, hop, he, Instr.extract], slot_of hd hV, hC⟩
theorem ok_index {x y : Operand} {u v r : Value} {t : TypeId} (hop : o.op = .indexAddr t x y) (hd : o.dst = some d) (hx : a.eval x = u) (hy : a.eval y = v) (hr : (Instr.indexAt t u v).run Tryd.prog w = .ok r w) (hV : V d r) (hC : C w) :
    StepOk Tryd.prog o a w (fun v => ∀ d, o.dst = some d → V d v) C :=
  .inl ⟨r, w, by simp [execOp, hop, hx, hy, hr], slot_of hd hV, hC⟩
theorem ok_rstep {x y z : Operand} {u v r : Value} {tys : Array TypeId} (hop : o.op = .call { callee := .value (.func 37), args := #[x, y, z], argTypes := tys }) (hd : o.dst = some d) (hx : a.eval x = u) (hy : a.eval y = v) (hz : a.eval z = r)
    (hc : Calls Tryd.prog 37 #[u, v, r] w fun e w' => ∃ v, e = .returned v ∧ V d v ∧ C w') : StepOk Tryd.prog o a w (fun v => ∀ d, o.dst = some d → V d v) C := by
  refine .inr (.inr ⟨37, #[a.eval x, a.eval y, a.eval z], ?_, ?_⟩)
  · simp [execOp, hop]
    go_simp
  · rw [hx, hy, hz]
    exact hc.mono fun e w' ⟨v, h1, h2, h3⟩ => ⟨v, h1, slot_of hd h2, h3⟩
end

/-- What the slots of the region that steps come to hold. -/
def cV (B L n cap N k : Nat) (u5 : Value) (se st : Value) (zy z1 z2 : C2) : Nat → Value → Prop
  | 27, v => v = .pointer (some ⟨B, 0, none⟩)
  | 28, v => v = .pointer (some ⟨B, 0, none⟩)
  | 29, v => v = .pointer (some ⟨B, 1, none⟩)
  | 30, v => v = .slice (some ⟨L, 0, none⟩) n cap
  | 31, v => v = .int .i64 k
  | 32, v => v = .pointer (some ⟨N, 0, none⟩)
  | 33, v => v = se
  | 34, v => v = .pointer (some ⟨N, 5, none⟩)
  | 35, v => v = st
  | 36, v => v = u5
  | 37, v => ∃ y p q, v = .tuple #[y, .agg #[p, q]] ∧ CIs y zy ∧ CIs p z1 ∧ CIs q z2
  | 26, v => ∃ y p q, v = .tuple #[y, .agg #[p, q]] ∧ CIs y zy ∧ CIs p z1 ∧ CIs q z2
  | 38, v => CIs v zy
  | 39, v => ∃ p q, v = .agg #[p, q] ∧ CIs p z1 ∧ CIs q z2
  | 5, v => CIs v zy
  | 40, v => v = .pointer (some ⟨L, k * 7, none⟩)
  | 41, v => v = .pointer (some ⟨L, k * 7 + 5, none⟩)
  | _, _ => True
def cC (W : World) (L n k : Nat) (sec : Nat → Sec) (st : Nat → C2 × C2) (x : C2) (listed : Array Bool) (w : World) : Prop :=
  W.grownBy w (some L) ∧ Links w L n sec (if listed.getD 17 false then upTo sec st x (k + 1) else upTo sec st x k)
theorem cC.same {W w : World} {L n k : Nat} {sec : Nat → Sec} {st : Nat → C2 × C2} {x : C2} {listed : Array Bool} (h : cC W L n k sec st x listed w) (i : Nat) (hi : i ≠ 17) : cC W L n k sec st x (listed.setIfInBounds i true) w := by
  unfold cC
  rw [getD_set_ne false hi]
  exact h

end Go.Proofs.YthafffnebaaeiaaDoor
