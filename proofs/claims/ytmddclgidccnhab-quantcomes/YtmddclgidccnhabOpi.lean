/- The operations of a region that draws its order, one law a kind, where each slot comes to hold one value. -/
import Derived.Test.YtmddclgidccnhabRgi
import Derived.Test.YtmddclgidccnhabQa
import Derived.Deep.MidRow
namespace Go.Proofs.Ytmddclgidccnhab
open Go.RowKit

section
variable {o : Oper} {a : Act} {w : World} {R : Value → World → Prop}

theorem okR_move {x : Operand} {v : Value} (hop : o.op = .move x) (he : a.eval x = v) (h : R v w) : StepOkR Try.prog o a w R :=
  .inl ⟨v, w, by simp [execOp, hop, he], h⟩
theorem okR_assign {x : Operand} {v : Value} (hop : o.op = .assign x) (he : a.eval x = v) (h : R v w) : StepOkR Try.prog o a w R :=
  .inl ⟨v, w, by simp [execOp, hop, he], h⟩
theorem okR_field {x : Operand} {v r : Value} {t : TypeId} {f : Nat} (hop : o.op = .fieldAddr t x f) (he : a.eval x = v) (hr : (Instr.fieldAt t v f).run Try.prog w = .ok r w) (h : R r w) : StepOkR Try.prog o a w R :=
  .inl ⟨r, w, by simp [execOp, hop, he, hr], h⟩
theorem okR_load {x : Operand} {v r : Value} {t : TypeId} (hop : o.op = .load t x) (he : a.eval x = v) (hr : (Instr.loadAt t v).run Try.prog w = .ok r w) (h : R r w) : StepOkR Try.prog o a w R :=
  .inl ⟨r, w, by simp [execOp, hop, he, hr], h⟩
theorem okR_store {x y : Operand} {u v : Value} {w' : World} {t : TypeId} (hop : o.op = .store t x y) (hx : a.eval x = u) (hy : a.eval y = v) (hr : (Instr.storeAt t u v).run Try.prog w = .ok () w') (h : R undef w') : StepOkR Try.prog o a w R :=
  .inr (.inl ⟨w', by simp [execOp, hop, hx, hy, hr], h⟩)
theorem okR_call1 {f : FuncId} (hf : ∀ (xs : Array Value) (w : World), (callFunc f xs).run Try.prog w = .ok (.enter f xs) w) {x : Operand} {u : Value} {tys : Array TypeId} (hop : o.op = .call { callee := .value (.func f), args := #[x], argTypes := tys }) (hx : a.eval x = u)
    (hc : Calls Try.prog f #[u] w fun e w' => ∃ v, e = .returned v ∧ R v w') : StepOkR Try.prog o a w R := by
  refine .inr (.inr ⟨f, #[a.eval x], ?_, ?_⟩)
  · have hf' := hf
    clear hf hc
    simp [execOp, hop]
    go_simp
  · rw [hx]; exact hc
theorem okR_call2 {f : FuncId} (hf : ∀ (xs : Array Value) (w : World), (callFunc f xs).run Try.prog w = .ok (.enter f xs) w) {x y : Operand} {u v : Value} {tys : Array TypeId} (hop : o.op = .call { callee := .value (.func f), args := #[x, y], argTypes := tys }) (hx : a.eval x = u) (hy : a.eval y = v)
    (hc : Calls Try.prog f #[u, v] w fun e w' => ∃ v, e = .returned v ∧ R v w') : StepOkR Try.prog o a w R := by
  refine .inr (.inr ⟨f, #[a.eval x, a.eval y], ?_, ?_⟩)
  · have hf' := hf
    clear hf hc
    simp [execOp, hop]
    go_simp
  · rw [hx, hy]; exact hc
theorem enter_plus (xs : Array Value) (w : World) : (callFunc 29 xs).run Try.prog w = .ok (.enter 29 xs) w := by go_simp
theorem enter_kept (xs : Array Value) (w : World) : (callFunc 28 xs).run Try.prog w = .ok (.enter 28 xs) w := by go_simp
theorem enter_keptState (xs : Array Value) (w : World) : (callFunc 22 xs).run Try.prog w = .ok (.enter 22 xs) w := by go_simp
theorem enter_keptSection (xs : Array Value) (w : World) : (callFunc 27 xs).run Try.prog w = .ok (.enter 27 xs) w := by go_simp
theorem okR_mul {x y : Operand} {m n : Int} (hop : o.op = .binOp .mul 2 x y 2) (hx : a.eval x = .int .i64 m) (hy : a.eval y = .int .i64 n) (hb : i64 (m * n)) (h : R (.int .i64 (m * n)) w) : StepOkR Try.prog o a w R := by
  have e : IntKind.i64.wrap (m * n) = m * n := by rw [IntKind.wrap_i64]; unfold i64 at hb; omega
  refine .inl ⟨_, w, ?_, h⟩
  simp [execOp, hop, hx, hy]
  go_simp
theorem okR_neg {x : Operand} {m : Int} (hop : o.op = .unOp .neg 2 x) (hx : a.eval x = .int .i64 m) (hb : i64 (-m)) (h : R (.int .i64 (-m)) w) : StepOkR Try.prog o a w R := by
  have e : IntKind.i64.wrap (-m) = -m := by rw [IntKind.wrap_i64]; unfold i64 at hb; omega
  refine .inl ⟨_, w, ?_, h⟩
  simp [execOp, hop, hx]
  go_simp
end

theorem slotR {o : Oper} {d : Nat} {V : Nat → Value → Prop} {v : Value} (hd : o.dst = some d) (hV : V d v) : ∀ d', o.dst = some d' → V d' v := by
  intro d' h; rw [hd] at h; cases h; exact hV
theorem slotN {o : Oper} {V : Nat → Value → Prop} {v : Value} (hd : o.dst = none) : ∀ d', o.dst = some d' → V d' v := by
  intro d' h; rw [hd] at h; cases h

theorem fieldFx (b f : Nat) (hf : f < 6) (w : World) : (Instr.fieldAt 23 (.pointer (some ⟨b, 0, none⟩)) f).run Try.prog w = .ok (.pointer (some ⟨b, f, none⟩)) w := by
  rcases (by omega : f = 0 ∨ f = 1 ∨ f = 2 ∨ f = 3 ∨ f = 4 ∨ f = 5) with rfl | rfl | rfl | rfl | rfl | rfl <;> go_simp
theorem fieldSt (b f : Nat) (hf : f < 4) (w : World) : (Instr.fieldAt 25 (.pointer (some ⟨b, 0, none⟩)) f).run Try.prog w = .ok (.pointer (some ⟨b, f, none⟩)) w := by
  rcases (by omega : f = 0 ∨ f = 1 ∨ f = 2 ∨ f = 3) with rfl | rfl | rfl | rfl <;> go_simp
theorem loadI (p : Addr) (n : Int) (w : World) (h : w.cell? p = some (.int .i64 n)) : (Instr.loadAt 2 (.pointer (some p))).run Try.prog w = .ok (.int .i64 n) w := by
  go_simp
theorem infoFx : (Try.prog.info? 23).map (·.size) = some 6 := by kernel_rfl
theorem infoSt : (Try.prog.info? 25).map (·.size) = some 4 := by kernel_rfl
theorem infoTo : (Try.prog.info? 65).map (·.size) = some 2 := by kernel_rfl

/-- A block of cells, none frozen. -/
def Blk (w : World) (b : Nat) (cs : Array Value) (t : TypeId) : Prop := w.heap[b]? = some (.cells cs t (0, 0))
theorem Blk.cell {w : World} {b : Nat} {cs : Array Value} {t : TypeId} (h : Blk w b cs t) (i : Nat) {v : Value} (hv : cs[i]? = some v) : w.cell? ⟨b, i, none⟩ = some v := (Joins.cell_of_block h i).trans hv
theorem Blk.unfrozen {w : World} {b : Nat} {cs : Array Value} {t : TypeId} (h : Blk w b cs t) (i : Nat) : w.frozen? ⟨b, i, none⟩ = false := Joins.unfrozen_of_block h i
theorem Blk.there {w : World} {b : Nat} {cs : Array Value} {t : TypeId} (h : Blk w b cs t) : w.there b 0 cs.size := fun j hj => by
  rw [Nat.zero_add]
  exact ⟨by rw [Joins.cell_of_block h j]; simp [hj], h.unfrozen j⟩
theorem Blk.range {w : World} {b : Nat} {cs : Array Value} {t : TypeId} (h : Blk w b cs t) : w.rangeAt b 0 cs.toList := fun j v hv => by
  rw [Nat.zero_add]
  exact h.cell j (by simpa using hv)
theorem Blk.lt {w : World} {b : Nat} {cs : Array Value} {t : TypeId} (h : Blk w b cs t) : b < w.heap.size := (Array.getElem?_eq_some_iff.1 h).1
theorem Blk.below {w w' : World} {b B : Nat} {cs : Array Value} {t : TypeId} (h : Blk w b cs t) (hb : Below B w w') (hB : b < B) : Blk w' b cs t := (hb.block b hB).trans h
theorem Blk.alloc {w : World} {cs : Array Value} {t : TypeId} : Blk (w.alloc (.cells cs t)) w.heap.size cs t := by
  unfold Blk World.alloc; simp
theorem Blk.put {w : World} {b : Nat} {cs : Array Value} {t : TypeId} (h : Blk w b cs t) (i : Nat) (v : Value) : Blk (w.setCell ⟨b, i, none⟩ v) b (cs.setIfInBounds i v) t := Joins.block_setCell h v
theorem heap_setCells_other (b : Nat) {c : Nat} (hc : c ≠ b) : ∀ (vs : List Value) (i : Nat) (w : World), (w.setCells b i vs).heap[c]? = w.heap[c]? := by
  intro vs
  induction vs with
  | nil => intro i w; rfl
  | cons v r ih =>
    intro i w
    rw [World.setCells, ih]
    exact Below.heap_setCell _ _ _ _ hc
theorem size_setCells (b : Nat) : ∀ (vs : List Value) (i : Nat) (w : World), (w.setCells b i vs).heap.size = w.heap.size := by
  intro vs
  induction vs with
  | nil => intro i w; rfl
  | cons v r ih =>
    intro i w
    rw [World.setCells, ih]
    simp [World.setCell]
theorem Blk.other {w : World} {b c : Nat} {cs : Array Value} {t : TypeId} (h : Blk w b cs t) (hc : b ≠ c) (vs : List Value) (i : Nat) : Blk (w.setCells c i vs) b cs t := (heap_setCells_other c hc vs i w).trans h
theorem Below.setCells {B b : Nat} {w w' : World} (h : Below B w w') (hb : B ≤ b) (i : Nat) (vs : List Value) : Below B w (w'.setCells b i vs) := by
  induction vs generalizing w' i with
  | nil => exact h
  | cons v r ih =>
    rw [World.setCells]
    exact ih (w' := w'.setCell ⟨b, i, none⟩ v) ⟨h.os, h.tape, h.output, by simpa [World.setCell] using h.size, fun k hk => by
      rw [Below.heap_setCell _ _ _ _ (by show k ≠ b; omega)]
      exact h.block k hk⟩ _
end Go.Proofs.Ytmddclgidccnhab
