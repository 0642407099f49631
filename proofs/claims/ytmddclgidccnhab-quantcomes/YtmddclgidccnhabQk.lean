/- A region that lays a state into a new block, whatever its order. -/
import Derived.Test.YtmddclgidccnhabQi
namespace Go.Proofs.Ytmddclgidccnhab
open Go.RowKit Go.Maps

theorem putOther {a : Act} {d t : Nat} {v : Value} (h : t ≠ d) : (a.put (some d) v).eval (.tmp t) = a.eval (.tmp t) := Act.eval_put (by intro d' h1 e; cases h1; cases e; exact h rfl)
theorem putSame {a : Act} {d : Nat} {v : Value} (h : d < a.tmps.size) : (a.put (some d) v).eval (.tmp d) = v := by simp [Act.put, Act.eval, h]

def zSt : St := ⟨0, 0, 0, 0⟩
/-- What is kept while such a region goes on: the old blocks; and, once it is laid (operation ia, slot d), the state's block, with the state in it once it is stored (operation is). -/
def alC (d ia is : Nat) (W : World) (s : St) (listed : Array Bool) (a : Act) (w : World) : Prop :=
  Below W.heap.size W w ∧ (listed.getD ia false = true → ∃ N, a.eval (.tmp d) = .pointer (some ⟨N, 0, none⟩) ∧ W.heap.size ≤ N ∧ Blk w N (aS (if listed.getD is false then s else zSt)) 25)
theorem alC.start {d ia is n : Nat} {W : World} {s : St} {a : Act} : alC d ia is W s (Array.replicate n false) a W.drew := by
  refine ⟨(Below.refl _ W).drew, fun h => ?_⟩
  rw [Array.getD_eq_getD_getElem?, Array.getElem?_replicate] at h
  split at h <;> cases h
theorem alC.same {d ia is : Nat} {W w w' : World} {s : St} {listed : Array Bool} {a : Act} (h : alC d ia is W s listed a w) (i : Nat) {e : Nat} {o : Oper} (hd : o.dst = some e) (h1 : i ≠ ia) (h2 : i ≠ is) (h3 : d ≠ e) (hb : Below w.heap.size w w') {u : Value} :
    alC d ia is W s (listed.setIfInBounds i true) (a.put o.dst u) w' := by
  unfold alC
  rw [hd, putOther h3, getD_set_ne false h1, getD_set_ne false h2]
  refine ⟨h.1.trans (hb.mono h.1.size), fun hl => ?_⟩
  obtain ⟨N, e1, e2, e3⟩ := h.2 hl
  exact ⟨N, e1, e2, e3.below hb e3.lt⟩
theorem run_alloc_St (w : World) : (Instr.alloc 25 true (.tuple #[])).run Try.prog w = .ok (.pointer (some ⟨w.heap.size, 0, none⟩)) (w.alloc (.cells (aS zSt) 25)) := by unfold aS zSt; go_simp
theorem alC.alloc {d ia is n : Nat} {W w : World} {s : St} {listed : Array Bool} {a : Act} (h : alC d ia is W s listed a w) (hn : a.tmps.size = n) (hs : d < n) {o : Oper} (hd : o.dst = some d) (h2 : ia ≠ is) (hu : listed.getD is false = false) :
    alC d ia is W s (listed.setIfInBounds ia true) (a.put o.dst (.pointer (some ⟨w.heap.size, 0, none⟩))) (w.alloc (.cells (aS zSt) 25)) := by
  unfold alC
  rw [hd, putSame (by omega), getD_set_ne false h2, hu]
  refine ⟨h.1.alloc h.1.size _, fun _ => ⟨w.heap.size, rfl, h.1.size, ?_⟩⟩
  exact Blk.alloc
theorem alC.store {d ia is N : Nat} {W w : World} {s : St} {listed : Array Bool} {a : Act} (h : alC d ia is W s listed a w) {o : Oper} (hd : o.dst = none) (ha : listed.getD ia false = true) (hN : a.eval (.tmp d) = .pointer (some ⟨N, 0, none⟩)) (hi : is < listed.size) :
    alC d ia is W s (listed.setIfInBounds is true) (a.put o.dst undef) (w.setCells N 0 (aS s).toList) := by
  obtain ⟨N', e1, e2, e3⟩ := h.2 ha
  have : N' = N := by rw [e1] at hN; simpa using hN
  subst this
  have hev : (a.put o.dst undef).eval (.tmp d) = a.eval (.tmp d) := by rw [hd]; rfl
  unfold alC
  rw [hev, lset rfl hi]
  exact ⟨Below.setCells h.1 e2 0 _, fun _ => ⟨N', e1, e2, e3.all rfl⟩⟩

section
variable {o : Oper} {a : Act} {w : World} {R : Value → World → Prop}
theorem okR_allocSt (hop : o.op = .alloc 25) (h : R (.pointer (some ⟨w.heap.size, 0, none⟩)) (w.alloc (.cells (aS zSt) 25))) : StepOkR Try.prog o a w R :=
  .inl ⟨_, _, by simp [execOp, hop, run_alloc_St], h⟩
theorem okR_extract {x : Operand} {i : Nat} {vs : Array Value} {v : Value} (hop : o.op = .extract x i) (hx : a.eval x = .tuple vs) (hv : vs[i]? = some v) (h : R v w) : StepOkR Try.prog o a w R := by
  refine .inl ⟨v, w, ?_, h⟩
  simp [execOp, hop, hx]
  go_simp
theorem okR_index {x y : Operand} {u v r : Value} {t : TypeId} (hop : o.op = .indexAddr t x y) (hx : a.eval x = u) (hy : a.eval y = v) (hr : (Instr.indexAt t u v).run Try.prog w = .ok r w) (h : R r w) : StepOkR Try.prog o a w R :=
  .inl ⟨r, w, by simp [execOp, hop, hx, hy, hr], h⟩
theorem build_St (c0 c1 c2 c3 : Int) (w : World) : (Instr.build 25 #[(0, .int .i64 c0), (1, .int .i64 c1), (2, .int .i64 c2), (3, .int .i64 c3)]).run Try.prog w = .ok (.agg #[.int .i64 c0, .int .i64 c1, .int .i64 c2, .int .i64 c3]) w := by
  go_simp
theorem okR_build {x y z u : Operand} {c0 c1 c2 c3 : Int} (hop : o.op = .build 25 #[(0, x), (1, y), (2, z), (3, u)]) (hx : a.eval x = .int .i64 c0) (hy : a.eval y = .int .i64 c1) (hz : a.eval z = .int .i64 c2) (hu : a.eval u = .int .i64 c3)
    (h : R (.agg #[.int .i64 c0, .int .i64 c1, .int .i64 c2, .int .i64 c3]) w) : StepOkR Try.prog o a w R :=
  .inl ⟨_, w, by simp [execOp, hop, hx, hy, hz, hu, build_St], h⟩
theorem okR_call3 {f : FuncId} (hf : ∀ (xs : Array Value) (w : World), (callFunc f xs).run Try.prog w = .ok (.enter f xs) w) {x y z : Operand} {u v r : Value} {tys : Array TypeId} (hop : o.op = .call { callee := .value (.func f), args := #[x, y, z], argTypes := tys }) (hx : a.eval x = u) (hy : a.eval y = v) (hz : a.eval z = r)
    (hc : Calls Try.prog f #[u, v, r] w fun e w' => ∃ v, e = .returned v ∧ R v w') : StepOkR Try.prog o a w R := by
  refine .inr (.inr ⟨f, #[a.eval x, a.eval y, a.eval z], ?_, ?_⟩)
  · have hf' := hf
    clear hf hc
    simp [execOp, hop]
    go_simp
  · rw [hx, hy, hz]; exact hc
end
theorem enter_step (xs : Array Value) (w : World) : (callFunc 11 xs).run Try.prog w = .ok (.enter 11 xs) w := by go_simp
theorem enter_docKept (xs : Array Value) (w : World) : (callFunc 10 xs).run Try.prog w = .ok (.enter 10 xs) w := by go_simp
theorem index_St (b n c k : Nat) (w : World) (h : k < n) (_hn : n ≤ 100000) : (Instr.indexAt 34 (.slice (some ⟨b, 0, none⟩) n c) (.int .i64 k)).run Try.prog w = .ok (.pointer (some ⟨b, k * 4, none⟩)) w := by
  have h' : (k : Int) < (n : Int) := by omega
  go_simp
theorem loadStAt (b off : Nat) (s : St) (w : World) (h : ∀ j, j < 4 → w.cell? ⟨b, off + j, none⟩ = (aS s)[j]?) :
    (Instr.loadAt 25 (.pointer (some ⟨b, off, none⟩))).run Try.prog w = .ok (vS s) w := by
  have e0 : w.cell? ⟨b, off, none⟩ = some (.int .i64 s.x1) := h 0 (by omega)
  have e1 : w.cell? ⟨b, off + 1, none⟩ = some (.int .i64 s.x2) := h 1 (by omega)
  have e2 : w.cell? ⟨b, off + 2, none⟩ = some (.int .i64 s.y1) := h 2 (by omega)
  have e3 : w.cell? ⟨b, off + 3, none⟩ = some (.int .i64 s.y2) := h 3 (by omega)
  clear h
  unfold vS
  go_simp
end Go.Proofs.Ytmddclgidccnhab
