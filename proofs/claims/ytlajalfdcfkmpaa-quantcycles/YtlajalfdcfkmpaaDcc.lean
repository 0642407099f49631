/- Qi, Qk, Dc, one behind the other. -/
import Derived.Test.YtlajalfdcfkmpaaQh
import Derived.Deep.AppendLies
import Derived.Laws.OwnMore
import Derived.Deep.QuietTactic
import Derived.BigQuiet
import Derived.Test.YtlajalfdcfkmpaaQd
import Derived.Test.YtlajalfdcfkmpaaNy
import Derived.Test.YtlajalfdcfkmpaaRgk
import Derived.Deep.DeepCutAuto
import Derived.Deep.CutBlock
/- QuantComes: its list of states. -/
namespace Go.Proofs.Ytlajalfdcfkmpaa
open Go.RowKit Go.Maps

set_option maxRecDepth 100000 in
theorem docKept_any (n : Int) (w : World) :
    Calls Try.prog 24 #[.int .i64 n] w fun e w' => e = .returned (.int .i64 (kp n)) ∧ w' = w := by
  go_enter Try.func24, Try.ntmps24
  go_wp2
  all_goals go_ret
  · rename_i h1
    rw [if_pos h] at h1
    rw [show kp n = n by unfold kp; omega]; exact ⟨rfl, rfl⟩
  · rw [show kp n = 2147483647 by unfold kp; omega]; exact ⟨rfl, rfl⟩
  · rename_i h1
    rw [if_pos h] at h1
    rw [show kp n = -2147483648 by unfold kp; omega]; exact ⟨rfl, rfl⟩

/-- The cells of states one behind the other. -/
def cellsN (S : Nat → St) : Nat → List Value
  | 0 => []
  | n + 1 => cellsN S n ++ (aS (S n)).toList
theorem cellsN_len (S : Nat → St) (n : Nat) : (cellsN S n).length = n * 4 := by
  induction n with
  | zero => rfl
  | succ n ih => rw [cellsN, List.length_append, ih]; simp [aS]; omega
theorem cellsN_at (S : Nat → St) (n i j : Nat) (hi : i < n) (hj : j < 4) : (cellsN S n)[i * 4 + j]? = (aS (S i))[j]? := by
  induction n with
  | zero => omega
  | succ n ih =>
    rw [cellsN]
    by_cases h : i < n
    · rw [List.getElem?_append_left (by rw [cellsN_len]; omega), ih h]
    · obtain rfl : i = n := by omega
      rw [List.getElem?_append_right (by rw [cellsN_len]; omega), cellsN_len, show i * 4 + j - i * 4 = j by omega]
      exact Array.getElem?_toList
theorem aS_one (s : St) : ∀ u ∈ (aS s).toList, u.oneCell' = true := by
  intro u hu
  simp [aS] at hu
  rcases hu with rfl | rfl | rfl | rfl <;> rfl
theorem infoz_St : (Try.prog.info? 40).map (fun i => (i.zero, i.size, i.bytes)) = some (some (.agg #[.int .i64 0, .int .i64 0, .int .i64 0, .int .i64 0]), 4, 32) := by kernel_rfl

theorem enter_docKept (xs : Array Value) (w : World) : (callFunc 24 xs).run Try.prog w = .ok (.enter 24 xs) w := by go_simp
theorem index_St (b n c k : Nat) (w : World) (h : k < n) (_hn : n ≤ 100000) : (Instr.indexAt 56 (.slice (some ⟨b, 0, none⟩) n c) (.int .i64 k)).run Try.prog w = .ok (.pointer (some ⟨b, k * 4, none⟩)) w := by
  have h' : (k : Int) < (n : Int) := by omega
  go_simp
end Go.Proofs.Ytlajalfdcfkmpaa

/- A region that lays a state into a new block, whatever its order. -/
namespace Go.Proofs.Ytlajalfdcfkmpaa
open Go.RowKit Go.Maps

theorem putOther {a : Act} {d t : Nat} {v : Value} (h : t ≠ d) : (a.put (some d) v).eval (.tmp t) = a.eval (.tmp t) := Act.eval_put (by intro d' h1 e; cases h1; cases e; exact h rfl)
theorem putSame {a : Act} {d : Nat} {v : Value} (h : d < a.tmps.size) : (a.put (some d) v).eval (.tmp d) = v := by simp [Act.put, Act.eval, h]

def zSt : St := ⟨0, 0, 0, 0⟩
/-- What is kept while such a region goes on: the old blocks; and, once it is laid (operation ia, slot d), the state's block, with the state in it once it is stored (operation is). -/
def alC (d ia is : Nat) (W : World) (s : St) (listed : Array Bool) (a : Act) (w : World) : Prop :=
  Below W.heap.size W w ∧ (listed.getD ia false = true → ∃ N, a.eval (.tmp d) = .pointer (some ⟨N, 0, none⟩) ∧ W.heap.size ≤ N ∧ Blk w N (aS (if listed.getD is false then s else zSt)) 40)
theorem alC.start {d ia is n : Nat} {W : World} {s : St} {a : Act} : alC d ia is W s (Array.replicate n false) a W.drew := by
  refine ⟨(Below.refl _ W).drew, fun h => ?_⟩
  rw [Array.getD_eq_getD_getElem?, Array.getElem?_replicate] at h
  split at h <;> cases h
theorem alC.same {d ia is : Nat} {W w w' : World} {s : St} {listed : Array Bool} {a : Act} (h : alC d ia is W s listed a w) (i : Nat) {e : Nat} {o : Oper} (hd : o.dst = some e) (h1 : i ≠ ia) (h2 : i ≠ is) (h3 : d ≠ e) (hb : Below w.heap.size w w') {u : Value} :
    alC d ia is W s (listed.setIfInBounds i true) (a.put o.dst u) w' := by
  unfold alC
  rw [hd, putOther h3, getD_set_ne false h1, getD_set_ne false h2]
  refine ⟨h.1.trans (hb.mono h.1.size), fun hl => ?_⟩
  obtain ⟨N, e1, e2, e3⟩ := h.2 hl
  exact ⟨N, e1, e2, e3.below hb e3.lt⟩
theorem run_alloc_St (w : World) : (Instr.alloc 40 true (.tuple #[])).run Try.prog w = .ok (.pointer (some ⟨w.heap.size, 0, none⟩)) (w.alloc (.cells (aS zSt) 40)) := by unfold aS zSt; go_simp
theorem alC.alloc {d ia is n : Nat} {W w : World} {s : St} {listed : Array Bool} {a : Act} (h : alC d ia is W s listed a w) (hn : a.tmps.size = n) (hs : d < n) {o : Oper} (hd : o.dst = some d) (h2 : ia ≠ is) (hu : listed.getD is false = false) :
    alC d ia is W s (listed.setIfInBounds ia true) (a.put o.dst (.pointer (some ⟨w.heap.size, 0, none⟩))) (w.alloc (.cells (aS zSt) 40)) := by
  unfold alC
  rw [hd, putSame (by omega), getD_set_ne false h2, hu]
  refine ⟨h.1.alloc h.1.size _, fun _ => ⟨w.heap.size, rfl, h.1.size, ?_⟩⟩
  exact Blk.alloc
theorem alC.store {d ia is N : Nat} {W w : World} {s : St} {listed : Array Bool} {a : Act} (h : alC d ia is W s listed a w) {o : Oper} (hd : o.dst = none) (ha : listed.getD ia false = true) (hN : a.eval (.tmp d) = .pointer (some ⟨N, 0, none⟩)) (hi : is < listed.size) :
    alC d ia is W s (listed.setIfInBounds is true) (a.put o.dst undef) (w.setCells N 0 (aS s).toList) := by
  obtain ⟨N', e1, e2, e3⟩ := h.2 ha
  have : N' = N := by rw [e1] at hN; simpa using hN
  subst this
  have hev : (a.put o.dst undef).eval (.tmp d) = a.eval (.tmp d) := by rw [hd]; rfl
  unfold alC
  rw [hev, lset rfl hi]
  exact ⟨Below.setCells h.1 e2 0 _, fun _ => ⟨N', e1, e2, e3.all rfl⟩⟩

section
variable {o : Oper} {a : Act} {w : World} {R : Value → World → Prop}
theorem okR_allocSt (hop : o.op = .alloc 40) (h : R (.pointer (some ⟨w.heap.size, 0, none⟩)) (w.alloc (.cells (aS zSt) 40))) : StepOkR Try.prog o a w R :=
  .inl ⟨_, _, by simp [execOp, hop, run_alloc_St], h⟩
theorem okR_extract {x : Operand} {i : Nat} {vs : Array Value} {v : Value} (hop : o.op = .extract x i) (hx : a.eval x = .tuple vs) (hv : vs[i]? = some v) (h : R v w) : StepOkR Try.prog o a w R := by
  refine .inl ⟨v, w, ?_, h⟩
  simp [execOp, hop, hx]
  go_simp
theorem okR_index {x y : Operand} {u v r : Value} {t : TypeId} (hop : o.op = .indexAddr t x y) (hx : a.eval x = u) (hy : a.eval y = v) (hr : (Instr.indexAt t u v).run Try.prog w = .ok r w) (h : R r w) : StepOkR Try.prog o a w R :=
  .inl ⟨r, w, by simp [execOp, hop, hx, hy, hr], h⟩
theorem build_St (c0 c1 c2 c3 : Int) (w : World) : (Instr.build 40 #[(0, .int .i64 c0), (1, .int .i64 c1), (2, .int .i64 c2), (3, .int .i64 c3)]).run Try.prog w = .ok (.agg #[.int .i64 c0, .int .i64 c1, .int .i64 c2, .int .i64 c3]) w := by
  go_simp
theorem okR_build {x y z u : Operand} {c0 c1 c2 c3 : Int} (hop : o.op = .build 40 #[(0, x), (1, y), (2, z), (3, u)]) (hx : a.eval x = .int .i64 c0) (hy : a.eval y = .int .i64 c1) (hz : a.eval z = .int .i64 c2) (hu : a.eval u = .int .i64 c3)
    (h : R (.agg #[.int .i64 c0, .int .i64 c1, .int .i64 c2, .int .i64 c3]) w) : StepOkR Try.prog o a w R :=
  .inl ⟨_, w, by simp [execOp, hop, hx, hy, hz, hu, build_St], h⟩
theorem okR_call3 {f : FuncId} (hf : ∀ (xs : Array Value) (w : World), (callFunc f xs).run Try.prog w = .ok (.enter f xs) w) {x y z : Operand} {u v r : Value} {tys : Array TypeId} (hop : o.op = .call { callee := .value (.func f), args := #[x, y, z], argTypes := tys }) (hx : a.eval x = u) (hy : a.eval y = v) (hz : a.eval z = r)
    (hc : Calls Try.prog f #[u, v, r] w fun e w' => ∃ v, e = .returned v ∧ R v w') : StepOkR Try.prog o a w R := by
  refine .inr (.inr ⟨f, #[a.eval x, a.eval y, a.eval z], ?_, ?_⟩)
  · have hf' := hf
    clear hf hc
    simp [execOp, hop]
    go_simp
  · rw [hx, hy, hz]; exact hc
end
theorem enter_step (xs : Array Value) (w : World) : (callFunc 16 xs).run Try.prog w = .ok (.enter 16 xs) w := by go_simp
theorem loadStAt (b off : Nat) (s : St) (w : World) (h : ∀ j, j < 4 → w.cell? ⟨b, off + j, none⟩ = (aS s)[j]?) :
    (Instr.loadAt 40 (.pointer (some ⟨b, off, none⟩))).run Try.prog w = .ok (vS s) w := by
  have e0 : w.cell? ⟨b, off, none⟩ = some (.int .i64 s.x1) := h 0 (by omega)
  have e1 : w.cell? ⟨b, off + 1, none⟩ = some (.int .i64 s.x2) := h 1 (by omega)
  have e2 : w.cell? ⟨b, off + 2, none⟩ = some (.int .i64 s.y1) := h 2 (by omega)
  have e3 : w.cell? ⟨b, off + 3, none⟩ = some (.int .i64 s.y2) := h 3 (by omega)
  clear h
  unfold vS
  go_simp
end Go.Proofs.Ytlajalfdcfkmpaa

/- What quaverref25's DocCycle answers: what Cycle answers. -/
namespace Go.Proofs.Ytlajalfdcfkmpaa
open Go.RowKit Go.Maps

theorem PW.grown {w a b : World} {fs ss : Array Value} {row : Option Nat} (h : PW w fs ss a) (hg : a.grownBy b row) (hr : ∀ k, row = some k → w.heap.size + 1 < k) : PW w fs ss b :=
  ⟨h.low.grown hg h.low.size (fun k e => by have := hr k e; omega), (hg.block _ h.sec.lt (by intro e; have := hr _ e.symm; omega)).trans h.sec, (hg.block _ h.st.lt (by intro e; have := hr _ e.symm; omega)).trans h.st⟩
/-- What Cycle answers is one. -/
theorem CycIs.unique {f : Fx} {s : St} {n a b e a' b' e' : Int} (h : CycIs f s n a b e) (h' : CycIs f s n a' b' e') : a = a' ∧ b = b' ∧ e = e' := by
  rcases h with ⟨h0, rfl, rfl, rfl⟩ | ⟨h1, h2, h3, h⟩
  · rcases h' with ⟨_, rfl, rfl, rfl⟩ | ⟨g1, g2, g3, _⟩
    · exact ⟨rfl, rfl, rfl⟩
    · rcases h0 with h | h | h
      · omega
      · omega
      · rw [g3] at h; cases h
  · rcases h' with ⟨g0, _⟩ | ⟨_, _, _, h'⟩
    · rcases g0 with h | h | h
      · omega
      · omega
      · rw [h3] at h; cases h
    · rcases h with ⟨rfl, rfl, rfl, hn⟩ | ⟨rfl, A, C, rfl, rfl, hC, hle, hAC, hun⟩
      · rcases h' with ⟨rfl, rfl, rfl, _⟩ | ⟨rfl, A, C, rfl, rfl, hC, hle, hAC, hun⟩
        · exact ⟨rfl, rfl, rfl⟩
        · exact absurd hAC.symm (hn A (A + C) (by omega) (by omega))
      · rcases h' with ⟨rfl, rfl, rfl, hn⟩ | ⟨rfl, A', C', rfl, rfl, hC', hle', hAC', hun'⟩
        · exact absurd hAC.symm (hn A (A + C) (by omega) (by omega))
        · have e1 : A + C = A' + C' := by
            rcases Nat.lt_trichotomy (A + C) (A' + C') with h | h | h
            · exact absurd hAC.symm (hun' A (A + C) (by omega) h)
            · exact h
            · exact absurd hAC'.symm (hun A' (A' + C') (by omega) h)
          have e2 : so f (kpS s) A = so f (kpS s) A' := by rw [← hAC, ← hAC', e1]
          have e3 : A = A' := by
            rcases Nat.lt_trichotomy A A' with h | h | h
            · exact absurd e2 (hun A A' h (by omega))
            · exact h
            · exact absurd e2.symm (hun A' A h (by omega))
          subst e3
          exact ⟨rfl, by omega, rfl⟩

def dcV (w : World) (st : St) : Nat → Value → Prop
  | 25, v => v = .pointer (some ⟨w.heap.size + 1, 0, none⟩)
  | 26, v => v = .int .i64 st.x1
  | 27, v => v = .int .i64 (kp st.x1)
  | 28, v => v = .pointer (some ⟨w.heap.size + 1, 1, none⟩)
  | 29, v => v = .int .i64 st.x2
  | 30, v => v = .int .i64 (kp st.x2)
  | 31, v => v = .pointer (some ⟨w.heap.size + 1, 2, none⟩)
  | 32, v => v = .int .i64 st.y1
  | 33, v => v = .int .i64 (kp st.y1)
  | 34, v => v = .pointer (some ⟨w.heap.size + 1, 3, none⟩)
  | 35, v => v = .int .i64 st.y2
  | 36, v => v = .int .i64 (kp st.y2)
  | 37, v => v = vS (kpS st)
  | _, _ => True
def dcC (w : World) (f : Fx) (st : St) (listed : Array Bool) (_ : Act) (w' : World) : Prop := PW w (aF f) (if listed.getD 13 false then aS (kpS st) else aS st) w'
theorem dcC.same {w : World} {f : Fx} {st : St} {listed : Array Bool} {a a' : Act} {w' w'' : World} (h : dcC w f st listed a w') (i : Nat) (hi : i ≠ 13) (hb : Below w'.heap.size w' w'') : dcC w f st (listed.setIfInBounds i true) a' w'' := by
  unfold dcC
  rw [getD_set_ne false hi]
  exact PW.later h hb
theorem dcC.raw {w : World} {f : Fx} {st : St} {listed : Array Bool} {a : Act} {w' : World} (h : dcC w f st listed a w') (hu : listed.getD 13 false = false) : Blk w' (w.heap.size + 1) (aS st) 40 := by
  have h1 := PW.st h
  rw [hu] at h1
  exact h1
theorem dcC.store {w : World} {f : Fx} {st : St} {listed : Array Bool} {a a' : Act} {w' : World} (h : dcC w f st listed a w') (hu : listed.getD 13 false = false) (hs : 13 < listed.size) : dcC w f st (listed.setIfInBounds 13 true) a' (w'.setCells (w.heap.size + 1) 0 (aS (kpS st)).toList) := by
  unfold dcC
  rw [show (listed.setIfInBounds 13 true).getD 13 false = true by simp [hs], if_pos rfl]
  have h1 := h
  unfold dcC at h1
  rw [hu] at h1
  exact h1.setS (kpS st)

set_option maxRecDepth 100000 in
set_option maxHeartbeats 1000000 in
theorem docCycle_arg (f : Fx) (s : St) (n : Int) (hn : n < 0 ∨ 1048576 < n ∨ fitsB f.bits = false) (w : World) :
    Calls Try.prog 23 #[vF f, vS s, .int .i64 n] w fun e w' => e = .returned (.tuple #[.int .i64 0, .int .i64 0, .int .i64 1]) ∧ Below w.heap.size w w' := by
  have Hf := hide (fits25_any f.bits)
  unfold vF vS
  by_cases h1 : n < 0
  · clear hn
    go_enter Try.func23, Try.ntmps23
    go_wp2
    go_ret3
    exact ⟨rfl, Joins.below_alloc2 _ _ _⟩
  · by_cases h2 : 1048576 < n
    · clear hn
      go_enter Try.func23, Try.ntmps23
      go_wp2
      go_ret3
      exact ⟨rfl, Joins.below_alloc2 _ _ _⟩
    · have h3 : fitsB f.bits = false := by
        rcases hn with h | h | h
        · exact absurd h h1
        · exact absurd h h2
        · exact h
      rw [h3] at Hf
      clear hn
      go_enter Try.func23, Try.ntmps23
      go_wp2_with fail
      refine (unhide Hf _).mono ?_
      rintro e w' ⟨rfl, rfl⟩
      go_wp2
      go_ret3
      exact ⟨rfl, Joins.below_alloc2 _ _ _⟩

theorem doc_so (f : Fx) (s : St) (k : Nat) (w : World) :
    Calls Try.prog 17 #[vF f, vS (so f s k), .int .i64 0] w fun e w' => e = .returned (.tuple #[.int .i64 (ans f (so f s k) 0), vS (so f s (k + 1)), .bool (outs f (so f s k) 0)]) ∧ Below w.heap.size w w' := doc_any f (so f s k) 0 w

set_option maxRecDepth 100000 in
set_option maxHeartbeats 4000000 in
theorem docCycle_in (f : Fx) (st : St) (n : Nat) (hn : n ≤ 1048576) (hf : fitsB f.bits = true) (w : World) :
    Calls Try.prog 23 #[vF f, vS st, .int .i64 n] w fun e w' => CycPost f st n e ∧ Below w.heap.size w w' := by
  obtain ⟨i0, hi0, hz0, hz1, hz2⟩ := info_parts infoz_St
  have Hf := hide (fits25_any f.bits)
  rw [hf] at Hf
  have Hfit := hide hf
  have K0 := hide (docKept_any st.x1)
  have K1 := hide (docKept_any st.x2)
  have K2 := hide (docKept_any st.y1)
  have K3 := hide (docKept_any st.y2)
  have HS := hide (doc_so f (kpS st))
  have P0 := hide (PW.start w (aF f) (aS st))
  clear hf
  unfold vF vS at *
  go_enter Try.func23, Try.ntmps23
  go_wp2_with fail
  refine (unhide Hf _).mono ?_
  rintro e w' ⟨rfl, hw'⟩
  obtain rfl := hw'
  go_wp2_with fail
  rename_i K hK
  have HK := hide hK
  clear hK
  obtain ⟨W0, hW0⟩ : ∃ W0, W0 = (w.alloc (Obj.cells (aF f) 38)).alloc (Obj.cells (aS st) 40) := ⟨_, rfl⟩
  rw [← hW0] at P0
  refine region_slotsA (dcV w st) (dcC w f st) (by kernel_rfl) (by kernel_rfl) (by kernel_rfl) 71 (by kernel_rfl) rfl (by have := (unhide P0).later (Below.refl _ _).drew; rw [hW0] at this; exact this) ?_ ?_
  · as_aux_lemma =>
    intro listed a w1 i o hI ho hsz hl hd
    have hi : i < 14 := by simpa using (Array.getElem?_eq_some_iff.1 ho).1
    have hsz' : listed.size = 14 := by simpa using hsz
    have e4 : a.eval (.tmp 4) = .pointer (some ⟨w.heap.size + 1, 0, none⟩) := (hI.base 4 (by kernel_rfl)).trans rfl
    have hc : dcC w f st listed a w1 := hI.world
    rcases (by omega : i = 0 ∨ i = 1 ∨ i = 2 ∨ i = 3 ∨ i = 4 ∨ i = 5 ∨ i = 6 ∨ i = 7 ∨ i = 8 ∨ i = 9 ∨ i = 10 ∨ i = 11 ∨ i = 12 ∨ i = 13) with rfl | rfl | rfl | rfl | rfl | rfl | rfl | rfl | rfl | rfl | rfl | rfl | rfl | rfl
    all_goals obtain rfl := Option.some.inj ho
    · exact okR_field rfl e4 (fieldSt _ 0 (by omega) _) ⟨slotR rfl rfl, hc.same 0 (by omega) (Below.refl _ _)⟩
    · have k1 := hI.slot 0 _ 25 rfl rfl (hd ⟨0, .data⟩ (by simp) rfl)
      have u13 := hI.notYet hsz' 13 rfl (by kernel_rfl) (i := 1) (by omega) hl
      exact okR_load rfl k1 (loadI _ _ _ ((hc.raw u13).cell 0 rfl)) ⟨slotR rfl rfl, hc.same 1 (by omega) (Below.refl _ _)⟩
    · have k1 := hI.slot 1 _ 26 rfl rfl (hd ⟨1, .data⟩ (by simp) rfl)
      refine okR_call1 enter_docKept rfl k1 ((unhide K0 w1).mono ?_)
      rintro e w' ⟨rfl, rfl⟩
      exact ⟨_, rfl, slotR rfl rfl, hc.same 2 (by omega) (Below.refl _ _)⟩
    · exact okR_field rfl e4 (fieldSt _ 1 (by omega) _) ⟨slotR rfl rfl, hc.same 3 (by omega) (Below.refl _ _)⟩
    · have k1 := hI.slot 3 _ 28 rfl rfl (hd ⟨3, .data⟩ (by simp) rfl)
      have u13 := hI.notYet hsz' 13 rfl (by kernel_rfl) (i := 4) (by omega) hl
      exact okR_load rfl k1 (loadI _ _ _ ((hc.raw u13).cell 1 rfl)) ⟨slotR rfl rfl, hc.same 4 (by omega) (Below.refl _ _)⟩
    · have k1 := hI.slot 4 _ 29 rfl rfl (hd ⟨4, .data⟩ (by simp) rfl)
      refine okR_call1 enter_docKept rfl k1 ((unhide K1 w1).mono ?_)
      rintro e w' ⟨rfl, rfl⟩
      exact ⟨_, rfl, slotR rfl rfl, hc.same 5 (by omega) (Below.refl _ _)⟩
    · exact okR_field rfl e4 (fieldSt _ 2 (by omega) _) ⟨slotR rfl rfl, hc.same 6 (by omega) (Below.refl _ _)⟩
    · have k1 := hI.slot 6 _ 31 rfl rfl (hd ⟨6, .data⟩ (by simp) rfl)
      have u13 := hI.notYet hsz' 13 rfl (by kernel_rfl) (i := 7) (by omega) hl
      exact okR_load rfl k1 (loadI _ _ _ ((hc.raw u13).cell 2 rfl)) ⟨slotR rfl rfl, hc.same 7 (by omega) (Below.refl _ _)⟩
    · have k1 := hI.slot 7 _ 32 rfl rfl (hd ⟨7, .data⟩ (by simp) rfl)
      refine okR_call1 enter_docKept rfl k1 ((unhide K2 w1).mono ?_)
      rintro e w' ⟨rfl, rfl⟩
      exact ⟨_, rfl, slotR rfl rfl, hc.same 8 (by omega) (Below.refl _ _)⟩
    · exact okR_field rfl e4 (fieldSt _ 3 (by omega) _) ⟨slotR rfl rfl, hc.same 9 (by omega) (Below.refl _ _)⟩
    · have k1 := hI.slot 9 _ 34 rfl rfl (hd ⟨9, .data⟩ (by simp) rfl)
      have u13 := hI.notYet hsz' 13 rfl (by kernel_rfl) (i := 10) (by omega) hl
      exact okR_load rfl k1 (loadI _ _ _ ((hc.raw u13).cell 3 rfl)) ⟨slotR rfl rfl, hc.same 10 (by omega) (Below.refl _ _)⟩
    · have k1 := hI.slot 10 _ 35 rfl rfl (hd ⟨10, .data⟩ (by simp) rfl)
      refine okR_call1 enter_docKept rfl k1 ((unhide K3 w1).mono ?_)
      rintro e w' ⟨rfl, rfl⟩
      exact ⟨_, rfl, slotR rfl rfl, hc.same 11 (by omega) (Below.refl _ _)⟩
    · have k1 := hI.slot 2 _ 27 rfl rfl (hd ⟨2, .data⟩ (by simp) rfl)
      have k2 := hI.slot 5 _ 30 rfl rfl (hd ⟨5, .data⟩ (by simp) rfl)
      have k3 := hI.slot 8 _ 33 rfl rfl (hd ⟨8, .data⟩ (by simp) rfl)
      have k4 := hI.slot 11 _ 36 rfl rfl (hd ⟨11, .data⟩ (by simp) rfl)
      exact okR_build rfl k1 k2 k3 k4 ⟨slotR rfl rfl, hc.same 12 (by omega) (Below.refl _ _)⟩
    · have k1 := hI.slot 12 _ 37 rfl rfl (hd ⟨12, .data⟩ (by simp) rfl)
      have u13 : listed.getD 13 false = false := unl hl hsz' (by omega)
      refine okR_store rfl e4 k1 (run_storeAt_mid w1 (w.heap.size + 1) 0 40 (aS (kpS st)) (hc.raw u13).there infoSt (by simp [aS, Value.oneCell'])) ⟨slotN rfl, hc.store u13 (by omega)⟩
  · intro listed a' w2 hI hall
    have hc : dcC w f st listed a' w2 := hI.world
    unfold dcC at hc
    rw [hall 13 (by decide), if_pos rfl] at hc
    have E := hI.frame [25, 26, 27, 28, 29, 30, 31, 32, 33, 34, 35, 36, 37] (by kernel_rfl)
    simp only [putAll] at E
    generalize a'.eval (.tmp 25) = y25 at E
    generalize a'.eval (.tmp 26) = y26 at E
    generalize a'.eval (.tmp 27) = y27 at E
    generalize a'.eval (.tmp 28) = y28 at E
    generalize a'.eval (.tmp 29) = y29 at E
    generalize a'.eval (.tmp 30) = y30 at E
    generalize a'.eval (.tmp 31) = y31 at E
    generalize a'.eval (.tmp 32) = y32 at E
    generalize a'.eval (.tmp 33) = y33 at E
    generalize a'.eval (.tmp 34) = y34 at E
    generalize a'.eval (.tmp 35) = y35 at E
    generalize a'.eval (.tmp 36) = y36 at E
    generalize a'.eval (.tmp 37) = y37 at E
    clear hI hall
    simp only [Act.put, List.setIfInBounds_toArray, List.set_cons_zero, List.set_cons_succ] at E
    subst E
    refine unhide HK _ _ ?_
    clear HK P0 hW0 K0 K1 K2 K3
    obtain ⟨S, hS⟩ : ∃ S, S = so f (kpS st) := ⟨_, rfl⟩
    have hS0 : kpS st = S 0 := by rw [hS]; rfl
    rw [hS0] at hc
    have HSo := hide hS
    rw [← hS] at HS
    have P2 := hide hc
    clear hc hS
    obtain ⟨c0, c1, c2, c3, c4, c5, d0, d1, d2, d3⟩ := (unhide P2).cells
    go_wp2_with fail
    have Ho := hide (World.ownsRow_lit (base := w2.heap.size) (e := 40) (size := 4) w2 (aS (S 0)) 1 (Nat.le_refl _) (by unfold maxLen; omega) rfl)
    have P3 := hide ((unhide P2).later (Joins.below_alloc1 _ (Obj.cells (aS (S 0)) 40)))
    have hMw : w.heap.size + 1 < w2.heap.size := (unhide P2).st.lt
    clear c0 c1 c2 c3 c4 c5 d0 d1 d2 d3 P2
    go_loopw [9, 10] (fun v i wr => ∃ k : Nat, i = .int .i64 ((k + 1 : Nat) : Int) ∧ k ≤ n ∧ Hid (wr.ownsRow w2.heap.size 40 4 v (k + 1) (cellsN S (k + 1))) ∧ Hid (PW w (aF f) (aS (S k)) wr) ∧ Hid (∀ i j : Nat, i < j → j ≤ k → S i ≠ S j)) (fun _ i _ => n + 1 - (intOf i).toNat)
    case atStart =>
      exact ⟨0, rfl, Nat.zero_le _, Ho, P3, fun i j h1 h2 => by omega⟩
    case round =>
      obtain ⟨k, rfl, hk, hown, hP, hun⟩ := hrel
      clear Ho P3
      by_cases hkn : k + 1 ≤ n
      · have hkI : ((k + 1 : Nat) : Int) ≤ (n : Int) := by omega
        obtain ⟨kI, hkI2⟩ : ∃ kI : Int, kI = ((k + 1 : Nat) : Int) := ⟨_, rfl⟩
        rw [← hkI2] at hkI ⊢
        obtain ⟨g, cap, rfl⟩ := Joins.ownsRow_form (unhide hown) (by omega)
        obtain ⟨c0, c1, c2, c3, c4, c5, d0, d1, d2, d3⟩ := (unhide hP).cells
        have hk0 : 0 ≤ kI := by omega
        have HK2 := hide hkI2
        clear hkI2
        go_wp2_with fail
        refine (unhide HS k _).mono ?_
        rintro e w3 ⟨rfl, hb3⟩
        clear c0 c1 c2 c3 c4 c5 d0 d1 d2 d3
        have hP3 := (unhide hP).later hb3
        have hgl : g < wr.heap.size := ((unhide hown).lt g rfl).2
        have hgM : w2.heap.size ≤ g := ((unhide hown).lt g rfl).1
        have hown3 := (unhide hown).kept (belowG hb3) (.inr (by simp [Value.ownBlock]))
        obtain ⟨t, ht⟩ : ∃ t, S (k + 1) = t := ⟨_, rfl⟩
        have HT := hide ht
        rw [ht]
        obtain ⟨e0, e1, e2, e3⟩ := hP3.unfrozen
        obtain ⟨c0, c1, c2, c3, c4, c5, d0, d1, d2, d3⟩ := hP3.cells
        have HP4 := hide (hP3.setS t)
        have HO4 := hide (ownsRow_setCell_below (ownsRow_setCell_below (ownsRow_setCell_below (ownsRow_setCell_below hown3 (a := ⟨w.heap.size + 1, 0, none⟩) (by show w.heap.size + 1 < _; omega) (.int .i64 t.x1)) (a := ⟨w.heap.size + 1, 1, none⟩) (by show w.heap.size + 1 < _; omega) (.int .i64 t.x2)) (a := ⟨w.heap.size + 1, 2, none⟩) (by show w.heap.size + 1 < _; omega) (.int .i64 t.y1)) (a := ⟨w.heap.size + 1, 3, none⟩) (by show w.heap.size + 1 < _; omega) (.int .i64 t.y2))
        clear hP3 hown3 hb3 hown hP ht
        go_upto_region 9 with fail
        obtain ⟨W4, hW4⟩ : ∃ W4, W4 = (((w3.setCell ⟨w.heap.size + 1, 0, none⟩ (.int .i64 t.x1)).setCell ⟨w.heap.size + 1, 1, none⟩ (.int .i64 t.x2)).setCell ⟨w.heap.size + 1, 2, none⟩ (.int .i64 t.y1)).setCell ⟨w.heap.size + 1, 3, none⟩ (.int .i64 t.y2) := ⟨_, rfl⟩
        rw [← hW4] at HP4 HO4 ⊢
        clear hW4 c0 c1 c2 c3 c4 c5 d0 d1 d2 d3 e0 e1 e2 e3 hgl
        have HUN := hide (unhide hun)
        clear hun
        go_wp2_with fail
        go_loopw [54] (fun jv wq => ∃ j : Nat, jv = .int .i64 (j : Nat) ∧ j ≤ k + 1 ∧ Hid (wq.ownsRow w2.heap.size 40 4 (.slice (some ⟨g, 0, none⟩) (k + 1) cap) (k + 1) (cellsN S (k + 1))) ∧ Hid (PW w (aF f) (aS t) wq) ∧ Hid (∀ i : Nat, i < j → S i ≠ t)) (fun jv _ => k + 1 - (intOf jv).toNat)
        case atStart => exact ⟨0, rfl, Nat.zero_le _, HO4, HP4, fun i h1 => absurd h1 (Nat.not_lt_zero i)⟩
        case round =>
          obtain ⟨j, rfl, hj, hown, hP, hunj⟩ := hrel
          clear HO4 HP4
          by_cases hjk : j < k + 1
          · have hjI : (j : Int) < (k : Int) + 1 := by omega
            have q0 : wr.cell? ⟨g, j * 4, none⟩ = some (.int .i64 (S j).x1) := by
              have := (unhide hown).cellAt (j * 4 + 0) (by omega)
              rw [cellsN_at S _ _ _ hjk (by omega)] at this
              exact this
            have q1 : wr.cell? ⟨g, j * 4 + 1, none⟩ = some (.int .i64 (S j).x2) := by
              rw [(unhide hown).cellAt _ (by omega), cellsN_at S _ _ _ hjk (by omega)]; rfl
            have q2 : wr.cell? ⟨g, j * 4 + 2, none⟩ = some (.int .i64 (S j).y1) := by
              rw [(unhide hown).cellAt _ (by omega), cellsN_at S _ _ _ hjk (by omega)]; rfl
            have q3 : wr.cell? ⟨g, j * 4 + 3, none⟩ = some (.int .i64 (S j).y2) := by
              rw [(unhide hown).cellAt _ (by omega), cellsN_at S _ _ _ hjk (by omega)]; rfl
            obtain ⟨u, hu⟩ : ∃ u, S j = u := ⟨_, rfl⟩
            rw [hu] at q0 q1 q2 q3
            have HU := hide hu
            clear hu
            go_upto_region 12 with fail
            obtain ⟨N, hN⟩ : ∃ N, N = wr.heap.size := ⟨_, rfl⟩
            obtain ⟨W5, hW5⟩ : ∃ W5, W5 = wr.alloc (Obj.cells #[.int .i64 u.x1, .int .i64 u.x2, .int .i64 u.y1, .int .i64 u.y2] 40) := ⟨_, rfl⟩
            rw [← hW5, ← hN]
            have hB5 := Joins.below_alloc1 wr (Obj.cells #[.int .i64 u.x1, .int .i64 u.x2, .int .i64 u.y1, .int .i64 u.y2] 40)
            rw [← hW5] at hB5
            have hBN : Blk W5 N #[.int .i64 u.x1, .int .i64 u.x2, .int .i64 u.y1, .int .i64 u.y2] 40 := by rw [hW5, hN]; exact Blk.alloc
            have HP5 := hide ((unhide hP).later hB5)
            have HO5 := hide ((unhide hown).kept (belowG hB5) (Classical.em _))
            have n0 := hBN.cell 0 rfl
            have n1 := hBN.cell 1 rfl
            have n2 := hBN.cell 2 rfl
            have n3 := hBN.cell 3 rfl
            obtain ⟨c0, c1, c2, c3, c4, c5, d0, d1, d2, d3⟩ := (unhide HP5).cells
            have hjk2 : (j : Int) < kI := by have := unhide HK2; omega
            clear hN hW5 hB5 hBN hP hown q0 q1 q2 q3
            by_cases hut : u = t
            · subst hut
              go_wp2
              go_ret3
              refine ⟨⟨j, kI - j, 0, rfl, .inr ⟨by omega, by omega, unhide Hfit, .inr ⟨rfl, j, k + 1 - j, rfl, ?_, by omega, by have := unhide HK2; omega, ?_, ?_⟩⟩⟩, (unhide HP5).low⟩
              · have := unhide HK2; omega
              · rw [← unhide HSo, show j + (k + 1 - j) = k + 1 by omega, unhide HT, unhide HU]
              · rw [← unhide HSo]
                exact fun i i' h1 h2 => unhide HUN i i' h1 (by omega)
            · go_cut [61] (fun v wx => v = .bool false ∧ W5 = wx)
              case first =>
                rcases St.ne_cases hut with h1 | ⟨h1, h2⟩ | ⟨h1, h2, h3⟩ | ⟨h1, h2, h3, h4⟩
                all_goals
                  go_wp2_with fail
                  go_meet
                  exact ⟨rfl, rfl⟩
              case rest =>
                obtain ⟨rfl, rfl⟩ := hcut
                go_wp2_with fail
                go_roundw
                case rel =>
                  refine ⟨j + 1, by go_num, by omega, HO5, HP5, fun i hi => ?_⟩
                  by_cases hij : i < j
                  · exact unhide hunj i hij
                  · obtain rfl : i = j := by omega
                    rw [unhide HU]; exact hut
                case measure => simp [intOf]; omega
          · obtain rfl : j = k + 1 := by omega
            obtain ⟨c0, c1, c2, c3, c4, c5, d0, d1, d2, d3⟩ := (unhide hP).cells
            have o2 : Hid ((wr.alloc (Obj.cells #[.int .i64 t.x1, .int .i64 t.x2, .int .i64 t.y1, .int .i64 t.y2] 40)).ownsRow w2.heap.size 40 4 (.slice (some ⟨g, 0, none⟩) (k + 1) cap) (k + 1) (cellsN S (k + 1))) := hide ((unhide hown).alloc _)
            have hnews : Hid (∀ j u, (aS t).toList[j]? = some u → (wr.alloc (Obj.cells #[.int .i64 t.x1, .int .i64 t.x2, .int .i64 t.y1, .int .i64 t.y2] 40)).cell? ((⟨wr.heap.size, 0, none⟩ : Addr).add j) = some u) := hide (by
              intro j u hu
              rw [Addr.add_mid, Nat.zero_add]
              exact (Blk.alloc (w := wr) (cs := aS t) (t := 40)).cell j (by simpa using hu))
            have hgl : g < wr.heap.size := ((unhide hown).lt g rfl).2
            have hbase : Hid (w2.heap.size ≤ (wr.alloc (Obj.cells #[.int .i64 t.x1, .int .i64 t.x2, .int .i64 t.y1, .int .i64 t.y2] 40)).heap.size) := hide (by simp; omega)
            have hH : Hid ((wr.alloc (Obj.cells #[.int .i64 t.x1, .int .i64 t.x2, .int .i64 t.y1, .int .i64 t.y2] 40)).heap.size = wr.heap.size + 1) := hide (by simp)
            clear hown
            go_wp2_with (first
              | (at_builtin; refine wpList_append_lies _ rfl (.tmp 67) (.tmp 69) 56 rfl w2.heap.size 40 i0 (.agg #[.int .i64 0, .int .i64 0, .int .i64 0, .int .i64 0]) 4 32 Try.underlying56 hi0 hz0 hz1 hz2 rfl (by decide) (.slice (some ⟨g, 0, none⟩) (k + 1) cap) (k + 1) (cellsN S (k + 1)) rfl o2.out ⟨wr.heap.size, 0, none⟩ 1 1 (aS t).toList rfl rfl hnews.out (aS_one _) Nat.one_pos (by unfold maxLen; omega) (by omega) hbase.out (wr.heap.size + 1) hH.out ?_; intro gg cap9 w9 hown9 hg9 hat9 hlt9)
              | fail)
            go_roundw
            case rel =>
              refine ⟨k + 1, by rw [unhide HK2]; go_num, by omega, ?_, ?_, fun i i' h1 h2 => ?_⟩
              · rw [cellsN, unhide HT]; exact hown9
              · rw [unhide HT]
                exact ((unhide hP).later (Joins.below_alloc1 _ _)).grown hg9 (fun q e => by have : g = q := by simpa [Value.ownBlock] using e
                                                                                            omega)
              · by_cases hik : i' ≤ k
                · exact unhide HUN i i' h1 hik
                · obtain rfl : i' = k + 1 := by omega
                  rw [unhide HT]
                  exact unhide hunj i h1
            case measure => have := unhide HK2; simp [intOf]; omega
      · obtain rfl : k = n := by omega
        have hkI : ¬ (((k + 1 : Nat) : Int) ≤ (k : Int)) := by omega
        obtain ⟨kI, hkI2⟩ : ∃ kI : Int, kI = ((k + 1 : Nat) : Int) := ⟨_, rfl⟩
        rw [← hkI2] at hkI ⊢
        clear hkI2
        go_wp2
        go_ret3
        exact ⟨⟨0, 0, 10, rfl, .inr ⟨by omega, by omega, unhide Hfit, .inl ⟨rfl, rfl, rfl, fun i j h1 h2 => by rw [← unhide HSo]; exact unhide hun i j h1 (by omega)⟩⟩⟩, (unhide hP).low⟩
theorem docCycle_any (f : Fx) (s : St) (n : Int) (w : World) :
    Calls Try.prog 23 #[vF f, vS s, .int .i64 n] w fun e w' => CycPost f s n e ∧ Below w.heap.size w w' := by
  by_cases h : n < 0 ∨ 1048576 < n ∨ fitsB f.bits = false
  · refine (docCycle_arg f s n h w).mono ?_
    rintro e w' ⟨rfl, hb⟩
    exact ⟨⟨0, 0, 1, rfl, .inl ⟨h, rfl, rfl, rfl⟩⟩, hb⟩
  · have h1 : 0 ≤ n ∧ n ≤ 1048576 := by omega
    have h2 : fitsB f.bits = true := by
      cases h3 : fitsB f.bits
      · exact absurd (.inr (.inr h3)) h
      · rfl
    obtain ⟨N, rfl⟩ := Int.eq_ofNat_of_zero_le h1.1
    exact docCycle_in f s N (by omega) h2 w
end Go.Proofs.Ytlajalfdcfkmpaa
