/- A region that draws its order, with calls that make new memory and, where there is one, a store that waits for all the others. -/
import Derived.Test.YtlajalfdcfkmpaaRgj
import Derived.Test.YtlajalfdcfkmpaaXl
namespace Go.Proofs.Ytlajalfdcfkmpaa
open Go.RowKit

/-- What is held of a slot once its operation has been done. -/
structure Pd where
  (op slot : Nat)
  (p : World → Value → Prop)

/-- No operation has come behind the last one: it waits for all the others. -/
theorem SlotInv.notYet {ops : Array Oper} {a0 : Act} {V : Nat → Value → Prop} {C : Array Bool → Act → World → Prop} {listed : Array Bool} {a : Act} {w : World} (hI : SlotInv ops a0 V C listed a w) {n : Nat} (hsz : listed.size = n) (k : Nat) {o : Oper} (ho : ops[k]? = some o)
    (hr : (List.range n).all (fun j => decide (j = k) || o.after.toList.any (fun e => decide (e.on = j) && Region.binds .any e)) = true) {i : Nat} (hi : i < n) (hl : listed.getD i true = false) : listed.getD k false = false := by
  have hf : listed.getD i false = false := by
    have hlt : i < listed.size := by omega
    rw [Array.getD_eq_getD_getElem?, Array.getElem?_eq_getElem hlt] at hl ⊢
    exact hl
  cases h : listed.getD k false with
  | false => rfl
  | true =>
    exfalso
    have h1 := List.all_eq_true.1 hr i (by simpa using hi)
    simp only [Bool.or_eq_true, decide_eq_true_eq, List.any_eq_true, Bool.and_eq_true] at h1
    rcases h1 with e | ⟨e, he, h2, h3⟩
    · subst e; rw [h] at hf; cases hf
    · have := hI.closed k o ho h e (by simpa using he) h3
      rw [h2, hf] at this
      cases this

def kC (W : World) (k : Nat) (ps : List Pd) (F : World → Prop) (listed : Array Bool) (a : Act) (w : World) : Prop :=
  (listed.getD k false = false → Below W.heap.size W w ∧ ∀ c ∈ ps, listed.getD c.op false = true → c.p w (a.eval (.tmp c.slot))) ∧ (listed.getD k false = true → F w)
section
variable {W w w' : World} {k : Nat} {ps : List Pd} {F : World → Prop} {listed : Array Bool} {a : Act} {o : Oper}
theorem getD_rep2 (n i : Nat) : (Array.replicate n false).getD i false = false := by
  rw [Array.getD_eq_getD_getElem?, Array.getElem?_replicate]
  split <;> rfl
theorem kC.start {n : Nat} : kC W k ps F (Array.replicate n false) a W.drew :=
  ⟨fun _ => ⟨(Below.refl _ _).drew, fun c _ h => by rw [getD_rep2] at h; cases h⟩, fun h => by rw [getD_rep2] at h; cases h⟩
/-- An operation that leaves the world. -/
theorem kC.same (h : kC W k ps F listed a w) (i : Nat) {d : Nat} {u : Value} (hd : o.dst = some d) (hik : i ≠ k) (hp : ∀ c ∈ ps, c.op ≠ i ∧ d ≠ c.slot) : kC W k ps F (listed.setIfInBounds i true) (a.put o.dst u) w := by
  refine ⟨fun hk => ?_, fun hk => ?_⟩
  · rw [getD_set_ne false hik] at hk
    refine ⟨(h.1 hk).1, fun c hc hl => ?_⟩
    rw [getD_set_ne false (Ne.symm (hp c hc).1)] at hl
    rw [hd, show (a.put (some d) u).eval (.tmp c.slot) = a.eval (.tmp c.slot) from Act.eval_put (by intro d' h1 e; cases h1; cases e; exact (hp c hc).2 rfl)]
    exact (h.1 hk).2 c hc hl
  · rw [getD_set_ne false hik] at hk
    exact h.2 hk
/-- One whose slot is held on to; it may make new memory. -/
theorem kC.made (h : kC W k ps F listed a w) (hk : listed.getD k false = false) (i : Nat) {d n : Nat} {u : Value} (hn : a.tmps.size = n) (hdn : d < n) (hd : o.dst = some d) (hik : i ≠ k) (hB : Below w.heap.size w w')
    (hnew : ∀ c ∈ ps, c.op = i → c.slot = d ∧ c.p w' u) (hold : ∀ c ∈ ps, c.op ≠ i → d ≠ c.slot ∧ ∀ x, c.p w x → c.p w' x) : kC W k ps F (listed.setIfInBounds i true) (a.put o.dst u) w' := by
  refine ⟨fun _ => ?_, fun hk' => ?_⟩
  · refine ⟨(h.1 hk).1.trans (hB.mono (h.1 hk).1.size), fun c hc hl => ?_⟩
    by_cases e : c.op = i
    · obtain ⟨e1, e2⟩ := hnew c hc e
      rw [hd, e1, show (a.put (some d) u).eval (.tmp d) = u by simp [Act.put, Act.eval, show d < a.tmps.size by omega]]
      exact e2
    · obtain ⟨e1, e2⟩ := hold c hc e
      rw [getD_set_ne false (Ne.symm e)] at hl
      rw [hd, show (a.put (some d) u).eval (.tmp c.slot) = a.eval (.tmp c.slot) from Act.eval_put (by intro d' h1 e; cases h1; cases e; exact e1 rfl)]
      exact e2 _ ((h.1 hk).2 c hc hl)
  · rw [getD_set_ne false hik, hk] at hk'
    cases hk'
theorem kC.last (hk : k < listed.size) {b : Act} (hF : F w') : kC W k ps F (listed.setIfInBounds k true) b w' := by
  have h2 : (listed.setIfInBounds k true).getD k false = true := by simp [hk]
  exact ⟨fun h => (by rw [h2] at h; cases h), fun _ => hF⟩
end
theorem NA.keep {x : Nat} (w w' : World) (hb : Below w.heap.size w w') : ∀ v, NA w v x → NA w' v x := fun _ h => h.below hb
theorem Blk.cut {w : World} {b : Nat} {cs ds : Array Value} {t : TypeId} (h : Blk w b cs t) (hn : ds.size = cs.size) : Blk (w.setCells b 0 ds.toList) b ds t := by
  have key : ∀ (vs : List Value) (i : Nat) (w : World) (xs : Array Value), Blk w b xs t → i + vs.length ≤ xs.size → ∃ ys : Array Value, Blk (w.setCells b i vs) b ys t ∧ ys.size = xs.size ∧ (∀ j, j < i → ys[j]? = xs[j]?) ∧ (∀ j, j < vs.length → ys[i + j]? = vs[j]?) := by
    intro vs
    induction vs with
    | nil => intro i w xs hx _; exact ⟨xs, hx, rfl, fun _ _ => rfl, fun j hj => absurd hj (Nat.not_lt_zero j)⟩
    | cons v r ih =>
      intro i w xs hx hl
      rw [World.setCells]
      have hl' : i + (r.length + 1) ≤ xs.size := hl
      have hs : (xs.setIfInBounds i v).size = xs.size := by simp
      obtain ⟨ys, h1, h2, h3, h4⟩ := ih (i + 1) (w.setCell ⟨b, i, none⟩ v) (xs.setIfInBounds i v) (hx.put i v) (by omega)
      refine ⟨ys, h1, h2.trans hs, fun j hj => ?_, fun j hj => ?_⟩
      · rw [h3 j (by omega), Array.getElem?_setIfInBounds_ne (by omega)]
      · cases j with
        | zero => rw [Nat.add_zero, h3 i (by omega), Array.getElem?_setIfInBounds_self_of_lt (by omega)]; rfl
        | succ j =>
          have := h4 j (by simpa using hj)
          rw [show i + (j + 1) = i + 1 + j by omega, this]; simp
  obtain ⟨ys, h1, h2, _, h4⟩ := key ds.toList 0 w cs h (by simp [hn])
  have : ys = ds := by
    apply Array.ext
    · omega
    · intro j h5 h6
      have := h4 j (by simpa using h6)
      rw [Nat.zero_add] at this
      simp [h5, h6] at this
      exact this
  rw [this] at h1
  exact h1

/-- A fraction's cells lie in a block of the call's own. -/
def zQ : Array Value := #[.bool false, .slice none 0 0, .slice none 0 0]
def QR (Rel : Int → Nat → Prop) (w : World) (v : Value) : Prop := ∃ z t, QA w v z t ∧ Rel z t
theorem QR.keep {Rel : Int → Nat → Prop} (w w' : World) (hb : Below w.heap.size w w') : ∀ v, QR Rel w v → QR Rel w' v := fun _ ⟨z, t, h, r⟩ => ⟨z, t, h.below hb, r⟩
def QF (w0 : World) (NB : Nat) (Rel : Int → Nat → Prop) (w : World) : Prop := ∃ c0 c1 c2, Blk w NB #[c0, c1, c2] 68 ∧ QR Rel w (.agg #[c0, c1, c2]) ∧ Below w0.heap.size w0 w
theorem QR.form {Rel : Int → Nat → Prop} {w : World} {v : Value} (h : QR Rel w v) : ∃ b a1 n1 c1 a2 n2 c2, v = .agg #[.bool b, .slice a1 n1 c1, .slice a2 n2 c2] := by
  obtain ⟨z, t, ⟨vN, vD, rfl, h1, h2, _⟩, _⟩ := h
  obtain ⟨a1, n1, c1, rfl, _⟩ := h1.form
  obtain ⟨a2, n2, c2, rfl, _⟩ := h2.form
  exact ⟨_, _, _, _, _, _, _, rfl⟩
theorem QF.store {w0 w : World} {NB : Nat} {Rel : Int → Nat → Prop} {b : Bool} {a1 a2 : Option Addr} {n1 c1 n2 c2 : Nat} (h : QR Rel w (.agg #[.bool b, .slice a1 n1 c1, .slice a2 n2 c2])) (hB : Blk w NB zQ 68) (hb : Below w0.heap.size w0 w) (hN : w0.heap.size ≤ NB) :
    QF w0 NB Rel (w.setCells NB 0 #[.bool b, .slice a1 n1 c1, .slice a2 n2 c2].toList) := by
  refine ⟨_, _, _, hB.cut rfl, ?_, Below.setCells hb hN 0 _⟩
  obtain ⟨z, t, ⟨vN, vD, e, h1, h2, h3⟩, hr⟩ := h
  cases e
  exact ⟨z, t, ⟨_, _, rfl, h1.storeQ (f := false) (a := none) (b := none) (m := 0) (n := 0) (c := 0) (d := 0) hB _ _ _, h2.storeQ (f := false) (a := none) (b := none) (m := 0) (n := 0) (c := 0) (d := 0) hB _ _ _, h3⟩, hr⟩
theorem loadB (p : Addr) (b : Bool) (w : World) (h : w.cell? p = some (.bool b)) : (Instr.loadAt 4 (.pointer (some p))).run Try.prog w = .ok (.bool b) w := by go_simp
theorem loadL (p : Addr) (a : Option Addr) (n c : Nat) (w : World) (h : w.cell? p = some (.slice a n c)) : (Instr.loadAt 66 (.pointer (some p))).run Try.prog w = .ok (.slice a n c) w := by go_simp
theorem fieldQ (b f : Nat) (hf : f < 3) (w : World) : (Instr.fieldAt 68 (.pointer (some ⟨b, 0, none⟩)) f).run Try.prog w = .ok (.pointer (some ⟨b, f, none⟩)) w := by
  rcases (by omega : f = 0 ∨ f = 1 ∨ f = 2) with rfl | rfl | rfl <;> go_simp
theorem loadQ (b : Nat) (f : Bool) (a1 a2 : Option Addr) (n1 c1 n2 c2 : Nat) (w : World) (h : Blk w b #[.bool f, .slice a1 n1 c1, .slice a2 n2 c2] 68) : (Instr.loadAt 68 (.pointer (some ⟨b, 0, none⟩))).run Try.prog w = .ok (.agg #[.bool f, .slice a1 n1 c1, .slice a2 n2 c2]) w := by
  have e0 := h.cell 0 rfl
  have e1 := h.cell 1 rfl
  have e2 := h.cell 2 rfl
  clear h
  go_simp
section
variable {o : Oper} {a : Act} {w : World} {R : Value → World → Prop}
theorem okR_call3' {f : FuncId} (hf : ∀ (xs : Array Value) (w : World), (callFunc f xs).run Try.prog w = .ok (.enter f xs) w) {x y z : Operand} {u v t : Value} {tys : Array TypeId} (hop : o.op = .call { callee := .value (.func f), args := #[x, y, z], argTypes := tys }) (hx : a.eval x = u) (hy : a.eval y = v) (hz : a.eval z = t)
    (hc : Calls Try.prog f #[u, v, t] w fun e w' => ∃ v, e = .returned v ∧ R v w') : StepOkR Try.prog o a w R := by
  refine .inr (.inr ⟨f, #[a.eval x, a.eval y, a.eval z], ?_, ?_⟩)
  · have hf' := hf
    clear hf hc
    simp [execOp, hop]
    go_simp
  · rw [hx, hy, hz]; exact hc
theorem okR_neqB {x y : Operand} {p q : Bool} (hop : o.op = .binOp .neq 4 x y 4) (hx : a.eval x = .bool p) (hy : a.eval y = .bool q) (h : R (.bool (p != q)) w) : StepOkR Try.prog o a w R := by
  refine .inl ⟨_, w, ?_, h⟩
  simp [execOp, hop, hx, hy]
  cases p <;> cases q <;> go_simp
end
theorem enter_MulN (xs : Array Value) (w : World) : (callFunc 53 xs).run Try.prog w = .ok (.enter 53 xs) w := by go_simp
theorem enter_AddN (xs : Array Value) (w : World) : (callFunc 61 xs).run Try.prog w = .ok (.enter 61 xs) w := by go_simp
theorem enter_SubN (xs : Array Value) (w : World) : (callFunc 63 xs).run Try.prog w = .ok (.enter 63 xs) w := by go_simp
theorem enter_Lay (xs : Array Value) (w : World) : (callFunc 52 xs).run Try.prog w = .ok (.enter 52 xs) w := by go_simp
end Go.Proofs.Ytlajalfdcfkmpaa
