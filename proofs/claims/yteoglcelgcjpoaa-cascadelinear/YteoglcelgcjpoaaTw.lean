/- The statement's own filter, out of bytes: at most four sections of finite numbers, each with 1 ahead. -/
import Derived.Test.YteoglcelgcjpoaaTraw
namespace Go.Proofs.Yteoglcelgcjpoaa
open Go.RowKit

def cval : Value → C2
  | .complex _ r i => (lf r, lf i)
  | _ => z0
theorem FinV.is {u : Value} (h : FinV u) : CIs u (cval u) := by
  obtain ⟨r, i, rfl, hr, hi, _⟩ := h
  exact CIs.of r i hr hi
theorem FinV.one {u : Value} (h : FinV u) : u.oneCell' = true := by
  obtain ⟨r, i, rfl, _⟩ := h; rfl
/-- The cells of k sections of finite numbers, each with 1 ahead. -/
def SecCells (cs : List Value) (k : Nat) : Prop :=
  cs.length = k * 5 ∧ ∀ i, i < k → ∃ u1 u2 u3 u4, cs[i * 5]? = some (.complex .f64 4607182418800017408 0) ∧ cs[i * 5 + 1]? = some u1 ∧ cs[i * 5 + 2]? = some u2 ∧ cs[i * 5 + 3]? = some u3 ∧ cs[i * 5 + 4]? = some u4 ∧ FinV u1 ∧ FinV u2 ∧ FinV u3 ∧ FinV u4
theorem SecCells.push {cs : List Value} {k : Nat} (h : SecCells cs k) {u1 u2 u3 u4 : Value} (h1 : FinV u1) (h2 : FinV u2) (h3 : FinV u3) (h4 : FinV u4) : SecCells (cs ++ [.complex .f64 4607182418800017408 0, u1, u2, u3, u4]) (k + 1) := by
  have hl := h.1
  refine ⟨by simp; omega, fun i hi => ?_⟩
  by_cases hik : i = k
  · subst hik
    refine ⟨u1, u2, u3, u4, ?_, ?_, ?_, ?_, ?_, h1, h2, h3, h4⟩ <;> rw [List.getElem?_append_right (by omega)]
    · rw [show i * 5 - cs.length = 0 by omega]; rfl
    · rw [show i * 5 + 1 - cs.length = 1 by omega]; rfl
    · rw [show i * 5 + 2 - cs.length = 2 by omega]; rfl
    · rw [show i * 5 + 3 - cs.length = 3 by omega]; rfl
    · rw [show i * 5 + 4 - cs.length = 4 by omega]; rfl
  · obtain ⟨v1, v2, v3, v4, e0, e1, e2, e3, e4, hh⟩ := h.2 i (by omega)
    refine ⟨v1, v2, v3, v4, ?_, ?_, ?_, ?_, ?_, hh⟩ <;> rw [List.getElem?_append_left (by omega)] <;> assumption
def secOf (cs : List Value) (i : Nat) : Sec := ⟨z1, cval (cs.getD (i * 5 + 1) undef), cval (cs.getD (i * 5 + 2) undef), cval (cs.getD (i * 5 + 3) undef), cval (cs.getD (i * 5 + 4) undef)⟩
theorem secs_of {w : World} {base : Nat} {v : Value} {k : Nat} {cs : List Value} (h : w.ownsRow base 33 5 v k cs) (hc : SecCells cs k) : SecsIs w v k (secOf cs) := by
  rcases id h.2 with ⟨rfl, rfl⟩ | ⟨g, cap, cur, rfl, hb, hg, _⟩
  · exact ⟨none, 0, rfl, fun i hi => by omega⟩
  · have hgw : g < w.heap.size := (Array.getElem?_eq_some_iff.1 hg).1
    refine ⟨_, cap, rfl, fun i hi => ?_⟩
    obtain ⟨u1, u2, u3, u4, e0, e1, e2, e3, e4, f1, f2, f3, f4⟩ := hc.2 i hi
    have hcell : ∀ j u, cs[j]? = some u → w.cell? ⟨g, j, none⟩ = some u := fun j u hu => by
      have := h.cells (g := g) rfl j u hu
      rwa [Addr.add_mid, Nat.zero_add] at this
    refine ⟨g, .complex .f64 4607182418800017408 0, u1, u2, u3, u4, rfl, hgw, fun j x hx => ?_, fin_one, f1, f2, f3, f4, c1_is, ?_, ?_, ?_, ?_⟩
    · have hj : j < 5 := (List.getElem?_eq_some_iff.1 hx).1
      rcases (by omega : j = 0 ∨ j = 1 ∨ j = 2 ∨ j = 3 ∨ j = 4) with rfl | rfl | rfl | rfl | rfl <;> (obtain rfl := Option.some.inj hx; apply hcell; assumption)
    · have : cs.getD (i * 5 + 1) undef = u1 := by rw [List.getD_eq_getElem?_getD, e1]; rfl
      simp only [secOf, this]; exact f1.is
    · have : cs.getD (i * 5 + 2) undef = u2 := by rw [List.getD_eq_getElem?_getD, e2]; rfl
      simp only [secOf, this]; exact f2.is
    · have : cs.getD (i * 5 + 3) undef = u3 := by rw [List.getD_eq_getElem?_getD, e3]; rfl
      simp only [secOf, this]; exact f3.is
    · have : cs.getD (i * 5 + 4) undef = u4 := by rw [List.getD_eq_getElem?_getD, e4]; rfl
      simp only [secOf, this]; exact f4.is

theorem infoz_sec : (Try.prog.info? 33).map (fun i => (i.zero, i.size, i.bytes)) = some (some (.agg #[c0, c0, c0, c0, c0]), 5, 80) := by kernel_rfl
theorem info_filt : (Try.prog.info? 28).map (·.size) = some 2 := by kernel_rfl

/-- A filter of at most four such sections. -/
def WorkPost (w : World) (e : Ending) (w' : World) : Prop := ∃ v k cs, e = .returned (.agg #[.complex .f64 4604930618986332160 4602678819172646912, v]) ∧ k ≤ 4 ∧ SecsIs w' v k (secOf cs) ∧ Below w.heap.size w w'

theorem StepOk.toR {P : Program} {o : Oper} {a : Act} {w : World} {V : Value → Prop} {D : Value → World → Prop} (h : StepOk P o a w V (fun w' => ∀ v, D v w')) : StepOkR P o a w (fun v w' => V v ∧ D v w') := by
  rcases h with ⟨v, w', hr, h1, h2⟩ | ⟨w', hr, h1, h2⟩ | ⟨f, args, hr, hc⟩
  · exact .inl ⟨v, w', hr, h1, h2 v⟩
  · exact .inr (.inl ⟨w', hr, h1, h2 _⟩)
  · exact .inr (.inr ⟨f, args, hr, hc.mono fun e w'' ⟨v, he, h1, h2⟩ => ⟨v, he, h1, h2 v⟩⟩)
theorem okR_append {o : Oper} {a : Act} {w w' : World} {x y : Operand} {u v v' : Value} {t : TypeId} {R : Value → World → Prop} (hop : o.op = .call { callee := .builtin .append, args := #[x, y], argTypes := #[t, t] }) (hx : a.eval x = u) (hy : a.eval y = v)
    (hr : (Builtin.append_ #[t, t] o.type #[u, v]).run Try.prog w = .ok v' w') (h : R v' w') : StepOkR Try.prog o a w R := by
  refine .inl ⟨v', w', ?_, h⟩
  unfold execOp
  simp only [hop, resolve, invoke, builtin, Sem.run_bind, Sem.run_pure, Result.andThen_ok, List.map_toArray, List.map_cons, List.map_nil, hx, hy, hr]
theorem okR_store {o : Oper} {a : Act} {w w' : World} {x y : Operand} {u v : Value} {t : TypeId} {R : Value → World → Prop} (hop : o.op = .store t x y) (hx : a.eval x = u) (hy : a.eval y = v) (hr : (Instr.storeAt t u v).run Try.prog w = .ok () w') (h : R undef w') : StepOkR Try.prog o a w R :=
  .inr (.inl ⟨w', by simp [execOp, hop, hx, hy, hr], h⟩)
theorem okR_section {o : Oper} {a : Act} {w : World} {x y z : Operand} {u v r : Value} {tys : Array TypeId} {R : Value → World → Prop} (hop : o.op = .call { callee := .value (.func 19), args := #[x, y, z], argTypes := tys }) (hx : a.eval x = u) (hy : a.eval y = v) (hz : a.eval z = r)
    (hc : Calls Try.prog 19 #[u, v, r] w fun e w' => ∃ v, e = .returned v ∧ R v w') : StepOkR Try.prog o a w R := by
  refine .inr (.inr ⟨19, #[a.eval x, a.eval y, a.eval z], ?_, ?_⟩)
  · simp [execOp, hop]
    go_simp
  · rw [hx, hy, hz]
    exact hc
theorem SlotInv.not_yet {ops : Array Oper} {a0 : Act} {V : Nat → Value → Prop} {C : Array Bool → Act → World → Prop} {listed : Array Bool} {a : Act} {w : World} (h : SlotInv ops a0 V C listed a w) {n i : Nat} (hs : listed.size = n) (hi : i < n) (hl : listed.getD i true = false)
    (j : Nat) {o : Oper} (ho : ops[j]? = some o) (e : Edge) (he : e ∈ o.after) (hb : Region.binds .any e = true) (hon : e.on = i) : listed.getD j false = false := by
  cases hj : listed.getD j false with
  | false => rfl
  | true =>
    have h1 := h.closed j o ho hj e he hb
    rw [hon, unlisted hl hs hi] at h1
    cases h1
theorem load_secs_any (p : Addr) (v : Value) (w : World) (h : w.cell? p = some v) : (Instr.loadAt 26 (.pointer (some p))).run Try.prog w = .ok v w := by go_simp
theorem load_byte (p : Addr) (n : Nat) (w : World) (h : w.cell? p = some (.int .u8 n)) : (Instr.loadAt 5 (.pointer (some p))).run Try.prog w = .ok (.int .u8 n) w := by go_simp
theorem index_bytes (b off n c k : Nat) (w : World) (h : k < n) : (Instr.indexAt 37 (.slice (some ⟨b, off, none⟩) n c) (.int .i64 k)).run Try.prog w = .ok (.pointer (some ⟨b, off + k, none⟩)) w := by
  have h' : (k : Int) < (n : Int) := by omega
  go_simp
theorem store_secs (p : Addr) (a : Option Addr) (n c : Nat) (u : Value) (w : World) (h : w.cell? p = some u) (hf : w.frozen? p = false) : (Instr.storeAt 26 (.pointer (some p)) (.slice a n c)).run Try.prog w = .ok () (w.setCell p (.slice a n c)) := by go_simp
theorem build_secs (r0 i0 r1 i1 r2 i2 r3 i3 r4 i4 : Nat) (w : World) : (Instr.buildSlice 26 1 #[(0, .agg #[.complex .f64 r0 i0, .complex .f64 r1 i1, .complex .f64 r2 i2, .complex .f64 r3 i3, .complex .f64 r4 i4])]).run Try.prog w = .ok (.slice (some ⟨w.heap.size, 0, none⟩) 1 1) (w.alloc (.cells #[.complex .f64 r0 i0, .complex .f64 r1 i1, .complex .f64 r2 i2, .complex .f64 r3 i3, .complex .f64 r4 i4] 33)) := by go_simp
theorem ok_plus {o : Oper} {a : Act} {w : World} {V : Nat → Value → Prop} {C : World → Prop} {d : Nat} {x : Operand} {I m : Nat} {t t' : TypeId} (hop : o.op = .binOp .add t x (.const (.int .i64 m)) t') (hd : o.dst = some d) (he : a.eval x = .int .i64 I) (hb : I + m < 9223372036854775807) (hV : V d (.int .i64 (I + m : Nat))) (hC : C w) :
    StepOk Try.prog o a w (fun v => ∀ d, o.dst = some d → V d v) C := by
  refine .inl ⟨_, w, ?_, slot_of hd hV, hC⟩
  have hw : IntKind.i64.wrap ((I : Int) + (m : Int)) = (I : Int) + (m : Int) := by rw [IntKind.wrap_i64]; omega
  simp only [execOp, hop, he]
  simp [eqGuard, binOp, Op.intArith, Act.eval, hw]

def wV (S b off I len c k : Nat) (bs : Nat → Nat) (v : Value) : Nat → Value → Prop
  | 17, u => u = .pointer (some ⟨S + 1, 1, none⟩)
  | 18, u => u = v
  | 19, u => u = .slice (some ⟨b, off, none⟩) len c
  | 20, u => u = .int .i64 I
  | 21, u => u = .pointer (some ⟨b, off + I, none⟩)
  | 22, u => u = .int .u8 (bs I)
  | 23, u => u = .slice (some ⟨b, off, none⟩) len c
  | 24, u => u = .int .i64 I
  | 25, u => u = .int .i64 (I + 1 : Nat)
  | 26, u => u = .pointer (some ⟨b, off + (I + 1), none⟩)
  | 27, u => u = .int .u8 (bs (I + 1))
  | 28, u => u = .slice (some ⟨b, off, none⟩) len c
  | 29, u => u = .int .i64 I
  | 30, u => u = .int .i64 (I + 2 : Nat)
  | 31, u => u = .pointer (some ⟨b, off + (I + 2), none⟩)
  | 32, u => u = .int .u8 (bs (I + 2))
  | 33, u => ∃ u1 u2 u3 u4, u = .agg #[.complex .f64 4607182418800017408 0, u1, u2, u3, u4] ∧ FinV u1 ∧ FinV u2 ∧ FinV u3 ∧ FinV u4
  | 34, u => ∃ N, u = .slice (some ⟨N, 0, none⟩) 1 1
  | 35, u => ∃ g cap, u = .slice (some ⟨g, 0, none⟩) (k + 1) cap
  | 36, u => u = .pointer (some ⟨S + 1, 1, none⟩)
  | _, _ => True
def wC (S : Nat) (wr : World) (v : Value) (k : Nat) (cs : List Value) (listed : Array Bool) (a : Act) (w : World) : Prop :=
  Below (S + 1) wr w ∧ (listed.getD 18 false = false → w.ownsRow (S + 2) 33 5 v k cs) ∧
  (listed.getD 20 false = false → w.heap[S + 1]? = some (.cells #[.complex .f64 4604930618986332160 4602678819172646912, v] 28 (0, 0))) ∧
  (listed.getD 17 false = true → listed.getD 18 false = false → ∃ N u1 u2 u3 u4, a.eval (.tmp 34) = .slice (some ⟨N, 0, none⟩) 1 1 ∧ w.rangeAt N 0 [.complex .f64 4607182418800017408 0, u1, u2, u3, u4] ∧ FinV u1 ∧ FinV u2 ∧ FinV u3 ∧ FinV u4) ∧
  (listed.getD 18 false = true → ∃ cs', a.eval (.tmp 35) = a.eval (.tmp 35) ∧ w.ownsRow (S + 2) 33 5 (a.eval (.tmp 35)) (k + 1) cs' ∧ SecCells cs' (k + 1)) ∧
  (listed.getD 20 false = true → w.heap[S + 1]? = some (.cells #[.complex .f64 4604930618986332160 4602678819172646912, a.eval (.tmp 35)] 28 (0, 0)))
theorem put_other {a : Act} {d t : Nat} {v : Value} (h : t ≠ d) : (a.put (some d) v).eval (.tmp t) = a.eval (.tmp t) := Act.eval_put (by intro d' h1 e; cases h1; cases e; exact h rfl)
theorem put_same {a : Act} {d : Nat} {v : Value} (h : d < a.tmps.size) : (a.put (some d) v).eval (.tmp d) = v := by simp [Act.put, Act.eval, h]
theorem wC.same {S : Nat} {wr w : World} {v : Value} {k : Nat} {cs : List Value} {listed : Array Bool} {a : Act} (h : wC S wr v k cs listed a w) (i d : Nat) {o : Oper} (hd : o.dst = some d) (h17 : i ≠ 17) (h18 : i ≠ 18) (h20 : i ≠ 20) (d34 : 34 ≠ d) (d35 : 35 ≠ d) : ∀ u, wC S wr v k cs (listed.setIfInBounds i true) (a.put o.dst u) w := by
  intro u
  unfold wC
  rw [hd, put_other d34, put_other d35, getD_set_ne false h17, getD_set_ne false h18, getD_set_ne false h20]
  exact h
theorem wC.call {S : Nat} {wr w w' : World} {v : Value} {k : Nat} {cs : List Value} {listed : Array Bool} {a : Act} (h : wC S wr v k cs listed a w) (i d : Nat) {o : Oper} (hd : o.dst = some d) (h17 : i ≠ 17) (h18 : i ≠ 18) (h20 : i ≠ 20) (d34 : 34 ≠ d) (d35 : 35 ≠ d)
    (u17 : listed.getD 17 false = false) (u18 : listed.getD 18 false = false) (u20 : listed.getD 20 false = false) (hb : Below w.heap.size w w') (hs : S + 2 ≤ w.heap.size) {u : Value} : wC S wr v k cs (listed.setIfInBounds i true) (a.put o.dst u) w' := by
  unfold wC
  rw [hd, put_other d34, put_other d35, getD_set_ne false h17, getD_set_ne false h18, getD_set_ne false h20]
  refine ⟨h.1.trans (hb.mono (by omega)), fun _ => (h.2.1 u18).kept (below_grown hb none) (by cases hv : v.ownBlock <;> simp), fun _ => by rw [hb.block _ (by omega)]; exact h.2.2.1 u20, fun hh => ?_, fun hh => ?_, fun hh => ?_⟩
  · rw [u17] at hh; cases hh
  · rw [u18] at hh; cases hh
  · rw [u20] at hh; cases hh
theorem wC.build {S : Nat} {wr w : World} {v : Value} {k : Nat} {cs : List Value} {listed : Array Bool} {a : Act} (h : wC S wr v k cs listed a w) {n : Nat} (hsz : a.tmps.size = n) (hn : 34 < n) {o : Oper} (hd : o.dst = some 34)
    (u18 : listed.getD 18 false = false) (u20 : listed.getD 20 false = false) {u1 u2 u3 u4 : Value} (f1 : FinV u1) (f2 : FinV u2) (f3 : FinV u3) (f4 : FinV u4) (hs : S + 2 ≤ w.heap.size) :
    wC S wr v k cs (listed.setIfInBounds 17 true) (a.put o.dst (.slice (some ⟨w.heap.size, 0, none⟩) 1 1)) (w.alloc (.cells #[.complex .f64 4607182418800017408 0, u1, u2, u3, u4] 33)) := by
  unfold wC
  rw [hd, put_same (by omega), put_other (by omega), getD_set_ne false (by omega : 17 ≠ 18), getD_set_ne false (by omega : 17 ≠ 20)]
  refine ⟨h.1.alloc (by omega) _, fun _ => (h.2.1 u18).alloc _, fun _ => by rw [Below.heap_alloc _ _ _ (by omega)]; exact h.2.2.1 u20, fun _ _ => ⟨w.heap.size, u1, u2, u3, u4, rfl, fun j x hx => ?_, f1, f2, f3, f4⟩, fun hh => ?_, fun hh => ?_⟩
  · rw [cell_of_row _ w.heap.size _ _ _ _ (heap_alloc_new _ _), Nat.zero_add, List.getElem?_toArray]; exact hx
  · rw [u18] at hh; cases hh
  · rw [u20] at hh; cases hh
theorem wC.append {S : Nat} {wr w w' : World} {v v' : Value} {k : Nat} {cs cs' : List Value} {listed : Array Bool} {a : Act} (h : wC S wr v k cs listed a w) {n : Nat} (hsz : a.tmps.size = n) (hn : 35 < n) (hls : listed.size = 21) {o : Oper} (hd : o.dst = some 35)
    (u18 : listed.getD 18 false = false) (u20 : listed.getD 20 false = false) (hg : w.grownBy w' v.ownBlock) (how : w'.ownsRow (S + 2) 33 5 v' (k + 1) cs') (hsc : SecCells cs' (k + 1)) (hs : S + 2 ≤ w.heap.size) :
    wC S wr v k cs (listed.setIfInBounds 18 true) (a.put o.dst v') w' := by
  have hown := h.2.1 u18
  unfold wC
  rw [hd, put_same (by omega), put_other (by omega), listed_set hls (by omega), getD_set_ne false (by omega : 18 ≠ 17), getD_set_ne false (by omega : 18 ≠ 20)]
  refine ⟨h.1.grown hg (by omega) (fun j e => by have := (hown.lt j e).1; omega), (fun hh => by cases hh), fun _ => ?_, (fun _ hh => by cases hh), fun _ => ⟨cs', rfl, how, hsc⟩, fun hh => ?_⟩
  · rw [hg.block _ (by omega) (row_apart hown (by omega))]; exact h.2.2.1 u20
  · rw [u20] at hh; cases hh
theorem wC.store {S : Nat} {wr w : World} {v : Value} {k g cap : Nat} {cs : List Value} {listed : Array Bool} {a : Act} (h : wC S wr v k cs listed a w) (hls : listed.size = 21) {o : Oper} (hd : o.dst = none)
    (l18 : listed.getD 18 false = true) (hF : w.heap[S + 1]? = some (.cells #[.complex .f64 4604930618986332160 4602678819172646912, v] 28 (0, 0))) (x : a.eval (.tmp 35) = .slice (some ⟨g, 0, none⟩) (k + 1) cap) :
    wC S wr v k cs (listed.setIfInBounds 20 true) (a.put o.dst undef) (w.setCell ⟨S + 1, 1, none⟩ (.slice (some ⟨g, 0, none⟩) (k + 1) cap)) := by
  obtain ⟨cs', _, how, hsc⟩ := h.2.2.2.2.1 l18
  have hev : ∀ t, (a.put o.dst undef).eval (.tmp t) = a.eval (.tmp t) := fun t => by rw [hd]; rfl
  unfold wC
  rw [hev, hev, listed_set hls (by omega), getD_set_ne false (by omega : 20 ≠ 17), getD_set_ne false (by omega : 20 ≠ 18)]
  refine ⟨h.1.setCell (Nat.le_refl _) _, fun hh => ?_, (fun hh => by cases hh), fun _ hh => ?_, fun _ => ⟨cs', rfl, ownsRow_setCell_below how (by show S + 1 < S + 2; omega) _, hsc⟩, fun _ => ?_⟩
  · rw [l18] at hh; cases hh
  · rw [l18] at hh; cases hh
  · rw [x]
    simp only [World.setCell, Array.getElem?_modify, if_pos, hF, Option.map_some]
    rfl

set_option maxRecDepth 100000 in
set_option maxHeartbeats 4000000 in
theorem works_any (ad : Option Addr) (len c : Nat) (bs : Nat → Nat) (w : World) (_hreach : len ≤ 140737488351232)
    (hb : ∀ j, j < len → ∃ b off, ad = some ⟨b, off, none⟩ ∧ b < w.heap.size ∧ bs j < 256 ∧ w.cell? ⟨b, off + j, none⟩ = some (.int .u8 (bs j))) :
    Calls Try.prog 7 #[.slice ad len c] w fun e w' => WorkPost w e w' := by
  obtain ⟨i0, hi0, hz0, hz1, hz2⟩ := info_parts infoz_sec
  have Hb := hide hb
  clear hb
  have hsc := run_store_c
  go_enter Try.func7, Try.ntmps7
  go_wp2_with fail
  clear hsc
  obtain ⟨W, hW⟩ : ∃ W, W = (w.alloc (Obj.cells #[.complex .f64 0 0, .slice none 0 0] 28)).alloc (Obj.cells #[.complex .f64 4604930618986332160 4602678819172646912, .slice none 0 0] 28) := ⟨_, rfl⟩
  rw [← hW]
  have hbW : Below w.heap.size w W := by rw [hW]; exact ((Below.refl _ _).alloc (Nat.le_refl _) _).alloc (by simp) _
  have hsW : w.heap.size + 2 ≤ W.heap.size := by rw [hW]; simp
  have hT : W.heap[w.heap.size]? = some (.cells #[.complex .f64 0 0, .slice none 0 0] 28 (0, 0)) := by rw [hW, Below.heap_alloc _ _ _ (by simp)]; exact heap_alloc_new _ _
  have hF : W.heap[w.heap.size + 1]? = some (.cells #[.complex .f64 4604930618986332160 4602678819172646912, .slice none 0 0] 28 (0, 0)) := by
    rw [hW, show w.heap.size + 1 = (w.alloc (Obj.cells #[.complex .f64 0 0, .slice none 0 0] 28)).heap.size by simp]; exact heap_alloc_new _ _
  clear hW
  go_loopw [4] (fun i wr => ∃ (k I : Nat) (v : Value) (cs : List Value), I = 3 * k ∧ k ≤ 4 ∧ i = .int .i64 I ∧ wr.heap[w.heap.size]? = some (.cells #[.complex .f64 0 0, .slice none 0 0] 28 (0, 0)) ∧ wr.heap[w.heap.size + 1]? = some (.cells #[.complex .f64 4604930618986332160 4602678819172646912, v] 28 (0, 0)) ∧
      wr.ownsRow (w.heap.size + 2) 33 5 v k cs ∧ SecCells cs k ∧ Below w.heap.size w wr ∧ w.heap.size + 2 ≤ wr.heap.size) (fun i _ => 20 - (intOf i).toNat)
  case atStart => exact ⟨0, 0, .slice none 0 0, [], rfl, by omega, rfl, hT, hF, World.ownsRow_nil _ _ _ _, ⟨rfl, fun i hi => by omega⟩, hbW, hsW⟩
  case round =>
    clear hT hF hbW hsW
    obtain ⟨k, I, v, cs, hI, hk, rfl, hT, hF, hown, hcs, hbl, hsz⟩ := hrel
    by_cases hlt : I + 2 < len ∧ I < 12
    · obtain ⟨hl1, hl2⟩ := hlt
      have hlt' : (I : Int) + 2 < (len : Int) := by omega
      have hlt2 : (I : Int) < 12 := by omega
      have hi9 : (0 : Int) ≤ (I : Int) := by omega
      have hi1 : (I : Int) < (len : Int) := by omega
      have hi2 : (0 : Int) ≤ (I : Int) + 1 := by omega
      have hi3 : ((I : Int) + 1).toNat = I + 1 := by omega
      have hi4 : (I : Int) + 1 < (len : Int) := by omega
      have hi5 : (0 : Int) ≤ (I : Int) + 2 := by omega
      have hi6 : ((I : Int) + 2).toNat = I + 2 := by omega
      obtain ⟨b, off, rfl, hbw, hx1, hc1⟩ := unhide Hb I (by omega)
      obtain ⟨b', off', e, _, hx2, hc2⟩ := unhide Hb (I + 1) (by omega)
      obtain ⟨rfl, rfl⟩ : b' = b ∧ off' = off := by simp at e; omega
      obtain ⟨b, off, e', _, hx3, hc3⟩ := unhide Hb (I + 2) (by omega)
      obtain ⟨rfl, rfl⟩ : b = b' ∧ off = off' := by simp at e'; omega
      clear e e'
      have k1 : wr.cell? ⟨b, off + I, none⟩ = some (.int .u8 (bs I)) := by rw [hbl.cell (by exact hbw)]; exact hc1
      have k2 : wr.cell? ⟨b, off + (I + 1), none⟩ = some (.int .u8 (bs (I + 1))) := by rw [hbl.cell (by exact hbw)]; exact hc2
      have k3 : wr.cell? ⟨b, off + (I + 2), none⟩ = some (.int .u8 (bs (I + 2))) := by rw [hbl.cell (by exact hbw)]; exact hc3
      have kF : wr.cell? ⟨w.heap.size + 1, 1, none⟩ = some v := by rw [cell_of_row wr _ _ _ _ _ hF]; rfl
      have fF : wr.frozen? ⟨w.heap.size + 1, 1, none⟩ = false := frozen_of_row wr _ _ _ _ hF
      have Hs := hide (section_any (bs I) (bs (I + 1)) (bs (I + 2)) hx1 hx2 hx3)
      have HI := hide hI
      have Hr := hide (And.intro hT (And.intro hF (And.intro hcs (And.intro hown hbl))))
      have hbr : b < wr.heap.size := by omega
      clear hc1 hc2 hc3 hI hx1 hx2 hx3
      go_wp2_with fail
      rename_i K hK
      have HK := hide hK
      clear hK
      refine region_slotsA (wV w.heap.size b off I len c k bs v) (wC w.heap.size wr v k cs) (by kernel_rfl) (by kernel_rfl) (by kernel_rfl) 38 (by kernel_rfl) rfl ?_ ?_ ?_
      · exact ⟨(Below.refl _ _).drew, fun _ => hown.drew, fun _ => hF, fun h => by simp at h, fun h => by simp at h, fun h => by simp at h⟩
      · intro listed a' w2 i o hI ho hsz2 hl hd
        have hi : i < 21 := by simpa using (Array.getElem?_eq_some_iff.1 ho).1
        have hc : wC w.heap.size wr v k cs listed a' w2 := hI.world
        have hsz' : listed.size = 21 := hsz2
        have hcell : ∀ q x, wr.cell? ⟨b, q, none⟩ = some x → w2.cell? ⟨b, q, none⟩ = some x := fun q x h => by rw [hc.1.cell (by show b < _; omega)]; exact h
        rcases (by omega : i = 0 ∨ i = 1 ∨ i = 2 ∨ i = 3 ∨ i = 4 ∨ i = 5 ∨ i = 6 ∨ i = 7 ∨ i = 8 ∨ i = 9 ∨ i = 10 ∨ i = 11 ∨ i = 12 ∨ i = 13 ∨ i = 14 ∨ i = 15 ∨ i = 16 ∨ i = 17 ∨ i = 18 ∨ i = 19 ∨ i = 20) with rfl | rfl | rfl | rfl | rfl | rfl | rfl | rfl | rfl | rfl | rfl | rfl | rfl | rfl | rfl | rfl | rfl | rfl | rfl | rfl | rfl
        all_goals obtain rfl := Option.some.inj ho
        · exact (ok_field rfl rfl (hI.base 3 (by kernel_rfl)) (field_filt1 _ _) rfl (hc.same 0 17 rfl (by omega) (by omega) (by omega) (by omega) (by omega))).toR
        · have u20 : listed.getD 20 false = false := hI.not_yet hsz' (by omega) hl 20 rfl ⟨1, .phase⟩ (by simp) rfl rfl
          have hFw := hc.2.2.1 u20
          exact (ok_load rfl rfl (hI.slot 0 _ 17 rfl rfl (hd ⟨0, .data⟩ (by simp) rfl)) (load_secs_any _ _ _ (by rw [cell_of_row w2 _ _ _ _ _ hFw]; rfl)) rfl (hc.same 1 18 rfl (by omega) (by omega) (by omega) (by omega) (by omega))).toR
        · exact (ok_move rfl rfl (hI.base 0 (by kernel_rfl)) rfl (hc.same 2 19 rfl (by omega) (by omega) (by omega) (by omega) (by omega))).toR
        · exact (ok_move rfl rfl (hI.base 4 (by kernel_rfl)) rfl (hc.same 3 20 rfl (by omega) (by omega) (by omega) (by omega) (by omega))).toR
        · exact (ok_index rfl rfl (hI.slot 2 _ 19 rfl rfl (hd ⟨2, .data⟩ (by simp) rfl)) (hI.slot 3 _ 20 rfl rfl (hd ⟨3, .data⟩ (by simp) rfl)) (index_bytes _ _ _ _ _ _ (by omega)) rfl (hc.same 4 21 rfl (by omega) (by omega) (by omega) (by omega) (by omega))).toR
        · exact (ok_load rfl rfl (hI.slot 4 _ 21 rfl rfl (hd ⟨4, .data⟩ (by simp) rfl)) (load_byte _ _ _ (hcell _ _ k1)) rfl (hc.same 5 22 rfl (by omega) (by omega) (by omega) (by omega) (by omega))).toR
        · exact (ok_move rfl rfl (hI.base 0 (by kernel_rfl)) rfl (hc.same 6 23 rfl (by omega) (by omega) (by omega) (by omega) (by omega))).toR
        · exact (ok_move rfl rfl (hI.base 4 (by kernel_rfl)) rfl (hc.same 7 24 rfl (by omega) (by omega) (by omega) (by omega) (by omega))).toR
        · exact (ok_plus (m := 1) rfl rfl (hI.slot 7 _ 24 rfl rfl (hd ⟨7, .data⟩ (by simp) rfl)) (by omega) rfl (hc.same 8 25 rfl (by omega) (by omega) (by omega) (by omega) (by omega))).toR
        · exact (ok_index rfl rfl (hI.slot 6 _ 23 rfl rfl (hd ⟨6, .data⟩ (by simp) rfl)) (hI.slot 8 _ 25 rfl rfl (hd ⟨8, .data⟩ (by simp) rfl)) (index_bytes _ _ _ _ _ _ (by omega)) rfl (hc.same 9 26 rfl (by omega) (by omega) (by omega) (by omega) (by omega))).toR
        · exact (ok_load rfl rfl (hI.slot 9 _ 26 rfl rfl (hd ⟨9, .data⟩ (by simp) rfl)) (load_byte _ _ _ (hcell _ _ k2)) rfl (hc.same 10 27 rfl (by omega) (by omega) (by omega) (by omega) (by omega))).toR
        · exact (ok_move rfl rfl (hI.base 0 (by kernel_rfl)) rfl (hc.same 11 28 rfl (by omega) (by omega) (by omega) (by omega) (by omega))).toR
        · exact (ok_move rfl rfl (hI.base 4 (by kernel_rfl)) rfl (hc.same 12 29 rfl (by omega) (by omega) (by omega) (by omega) (by omega))).toR
        · exact (ok_plus (m := 2) rfl rfl (hI.slot 12 _ 29 rfl rfl (hd ⟨12, .data⟩ (by simp) rfl)) (by omega) rfl (hc.same 13 30 rfl (by omega) (by omega) (by omega) (by omega) (by omega))).toR
        · exact (ok_index rfl rfl (hI.slot 11 _ 28 rfl rfl (hd ⟨11, .data⟩ (by simp) rfl)) (hI.slot 13 _ 30 rfl rfl (hd ⟨13, .data⟩ (by simp) rfl)) (index_bytes _ _ _ _ _ _ (by omega)) rfl (hc.same 14 31 rfl (by omega) (by omega) (by omega) (by omega) (by omega))).toR
        · exact (ok_load rfl rfl (hI.slot 14 _ 31 rfl rfl (hd ⟨14, .data⟩ (by simp) rfl)) (load_byte _ _ _ (hcell _ _ k3)) rfl (hc.same 15 32 rfl (by omega) (by omega) (by omega) (by omega) (by omega))).toR
        · have x1 := hI.slot 5 _ 22 rfl rfl (hd ⟨5, .data⟩ (by simp) rfl)
          have x2 := hI.slot 10 _ 27 rfl rfl (hd ⟨10, .data⟩ (by simp) rfl)
          have x3 := hI.slot 15 _ 32 rfl rfl (hd ⟨15, .data⟩ (by simp) rfl)
          have u17 : listed.getD 17 false = false := hI.not_yet hsz' (by omega) hl 17 rfl ⟨16, .data⟩ (by simp) rfl rfl
          have u18 : listed.getD 18 false = false := hI.not_yet hsz' (by omega) hl 18 rfl ⟨16, .chain⟩ (by simp) rfl rfl
          have u20 : listed.getD 20 false = false := hI.not_yet hsz' (by omega) hl 20 rfl ⟨16, .phase⟩ (by simp) rfl rfl
          refine okR_section rfl x1 x2 x3 ((unhide Hs w2).mono ?_)
          rintro e w3 ⟨r1, j1, r3, j3, r4, j4, rfl, f1, f3, f4, hb3⟩
          refine ⟨_, rfl, slot_of rfl ⟨_, _, _, _, rfl, f1, fin_b2, f3, f4⟩, ?_⟩
          have hs2 := hc.1.size
          exact hc.call 16 33 rfl (by omega) (by omega) (by omega) (by omega) (by omega) u17 u18 u20 hb3 (by omega)
        · obtain ⟨u1, u2, u3, u4, x1, f1, f2, f3, f4⟩ := hI.slot 16 _ 33 rfl rfl (hd ⟨16, .data⟩ (by simp) rfl)
          have u18 : listed.getD 18 false = false := hI.not_yet hsz' (by omega) hl 18 rfl ⟨17, .data⟩ (by simp) rfl rfl
          have u20 : listed.getD 20 false = false := hI.not_yet hsz' (by omega) hl 20 rfl ⟨17, .phase⟩ (by simp) rfl rfl
          have hs2 := hc.1.size
          refine .inl ⟨.slice (some ⟨w2.heap.size, 0, none⟩) 1 1, w2.alloc (.cells #[.complex .f64 4607182418800017408 0, u1, u2, u3, u4] 33), ?_, slot_of rfl ⟨_, rfl⟩, ?_⟩
          · obtain ⟨a1, b1, rfl, _⟩ := f1
            obtain ⟨a2, b2, rfl, _⟩ := f2
            obtain ⟨a3, b3, rfl, _⟩ := f3
            obtain ⟨a4, b4, rfl, _⟩ := f4
            simp [execOp, x1, build_secs]
          · exact hc.build hI.size (show 34 < 38 by omega) rfl u18 u20 f1 f2 f3 f4 (by omega)
        · have x1 := hI.slot 1 _ 18 rfl rfl (hd ⟨1, .data⟩ (by simp) rfl)
          have u18 := unlisted hl hsz' (by omega)
          have u20 : listed.getD 20 false = false := hI.not_yet hsz' (by omega) hl 20 rfl ⟨18, .data⟩ (by simp) rfl rfl
          have l17 := hd ⟨17, .data⟩ (by simp) rfl
          have hs2 := hc.1.size
          obtain ⟨N, u1, u2, u3, u4, x2, hN, f1, f2, f3, f4⟩ := hc.2.2.2.1 l17 u18
          have hrun := run_append_own (P := Try.prog) w2 (w.heap.size + 2) 26 26 33 i0 (.agg #[c0, c0, c0, c0, c0]) 5 80 Try.underlying26 hi0 hz0 hz1 hz2 rfl (by omega) v k cs (hc.2.1 u18) ⟨N, 0, none⟩ 1 1 [.complex .f64 4607182418800017408 0, u1, u2, u3, u4] rfl
            (fun j u hu => by rw [Addr.add_mid]; exact hN j u hu) (by intro u hu; simp at hu; rcases hu with rfl | rfl | rfl | rfl | rfl; rfl; exact f1.one; exact f2.one; exact f3.one; exact f4.one) (by unfold maxLen; omega) (by omega) (by omega)
          obtain ⟨v', w3, hr, how, hgr, hnil⟩ := hrun
          have hv' : ∃ g cap, v' = .slice (some ⟨g, 0, none⟩) (k + 1) cap := by
            rcases how.2 with ⟨_, h0⟩ | ⟨g, cap, _, h0, _⟩
            · omega
            · exact ⟨g, cap, h0⟩
          refine okR_append rfl x1 x2 hr ⟨slot_of rfl hv', ?_⟩
          exact hc.append hI.size (show 35 < 38 by omega) hsz' rfl u18 u20 hgr how (hcs.push f1 f2 f3 f4) (by omega)
        · exact (ok_field rfl rfl (hI.base 3 (by kernel_rfl)) (field_filt1 _ _) rfl (hc.same 19 36 rfl (by omega) (by omega) (by omega) (by omega) (by omega))).toR
        · have x1 := hI.slot 19 _ 36 rfl rfl (hd ⟨19, .data⟩ (by simp) rfl)
          obtain ⟨g, cap, x2⟩ := hI.slot 18 _ 35 rfl rfl (hd ⟨18, .data⟩ (by simp) rfl)
          have u20 := unlisted hl hsz' (by omega)
          have l18 := hd ⟨18, .data⟩ (by simp) rfl
          have hFw := hc.2.2.1 u20
          have hs2 := hc.1.size
          exact okR_store rfl x1 x2 (store_secs _ _ _ _ v _ (by rw [cell_of_row w2 _ _ _ _ _ hFw]; rfl) (frozen_of_row w2 _ _ _ _ hFw)) ⟨fun d' h => (by cases h), hc.store hsz' rfl l18 hFw x2⟩
      · intro listed a' w2 hI hall
        have k35 := hI.slot 18 _ 35 rfl rfl (hall 18 (by decide))
        have E := act_lit a' 38 hI.size
        rw [hI.defers] at E
        replace E : a' = ⟨#[a'.eval (.tmp 0), a'.eval (.tmp 1), a'.eval (.tmp 2), a'.eval (.tmp 3), a'.eval (.tmp 4), a'.eval (.tmp 5), a'.eval (.tmp 6), a'.eval (.tmp 7), a'.eval (.tmp 8), a'.eval (.tmp 9), a'.eval (.tmp 10), a'.eval (.tmp 11), a'.eval (.tmp 12), a'.eval (.tmp 13), a'.eval (.tmp 14), a'.eval (.tmp 15), a'.eval (.tmp 16), a'.eval (.tmp 17), a'.eval (.tmp 18), a'.eval (.tmp 19), a'.eval (.tmp 20), a'.eval (.tmp 21), a'.eval (.tmp 22), a'.eval (.tmp 23), a'.eval (.tmp 24), a'.eval (.tmp 25), a'.eval (.tmp 26), a'.eval (.tmp 27), a'.eval (.tmp 28), a'.eval (.tmp 29), a'.eval (.tmp 30), a'.eval (.tmp 31), a'.eval (.tmp 32), a'.eval (.tmp 33), a'.eval (.tmp 34), a'.eval (.tmp 35), a'.eval (.tmp 36), a'.eval (.tmp 37)], _⟩ := E
        rw [hI.base 0 (by kernel_rfl), hI.base 1 (by kernel_rfl), hI.base 2 (by kernel_rfl), hI.base 3 (by kernel_rfl), hI.base 4 (by kernel_rfl), hI.base 5 (by kernel_rfl), hI.base 6 (by kernel_rfl), hI.base 7 (by kernel_rfl), hI.base 8 (by kernel_rfl), hI.base 9 (by kernel_rfl), hI.base 10 (by kernel_rfl), hI.base 11 (by kernel_rfl), hI.base 12 (by kernel_rfl), hI.base 13 (by kernel_rfl), hI.base 14 (by kernel_rfl), hI.base 15 (by kernel_rfl), hI.base 16 (by kernel_rfl), hI.base 37 (by kernel_rfl)] at E
        have hw : wC w.heap.size wr v k cs listed a' w2 := hI.world
        clear hI
        generalize a'.eval (.tmp 17) = y17 at E
        generalize a'.eval (.tmp 18) = y18 at E
        generalize a'.eval (.tmp 19) = y19 at E
        generalize a'.eval (.tmp 20) = y20 at E
        generalize a'.eval (.tmp 21) = y21 at E
        generalize a'.eval (.tmp 22) = y22 at E
        generalize a'.eval (.tmp 23) = y23 at E
        generalize a'.eval (.tmp 24) = y24 at E
        generalize a'.eval (.tmp 25) = y25 at E
        generalize a'.eval (.tmp 26) = y26 at E
        generalize a'.eval (.tmp 27) = y27 at E
        generalize a'.eval (.tmp 28) = y28 at E
        generalize a'.eval (.tmp 29) = y29 at E
        generalize a'.eval (.tmp 30) = y30 at E
        generalize a'.eval (.tmp 31) = y31 at E
        generalize a'.eval (.tmp 32) = y32 at E
        generalize a'.eval (.tmp 33) = y33 at E
        generalize a'.eval (.tmp 34) = y34 at E hw
        generalize a'.eval (.tmp 35) = y35 at E k35 hw
        generalize a'.eval (.tmp 36) = y36 at E
        simp [Act.eval] at E
        subst E
        obtain ⟨hb2, _, _, _, g18, g20⟩ := hw
        obtain ⟨cs', e35, how, hsc'⟩ := g18 (hall 18 (by decide))
        have hF2 := g20 (hall 20 (by decide))
        refine unhide HK _ _ ?_
        clear HK hall g18 g20
        go_wp2
        go_roundw
        case rel =>
          refine ⟨k + 1, I + 3, y35, cs', by have := unhide HI; omega, by have := unhide HI; omega, by go_num, ?_, hF2, how, hsc', hbl.trans (hb2.mono (by omega)), by have := hb2.size; omega⟩
          rw [hb2.block _ (by omega)]; exact hT
        case measure => simp [intOf]; omega
    · obtain ⟨ao, m, cp, rfl⟩ : ∃ ao m cp, v = .slice ao m cp := by
        rcases hown.2 with ⟨rfl, _⟩ | ⟨g, cap, cur, rfl, _⟩
        · exact ⟨_, _, _, rfl⟩
        · exact ⟨_, _, _, rfl⟩
      have q0 : wr.cell? ⟨w.heap.size + 1, 0, none⟩ = some (.complex .f64 4604930618986332160 4602678819172646912) := by rw [cell_of_row wr _ _ _ _ _ hF]; rfl
      have q1 : wr.cell? ⟨w.heap.size + 1, 1, none⟩ = some (.slice ao m cp) := by rw [cell_of_row wr _ _ _ _ _ hF]; rfl
      have t0 : wr.cell? ⟨w.heap.size, 0, none⟩ = some (.complex .f64 0 0) := by rw [cell_of_row wr _ _ _ _ _ hT]; rfl
      have t1 : wr.cell? ⟨w.heap.size, 1, none⟩ = some (.slice none 0 0) := by rw [cell_of_row wr _ _ _ _ _ hT]; rfl
      have g0 : wr.frozen? ⟨w.heap.size, 0, none⟩ = false := frozen_of_row wr _ _ _ _ hT
      have g1 : wr.frozen? ⟨w.heap.size, 1, none⟩ = false := frozen_of_row wr _ _ _ _ hT
      have hsc := run_store_c
      have hIb : (I : Int) ≤ 12 := by omega
      have Hq := hide (And.intro hown (And.intro hcs (And.intro hbl (And.intro t0 t1))))
      have HI := hide hI
      clear hT hF hown hcs hbl hI
      have hend : ∀ a2 : Act, a2.tmps.getD 2 undef = .pointer (some ⟨w.heap.size, 0, none⟩) → a2.defers = [] → bodyPost Try.prog Try.f7 (fun e w' => WorkPost w e w') Exit.ret a2
          ((wr.setCell ⟨w.heap.size, 0, none⟩ (.complex .f64 4604930618986332160 4602678819172646912)).setCell ⟨w.heap.size, 1, none⟩ (.slice ao m cp)) := by
        intro a2 h2 hdf
        obtain ⟨hown, hcs, hbl, t0, t1⟩ := unhide Hq
        refine bodyPost_ret (results_cell1 rfl (b := w.heap.size) h2 (run_loadVar_mid _ w.heap.size 0 28 [.complex .f64 4604930618986332160 4602678819172646912, .slice ao m cp] _ ?_ Try.underlying28 rfl info_filt)) hdf ?_
        · intro j x hx
          have hj : j < 2 := (List.getElem?_eq_some_iff.1 hx).1
          rcases (by omega : j = 0 ∨ j = 1) with rfl | rfl
          · obtain rfl := Option.some.inj hx
            rw [cell_ne (by intro e; have := congrArg Addr.off e; simp at this)]
            exact cell_eq t0
          · obtain rfl := Option.some.inj hx
            exact cell_eq (u := .slice none 0 0) (by rw [cell_ne (by intro e; have := congrArg Addr.off e; simp at this)]; exact t1)
        · exact ⟨.slice ao m cp, k, cs, rfl, hk, secs_of (ownsRow_setCell_below (ownsRow_setCell_below hown (by show w.heap.size < w.heap.size + 2; omega) _) (by show w.heap.size < w.heap.size + 2; omega) _) hcs, (hbl.setCell (Nat.le_refl _) _).setCell (Nat.le_refl _) _⟩
      have He := hide hend
      clear hend
      by_cases h1 : I + 2 < len
      · have hlt' : (I : Int) + 2 < (len : Int) := by omega
        have hlt2 : ¬ ((I : Int) < 12) := by omega
        go_wp2
        refine unhide He _ ?_ ?_ <;> rfl
      · have hlt' : ¬ ((I : Int) + 2 < (len : Int)) := by omega
        go_wp2
        refine unhide He _ ?_ ?_ <;> rfl
end Go.Proofs.Yteoglcelgcjpoaa
