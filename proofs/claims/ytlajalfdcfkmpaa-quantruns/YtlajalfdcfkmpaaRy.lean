/- A region that runs a section over a cut of a list that came in as an argument, whatever its order; rows appended to rows. -/
import Derived.Test.YtlajalfdcfkmpaaDr
import Derived.Test.YtlajalfdcfkmpaaQk
import Derived.Test.YtlajalfdcfkmpaaRgj
import Derived.Laws.AppendOwnNone
import Derived.Maps.AppendAt
namespace Go.Proofs.Ytlajalfdcfkmpaa
open Go.RowKit Go.Maps

theorem enter_run (xs : Array Value) (w : World) : (callFunc 18 xs).run Try.prog w = .ok (.enter 18 xs) w := by go_simp
def tup (g m : Nat) (s : St) (c : Int) : Value := .tuple #[.slice (some ⟨g, 0, none⟩) m m, vS s, .int .i64 c]
def rnC (d d5 d6 d7 d11 : Nat) (W : World) (s : St) (m : Nat) (Y : Nat → Int) (cnt : Int) (listed : Array Bool) (a : Act) (w : World) : Prop :=
  alC d 10 12 W s listed a w ∧ (listed.getD 5 false = true → ∃ g, a.eval (.tmp d5) = tup g m s cnt ∧ (listed.getD 6 false = true → a.eval (.tmp d6) = tup g m s cnt) ∧ (listed.getD 7 false = true → a.eval (.tmp d7) = .slice (some ⟨g, 0, none⟩) m m) ∧ (listed.getD 11 false = true → a.eval (.tmp d11) = .slice (some ⟨g, 0, none⟩) m m) ∧
    W.heap.size ≤ g ∧ w.ownsRow W.heap.size 2 1 (.slice (some ⟨g, 0, none⟩) m m) m (rowL Y m m) ∧ (listed.getD 10 false = true → a.eval (.tmp d) ≠ .pointer (some ⟨g, 0, none⟩)))
theorem getD_rep (n i : Nat) : (Array.replicate n false).getD i false = false := by
  rw [Array.getD_eq_getD_getElem?, Array.getElem?_replicate]
  split <;> rfl
section
variable {d d5 d6 d7 d11 m : Nat} {W w w' : World} {s : St} {Y : Nat → Int} {cnt : Int} {listed : Array Bool} {a : Act} {o : Oper}
theorem rnC.start {n : Nat} : rnC d d5 d6 d7 d11 W s m Y cnt (Array.replicate n false) a W.drew := ⟨alC.start, fun h => by rw [getD_rep] at h; cases h⟩
theorem rnC.same (h : rnC d d5 d6 d7 d11 W s m Y cnt listed a w) (i : Nat) {e : Nat} (hd : o.dst = some e) (hi : i ≠ 5 ∧ i ≠ 6 ∧ i ≠ 7 ∧ i ≠ 10 ∧ i ≠ 11 ∧ i ≠ 12) (he : d ≠ e ∧ d5 ≠ e ∧ d6 ≠ e ∧ d7 ≠ e ∧ d11 ≠ e) {u : Value} :
    rnC d d5 d6 d7 d11 W s m Y cnt (listed.setIfInBounds i true) (a.put o.dst u) w := by
  refine ⟨h.1.same i hd hi.2.2.2.1 hi.2.2.2.2.2 he.1 (Below.refl _ _), ?_⟩
  rw [hd, putOther he.1, putOther he.2.1, putOther he.2.2.1, putOther he.2.2.2.1, putOther he.2.2.2.2, getD_set_ne false hi.1, getD_set_ne false hi.2.1, getD_set_ne false hi.2.2.1, getD_set_ne false hi.2.2.2.1, getD_set_ne false hi.2.2.2.2.1]
  exact h.2
theorem rnC.call (h : rnC d d5 d6 d7 d11 W s m Y cnt listed a w) {n : Nat} (hn : a.tmps.size = n) (h5 : d5 < n) (hd : o.dst = some d5) (he : d ≠ d5) (hu : listed.getD 6 false = false ∧ listed.getD 7 false = false ∧ listed.getD 11 false = false) {g : Nat} (hb : Below w.heap.size w w') (hg : w.heap.size ≤ g) (hown : w'.ownsRow w.heap.size 2 1 (.slice (some ⟨g, 0, none⟩) m m) m (rowL Y m m)) :
    rnC d d5 d6 d7 d11 W s m Y cnt (listed.setIfInBounds 5 true) (a.put o.dst (tup g m s cnt)) w' := by
  refine ⟨h.1.same 5 hd (by omega) (by omega) he hb, fun _ => ⟨g, ?_, ?_, ?_, ?_, Nat.le_trans h.1.1.size hg, Joins.ownsRow_le hown h.1.1.size, ?_⟩⟩
  · rw [hd, putSame (by omega)]
  · rw [getD_set_ne false (by omega), hu.1]; intro e; cases e
  · rw [getD_set_ne false (by omega), hu.2.1]; intro e; cases e
  · rw [getD_set_ne false (by omega), hu.2.2]; intro e; cases e
  · rw [hd, putOther he, getD_set_ne false (by omega)]
    intro hl e
    obtain ⟨N, e1, _, e3⟩ := h.1.2 hl
    rw [e1] at e
    have : N = g := by simpa using e
    have := e3.lt
    omega
theorem rnC.mv (h : rnC d d5 d6 d7 d11 W s m Y cnt listed a w) {n : Nat} (hn : a.tmps.size = n) (h6 : d6 < n) (hd : o.dst = some d6) (he : d ≠ d6 ∧ d5 ≠ d6 ∧ d7 ≠ d6 ∧ d11 ≠ d6) (l5 : listed.getD 5 false = true) :
    rnC d d5 d6 d7 d11 W s m Y cnt (listed.setIfInBounds 6 true) (a.put o.dst (a.eval (.tmp d5))) w := by
  obtain ⟨g, e1, e2, e3, e4, e5, e6, e7⟩ := h.2 l5
  refine ⟨h.1.same 6 hd (by omega) (by omega) he.1 (Below.refl _ _), fun _ => ⟨g, ?_, ?_, ?_, ?_, e5, e6, ?_⟩⟩
  · rw [hd, putOther he.2.1]; exact e1
  · intro _; rw [hd, putSame (by omega)]; exact e1
  · rw [hd, putOther he.2.2.1, getD_set_ne false (by omega)]; exact e3
  · rw [hd, putOther he.2.2.2, getD_set_ne false (by omega)]; exact e4
  · rw [hd, putOther he.1, getD_set_ne false (by omega)]; exact e7
theorem rnC.ex (h : rnC d d5 d6 d7 d11 W s m Y cnt listed a w) {n : Nat} (hn : a.tmps.size = n) (h7 : d7 < n) (hd : o.dst = some d7) (he : d ≠ d7 ∧ d5 ≠ d7 ∧ d6 ≠ d7 ∧ d11 ≠ d7) {g : Nat} (l5 : listed.getD 5 false = true) (hg : a.eval (.tmp d5) = tup g m s cnt) :
    rnC d d5 d6 d7 d11 W s m Y cnt (listed.setIfInBounds 7 true) (a.put o.dst (.slice (some ⟨g, 0, none⟩) m m)) w := by
  obtain ⟨g', e1, e2, e3, e4, e5, e6, e7⟩ := h.2 l5
  have : g' = g := by rw [e1] at hg; simpa [tup] using hg
  subst this
  refine ⟨h.1.same 7 hd (by omega) (by omega) he.1 (Below.refl _ _), fun _ => ⟨g', ?_, ?_, ?_, ?_, e5, e6, ?_⟩⟩
  · rw [hd, putOther he.2.1]; exact e1
  · rw [hd, putOther he.2.2.1, getD_set_ne false (by omega)]; exact e2
  · intro _; rw [hd, putSame (by omega)]
  · rw [hd, putOther he.2.2.2, getD_set_ne false (by omega)]; exact e4
  · rw [hd, putOther he.1, getD_set_ne false (by omega)]; exact e7
theorem rnC.asg (h : rnC d d5 d6 d7 d11 W s m Y cnt listed a w) {n : Nat} (hn : a.tmps.size = n) (h7 : d11 < n) (hd : o.dst = some d11) (he : d ≠ d11 ∧ d5 ≠ d11 ∧ d6 ≠ d11 ∧ d7 ≠ d11) (l5 : listed.getD 5 false = true) (l7 : listed.getD 7 false = true) :
    rnC d d5 d6 d7 d11 W s m Y cnt (listed.setIfInBounds 11 true) (a.put o.dst (a.eval (.tmp d7))) w := by
  obtain ⟨g', e1, e2, e3, e4, e5, e6, e7⟩ := h.2 l5
  refine ⟨h.1.same 11 hd (by omega) (by omega) he.1 (Below.refl _ _), fun _ => ⟨g', ?_, ?_, ?_, ?_, e5, e6, ?_⟩⟩
  · rw [hd, putOther he.2.1]; exact e1
  · rw [hd, putOther he.2.2.1, getD_set_ne false (by omega)]; exact e2
  · rw [hd, putOther he.2.2.2, getD_set_ne false (by omega)]; exact e3
  · intro _; rw [hd, putSame (by omega)]; exact e3 l7
  · rw [hd, putOther he.1, getD_set_ne false (by omega)]; exact e7
theorem rnC.alloc (h : rnC d d5 d6 d7 d11 W s m Y cnt listed a w) {n : Nat} (hn : a.tmps.size = n) (hs : d < n) (hd : o.dst = some d) (he : d5 ≠ d ∧ d6 ≠ d ∧ d7 ≠ d ∧ d11 ≠ d) (hu : listed.getD 12 false = false) :
    rnC d d5 d6 d7 d11 W s m Y cnt (listed.setIfInBounds 10 true) (a.put o.dst (.pointer (some ⟨w.heap.size, 0, none⟩))) (w.alloc (.cells (aS zSt) 40)) := by
  refine ⟨h.1.alloc hn hs hd (by omega) hu, ?_⟩
  rw [hd, putOther he.1, putOther he.2.1, putOther he.2.2.1, putOther he.2.2.2, putSame (by omega), getD_set_ne false (by omega), getD_set_ne false (by omega), getD_set_ne false (by omega), getD_set_ne false (by omega)]
  intro l5
  obtain ⟨g', e1, e2, e3, e4, e5, e6, e7⟩ := h.2 l5
  refine ⟨g', e1, e2, e3, e4, e5, e6.alloc _, fun _ e => ?_⟩
  have h1 : w.heap.size = g' := by simpa using e
  have := (e6.lt g' rfl).2
  omega
theorem rnC.store (h : rnC d d5 d6 d7 d11 W s m Y cnt listed a w) {N : Nat} (hd : o.dst = none) (ha : listed.getD 10 false = true) (hN : a.eval (.tmp d) = .pointer (some ⟨N, 0, none⟩)) (hi : 12 < listed.size) :
    rnC d d5 d6 d7 d11 W s m Y cnt (listed.setIfInBounds 12 true) (a.put o.dst undef) (w.setCells N 0 (aS s).toList) := by
  refine ⟨h.1.store hd ha hN hi, ?_⟩
  have hev : ∀ t, (a.put o.dst undef).eval (.tmp t) = a.eval (.tmp t) := fun t => by rw [hd]; rfl
  rw [hev, hev, hev, hev, hev, getD_set_ne false (by omega), getD_set_ne false (by omega), getD_set_ne false (by omega), getD_set_ne false (by omega), getD_set_ne false (by omega)]
  intro l5
  obtain ⟨g', e1, e2, e3, e4, e5, e6, e7⟩ := h.2 l5
  refine ⟨g', e1, e2, e3, e4, e5, ?_, e7⟩
  refine e6.kept (row := some N) ⟨(Below.setCells (Below.refl 0 w) (Nat.zero_le N) 0 _).os, (Below.setCells (Below.refl 0 w) (Nat.zero_le N) 0 _).tape, (Below.setCells (Below.refl 0 w) (Nat.zero_le N) 0 _).output, by rw [size_setCells]; exact Nat.le_refl _, fun q _ hq => heap_setCells_other N (fun e => hq (by rw [e])) _ _ _⟩ (.inr ?_)
  intro e
  have h2 : g' = N := by simpa [Value.ownBlock] using e
  exact e7 ha (by rw [hN, h2])
end

/-- A list among the arguments: without room, or cells from a place on. -/
def XArg (v : Value) (q : Nat) : Prop := (q = 0 ∧ ∃ ad, v = .slice ad 0 0) ∨ ∃ b off c, v = .slice (some ⟨b, off, none⟩) q c ∧ q ≤ c
theorem step_head {o : Oper} {a : Act} {w : World} {R : Value → World → Prop} {x y q m : Nat} {v : Value} {X : Nat → Int} {W : World} (hop : o.op = .slice 44 (.tmp x) none (some (.tmp y)) none) (hx : a.eval (.tmp x) = v) (hv : XArg v q) (hy : a.eval (.tmp y) = .int .i64 (m : Nat)) (hm : m ≤ q)
    (hin : ∀ ad c, v = .slice ad q c → InAt W ad q X) (hR : ∀ ad c, InAt W ad m X → R (.slice ad m c) w) : StepOkR Try.prog o a w R := by
  rcases hv with ⟨rfl, ad, rfl⟩ | ⟨g, off, c, rfl, hc⟩
  · obtain rfl : m = 0 := by omega
    rw [Act.eval, Array.getD_eq_getD_getElem?] at hx hy
    have hR0 := hR ad 0 (fun j hj => absurd hj (Nat.not_lt_zero j))
    clear hR hin
    cases ad with
    | none =>
      refine .inl ⟨_, w, ?_, hR0⟩
      clear hR0
      simp only [execOp, hop]
      go_simp
    | some p =>
      refine .inl ⟨_, w, ?_, hR0⟩
      clear hR0
      simp only [execOp, hop]
      go_simp
  · refine .inl ⟨_, w, ?_, hR (some ⟨g, off, none⟩) c (fun j hj => hin _ _ rfl j (by omega))⟩
    have i1 : (m : Int) ≤ (c : Int) := by omega
    have i2 : (0 : Int) ≤ (m : Int) := by omega
    rw [Act.eval, Array.getD_eq_getD_getElem?] at hx hy
    clear hR hin
    simp only [execOp, hop]
    go_simp
theorem step_cut {o : Oper} {a : Act} {w : World} {R : Value → World → Prop} {x y q m : Nat} {v : Value} {X : Nat → Int} {W : World} (hop : o.op = .slice 44 (.tmp x) (some (.tmp y)) none none) (hx : a.eval (.tmp x) = v) (hv : XArg v q) (hy : a.eval (.tmp y) = .int .i64 (m : Nat)) (hm : m ≤ q)
    (hin : ∀ ad c, v = .slice ad q c → InAt W ad q X) (hR : ∀ ad c, InAt W ad (q - m) (fun j => X (m + j)) → R (.slice ad (q - m) c) w) : StepOkR Try.prog o a w R := by
  rcases hv with ⟨rfl, ad, rfl⟩ | ⟨g, off, c, rfl, hc⟩
  · obtain rfl : m = 0 := by omega
    rw [Act.eval, Array.getD_eq_getD_getElem?] at hx hy
    have hR0 := hR ad 0 (fun j hj => by omega)
    clear hR hin
    cases ad with
    | none =>
      refine .inl ⟨_, w, ?_, hR0⟩
      clear hR0
      simp only [execOp, hop]
      go_simp
    | some p =>
      refine .inl ⟨_, w, ?_, hR0⟩
      clear hR0
      simp only [execOp, hop]
      go_simp
  · have i1 : (m : Int) ≤ (c : Int) := by omega
    have i2 : (0 : Int) ≤ (m : Int) := by omega
    have i3 : (m : Int) ≤ (q : Int) := by omega
    rw [Act.eval, Array.getD_eq_getD_getElem?] at hx hy
    by_cases hcm : c = m
    · obtain rfl : q = m := by omega
      subst hcm
      refine .inl ⟨_, w, ?_, hR (some ⟨g, off, none⟩) 0 (fun j hj => by omega)⟩
      clear hR hin
      simp only [execOp, hop]
      go_simp
    · refine .inl ⟨.slice (some ⟨g, off + m, none⟩) (q - m) (c - m), w, ?_, hR _ _ (fun j hj => ?_)⟩
      · clear hR hin
        simp only [execOp, hop]
        go_simp
      · obtain ⟨b, off', e, h1, h2⟩ := hin _ _ rfl (m + j) (by omega)
        simp only [Option.some.injEq, Addr.mk.injEq, and_true] at e
        obtain ⟨rfl, rfl⟩ := e
        exact ⟨g, off + m, rfl, h1, by rw [← Nat.add_assoc] at h2; exact h2⟩
theorem zero_build (w : World) : (Instr.build 40 #[]).run Try.prog w = .ok (vS zSt) w := by unfold vS zSt; go_simp
theorem okR_zero {o : Oper} {a : Act} {w : World} {R : Value → World → Prop} (hop : o.op = .build 40 #[]) (h : R (vS zSt) w) : StepOkR Try.prog o a w R :=
  .inl ⟨_, w, by simp [execOp, hop, zero_build], h⟩
theorem sN_cut (f : Fx) (s : St) (X : Nat → Int) (m k : Nat) : sN f (sN f s X m) (fun j => X (m + j)) k = sN f s X (m + k) := by
  induction k with
  | zero => rfl
  | succ k ih => rw [sN, ih]; rfl
theorem aN_cut (f : Fx) (s : St) (X : Nat → Int) (m k : Nat) : aN f (sN f s X m) (fun j => X (m + j)) k = aN f s X (m + k) := by
  unfold aN; rw [sN_cut]
theorem cN_cut (f : Fx) (s : St) (X : Nat → Int) (m k : Nat) : cN f s X m + cN f (sN f s X m) (fun j => X (m + j)) k = cN f s X (m + k) := by
  induction k with
  | zero => rfl
  | succ k ih => rw [cN, ← Nat.add_assoc, ih, sN_cut]; rfl

def cutV (d0 d1 d2 d3 d4 d8 d9 d13 : Nat) (W : World) (f : Fx) (sA sB : St) (v2 : Value) (mm n : Nat) (Y : Nat → Int) (cnt : Int) (d : Nat) (v : Value) : Prop :=
  if d = d0 then v = vF f else if d = d1 then v = vS sA else if d = d2 then v = v2 else if d = d3 then v = .int .i64 (mm : Nat) else if d = d4 then (∃ ad c, v = .slice ad n c ∧ InAt W ad n Y) else if d = d8 then v = vS sB else if d = d9 ∨ d = d13 then v = .int .i64 cnt else True

def RunTo (f : Fx) (sA sB : St) (n : Nat) (Y Yl : Nat → Int) (cnt : Int) : Prop := ∀ ad c w, InAt w ad n Y → Calls Try.prog 18 #[vF f, vS sA, .slice ad n c] w fun e w' => ∃ g, e = .returned (tup g n sB cnt) ∧ w.heap.size ≤ g ∧ w'.ownsRow w.heap.size 2 1 (.slice (some ⟨g, 0, none⟩) n n) n (rowL Yl n n) ∧ Below w.heap.size w w'
theorem run_first (f : Fx) (s : St) (X : Nat → Int) (n : Nat) (hn : n ≤ 17592186044416) : RunTo f s (sN f s X n) n X (aN f s X) (cN f s X n : Nat) := fun ad c w hin => by
  refine (run_any f s X ad n c (by omega) w hin).mono ?_
  rintro e w' ⟨g, rfl, h1, h2, h3⟩
  exact ⟨g, rfl, h1, h2, h3⟩
theorem run_second (f : Fx) (s : St) (X : Nat → Int) (m q c2 : Nat) (hq : q ≤ 17592186044416) (hm : m ≤ q) (hc : c2 = cN f (sN f s X m) (fun j => X (m + j)) (q - m)) : RunTo f (sN f s X m) (sN f s X q) (q - m) (fun j => X (m + j)) (fun j => aN f s X (m + j)) (c2 : Nat) := fun ad c w hin => by
  refine (run_any f (sN f s X m) (fun j => X (m + j)) ad (q - m) c (by omega) w hin).mono ?_
  rintro e w' ⟨g, rfl, h1, h2, h3⟩
  rw [sN_cut, show m + (q - m) = q by omega, ← hc]
  rw [show aN f (sN f s X m) (fun j => X (m + j)) = fun j => aN f s X (m + j) from funext fun j => aN_cut f s X m j] at h2
  exact ⟨g, rfl, h1, h2, h3⟩
theorem wpList_append_row {P : Program} (w : World) {ops : Array Oper} {rest : List Oper} {o : Oper} {a : Act} {Q : Exit → Act → World → Prop} (hgd : o.guard = none) (s x : Operand) (t : TypeId)
    (ho : o.op = .call { callee := .builtin .append, args := #[s, x], argTypes := #[t, t] })
    (base : Nat) (e : TypeId) (i : TypeInfo) (z : Value) (size bytes : Nat) (ht : P.underlying t = some (.slice e)) (hi : P.info? e = some i) (hz : i.zero = some z)
    (hsize : i.size = size) (hby : i.bytes = bytes) (hzs : z.cells.size = size) (hsz : 0 < size)
    (v : Value) (n : Nat) (xs : List Value) (hs : a.eval s = v) (hown : w.ownsRow base e size v n xs)
    (base2 : Nat) (v2 : Value) (m : Nat) (ys : List Value) (hx : a.eval x = v2) (h2 : w.ownsRow base2 e size v2 m ys) (h1 : ∀ u ∈ ys, u.oneCell' = true)
    (h63 : n + m ≤ maxLen) (hbytes : (n + m) * bytes ≤ 140737488355328) (hbase : base ≤ w.heap.size)
    (h : ∀ v' w', w'.ownsRow base e size v' (n + m) (xs ++ ys) → w.grownBy w' v.ownBlock → wpList P ops Q rest (a.put o.dst v') w') :
    wpList P ops Q (o :: rest) a w := by
  rcases id h2.2 with ⟨rfl, rfl⟩ | ⟨g, cap, cur, rfl, _⟩
  · have hy : ys = [] := List.length_eq_zero_iff.1 (by simpa using h2.1)
    subst hy
    exact wpList_append_own_none hgd s x t ho base e i size ht hi v n xs hs hown hx (h v w (by simpa using hown) ⟨rfl, rfl, rfl, Nat.le_refl _, fun _ _ _ => rfl⟩)
  · exact wpList_append_own_at w hgd s x t ho base e i z size bytes ht hi hz hsize hby hzs hsz v n xs hs hown ⟨g, 0, none⟩ m cap ys hx h2.1 (h2.cells rfl) h1 h63 hbytes hbase (fun v' w' a1 a2 _ _ => h v' w' a1 a2)
theorem rowL_join (Y : Nat → Int) (n m : Nat) : rowL Y n n ++ rowL (fun j => Y (n + j)) m m = rowL Y (n + m) (n + m) := by
  apply List.ext_getElem?
  intro j
  by_cases hj : j < n
  · rw [List.getElem?_append_left (by rw [rowL_len]; exact hj), rowL_at _ _ _ _ hj, rowL_at _ _ _ _ (by omega), if_pos hj, if_pos (by omega)]
  · rw [List.getElem?_append_right (by rw [rowL_len]; omega), rowL_len]
    by_cases hk : j < n + m
    · rw [rowL_at _ _ _ _ (by omega), rowL_at _ _ _ _ hk, if_pos (by omega), if_pos hk, show n + (j - n) = j by omega]
    · rw [List.getElem?_eq_none (by rw [rowL_len]; omega), List.getElem?_eq_none (by rw [rowL_len]; omega)]
theorem rowL_ones (Y : Nat → Int) (m k : Nat) : ∀ u ∈ rowL Y m k, u.oneCell' = true := by
  intro u hu
  simp only [rowL, List.mem_map] at hu
  obtain ⟨j, _, rfl⟩ := hu
  rfl
end Go.Proofs.Ytlajalfdcfkmpaa
