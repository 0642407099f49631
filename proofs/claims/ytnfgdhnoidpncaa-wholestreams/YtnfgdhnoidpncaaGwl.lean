/- WholeStreams: what the statement's loop keeps, and how. -/
import Derived.Test.YtnfgdhnoidpncaaSkt
import Derived.Maps.AppendAt
import Derived.RangeFuncBox
import Derived.Deep.RegionHeld3
import Derived.Deep.RegionLaw
import Derived.OwnWalkIn
import Derived.RangeFuncOwn
namespace Go.Proofs.Ytnfgdhnoidpncaa
open Go.RowKit

/-- An append at a step of a region that draws. -/
theorem step_append_at {P : Program} {w : World} {ops : Array Oper} {o : Oper} {a : Act} {K : Act → World → Prop} {Q : Exit → Act → World → Prop} {E : Prop} (hgd : o.guard = none) (s x : Operand) (t : TypeId)
    (ho : o.op = .call { callee := .builtin .append, args := #[s, x], argTypes := #[t, t] })
    (base : Nat) (e : TypeId) (i : TypeInfo) (z : Value) (size bytes : Nat) (ht : P.underlying t = some (.slice e)) (hi : P.info? e = some i) (hz : i.zero = some z)
    (hsize : i.size = size) (hby : i.bytes = bytes) (hzs : z.cells.size = size) (hsz : 0 < size)
    (v : Value) (n : Nat) (xs : List Value) (hs : a.eval s = v) (hown : w.ownsRow base e size v n xs)
    (ad : Addr) (m c : Nat) (news : List Value) (hx : a.eval x = .slice (some ad) m c) (hl : news.length = m * size) (hnews : ∀ j u, news[j]? = some u → w.cell? (ad.add j) = some u) (h1 : ∀ u ∈ news, u.oneCell' = true)
    (h63 : n + m ≤ maxLen) (hbytes : (n + m) * bytes ≤ 140737488355328) (hbase : base ≤ w.heap.size)
    (h : ∀ v' w', w'.ownsRow base e size v' (n + m) (xs ++ news) → w.grownBy w' v.ownBlock → (v'.ownBlock = v.ownBlock ∨ v'.ownBlock = some w.heap.size) → K (a.put o.dst v') w') :
    if Region.wanted o (yielded ops a.tmps) = true then Oper.wp P o a w K Q else E := by
  have hw : Region.wanted o (yielded ops a.tmps) = true := by simp [Region.wanted, hgd]
  rw [if_pos hw]
  obtain ⟨v', w', hr, h2, h3, _, h4⟩ := run_append_own_at (P := P) w base t o.type e i z size bytes ht hi hz hsize hby hzs hsz v n xs hown ad m c news hl hnews h1 h63 hbytes hbase
  unfold Oper.wp execOp
  simp only [ho, resolve, invoke, builtin, Sem.run_bind, Sem.run_pure, Result.andThen_ok, List.map_toArray, List.map_cons, List.map_nil, hs, hx, hr]
  exact h v' w' h2 h3 h4

/-- .. and inside a fence. -/
theorem wpListIn_append_at {F : Fence} {n : Nat} {P : Program} (w : World) {ops : Array Oper} {rest : List Oper} {o : Oper} {a : Act} {Q : Exit → Act → World → Prop}
    (hg : o.guard = none) (s x : Operand) (t : TypeId) (hop : o.op = Op.call { callee := Callee.builtin Builtin.append, args := #[s, x], argTypes := #[t, t] })
    (base : Nat) (e : TypeId) (i : TypeInfo) (z : Value) (size bytes : Nat) (h1 : P.underlying t = some (.slice e)) (h2 : P.info? e = some i) (h3 : i.zero = some z) (h4 : i.size = size) (h5 : i.bytes = bytes) (h6 : z.cells.size = size) (h7 : 0 < size)
    (v : Value) (k : Nat) (xs : List Value) (hs : a.eval s = v) (hown : w.ownsRow base e size v k xs) (ad : Addr) (m c : Nat) (news : List Value) (hx : a.eval x = .slice (some ad) m c) (hn : news.length = m * size)
    (hc : ∀ j u, news[j]? = some u → w.cell? (ad.add j) = some u) (h1c : ∀ u ∈ news, u.oneCell' = true) (b1 : k + m ≤ maxLen) (b2 : (k + m) * bytes ≤ 140737488355328) (b3 : base ≤ w.heap.size)
    (hK : ∀ v' w', w'.ownsRow base e size v' (k + m) (xs ++ news) → w.grownBy w' v.ownBlock → (v'.ownBlock = v.ownBlock ∨ v'.ownBlock = some w.heap.size) → wpListIn F n P ops Q rest (a.put o.dst v') w') :
    wpListIn F n P ops Q (o :: rest) a w := by
  refine wpListIn_plain hg fun K hK' => ?_
  obtain ⟨v', w', hrun, r1, r2, _, r3⟩ := run_append_own_at (P := P) w base t o.type e i z size bytes h1 h2 h3 h4 h5 h6 h7 v k xs hown ad m c news hn hc h1c b1 b2 b3
  unfold Oper.wpIn
  refine ⟨?_, ?_⟩
  · simp [Oper.about, hop, resolve, Target.leads, Sem.run_pure]
  · rw [Oper.semAt_plain F _ _ (by rw [hop]; intro c hc'; cases hc')]
    simp [execOp, hop, resolve, invoke, builtin, hs, hx, hrun, Result.andThen]
    exact hK' _ _ (hK v' w' r1 r2 r3)
theorem row_cells {w : World} {base : Nat} {e : TypeId} {size : Nat} {v : Value} {n : Nat} {xs : List Value} (h : w.ownsRow base e size v n xs) : ∀ (j : Nat) (o : Obj), v.ownBlock = some j → w.heap[j]? = some o → o.isCells = true := by
  intro j o hj ho
  rcases h.2 with ⟨rfl, rfl⟩ | ⟨g, cap, cur, rfl, _, hg, _⟩
  · cases hj
  · cases hj
    rw [hg] at ho
    cases ho
    rfl
theorem one_cell (r i : Nat) : ∀ u ∈ [Value.complex .f64 r i], u.oneCell' = true := by intro u hu; simp at hu; subst hu; rfl
theorem one_more {u : Value} {t : Nat} {Y : Nat → C2} (h : CIs u (Y t)) : ∀ j, j < 1 → ∃ v, [u][j]? = some v ∧ CIs v (Y (t + j)) := fun j hj => by
  obtain rfl : j = 0 := by omega
  exact ⟨u, rfl, h⟩
/-- Four pieces of code, and a place where their ways meet. -/
theorem wp_join4 {P : Program} {x1 x2 x3 x4 y : Code} {Q : Exit → Act → World → Prop} {a : Act} {w : World} (M : Act → World → Prop) (hM : ∀ a w, M a w → y.wp P Q a w)
    (h : ∀ K : Act → World → Prop, (∀ a w, M a w → K a w) → x1.wp P (Exit.then (fun a w => x2.wp P (Exit.then (fun a w => x3.wp P (Exit.then (fun a w => x4.wp P (Exit.then K Q) a w) Q) a w) Q) a w) Q) a w) :
    (x1.seq (x2.seq (x3.seq (x4.seq y)))).wp P Q a w := by
  have key : ∀ {c : Code} {K K' : Act → World → Prop} {a : Act} {w : World}, (∀ a w, K a w → K' a w) → c.wp P (Exit.then K Q) a w → c.wp P (Exit.then K' Q) a w := by
    intro c K K' a w hk hc
    refine wp_mono hc ?_
    intro e a w hq
    cases e <;> first | exact hk _ _ hq | exact hq
  exact wp_seq (key (fun a w h => wp_seq (key (fun a w h => wp_seq (key (fun a w h => wp_seq (key hM h)) h)) h)) (h M (fun _ _ h => h)))

theorem wp_join1 {P : Program} {x y : Code} {Q : Exit → Act → World → Prop} {a : Act} {w : World} (M : Act → World → Prop) (hM : ∀ a w, M a w → y.wp P Q a w)
    (h : ∀ K : Act → World → Prop, (∀ a w, M a w → K a w) → x.wp P (Exit.then K Q) a w) : (x.seq y).wp P Q a w := wp_seq (h _ hM)
theorem ownsRow_same {w w' : World} {base : Nat} {e : TypeId} {size : Nat} {v : Value} {n : Nat} {xs : List Value} (h : w.ownsRow base e size v n xs) (hk : ∀ j, v.ownBlock = some j → w'.heap[j]? = w.heap[j]?) : w'.ownsRow base e size v n xs := by
  obtain ⟨h1, h2⟩ := h
  refine ⟨h1, ?_⟩
  rcases h2 with h2 | ⟨g, cap, cur, rfl, hb, hg, hh⟩
  · exact .inl h2
  · exact .inr ⟨g, cap, cur, rfl, hb, (hk g rfl).trans hg, hh⟩
theorem row_form {w : World} {base : Nat} {e : TypeId} {size : Nat} {v : Value} {n : Nat} {xs : List Value} (h : w.ownsRow base e size v n xs) : ∃ ad c, v = .slice ad n c := by
  rcases h.2 with ⟨rfl, rfl⟩ | ⟨g, cap, cur, rfl, _⟩
  · exact ⟨_, _, rfl⟩
  · exact ⟨_, _, rfl⟩
/-- The gathered answers. -/
def PsAt (ps : List Value) (t : Nat) (Y : Nat → C2) : Prop := ∀ j, j < t → ∃ u, ps[j]? = some u ∧ CIs u (Y j)
theorem PsAt.more {ps news : List Value} {t q : Nat} {Y : Nat → C2} (h : PsAt ps t Y) (hl : ps.length = t) (hn : ∀ j, j < q → ∃ u, news[j]? = some u ∧ CIs u (Y (t + j))) : PsAt (ps ++ news) (t + q) Y := fun j hj => by
  by_cases hjt : j < t
  · obtain ⟨u, h1, h2⟩ := h j hjt
    exact ⟨u, by rw [List.getElem?_append_left (by omega)]; exact h1, h2⟩
  · obtain ⟨u, h1, h2⟩ := hn (j - t) (by omega)
    rw [show t + (j - t) = j by omega] at h2
    exact ⟨u, by rw [List.getElem?_append_right (by omega), hl]; exact h1, h2⟩

theorem But.trans {O O' : Nat → Prop} {a b c : World} (h : But O a b) (k : But O' b c) (hO : ∀ k, O' k → O k ∨ a.heap.size ≤ k) : But O a c :=
  ⟨k.os.trans h.os, k.tape.trans h.tape, k.output.trans h.output, Nat.le_trans h.size k.size, fun i hi hn => (k.block i (Nat.lt_of_lt_of_le hi h.size) (fun e => (hO i e).elim hn (fun e => by omega))).trans (h.block i hi hn)⟩
theorem But.grown {w w' : World} {row : Option Nat} (h : w.grownBy w' row) : But (fun k => some k = row) w w' := ⟨h.os, h.tape, h.output, h.size, fun k hk hn => h.block k hk hn⟩

/-- What the loop keeps, where W was the world before it: the stream at B in the blocks O, behind s samples; the box of the gathered answers is block W.heap.size, t of them gathered, their row v; the marks Ds. -/
structure SInv (K : SK) (W wr : World) (O0 : Nat → Prop) (n B : Nat) (g : Gu) (sec : Nat → Sec) (X : Nat → C2) (Ds : List Nat) (t s : Nat) (O : Nat → Prop) (v : Value) (ps : List Value) : Prop where
  but : But O0 W wr
  marks : Marks wr Ds
  mrk : ∀ D, D ∈ Ds → W.heap.size < D ∧ some D ≠ v.ownBlock
  strm : K.At wr O B n gG sec g (wStN g gG n sec rest0 X s) s (wCntN g gG n sec rest0 X s)
  zone : ∀ k, O k → (O0 k ∨ W.heap.size < k) ∧ k ∉ Ds ∧ some k ≠ v.ownBlock
  old : ∀ k, O0 k → k < W.heap.size
  box : Boxed wr W.heap.size 31 v
  own : wr.ownsRow (W.heap.size + 1) 24 1 v t ps
  got : PsAt ps t (wAnsN g gG n sec rest0 X)

theorem Marks.lt {W : World} {Ds : List Nat} (h : Marks W Ds) {D : Nat} (hD : D ∈ Ds) : D < W.heap.size := (Array.getElem?_eq_some_iff.1 (h.2 D hD)).1
/-- Blocks of nobody's were changed. -/
theorem SInv.other {K : SK} {W wr w' : World} {O0 O N : Nat → Prop} {n B t s : Nat} {g : Gu} {sec : Nat → Sec} {X : Nat → C2} {Ds : List Nat} {v : Value} {ps : List Value} (h : SInv K W wr O0 n B g sec X Ds t s O v ps) (hb : But N wr w')
    (hN : ∀ k, N k → W.heap.size < k ∧ ¬ O k ∧ k ∉ Ds ∧ some k ≠ v.ownBlock) : SInv K W w' O0 n B g sec X Ds t s O v ps := by
  obtain ⟨a1, a2, a3, a4, a5, a6, a7, a8, a9⟩ := h
  refine ⟨a1.trans hb (fun k hk => .inr (Nat.le_of_lt (hN k hk).1)), a2.keep (fun D hD => hb.block D (a2.lt hD) (fun e => (hN D e).2.2.1 hD)), a3, K.keep a4 (fun k hk => hb.block k ((K.lt a4).1 k hk) (fun e => (hN k e).2.1 hk)) hb.size, a5, a6, (hb.block _ a7.lt (fun e => by have := (hN _ e).1; omega)).trans a7, ownsRow_same a8 (fun j hj => hb.block j (a8.lt j hj).2 (fun e => (hN j e).2.2.2 hj.symm)), a9⟩
theorem SInv.below {K : SK} {W wr w' : World} {O0 O : Nat → Prop} {n B t s : Nat} {g : Gu} {sec : Nat → Sec} {X : Nat → C2} {Ds : List Nat} {v : Value} {ps : List Value} (h : SInv K W wr O0 n B g sec X Ds t s O v ps) (hb : Below wr.heap.size wr w') : SInv K W w' O0 n B g sec X Ds t s O v ps :=
  h.other (But.low (O := fun _ => False) hb) (fun _ e => e.elim)
/-- The stream took more samples. -/
theorem SInv.push {K : SK} {W wr w' : World} {O0 O O' : Nat → Prop} {n B t s s' : Nat} {g : Gu} {sec : Nat → Sec} {X : Nat → C2} {Ds : List Nat} {v : Value} {ps : List Value} (h : SInv K W wr O0 n B g sec X Ds t s O v ps) (hb : But O wr w')
    (hA : K.At w' O' B n gG sec g (wStN g gG n sec rest0 X s') s' (wCntN g gG n sec rest0 X s')) (hO : ∀ k, O' k → O k ∨ wr.heap.size ≤ k) : SInv K W w' O0 n B g sec X Ds t s' O' v ps := by
  obtain ⟨a1, a2, a3, a4, a5, a6, a7, a8, a9⟩ := h
  have hW := a1.size
  refine ⟨a1.trans hb (fun k hk => (a5 k hk).1.elim .inl (fun e => .inr (by omega))), a2.keep (fun D hD => hb.block D (a2.lt hD) (fun e => (a5 D e).2.1 hD)), a3, hA, fun k hk => ?_, a6, (hb.block _ a7.lt (fun e => (a5 _ e).1.elim (fun e => by have := a6 _ e; omega) (fun e => by omega))).trans a7, ownsRow_same a8 (fun j hj => hb.block j (a8.lt j hj).2 (fun e => (a5 j e).2.2 hj.symm)), a9⟩
  rcases hO k hk with e | e
  · exact a5 k e
  · have hbx := a7.lt
    exact ⟨.inr (by omega), fun hD => by have := a2.lt hD; omega, fun hv => by have := (a8.lt k hv.symm).2; omega⟩
/-- Answers were appended, and the box holds the new row. -/
theorem SInv.append {K : SK} {W wr w' : World} {O0 O : Nat → Prop} {n B t s q : Nat} {g : Gu} {sec : Nat → Sec} {X : Nat → C2} {Ds : List Nat} {v v' : Value} {ps news : List Value} (h : SInv K W wr O0 n B g sec X Ds t s O v ps)
    (hg : wr.grownBy w' v.ownBlock) (ho : w'.ownsRow (W.heap.size + 1) 24 1 v' (t + q) (ps ++ news)) (hv : v'.ownBlock = v.ownBlock ∨ v'.ownBlock = some wr.heap.size)
    (hn : ∀ j, j < q → ∃ u, news[j]? = some u ∧ CIs u (wAnsN g gG n sec rest0 X (t + j))) : SInv K W (w'.setCell ⟨W.heap.size, 0, none⟩ v') O0 n B g sec X Ds (t + q) s O v' (ps ++ news) := by
  obtain ⟨a1, a2, a3, a4, a5, a6, a7, a8, a9⟩ := h
  have hW := a1.size
  have hs := hg.size
  have hbx := a7.lt
  have hlen : ps.length = t := by have := a8.1; omega
  have hB' : Boxed w' W.heap.size 31 v := a7.kept hg (fun e => by have := (a8.lt _ e.symm).1; omega)
  have hset : ∀ k, k ≠ W.heap.size → (w'.setCell ⟨W.heap.size, 0, none⟩ v').heap[k]? = w'.heap[k]? := fun k hk => Below.heap_setCell _ _ _ _ hk
  have hall : ∀ k, k < wr.heap.size → k ≠ W.heap.size → some k ≠ v.ownBlock → (w'.setCell ⟨W.heap.size, 0, none⟩ v').heap[k]? = wr.heap[k]? := fun k h1 h2 h3 => (hset k h2).trans (hg.block k h1 h3)
  have hnot : ∀ k, k < wr.heap.size → some k ≠ v.ownBlock → some k ≠ v'.ownBlock := fun k h1 h2 e => by
    rcases hv with hv | hv
    · exact h2 (e.trans hv)
    · rw [hv] at e; have := Option.some.inj e; omega
  refine ⟨a1.trans ⟨hg.os, hg.tape, hg.output, by simpa using hs, fun k h1 h2 => hall k h1 (fun e => h2 (.inl e)) (fun e => h2 (.inr e))⟩ (O' := fun k => k = W.heap.size ∨ some k = v.ownBlock) (fun k hk => .inr (hk.elim (fun e => by omega) (fun e => by have := (a8.lt _ e.symm).1; omega))),
    a2.keep (fun D hD => hall D (a2.lt hD) (by have := (a3 D hD).1; omega) (a3 D hD).2), fun D hD => ⟨(a3 D hD).1, hnot D (a2.lt hD) (a3 D hD).2⟩,
    K.keep a4 (fun k hk => hall k ((K.lt a4).1 k hk) (fun e => (a5 k hk).1.elim (fun e' => by have := a6 k e'; omega) (fun e' => by omega)) (a5 k hk).2.2) (by simpa using hs),
    fun k hk => ⟨(a5 k hk).1, (a5 k hk).2.1, hnot k ((K.lt a4).1 k hk) (a5 k hk).2.2⟩, a6, hB'.set v', ownsRow_setCell_below ho (by show W.heap.size < _; omega) _, a9.more hlen hn⟩
theorem ps_list {w : World} {base k : Nat} {v : Value} {ps : List Value} {Y : Nat → C2} (h : w.ownsRow base 24 1 v k ps) (hp : PsAt ps k Y) : ∃ ad c, v = .slice ad k c ∧ ∀ j, j < k → ∃ b u, ad = some ⟨b, 0, none⟩ ∧ b < w.heap.size ∧ base ≤ b ∧ w.cell? ⟨b, j, none⟩ = some u ∧ CIs u (Y j) := by
  rcases id h.2 with ⟨rfl, rfl⟩ | ⟨g, cap, cur, rfl, hb, hg, _⟩
  · exact ⟨none, 0, rfl, fun j hj => by omega⟩
  · refine ⟨_, cap, rfl, fun j hj => ?_⟩
    obtain ⟨u, h1, h2⟩ := hp j hj
    have := h.cells (g := g) rfl j u h1
    rw [Addr.add_mid, Nat.zero_add] at this
    exact ⟨g, u, rfl, (Array.getElem?_eq_some_iff.1 hg).1, hb, this, h2⟩
theorem cnt_le {g : Gu} {n s : Nat} {sec : Nat → Sec} {X : Nat → C2} (hn : n ≤ 16) (hs : s ≤ 300) : wCntN g gG n sec rest0 X s ≤ 1000000000000 := by
  have h1 := wCntN_le g gG n sec rest0 X s
  have h2 : 6 * n * s ≤ 6 * 16 * 300 := Nat.mul_le_mul (by omega) hs
  omega
theorem push_law {K : SK} {W wr : World} {O0 O : Nat → Prop} {n B t s q : Nat} {g : Gu} {sec : Nat → Sec} {X : Nat → C2} {Ds : List Nat} {v lv : Value} {ps : List Value} (h : SInv K W wr O0 n B g sec X Ds t s O v ps)
    (hl : ListIs wr lv q (fun j => X (s + j))) (hoff : ∀ b, O b → Off lv q b) (hn : n ≤ 16) (hq : q ≤ 300) (hs : s ≤ 300) :
    Calls Try.prog 11 #[.pointer (some ⟨B, 0, none⟩), lv] wr fun e w' => ∃ A O', e = .returned (.slice (some ⟨A, 0, none⟩) q q) ∧ wr.heap.size ≤ A ∧ A < w'.heap.size ∧ ¬ O' A ∧
      (∀ j, j < q → ∃ u, w'.cell? ⟨A, j, none⟩ = some u ∧ CIs u (wAnsN g gG n sec rest0 X (s + j))) ∧ SInv K W w' O0 n B g sec X Ds t (s + q) O' v ps ∧ But O wr w' := by
  have hc : wCntN g gG n sec rest0 X s ≤ 1000000000000 := by
    have h1 := wCntN_le g gG n sec rest0 X s
    have h2 : 6 * n * s ≤ 6 * 16 * 300 := Nat.mul_le_mul (by omega) hs
    omega
  refine (K.push h.strm hl hoff hn hq (by omega) hc).mono ?_
  rintro e w' ⟨A, O', rfl, h1, h2, h3, h4, h5, h6, h7⟩
  replace h7 := h7.mono (O' := O) (fun k h => h.1)
  rw [← wStN_add, ← wCntN_add] at h5
  exact ⟨A, O', rfl, h1, h2, h3, fun j hj => by obtain ⟨u, hu1, hu2⟩ := h4 j hj; exact ⟨u, hu1, by rw [wAnsN_add]; exact hu2⟩, h.push h7 h5 h6, h7⟩
theorem ans_cells {w : World} {A q : Nat} {Y : Nat → C2} (h : ∀ j, j < q → ∃ u, w.cell? ⟨A, j, none⟩ = some u ∧ CIs u (Y j)) :
    (cellsOf w A q).length = q * 1 ∧ (∀ j u, (cellsOf w A q)[j]? = some u → w.cell? ((⟨A, 0, none⟩ : Addr).add j) = some u) ∧ (∀ u ∈ cellsOf w A q, u.oneCell' = true) ∧ ∀ j, j < q → ∃ u, (cellsOf w A q)[j]? = some u ∧ CIs u (Y j) := by
  have hget : ∀ j u, (cellsOf w A q)[j]? = some u → j < q ∧ w.cell? ⟨A, j, none⟩ = some u := fun j u hu => by
    have hj : j < q := by have := (List.getElem?_eq_some_iff.1 hu).1; simpa [cellsOf] using this
    obtain ⟨v, hv, _⟩ := h j hj
    rw [cellsOf_at hj hv] at hu
    exact ⟨hj, by rw [hv]; exact hu⟩
  refine ⟨by rw [cellsOf_len, Nat.mul_one], fun j u hu => ?_, fun u hu => ?_, fun j hj => ?_⟩
  · rw [Addr.add_mid, Nat.zero_add]; exact (hget j u hu).2
  · obtain ⟨j, hj, rfl⟩ := List.mem_iff_getElem.1 hu
    obtain ⟨h1, h2⟩ := hget j _ (List.getElem?_eq_getElem hj)
    obtain ⟨v, hv, hc⟩ := h j h1
    rw [h2] at hv
    rw [Option.some.inj hv]; exact hc.one
  · obtain ⟨u, hu, hc⟩ := h j hj
    exact ⟨u, cellsOf_at hj hu, hc⟩
theorem box_kept {wq w8 w9 : World} {O : Nat → Prop} {nb S : Nat} {T : TypeId} {x v v' : Value} (h : Boxed wq nb T x) (h1 : But O wq.drew w8) (h2 : ¬ O nb) (h3 : w8.grownBy w9 v.ownBlock) (h4 : some nb ≠ v.ownBlock) (h5 : S < nb) : Boxed (w9.setCell ⟨S, 0, none⟩ v') nb T x := by
  have hlt : nb < wq.drew.heap.size := h.lt
  have e1 : Boxed w8 nb T x := (h1.block nb hlt h2).trans h
  exact (Below.heap_setCell _ _ _ _ (by show nb ≠ S; omega)).trans (e1.kept h3 h4)
/-- A new block is nobody's. -/
theorem SInv.fresh {K : SK} {W wr : World} {O0 O : Nat → Prop} {n B t s : Nat} {g : Gu} {sec : Nat → Sec} {X : Nat → C2} {Ds : List Nat} {v : Value} {ps : List Value} (h : SInv K W wr O0 n B g sec X Ds t s O v ps) :
    W.heap.size < wr.heap.size ∧ ¬ O wr.heap.size ∧ wr.heap.size ∉ Ds ∧ some wr.heap.size ≠ v.ownBlock := by
  refine ⟨h.box.lt, fun e => by have := (K.lt h.strm).1 _ e; omega, fun e => by have := h.marks.lt e; omega, fun e => by have := (h.own.lt _ e.symm).2; omega⟩
/-- How a piece's length lies in its box. -/
def CutIn (K : SK) (W wq : World) (O0 : Nat → Prop) (n m lc B : Nat) (g : Gu) (sec : Nat → Sec) (X : Nat → C2) (Ds : List Nat) (t k : Nat) (O : Nat → Prop) (v : Value) (ps : List Value) (q nb : Nat) : Prop :=
  t + q ≤ m ∧ q ≤ 8 ∧ (lc ≤ k → 1 ≤ q) ∧ Boxed wq nb 3 (.int .i64 (q : Nat)) ∧ (W.heap.size < nb ∧ ¬ O nb ∧ nb ∉ Ds ∧ some nb ≠ v.ownBlock) ∧ SInv K W wq O0 n B g sec X Ds t t O v ps
theorem CutIn.of {K : SK} {W wr : World} {O0 O : Nat → Prop} {n m lc B t k q : Nat} {g : Gu} {sec : Nat → Sec} {X : Nat → C2} {Ds : List Nat} {v : Value} {ps : List Value} (h : SInv K W wr O0 n B g sec X Ds t t O v ps) (h1 : t + q ≤ m) (h2 : q ≤ 8) (h3 : lc ≤ k → 1 ≤ q) :
    CutIn K W (wr.alloc (Obj.cells #[.int .i64 (q : Nat)] 3)) O0 n m lc B g sec X Ds t k O v ps q wr.heap.size :=
  ⟨h1, h2, h3, Boxed.new _ _ _, h.fresh, h.below ((Below.refl _ _).alloc (Nat.le_refl _) _)⟩
theorem SInv.mark {K : SK} {W wr : World} {O0 O : Nat → Prop} {n B t s D : Nat} {g : Gu} {sec : Nat → Sec} {X : Nat → C2} {Ds : List Nat} {v : Value} {ps : List Value} (h : SInv K W wr O0 n B g sec X Ds t s O v ps) (hm : wr.heap[D]? = some (.deferred (some [])))
    (h1 : W.heap.size < D) (h2 : ¬ O D) (h3 : D ∉ Ds) (h4 : some D ≠ v.ownBlock) : SInv K W wr O0 n B g sec X (D :: Ds) t s O v ps := by
  obtain ⟨a1, a2, a3, a4, a5, a6, a7, a8, a9⟩ := h
  refine ⟨a1, ⟨List.pairwise_cons.2 ⟨fun E hE e => h3 (by rw [e]; exact hE), a2.1⟩, fun E hE => ?_⟩, fun E hE => ?_, a4, fun k hk => ⟨(a5 k hk).1, fun hE => ?_, (a5 k hk).2.2⟩, a6, a7, a8, a9⟩
  · rcases List.mem_cons.1 hE with rfl | hE
    · exact hm
    · exact a2.2 E hE
  · rcases List.mem_cons.1 hE with rfl | hE
    · exact ⟨h1, h4⟩
    · exact a3 E hE
  · rcases List.mem_cons.1 hE with rfl | hE
    · exact h2 hk
    · exact (a5 k hk).2.1 hE
/-- What the loop keeps while a function is ranged over that owns the blocks Own, the stream's among them. -/
structure CInv (W wr : World) (O0 : Nat → Prop) (n : Nat) (g : Gu) (sec : Nat → Sec) (X : Nat → C2) (Ds : List Nat) (t : Nat) (Own : Nat → Prop) (v : Value) (ps : List Value) : Prop where
  but : But O0 W wr
  marks : Marks wr Ds
  mrk : ∀ D, D ∈ Ds → W.heap.size < D ∧ some D ≠ v.ownBlock
  zone : ∀ k, Own k → (O0 k ∨ W.heap.size < k) ∧ k ∉ Ds ∧ some k ≠ v.ownBlock
  old : ∀ k, O0 k → k < W.heap.size
  box : Boxed wr W.heap.size 31 v
  own : wr.ownsRow (W.heap.size + 1) 24 1 v t ps
  got : PsAt ps t (wAnsN g gG n sec rest0 X)
theorem CInv.other {W wr w' : World} {O0 O N : Nat → Prop} {n t : Nat} {g : Gu} {sec : Nat → Sec} {X : Nat → C2} {Ds : List Nat} {v : Value} {ps : List Value} (h : CInv W wr O0 n g sec X Ds t O v ps) (hb : But N wr w')
    (hN : ∀ k, N k → W.heap.size < k ∧ k ∉ Ds ∧ some k ≠ v.ownBlock) : CInv W w' O0 n g sec X Ds t O v ps := by
  obtain ⟨a1, a2, a3, a5, a6, a7, a8, a9⟩ := h
  exact ⟨a1.trans hb (fun k hk => .inr (Nat.le_of_lt (hN k hk).1)), a2.keep (fun D hD => hb.block D (a2.lt hD) (fun e => (hN D e).2.1 hD)), a3, a5, a6, (hb.block _ a7.lt (fun e => by have := (hN _ e).1; omega)).trans a7, ownsRow_same a8 (fun j hj => hb.block j (a8.lt j hj).2 (fun e => (hN j e).2.2 hj.symm)), a9⟩
theorem CInv.step {W wr w' : World} {O0 O O' : Nat → Prop} {n t : Nat} {g : Gu} {sec : Nat → Sec} {X : Nat → C2} {Ds : List Nat} {v : Value} {ps : List Value} (h : CInv W wr O0 n g sec X Ds t O v ps) (hb : But O wr w') (hO : ∀ k, O' k → O k ∨ wr.heap.size ≤ k) : CInv W w' O0 n g sec X Ds t O' v ps := by
  obtain ⟨a1, a2, a3, a5, a6, a7, a8, a9⟩ := h
  have hW := a1.size
  refine ⟨a1.trans hb (fun k hk => (a5 k hk).1.elim .inl (fun e => .inr (by omega))), a2.keep (fun D hD => hb.block D (a2.lt hD) (fun e => (a5 D e).2.1 hD)), a3, fun k hk => ?_, a6, (hb.block _ a7.lt (fun e => (a5 _ e).1.elim (fun e => by have := a6 _ e; omega) (fun e => by omega))).trans a7, ownsRow_same a8 (fun j hj => hb.block j (a8.lt j hj).2 (fun e => (a5 j e).2.2 hj.symm)), a9⟩
  rcases hO k hk with e | e
  · exact a5 k e
  · have hbx := a7.lt
    exact ⟨.inr (by omega), fun hD => by have := a2.lt hD; omega, fun hv => by have := (a8.lt k hv.symm).2; omega⟩
theorem CInv.append {W wr w' : World} {O0 O : Nat → Prop} {n t q : Nat} {g : Gu} {sec : Nat → Sec} {X : Nat → C2} {Ds : List Nat} {v v' : Value} {ps news : List Value} (h : CInv W wr O0 n g sec X Ds t O v ps) (hlt : ∀ k, O k → k < wr.heap.size)
    (hg : wr.grownBy w' v.ownBlock) (ho : w'.ownsRow (W.heap.size + 1) 24 1 v' (t + q) (ps ++ news)) (hv : v'.ownBlock = v.ownBlock ∨ v'.ownBlock = some wr.heap.size)
    (hn : ∀ j, j < q → ∃ u, news[j]? = some u ∧ CIs u (wAnsN g gG n sec rest0 X (t + j))) :
    CInv W (w'.setCell ⟨W.heap.size, 0, none⟩ v') O0 n g sec X Ds (t + q) O v' (ps ++ news) ∧ (∀ k, k < wr.heap.size → k ≠ W.heap.size → some k ≠ v.ownBlock → (w'.setCell ⟨W.heap.size, 0, none⟩ v').heap[k]? = wr.heap[k]? ∧ some k ≠ v'.ownBlock) := by
  obtain ⟨a1, a2, a3, a5, a6, a7, a8, a9⟩ := h
  have hW := a1.size
  have hs := hg.size
  have hbx := a7.lt
  have hlen : ps.length = t := by have := a8.1; omega
  have hB' : Boxed w' W.heap.size 31 v := a7.kept hg (fun e => by have := (a8.lt _ e.symm).1; omega)
  have hset : ∀ k, k ≠ W.heap.size → (w'.setCell ⟨W.heap.size, 0, none⟩ v').heap[k]? = w'.heap[k]? := fun k hk => Below.heap_setCell _ _ _ _ hk
  have hall : ∀ k, k < wr.heap.size → k ≠ W.heap.size → some k ≠ v.ownBlock → (w'.setCell ⟨W.heap.size, 0, none⟩ v').heap[k]? = wr.heap[k]? := fun k h1 h2 h3 => (hset k h2).trans (hg.block k h1 h3)
  have hnot : ∀ k, k < wr.heap.size → some k ≠ v.ownBlock → some k ≠ v'.ownBlock := fun k h1 h2 e => by
    rcases hv with hv | hv
    · exact h2 (e.trans hv)
    · rw [hv] at e; have := Option.some.inj e; omega
  refine ⟨⟨a1.trans ⟨hg.os, hg.tape, hg.output, by simpa using hs, fun k h1 h2 => hall k h1 (fun e => h2 (.inl e)) (fun e => h2 (.inr e))⟩ (O' := fun k => k = W.heap.size ∨ some k = v.ownBlock) (fun k hk => .inr (hk.elim (fun e => by omega) (fun e => by have := (a8.lt _ e.symm).1; omega))),
    a2.keep (fun D hD => hall D (a2.lt hD) (by have := (a3 D hD).1; omega) (a3 D hD).2), fun D hD => ⟨(a3 D hD).1, hnot D (a2.lt hD) (a3 D hD).2⟩,
    fun k hk => ⟨(a5 k hk).1, (a5 k hk).2.1, hnot k (hlt k hk) (a5 k hk).2.2⟩, a6, hB'.set v', ownsRow_setCell_below ho (by show W.heap.size < _; omega) _, a9.more hlen hn⟩, fun k h1 h2 h3 => ⟨hall k h1 h2 h3, hnot k h1 h3⟩⟩
theorem SInv.toC {K : SK} {W wr : World} {O0 O : Nat → Prop} {n B t s : Nat} {g : Gu} {sec : Nat → Sec} {X : Nat → C2} {Ds : List Nat} {v : Value} {ps : List Value} (h : SInv K W wr O0 n B g sec X Ds t s O v ps) : CInv W wr O0 n g sec X Ds t O v ps := ⟨h.but, h.marks, h.mrk, h.zone, h.old, h.box, h.own, h.got⟩
theorem CInv.toS {K : SK} {W wr : World} {O0 O Own : Nat → Prop} {n B t s : Nat} {g : Gu} {sec : Nat → Sec} {X : Nat → C2} {Ds : List Nat} {v : Value} {ps : List Value} (h : CInv W wr O0 n g sec X Ds t Own v ps)
    (hA : K.At wr O B n gG sec g (wStN g gG n sec rest0 X s) s (wCntN g gG n sec rest0 X s)) (hO : ∀ k, O k → Own k) : SInv K W wr O0 n B g sec X Ds t s O v ps := ⟨h.but, h.marks, h.mrk, hA, fun k hk => h.zone k (hO k hk), h.old, h.box, h.own, h.got⟩
/-- .. and the piece's length lies in block nb, the loop's two blocks are D and l. -/
def CS (W : World) (O0 : Nat → Prop) (n : Nat) (g : Gu) (sec : Nat → Sec) (X : Nat → C2) (Ds : List Nat) (t q nb D l : Nat) (j : Nat) (Wc : World) (Own : Nat → Prop) : Prop :=
  ∃ v ps, CInv W Wc O0 n g sec X Ds (t + j) Own v ps ∧ Boxed Wc nb 3 (.int .i64 (q : Nat)) ∧ ∀ x, x = nb ∨ x = D ∨ x = l → W.heap.size < x ∧ x < Wc.heap.size ∧ ¬ Own x ∧ x ∉ Ds ∧ some x ≠ v.ownBlock
theorem CS.step {W Wc w' : World} {O0 O O' : Nat → Prop} {n t q nb D l j : Nat} {g : Gu} {sec : Nat → Sec} {X : Nat → C2} {Ds : List Nat} (h : CS W O0 n g sec X Ds t q nb D l j Wc O) (hb : But O Wc w') (hO : ∀ k, O' k → O k ∨ Wc.heap.size ≤ k) : CS W O0 n g sec X Ds t q nb D l j w' O' := by
  obtain ⟨v, ps, h1, h2, h3⟩ := h
  have hs := hb.size
  refine ⟨v, ps, h1.step hb hO, (hb.block nb h2.lt (h3 nb (.inl rfl)).2.2.1).trans h2, fun x hx => ?_⟩
  obtain ⟨b1, b2, b3, b4, b5⟩ := h3 x hx
  exact ⟨b1, by omega, fun e => (hO x e).elim b3 (fun e => by omega), b4, b5⟩
theorem CS.put {W Wc : World} {O0 O : Nat → Prop} {n t q nb D l j : Nat} {g : Gu} {sec : Nat → Sec} {X : Nat → C2} {Ds : List Nat} (h : CS W O0 n g sec X Ds t q nb D l j Wc O) (hnl : nb ≠ l) (o : Obj) : CS W O0 n g sec X Ds t q nb D l j (Wc.putObj l o) O := by
  obtain ⟨v, ps, h1, h2, h3⟩ := h
  have hb : But (fun k => k = l) Wc (Wc.putObj l o) := ⟨rfl, rfl, rfl, by simp [World.putObj], fun k hk hn => World.putObj_heap_other hn⟩
  obtain ⟨b1, b2, b3, b4, b5⟩ := h3 l (.inr (.inr rfl))
  refine ⟨v, ps, h1.other hb (fun k hk => by subst hk; exact ⟨b1, b4, b5⟩), (hb.block nb h2.lt hnl).trans h2, fun x hx => ?_⟩
  obtain ⟨c1, c2, c3⟩ := h3 x hx
  exact ⟨c1, by simpa [World.putObj] using c2, c3⟩
/-- One answer more is gathered in a round. -/
theorem CS.round {W W' w9 : World} {O0 Own : Nat → Prop} {n t q nb D l j r i : Nat} {g : Gu} {sec : Nat → Sec} {X : Nat → C2} {Ds : List Nat} {v v9 : Value} {ps : List Value} {o : Obj} (hc : CInv W W' O0 n g sec X Ds (t + j) Own v ps) (hn : Boxed W' nb 3 (.int .i64 (q : Nat)))
    (h9 : ∀ x, x = nb ∨ x = D ∨ x = l → W.heap.size < x ∧ x < W'.heap.size ∧ ¬ Own x ∧ x ∉ Ds ∧ some x ≠ v.ownBlock) (hlt : ∀ k, Own k → k < W'.heap.size) (hr : CIs (.complex .f64 r i) (wAnsN g gG n sec rest0 X (t + j)))
    (hg : (W'.alloc o).grownBy w9 v.ownBlock) (ho : w9.ownsRow (W.heap.size + 1) 24 1 v9 (t + j + 1) (ps ++ [.complex .f64 r i])) (hv : v9.ownBlock = v.ownBlock ∨ v9.ownBlock = some (W'.alloc o).heap.size) :
    (CS W O0 n g sec X Ds t q nb D l (j + 1) (w9.setCell ⟨W.heap.size, 0, none⟩ v9) Own ∧ (∀ k, Own k → (w9.setCell ⟨W.heap.size, 0, none⟩ v9).heap[k]? = W'.heap[k]?) ∧ W'.heap.size ≤ (w9.setCell ⟨W.heap.size, 0, none⟩ v9).heap.size) ∧ KeepsOthers W' (w9.setCell ⟨W.heap.size, 0, none⟩ v9) := by
  have hb : Below W'.heap.size W' (W'.alloc o) := (Below.refl _ _).alloc (Nat.le_refl _) _
  have hcA : CInv W (W'.alloc o) O0 n g sec X Ds (t + j) Own v ps := hc.other (But.low (O := fun _ => False) hb) (fun _ e => e.elim)
  obtain ⟨k1, k2⟩ := hcA.append (q := 1) (fun k hk => Nat.lt_of_lt_of_le (hlt k hk) hb.size) hg ho hv (one_more hr)
  have hs := hg.size
  have hs1 := hb.size
  have hne : ∀ k, k < W'.heap.size → k ≠ W.heap.size → some k ≠ v.ownBlock → (w9.setCell ⟨W.heap.size, 0, none⟩ v9).heap[k]? = W'.heap[k]? ∧ some k ≠ v9.ownBlock := fun k h1 h2 h3 => ⟨(k2 k (by omega) h2 h3).1.trans (hb.block k h1), (k2 k (by omega) h2 h3).2⟩
  refine ⟨⟨⟨v9, _, k1, ?_, fun x hx => ?_⟩, fun k hk => ?_, by simp only [World.size_setCell]; omega⟩, (KeepsOthers.alloc W' o).trans ((KeepsOthers.of_grownBy hg (row_cells hcA.own)).trans (KeepsOthers.setCell _ _ _))⟩
  · obtain ⟨b1, b2, b3, b4, b5⟩ := h9 nb (.inl rfl)
    exact (hne nb b2 (by omega) b5).1.trans hn
  · obtain ⟨b1, b2, b3, b4, b5⟩ := h9 x hx
    exact ⟨b1, by simp only [World.size_setCell]; omega, b3, b4, (hne x b2 (by omega) b5).2⟩
  · have hz := hc.zone k hk
    exact (hne k (hlt k hk) (hz.1.elim (fun e => by have := hc.old k e; omega) (fun e => by omega)) hz.2.2).1
end Go.Proofs.Ytnfgdhnoidpncaa
