/- whole of a text's reader; Read. -/
import Derived.Test.YtbkjmnopljmanaaGreatDoorTy
namespace Go.Proofs.YtbkjmnopljmanaaGreatDoor
open Go.RowKit

theorem makeFunc_run (fn : Fn) (first cap : Array Value) (w : World) : (Instr.makeFunc fn first cap).run Tryz.prog w = .ok (.func fn first cap) w := rfl

theorem alloc_size (w : World) (o : Obj) : (w.alloc o).heap.size = w.heap.size + 1 := by
  show (w.heap.push o).size = _
  exact Array.size_push _
theorem But.fresh {O O' : Nat → Prop} {a b c : World} (h : But O a b) (k : But O' b c) (hO : ∀ k, O' k → a.heap.size ≤ k) : But O a c :=
  ⟨k.os.trans h.os, k.tape.trans h.tape, k.output.trans h.output, Nat.le_trans h.size k.size, fun i hi hn => (k.block i (Nat.lt_of_lt_of_le hi h.size) (fun e => by have := hO i e; omega)).trans (h.block i hi hn)⟩
theorem two_put0 {W : World} {pb qb : Nat} {u v : Value} (x y : Value) (hne : pb ≠ qb) (hp : Blk W pb #[u] 3) (hq : Blk W qb #[v] 26) :
    Blk ((W.setCell ⟨pb, 0, none⟩ x).setCell ⟨qb, 0, none⟩ y) pb #[x] 3 ∧ Blk ((W.setCell ⟨pb, 0, none⟩ x).setCell ⟨qb, 0, none⟩ y) qb #[y] 26 ∧ But (fun k => k = pb ∨ k = qb) W ((W.setCell ⟨pb, 0, none⟩ x).setCell ⟨qb, 0, none⟩ y) := by
  have h1 : Blk (W.setCell ⟨pb, 0, none⟩ x) pb #[x] 3 := hp.put 0 x
  have h2 : Blk (W.setCell ⟨pb, 0, none⟩ x) qb #[v] 26 := (Below.heap_setCell _ _ _ _ (fun e => hne e.symm)).trans hq
  exact ⟨(Below.heap_setCell _ _ _ _ hne).trans h1, h2.put 0 y, (But.setCell _ _ _ _ (.inl rfl)).trans (But.setCell _ _ _ _ (.inr rfl))⟩
theorem two_alloc (w : World) :
    Below w.heap.size w ((w.alloc (.cells #[.int .i64 0] 3)).alloc (.cells #[.int .i64 0] 26)) ∧ Blk ((w.alloc (.cells #[.int .i64 0] 3)).alloc (.cells #[.int .i64 0] 26)) w.heap.size #[.int .i64 0] 3 ∧
      Blk ((w.alloc (.cells #[.int .i64 0] 3)).alloc (.cells #[.int .i64 0] 26)) (w.heap.size + 1) #[.int .i64 0] 26 := by
  have h1 := alloc_size w (.cells #[.int .i64 0] 3)
  refine ⟨((Below.refl _ _).alloc (Nat.le_refl _) _).alloc (by omega) _, Blk.alloc.below ((Below.refl _ _).alloc (Nat.le_refl _) _) (by omega), ?_⟩
  rw [← h1]; exact Blk.alloc

set_option maxRecDepth 100000 in
set_option maxHeartbeats 2000000 in
theorem whole_bad {B b A0 q : Nat} {s : ByteArray} (h : NumberTo B b s 0 (.bad q)) (w : World) (hr : RdAt w b s 0) (hG : Gl B w) (hB : B ≤ b) :
    Calls Tryz.prog 18 #[.pointer (some ⟨b, 0, none⟩), .func (.func 37) #[] #[.pointer (some ⟨b, 0, none⟩), .pointer (some ⟨A0, 0, none⟩)]] w fun e w' => e = .returned (.tuple #[.int .i64 (q : Nat), .int .i64 12]) ∧ But (fun k => k = b) w w' := by
  have hmf := makeFunc_run
  have hlt := hr.1.lt
  have h9 : ¬ (65536 : Int) < (s.size : Int) := by have := hr.2.2; omega
  have c0 := hr.1.cell 0 (v := .string s) rfl
  obtain ⟨hWb, hP, hQ⟩ := two_alloc w
  have HR := hide (read1_bad (A0 := A0) h _ (hr.low hWb) (hG.on (hWb.mono (by omega))))
  have K := hide (And.intro hWb (And.intro hP hQ))
  clear hWb hP hQ h hr hG
  go_enter_defers Tryz.func18, Tryz.ntmps18
  go_wp2_with (go_at_call 37; refine (unhide HR).mono ?_; rintro e w1 ⟨rfl, hb⟩; have B1 := hide hb; clear hb)
  have hP1 := (unhide K).2.1.but (unhide B1) (by omega)
  have hQ1 := (unhide K).2.2.but (unhide B1) (by omega)
  have hB1 := (But.low (O := fun k => k = b) (unhide K).1).trans (unhide B1)
  clear K HR B1
  refine leaves_cons (f := 40) (args := #[.pointer (some ⟨w.heap.size, 0, none⟩), .pointer (some ⟨w.heap.size + 1, 0, none⟩)]) (by simp) (by simp [go_sem]) ?_
  refine (catch_pan w.heap.size (w.heap.size + 1) q 12 (by omega) _ _ w1 hP1 hQ1).mono ?_
  rintro e u' w2 ⟨rfl, rfl, hp2, hq2, hb2⟩
  have d1 := hp2.cell 0 (v := .int .i64 (q : Nat)) rfl
  have d2 := hq2.cell 0 (v := .int .i64 12) rfl
  simp [Leaves, settle, results, Tryz.results18, go_sem, d1, d2]
  exact hB1.fresh hb2 (fun k e => by omega)

set_option maxRecDepth 100000 in
set_option maxHeartbeats 2000000 in
theorem whole_rest {B b A0 p x y : Nat} {s : ByteArray} (h : NumberTo B b s 0 (.ok (.complex .f64 x y) p)) (hp : p ≠ s.size) (hne : A0 ≠ b) (w : World) (hr : RdAt w b s 0) (hG : Gl B w) (hB : B ≤ b) (hA : Blk w A0 #[.complex .f64 0 0] 23) :
    Calls Tryz.prog 18 #[.pointer (some ⟨b, 0, none⟩), .func (.func 37) #[] #[.pointer (some ⟨b, 0, none⟩), .pointer (some ⟨A0, 0, none⟩)]] w fun e w' => e = .returned (.tuple #[.int .i64 (p : Nat), .int .i64 12]) ∧ But (fun k => k = b ∨ k = A0) w w' := by
  have hmf := makeFunc_run
  have hlt := hr.1.lt
  have hlA := hA.lt
  have h9 : ¬ (65536 : Int) < (s.size : Int) := by have := hr.2.2; omega
  have c0 := hr.1.cell 0 (v := .string s) rfl
  obtain ⟨hWb, hP, hQ⟩ := two_alloc w
  have HR := hide (read1_ok h hne _ (hr.low hWb) (hG.on (hWb.mono (by omega))) (hA.below hWb hlA))
  have K := hide (And.intro hWb (And.intro hP hQ))
  have HP := hide hp
  clear hWb hP hQ h hr hG hp hA
  go_enter_defers Tryz.func18, Tryz.ntmps18
  go_wp2_with (first
    | (go_at_call 37; refine (unhide HR).mono ?_; rintro e w1 ⟨rfl, hr, hA, hb⟩; have R1 := hide hr; have B1 := hide hb; have HE := hide (ended_any hr); rw [decide_eq_false (unhide HP)] at HE; clear hr hA hb)
    | (go_at_call 41; refine (unhide HE).mono ?_; rintro e w2 ⟨rfl, m, rfl⟩)
    | (go_at_call 42; refine (cannotStand_any ((unhide R1).drew _)).mono ?_; rintro e w3 ⟨rfl, rfl⟩))
  have hP1 := (unhide K).2.1.but (unhide B1) (by omega)
  have hQ1 := (unhide K).2.2.but (unhide B1) (by omega)
  have hB1 := ((But.low (O := fun k => k = b ∨ k = A0) (unhide K).1).trans (unhide B1)).trans (But.still (still_drewN _ m))
  clear K HR B1
  refine leaves_cons (f := 40) (args := #[.pointer (some ⟨w.heap.size, 0, none⟩), .pointer (some ⟨w.heap.size + 1, 0, none⟩)]) (by simp) (by simp [go_sem]) ?_
  refine (catch_pan w.heap.size (w.heap.size + 1) p 12 (by omega) _ _ (w1.drewN m) hP1 hQ1).mono ?_
  rintro e u' w2 ⟨rfl, rfl, hp2, hq2, hb2⟩
  have d1 := hp2.cell 0 (v := .int .i64 (p : Nat)) rfl
  have d2 := hq2.cell 0 (v := .int .i64 12) rfl
  simp [Leaves, settle, results, Tryz.results18, go_sem, d1, d2]
  exact hB1.fresh hb2 (fun k e => by omega)

set_option maxRecDepth 100000 in
set_option maxHeartbeats 2000000 in
theorem whole_ok {B b A0 x y : Nat} {s : ByteArray} (h : NumberTo B b s 0 (.ok (.complex .f64 x y) s.size)) (hne : A0 ≠ b) (w : World) (hr : RdAt w b s 0) (hG : Gl B w) (hB : B ≤ b) (hA : Blk w A0 #[.complex .f64 0 0] 23) :
    Calls Tryz.prog 18 #[.pointer (some ⟨b, 0, none⟩), .func (.func 37) #[] #[.pointer (some ⟨b, 0, none⟩), .pointer (some ⟨A0, 0, none⟩)]] w fun e w' => e = .returned (.tuple #[.int .i64 0, .int .i64 0]) ∧ Blk w' A0 #[.complex .f64 x y] 23 ∧ But (fun k => k = b ∨ k = A0) w w' := by
  have hmf := makeFunc_run
  have hlt := hr.1.lt
  have hlA := hA.lt
  have h9 : ¬ (65536 : Int) < (s.size : Int) := by have := hr.2.2; omega
  have c0 := hr.1.cell 0 (v := .string s) rfl
  obtain ⟨hWb, hP, hQ⟩ := two_alloc w
  have HR := hide (read1_ok h hne _ (hr.low hWb) (hG.on (hWb.mono (by omega))) (hA.below hWb hlA))
  have K := hide (And.intro hWb (And.intro hP hQ))
  clear hWb hP hQ h hr hG hA
  go_enter_defers Tryz.func18, Tryz.ntmps18
  go_wp2_with (first
    | (go_at_call 37; refine (unhide HR).mono ?_; rintro e w1 ⟨rfl, hr, hA, hb⟩; have HA1 := hide hA; have B1 := hide hb; have HE := hide (ended_any hr); rw [decide_eq_true rfl] at HE; have hP1 := (unhide K).2.1.but hb (by omega); have hQ1 := (unhide K).2.2.but hb (by omega); have e1 := hP1.cell 0 (v := .int .i64 0) rfl; have e2 := hQ1.cell 0 (v := .int .i64 0) rfl; have f1 := hP1.unfrozen 0; have f2 := hQ1.unfrozen 0; have HP1 := hide hP1; have HQ1 := hide hQ1; clear hr hA hb hP1 hQ1)
    | (go_at_call 41; refine (unhide HE).mono ?_; rintro e w2 ⟨rfl, m, rfl⟩))
  obtain ⟨T1, T2, T3⟩ := two_put0 (W := w1.drewN m) (.int .i64 0) (.int .i64 0) (show w.heap.size ≠ w.heap.size + 1 by omega) (unhide HP1) (unhide HQ1)
  have hB1 := (((But.low (O := fun k => k = b ∨ k = A0) (unhide K).1).trans (unhide B1)).trans (But.still (still_drewN _ m))).fresh T3 (fun k e => by omega)
  have hA9 := Blk.but (w := w1.drewN m) (unhide HA1) T3 (by omega)
  generalize ((w1.drewN m).setCell ⟨w.heap.size, 0, none⟩ (.int .i64 0)).setCell ⟨w.heap.size + 1, 0, none⟩ (.int .i64 0) = W9 at *
  clear K HR B1 HE e1 e2 f1 f2
  refine leaves_cons (f := 40) (args := #[.pointer (some ⟨w.heap.size, 0, none⟩), .pointer (some ⟨w.heap.size + 1, 0, none⟩)]) (by simp) (by simp [go_sem]) ?_
  refine (catch_idle _ _ W9).mono ?_
  rintro e u' w2 ⟨rfl, rfl, hw2⟩
  have hbl : Below W9.heap.size W9 w2 := by rw [hw2]; exact (Below.refl _ _).alloc (Nat.le_refl _) _
  clear hw2
  have d1 := (T1.below hbl T1.lt).cell 0 (v := .int .i64 0) rfl
  have d2 := (T2.below hbl T2.lt).cell 0 (v := .int .i64 0) rfl
  have R1 := hA9.below hbl hA9.lt
  have R2 := hB1.trans (But.low hbl)
  simp [Leaves, settle, results, Tryz.results18, go_sem, d1, d2]
  exact ⟨R1, R2⟩

set_option maxRecDepth 100000 in
theorem whole_long {b A0 : Nat} {s : ByteArray} (hs : 65536 < s.size) (w : World) (hr : Blk w b #[.string s, .int .i64 0] 53) :
    Calls Tryz.prog 18 #[.pointer (some ⟨b, 0, none⟩), .func (.func 37) #[] #[.pointer (some ⟨b, 0, none⟩), .pointer (some ⟨A0, 0, none⟩)]] w fun e w' => e = .returned (.tuple #[.int .i64 0, .int .i64 2]) ∧ Below w.heap.size w w' := by
  have hlt := hr.lt
  have h9 : (65536 : Int) < (s.size : Int) := by omega
  have c0 := hr.cell 0 (v := .string s) rfl
  clear hr
  go_enter_defers Tryz.func18, Tryz.ntmps18
  go_wp2_with fail
  have h1 := alloc_size w (.cells #[.int .i64 0] 3)
  have hbl : Below w.heap.size w ((w.alloc (.cells #[.int .i64 0] 3)).alloc (.cells #[.int .i64 2] 26)) := ((Below.refl _ _).alloc (Nat.le_refl _) _).alloc (by omega) _
  have T1 : Blk ((w.alloc (.cells #[.int .i64 0] 3)).alloc (.cells #[.int .i64 2] 26)) w.heap.size #[.int .i64 0] 3 := Blk.alloc.below ((Below.refl _ _).alloc (Nat.le_refl _) _) (by omega)
  have T2 : Blk ((w.alloc (.cells #[.int .i64 0] 3)).alloc (.cells #[.int .i64 2] 26)) (w.heap.size + 1) #[.int .i64 2] 26 := by
    rw [← h1]; exact Blk.alloc
  have d1 := T1.cell 0 (v := .int .i64 0) rfl
  have d2 := T2.cell 0 (v := .int .i64 2) rfl
  clear h1 T1 T2
  generalize (w.alloc (.cells #[.int .i64 0] 3)).alloc (.cells #[.int .i64 2] 26) = W9 at *
  simp [bodyPostD, Leaves, results, Tryz.results18, go_sem, d1, d2]
  exact hbl
end Go.Proofs.YtbkjmnopljmanaaGreatDoor
