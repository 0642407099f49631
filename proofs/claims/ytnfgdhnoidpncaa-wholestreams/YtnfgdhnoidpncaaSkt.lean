/- What the statement asks of streams, as contracts to be met by what lands. (Laid ahead of layer 20, from the document alone.) -/
import Derived.Test.YtnfgdhnoidpncaaGw
import Derived.Test.YtnfgdhnoidpncaaTw
import Derived.Test.YtnfgdhnoidpncaaTlg
import Derived.Test.YtnfgdhnoidpncaaRgf
namespace Go.Proofs.Ytnfgdhnoidpncaa
open Go.RowKit

def gG : C2 := (lf 4604930618986332160, lf 4602678819172646912)
theorem gG_is : CIs (.complex .f64 4604930618986332160 4602678819172646912) gG := CIs.of _ _ (by omega) (by omega)
theorem fin_gG : FinV (.complex .f64 4604930618986332160 4602678819172646912) := ⟨_, _, rfl, by omega, by omega, by decide⟩

/-- The second world is the first but for the blocks of O, and new ones. -/
structure But (O : Nat → Prop) (w w' : World) : Prop where
  os : w'.os = w.os
  tape : w'.tape = w.tape
  output : w'.output = w.output
  size : w.heap.size ≤ w'.heap.size
  block : ∀ k, k < w.heap.size → ¬ O k → w'.heap[k]? = w.heap[k]?
theorem But.mono {O O' : Nat → Prop} {w w' : World} (h : But O w w') (hO : ∀ k, O k → O' k) : But O' w w' := ⟨h.os, h.tape, h.output, h.size, fun k hk hn => h.block k hk (fun e => hn (hO k e))⟩
theorem But.refl (O : Nat → Prop) (w : World) : But O w w := ⟨rfl, rfl, rfl, Nat.le_refl _, fun _ _ _ => rfl⟩
theorem But.low {O : Nat → Prop} {w w' : World} (h : Below w.heap.size w w') : But O w w' := ⟨h.os, h.tape, h.output, h.size, fun k hk _ => h.block k hk⟩
theorem But.cell {O : Nat → Prop} {w w' : World} (h : But O w w') {a : Addr} {v : Value} (hc : w.cell? a = some v) (hO : ¬ O a.block) : w'.cell? a = some v :=
  (World.cell?_of_block (w := w) (h.block _ (World.block_lt_of_cell? _ _ hc) hO)).trans hc
theorem But.below {O : Nat → Prop} {w0 w w' : World} {N : Nat} (h : But O w w') (k : Below N w0 w) (hN : N ≤ w.heap.size) (hO : ∀ k, O k → N ≤ k) : Below N w0 w' :=
  k.trans ⟨h.os, h.tape, h.output, h.size, fun i hi => h.block i (by omega) (fun e => by have := hO i e; omega)⟩

/-- A part's bits as they are saved: a NaN as one. -/
def cbits : Option Nat → Nat
  | none => 9221120237041090561
  | some b => b
/-- Byte j of eight, the highest first. -/
def be8 (x j : Nat) : Nat := x / 256 ^ (7 - j) % 256
def gbyte (g : Gu) : Nat := (if g.flush then 1 else 0) + (if g.clip then 2 else 0) + (if g.mute then 4 else 0)
/-- The number at place q of what is saved: each of eight bytes. -/
def svN (n : Nat) (G : C2) (sec : Nat → Sec) (st : Nat → C2 × C2) (t c q : Nat) : Nat :=
  if q = 0 then cbits G.1 else if q = 1 then cbits G.2
  else if q < 2 + 10 * n then
    let s := sec ((q - 2) / 10)
    let r := (q - 2) % 10
    cbits (if r = 0 then s.b0.1 else if r = 1 then s.b0.2 else if r = 2 then s.b1.1 else if r = 3 then s.b1.2 else if r = 4 then s.b2.1 else if r = 5 then s.b2.2 else if r = 6 then s.a1.1 else if r = 7 then s.a1.2 else if r = 8 then s.a2.1 else s.a2.2)
  else if q = 2 + 10 * n then t else if q = 3 + 10 * n then c
  else
    let z := st ((q - 4 - 10 * n) / 4)
    let r := (q - 4 - 10 * n) % 4
    cbits (if r = 0 then z.1.1 else if r = 1 then z.1.2 else if r = 2 then z.2.1 else z.2.2)
/-- The bytes of what is saved. -/
def svB (n : Nat) (G : C2) (sec : Nat → Sec) (g : Gu) (st : Nat → C2 × C2) (t c j : Nat) : Nat :=
  if j = 0 then 81 else if j = 1 then 86 else if j = 2 then 83 else if j = 3 then 49 else if j = 4 then gbyte g else if j = 5 then n else be8 (svN n G sec st t c ((j - 6) / 8)) ((j - 6) % 8)
/-- The bytes lie in block A. -/
def SavedAt (w : World) (A n : Nat) (G : C2) (sec : Nat → Sec) (g : Gu) (st : Nat → C2 × C2) (t c : Nat) : Prop := ∀ j, j < 38 + 112 * n → w.cell? ⟨A, j, none⟩ = some (.int .u8 (svB n G sec g st t c j))

/-- What a stream's calls do. 'At w O B ..': at block B, in the blocks O, lies a stream of this filter and this guard, what it keeps, how many samples came, how many parts were changed. -/
structure SK where
  At : World → (Nat → Prop) → Nat → Nat → C2 → (Nat → Sec) → Gu → (Nat → C2 × C2) → Nat → Nat → Prop
  lt : ∀ {w O B n G sec g st t c}, At w O B n G sec g st t c → (∀ k, O k → k < w.heap.size) ∧ O B
  keep : ∀ {w w' O B n G sec g st t c}, At w O B n G sec g st t c → (∀ k, O k → w'.heap[k]? = w.heap[k]?) → w.heap.size ≤ w'.heap.size → At w' O B n G sec g st t c
  /-- Block k is one of those of the stream at B that no call writes into: a fork may share it. -/
  Sh : World → Nat → Nat → Prop
  shKeep : ∀ {w w' : World} {B k : Nat}, w'.heap[B]? = w.heap[B]? → Sh w' B k → Sh w B k
  new : ∀ {r r' n : Nat} {v : Value} {g : Gu} {G : C2} {sec : Nat → Sec} {w : World}, FinV (.complex .f64 r r') → CIs (.complex .f64 r r') G → SecsIs w v n sec → n ≤ 16 →
    Calls Try.prog 6 #[.agg #[.complex .f64 r r', v], Gv g] w fun e w' => ∃ B O, e = .returned (.tuple #[.pointer (some ⟨B, 0, none⟩), .int .i64 0]) ∧ At w' O B n G sec g rest0 0 0 ∧ (∀ k, O k → w.heap.size ≤ k) ∧ Below w.heap.size w w'
  push : ∀ {w O B n G sec g st t c m} {v : Value} {X : Nat → C2}, At w O B n G sec g st t c → ListIs w v m X → (∀ b, O b → Off v m b) → n ≤ 16 → m ≤ 300 → t ≤ 1000000000 → c ≤ 1000000000000 →
    Calls Try.prog 11 #[.pointer (some ⟨B, 0, none⟩), v] w fun e w' => ∃ A O', e = .returned (.slice (some ⟨A, 0, none⟩) m m) ∧ w.heap.size ≤ A ∧ A < w'.heap.size ∧ ¬ O' A ∧ (∀ j, j < m → ∃ u, w'.cell? ⟨A, j, none⟩ = some u ∧ CIs u (wAnsN g G n sec st X j)) ∧
      At w' O' B n G sec g (wStN g G n sec st X m) (t + m) (c + wCntN g G n sec st X m) ∧ (∀ k, O' k → O k ∨ w.heap.size ≤ k) ∧ But (fun k => O k ∧ ¬ Sh w B k) w w'
  at_ : ∀ {w O B n G sec g st t c}, At w O B n G sec g st t c → Calls Try.prog 8 #[.pointer (some ⟨B, 0, none⟩)] w fun e w' => e = .returned (.int .u64 t) ∧ w' = w
  save : ∀ {w O B n G sec g st t c}, At w O B n G sec g st t c → n ≤ 16 → Calls Try.prog 9 #[.pointer (some ⟨B, 0, none⟩)] w fun e w' => ∃ A cap, e = .returned (.slice (some ⟨A, 0, none⟩) (38 + 112 * n) cap) ∧ w.heap.size ≤ A ∧ A < w'.heap.size ∧ SavedAt w' A n G sec g st t c ∧ Below w.heap.size w w' ∧ 38 + 112 * n ≤ cap ∧ cap ≤ 9223372036854775807
  load : ∀ {w A cap n G sec g st t c}, SavedAt w A n G sec g st t c → (∃ w0 O0 B0, At w0 O0 B0 n G sec g st t c) → n ≤ 16 → A < w.heap.size → 38 + 112 * n ≤ cap → cap ≤ 9223372036854775807 → Calls Try.prog 13 #[.slice (some ⟨A, 0, none⟩) (38 + 112 * n) cap] w fun e w' => ∃ B O, e = .returned (.tuple #[.pointer (some ⟨B, 0, none⟩), .int .i64 0]) ∧ At w' O B n G sec g st t c ∧ (∀ k, O k → w.heap.size ≤ k) ∧ Below w.heap.size w w'
  fork : ∀ {w O B n G sec g st t c}, At w O B n G sec g st t c → n ≤ 16 → Calls Try.prog 14 #[.pointer (some ⟨B, 0, none⟩)] w fun e w' => ∃ B2 O2, e = .returned (.pointer (some ⟨B2, 0, none⟩)) ∧ At w' O2 B2 n G sec g st t c ∧ (∀ k, O2 k → w.heap.size ≤ k ∨ O k ∧ Sh w B k) ∧ w.heap.size ≤ B2 ∧ Below w.heap.size w w'
  /-- The value gf, lb, its own blocks C: a sequence over m samples of the stream at B. -/
  SeqIs : World → Nat → Array Value → (Nat → Prop) → Nat → Nat → (Nat → C2) → Prop
  seqKeep : ∀ {w w' gf lb C B m X}, SeqIs w gf lb C B m X → (∀ k, C k → w'.heap[k]? = w.heap[k]?) → SeqIs w' gf lb C B m X
  seq : ∀ {w O B n G sec g st t c m} {v : Value} {X : Nat → C2}, At w O B n G sec g st t c → ListIs w v m X → m ≤ 300 →
    Calls Try.prog 12 #[.pointer (some ⟨B, 0, none⟩), v] w fun e w' => ∃ gf lb C, e = .returned (.func (.func gf) #[] lb) ∧ (∀ args w, (callFunc gf args).run Try.prog w = .ok (.enter gf args) w) ∧ SeqIs w' gf lb C B m X ∧ (∀ k, C k → w.heap.size ≤ k ∧ k < w'.heap.size) ∧ Below w.heap.size w w'
  /-- Own: the blocks that the function holds on to, the stream's among them. -/
  iter : ∀ {w gf lb C O B n G sec g st t c m} {X : Nat → C2}, SeqIs w gf lb C B m X → At w O B n G sec g st t c → (∀ k, C k → ¬ O k ∧ k < w.heap.size) → n ≤ 16 → m ≤ 300 → t ≤ 1000000000 → c ≤ 1000000000000 →
    ∀ (l : Nat) (Zc : Nat → World → (Nat → Prop) → Prop), (∀ j W W' Own Own', Zc j W Own → But Own W W' → (∀ k, Own' k → Own k ∨ W.heap.size ≤ k) → Zc j W' Own') → Zc 0 w (fun k => O k ∨ C k) →
    (∀ j r i W O' Own, j < m → CIs (.complex .f64 r i) (wAnsN g G n sec st X j) → Zc j W Own → At W O' B n G sec g (wStN g G n sec st X (j + 1)) (t + (j + 1)) (c + wCntN g G n sec st X (j + 1)) → (∀ k, O' k → Own k) → (∀ k, Own k → k < W.heap.size) →
      YieldAt Fence.wide 0 Try.prog l #[.int .i64 j, .complex .f64 r i] W fun e W' => e = .returned (.bool true) ∧ Zc (j + 1) W' Own ∧ (∀ k, Own k → W'.heap[k]? = W.heap[k]?) ∧ W.heap.size ≤ W'.heap.size) →
    Calls Try.prog gf (#[.func (.yield l) #[] #[]] ++ lb) w fun e W' => (∃ v, e = .returned v) ∧ ∃ O' Own, Zc m W' Own ∧ At W' O' B n G sec g (wStN g G n sec st X m) (t + m) (c + wCntN g G n sec st X m) ∧ (∀ k, O' k → Own k)
end Go.Proofs.Ytnfgdhnoidpncaa
