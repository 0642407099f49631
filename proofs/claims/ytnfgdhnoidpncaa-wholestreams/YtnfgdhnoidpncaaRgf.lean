/- A range over a function that itself changes memory between two rounds, and a function that leaves with many marks: laws in the plain walk's terms. (Laid ahead of layer 20.) -/
import Derived.Test.YtnfgdhnoidpncaaNum0
import Derived.RangeFuncKeeps
import Derived.RangeFuncLeaves
import Derived.RangeFuncCalls
import Derived.WalkKit
namespace Go.Proofs.Ytnfgdhnoidpncaa
open Go.RowKit

/-- A function's contract from its body, where the body holds a range over a function. -/
theorem calls_marks {P : Program} {f : FuncId} {fn : Func} {c : Code} {args : Array Value} {w : World} {R : Ending → World → Prop} (hf : P.funcs[f]? = some fn) (hb : fn.body = some c)
    (h : c.wp P (bodyPostM Fence.wide 0 P fn R) { tmps := args ++ Array.replicate (fn.ntmps - args.size) undef, defers := [] } w) : Calls P f args w R :=
  (callsIn_wide (n := 0)).1 (callsIn_of_wp_marks hf hb trivial (wpIn_wide.2 h))

def mark (D : Nat) : Deferred := { target := .collected D, args := #[] }
/-- The marks' blocks are there, all unlike. -/
def Marks (W : World) (Ds : List Nat) : Prop := Ds.Pairwise (· ≠ ·) ∧ ∀ D ∈ Ds, W.heap[D]? = some (.deferred (some []))
theorem Marks.nil (W : World) : Marks W [] := ⟨.nil, fun _ h => by cases h⟩
theorem Marks.keep {W W' : World} {Ds : List Nat} (h : Marks W Ds) (hk : ∀ D ∈ Ds, W'.heap[D]? = W.heap[D]?) : Marks W' Ds := ⟨h.1, fun D hD => (hk D hD).trans (h.2 D hD)⟩
theorem leaves_marks {P : Program} {fn : Func} {tmps : Array Value} {R : Ending → World → Prop} : ∀ (Ds : List Nat) (W : World), Marks W Ds →
    (∀ W', W.heap.size = W'.heap.size → W'.os = W.os → W'.tape = W.tape → W'.output = W.output → (∀ k, k ∉ Ds → W'.heap[k]? = W.heap[k]?) → ∃ v, (results fn tmps).run P W' = .ok v W' ∧ R (.returned v) W') → LeavesInM Fence.wide 0 P fn tmps R (Ds.map mark) .returning W
  | [], W, _, h => h W rfl rfl rfl rfl (fun _ _ => rfl)
  | D :: Ds, W, hm, h => by
    have hD := hm.2 D (by simp)
    have hlt : D < W.heap.size := (Array.getElem?_eq_some_iff.1 hD).1
    refine ⟨by simp, .inl ⟨D, W.putObj D (.deferred none), rfl, run_takeDeferred hD, ?_⟩⟩
    have hne : ∀ k, k ≠ D → (W.putObj D (.deferred none)).heap[k]? = W.heap[k]? := fun k hk => World.putObj_heap_other (by omega)
    have hds := List.pairwise_cons.1 hm.1
    refine leaves_marks Ds _ ⟨hds.2, fun E hE => (hne E (fun e => hds.1 E hE e.symm)).trans (hm.2 E (by simp [hE]))⟩ (fun W' h1 h2 h3 h4 h5 => ?_)
    refine h W' (by rw [← h1]; simp [World.putObj]) h2 h3 h4 (fun k hk => ?_)
    rw [h5 k (fun e => hk (by simp [e])), hne k (fun e => hk (by simp [e]))]

/-- The loop's record, ready. -/
def recOf (fn : FuncId) (tmps : Array Value) (ps : Array Tmp) (assign body : Code) (D : Nat) (st : LoopState) : Loop := { state := st, pending := none, fn, tmps, params := ps, assign, body, defers := D }

/-- The statement. A round is an i of any kind: V i: the values that it is given, Y i: what holds where it begins (the function has made its step), Z i: what holds where it ends. R: what holds at the end. The two blocks that the loop lays are w.heap.size (the mark's) and the one behind it (the record's). -/
theorem wp_rangeFunc_mut {P : Program} {g : Operand} {ps : Array Tmp} {assign body : Code} {Q : Exit → Act → World → Prop} {a : Act} {w : World} {gf : Nat} {lb : Array Value} (hg : a.eval g = .func (.func gf) #[] lb)
    (eg : ∀ args w, (callFunc gf args).run P w = .ok (.enter gf args) w) {ι : Type} (V : ι → Array Value → Prop) (hV : ∀ i v, V i v → v.size = ps.size) (Y Z : ι → World → Prop) (R : World → Prop)
    (hY : ∀ i W o, Y i W → Y i (W.putObj (w.heap.size + 1) o)) (hZ : ∀ i W o, Z i W → Z i (W.putObj (w.heap.size + 1) o)) (hR : ∀ W o, R W → R (W.putObj (w.heap.size + 1) o))
    (hiter : ∀ (W1 : World) (B : World → Prop), W1.heap.size = w.heap.size + 2 → Below w.heap.size w W1 →
      (∀ W W', B W → W'.heap[w.heap.size]? = W.heap[w.heap.size]? → W'.heap[w.heap.size + 1]? = W.heap[w.heap.size + 1]? → B W') → B W1 →
      (∀ i v W, V i v → Y i W → B W → YieldAt Fence.wide 0 P (w.heap.size + 1) v W fun e W' => e = .returned (.bool true) ∧ Z i W' ∧ B W') →
      Calls P gf (#[.func (.yield (w.heap.size + 1)) #[] #[]] ++ lb) W1 fun e W' => (∃ v, e = .returned v) ∧ R W' ∧ B W')
    (hround : ∀ i v W (K : Act → World → Prop), V i v → Y i W → (∀ a', (∀ W', Y i W' → body.wpIn (Fence.wide.inRound (w.heap.size + 1)) 0 P (Exit.then (fun _ W'' => Z i W'' ∧ KeepsOthers W' W'') (fun _ _ _ => False)) a' W') → K a' W) →
      assign.wpIn (Fence.wide.inRound (w.heap.size + 1)) 0 P (Exit.then K (fun _ _ _ => False)) { tmps := (ps.zip v).foldl (fun t (p, v) => t.setIfInBounds p v) a.tmps, defers := [] } W)
    (hdone : ∀ W, R W → W.heap[w.heap.size]? = some (.deferred (some [])) → Q .normal { a with defers := mark w.heap.size :: a.defers } W) :
    (Code.rangeFunc g ps assign body).wp P Q a w := by
  refine (wpIn_wide (n := 0)).1 (wpIn_rangeFunc ?_)
  intro fn hfn
  obtain ⟨rc, hrc⟩ : ∃ rc : LoopState → Loop, rc = fun st => recOf fn a.tmps ps assign body w.heap.size st := ⟨_, rfl⟩
  obtain ⟨W1, hW1⟩ : ∃ W1, (w.alloc (.deferred (some []))).alloc (.loop (rc .ready)) = W1 := ⟨_, rfl⟩
  have hL1 : W1.heap[w.heap.size + 1]? = some (.loop (rc .ready)) := by
    rw [← hW1]; have := World.alloc_heap_new (w.alloc (.deferred (some []))) (.loop (rc .ready)); rwa [World.size_alloc] at this
  have hK1 : W1.heap[w.heap.size]? = some (.deferred (some [])) := by
    rw [← hW1]; exact (Below.heap_alloc _ _ _ (by simp)).trans (World.alloc_heap_new w _)
  have hb1 : Below w.heap.size w W1 := by rw [← hW1]; exact ((Below.refl _ w).alloc (Nat.le_refl _) _).alloc (by simp) _
  have hs1 : W1.heap.size = w.heap.size + 2 := by rw [← hW1]; simp
  refine ⟨w.heap.size + 1, [mark w.heap.size], W1, { target := .fn (.func gf) lb, args := #[.func (.yield (w.heap.size + 1)) #[] #[]] }, W1, gf, #[.func (.yield (w.heap.size + 1)) #[] #[]] ++ lb, W1, ?_, ?_, fun _ _ => trivial, ?_, fun h => ?_, ?_⟩
  · rw [← hW1, hrc]; exact run_enterLoop_outer _ _ _ _ _
  · simp only [resolve, hg]
    simp [go_sem]
  · simp [invoke, go_sem, eg]
  · simp [Fence.wide] at h
  · refine (callsIn_wide (n := 0)).2 ((hiter W1 (fun W => W.heap[w.heap.size + 1]? = some (.loop (rc .ready)) ∧ W.heap[w.heap.size]? = some (.deferred (some []))) hs1 hb1
      (fun W W' h h1 h2 => ⟨h2.trans h.1, h1.trans h.2⟩) ⟨hL1, hK1⟩ ?_).mono ?_)
    · rintro j v W hv hy ⟨hl, hk⟩
      have hlt : w.heap.size + 1 < W.heap.size := (Array.getElem?_eq_some_iff.1 hl).1
      have hyi := run_yield (P := P) (args := v) hl (by rw [hrc]; exact hV j v hv)
      rw [hrc] at hyi
      refine ⟨fn, _, assign, body, hyi, roundIn_of_wpIn hfn (hround j v W _ hv hy (fun a' hb => ⟨_, run_beginRound hl (by rw [hrc]; rfl), ?_⟩))⟩
      have hl2 : (W.putObj (w.heap.size + 1) (.loop { rc .ready with state := .busy })).heap[w.heap.size + 1]? = some (.loop { rc .ready with state := .busy }) := World.putObj_heap_same hlt
      have hk2 : (W.putObj (w.heap.size + 1) (.loop { rc .ready with state := .busy })).heap[w.heap.size]? = some (.deferred (some [])) := (World.putObj_heap_other (by omega)).trans hk
      refine wpIn_mono (hb _ (hY _ _ _ hy)) ?_
      rintro e a3 W3 hp
      cases e with
      | normal =>
        obtain ⟨hz, hk3⟩ := hp
        have hl3 := hk3.same _ _ hl2 rfl
        have hr := run_endRound (P := P) none hl3
        refine ⟨_, _, hr, rfl, hZ _ _ _ hz, ?_, ?_⟩
        · rw [World.putObj_heap_same (Array.getElem?_eq_some_iff.1 hl3).1, hrc]; rfl
        · exact (World.putObj_heap_other (by omega)).trans (hk3.same _ _ hk2 rfl)
      | ret => exact hp.elim
      | exit id => exact hp.elim
      | goto t => exact hp.elim
      | panic ch => exact hp.elim
      | outgrown => exact hp.elim
    · rintro e W2 ⟨⟨v, rfl⟩, hz, hl, hk⟩
      have hend := run_endLoop (P := P) hl (by rw [hrc]; simp [recOf])
      rw [hrc] at hend
      exact ⟨none, _, hend, hdone _ (hR _ _ hz) ((World.putObj_heap_other (by omega)).trans hk)⟩
end Go.Proofs.Ytnfgdhnoidpncaa
