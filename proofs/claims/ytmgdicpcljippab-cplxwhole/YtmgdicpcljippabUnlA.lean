/- A map that is keyed by complex numbers and holds nothing: what a look-up and a store come to. -/
import Derived.Test.YtmgdicpcljippabRows
import Derived.Maps.AppendAt
import Derived.Maps.OwnSet
import Derived.WalkKit
import Derived.Laws.Cover3
namespace Go.Proofs.Ytmgdicpcljippab
open Go.RowKit Go.Maps

/-- A complex number by its bits. -/
def cv (p : Nat × Nat) : Value := .complex .f64 p.1 p.2
/-- By ==. -/
def eqc (p q : Nat × Nat) : Bool := (FloatKind.f64.format.order p.1 q.1 == some .eq) && (FloatKind.f64.format.order p.2 q.2 == some .eq)
/-- Is one of the list == to it? -/
def hasc (l : List (Nat × Nat)) (p : Nat × Nat) : Bool := l.any (eqc p)
/-- The unlike ones among the first k. -/
def unl (zs : List (Nat × Nat)) : Nat → List (Nat × Nat)
  | 0 => []
  | k + 1 => if hasc (unl zs k) (zs.getD k (0, 0)) then unl zs k else unl zs k ++ [zs.getD k (0, 0)]

theorem unl_len (zs : List (Nat × Nat)) (k : Nat) : (unl zs k).length ≤ k := by
  induction k with
  | zero => simp [unl]
  | succ k ih => unfold unl; split <;> (try rw [List.length_append, List.length_singleton]) <;> omega

/-- Block B is a map with just these keys. -/
def MapIs (w : World) (B : Nat) (l : List (Nat × Nat)) : Prop :=
  ∃ es clock, w.heap[B]? = some (.map es clock) ∧ es.toList.map (fun e => (e.key, e.val)) = l.map (fun p => (cv p, Value.agg #[]))

theorem run_equalIn_c (d : Nat) (p q : Nat × Nat) (w : World) : (Op.equalIn (d + 1) 23 (cv p) (cv q)).run Try.prog w = .ok (eqc p q) w := by
  simp [Op.equalIn, run_underlying Try.underlying23, cv, eqc, Op.floatEq]
theorem run_equal_c (p q : Nat × Nat) (w : World) : (Op.equal 23 (cv p) (cv q)).run Try.prog w = .ok (eqc p q) w := run_equalIn_c 9999 p q w

theorem run_find_c (p : Nat × Nat) (w : World) : ∀ (es : List MapEntry) (l : List (Nat × Nat)) (i : Nat), es.map (fun e => (e.key, e.val)) = l.map (fun p => (cv p, Value.agg #[])) →
    ∃ r, (Instr.findAsking 23 (cv p) es i).run Try.prog w = .ok r w ∧ ((hasc l p = true ∧ ∃ j, r = some (j, .agg #[])) ∨ (hasc l p = false ∧ r = none))
  | [], l, i, h => by
    cases l with
    | nil => exact ⟨none, rfl, Or.inr ⟨rfl, rfl⟩⟩
    | cons a l => simp at h
  | e :: es, [], i, h => by simp at h
  | e :: es, q :: l, i, h => by
    simp only [List.map_cons, List.cons.injEq, Prod.mk.injEq] at h
    obtain ⟨⟨hk, hv⟩, h2⟩ := h
    unfold Instr.findAsking
    rw [hk]
    cases hq : eqc p q
    · obtain ⟨r, hr, hc⟩ := run_find_c p w es l (i + 1) h2
      refine ⟨r, ?_, ?_⟩
      · simp [run_equal_c, hq, hr]
      · have : hasc (q :: l) p = hasc l p := by simp [hasc, hq]
        rw [this]; exact hc
    · refine ⟨some (i, e.val), ?_, Or.inl ⟨by simp [hasc, hq], i, by rw [hv]⟩⟩
      simp [run_equal_c, hq]

theorem run_findKey_c (p : Nat × Nat) (w : World) (es : List MapEntry) (l : List (Nat × Nat)) (h : es.map (fun e => (e.key, e.val)) = l.map (fun p => (cv p, Value.agg #[]))) :
    ∃ r, (Instr.findKey 23 (cv p) es).run Try.prog w = .ok r w ∧ ((hasc l p = true ∧ ∃ j, r = some (j, .agg #[])) ∨ (hasc l p = false ∧ r = none)) := by
  obtain ⟨r, hr, hc⟩ := run_find_c p w es l 0 h
  unfold Instr.findKey
  cases es with
  | nil =>
    refine ⟨none, by simp [run_underlying Try.underlying23, Instr.findNow], ?_⟩
    cases l with
    | nil => exact Or.inr ⟨rfl, rfl⟩
    | cons a l => simp at h
  | cons e es =>
    refine ⟨r, ?_, hc⟩
    simp [run_underlying Try.underlying23, Instr.findNow, Instr.sameNow, hr]

theorem run_getObj_m {w : World} {B : Nat} {es : Array MapEntry} {clock : Nat} (h : w.heap[B]? = some (.map es clock)) : (getObj B).run Try.prog w = .ok (.map es clock) w := MapKept.run_getObj_map h
theorem zero_unit (w : World) : (zeroValue 50).run Try.prog w = .ok (.agg #[]) w := by kernel_rfl
theorem check_c (c : Bool) (p : Nat × Nat) (w : World) : (Instr.checkKey c 10000 23 (cv p)).run Try.prog w = .ok () w := by
  unfold Instr.checkKey
  simp [run_underlying Try.underlying23, cv]

theorem run_lookup_c (p : Nat × Nat) (w : World) (B : Nat) (l : List (Nat × Nat)) (h : MapIs w B l) :
    (Instr.lookup 49 (.map (some B)) (cv p) true).run Try.prog w = .ok (.tuple #[.agg #[], .bool (hasc l p)]) w := by
  obtain ⟨es, clock, hb, hl⟩ := h
  obtain ⟨r, hr, hc⟩ := run_findKey_c p w es.toList l hl
  unfold Instr.lookup
  rcases hc with ⟨h1, j, rfl⟩ | ⟨h1, rfl⟩
  · simp [run_underlying Try.underlying49, run_getObj_m hb, check_c, hr, h1]
  · simp [run_underlying Try.underlying49, run_getObj_m hb, check_c, hr, h1]

theorem run_update_c (p : Nat × Nat) (w : World) (B : Nat) (l : List (Nat × Nat)) (h : MapIs w B l) (hn : hasc l p = false) :
    ∃ w', (Instr.mapUpdate 49 (.map (some B)) (cv p) (.agg #[])).run Try.prog w = .ok () w' ∧ MapIs w' B (l ++ [p]) ∧ w.grownBy w' (some B) := by
  obtain ⟨es, clock, hb, hl⟩ := h
  obtain ⟨r, hr, hc⟩ := run_findKey_c p w es.toList l hl
  have hB : B < w.heap.size := by
    apply Nat.lt_of_not_le
    intro hc
    rw [Array.getElem?_eq_none hc] at hb
    cases hb
  rcases hc with ⟨h1, _⟩ | ⟨_, rfl⟩
  · rw [hn] at h1; cases h1
  · refine ⟨{ w with heap := w.heap.setIfInBounds B (.map (es.push { key := cv p, val := .agg #[], born := clock }) (clock + 1)) }, ?_, ?_, ?_⟩
    · unfold Instr.mapUpdate
      simp [run_underlying Try.underlying49, run_getObj_m hb, check_c, hr]
      unfold setObj
      unfold Sem.run
      rw [hb]
      rfl
    · refine ⟨es.push { key := cv p, val := .agg #[], born := clock }, clock + 1, by simp [hB], ?_⟩
      simp [hl]
    · refine ⟨rfl, rfl, rfl, by simp, fun k hk hne => ?_⟩
      have : B ≠ k := fun e => hne (by rw [e])
      simp [this]

theorem MapIs.lt {w : World} {B : Nat} {l : List (Nat × Nat)} (h : MapIs w B l) : B < w.heap.size := by
  obtain ⟨es, clock, hb, _⟩ := h
  exact (Array.getElem?_eq_some_iff.1 hb).1
theorem MapIs.kept {w w' : World} {B : Nat} {l : List (Nat × Nat)} {row : Option Nat} (h : MapIs w B l) (hg : w.grownBy w' row) (hne : some B ≠ row) : MapIs w' B l := by
  have hlt := h.lt
  obtain ⟨es, clock, hb, hl⟩ := h
  exact ⟨es, clock, (hg.block B hlt hne).trans hb, hl⟩
theorem MapIs.alloc {w : World} {B : Nat} {l : List (Nat × Nat)} (h : MapIs w B l) (o : Obj) : MapIs (w.alloc o) B l := h.kept (World.grownBy_alloc w o none) (by simp)
theorem mapIs_made (w : World) : MapIs (w.alloc (.map #[] 0)) w.heap.size [] := ⟨#[], 0, (MapKept.heap_alloc w _).1, rfl⟩

theorem wpList_lookup_c (w : World) {ops : Array Oper} {rest : List Oper} {o : Oper} {a : Act} {Q : Exit → Act → World → Prop}
    (hg : o.guard = none) (m x : Operand) (hop : o.op = Op.lookup 49 m x true) (B : Nat) (l : List (Nat × Nat))
    (hm : a.eval m = .map (some B)) (hown : MapIs w B l) (p : Nat × Nat) (hx : a.eval x = .complex .f64 p.1 p.2)
    (hK : wpList Try.prog ops Q rest (a.put o.dst (.tuple #[.agg #[], .bool (hasc l p)])) w) : wpList Try.prog ops Q (o :: rest) a w := by
  refine wpList_plain hg fun K' hK' => ?_
  have hrun := run_lookup_c p w B l hown
  unfold cv at hrun
  unfold Oper.wp
  simp [execOp, hop, hm, hx, hrun, Result.andThen]
  exact hK' _ _ hK

theorem wpList_update_c (w : World) {ops : Array Oper} {rest : List Oper} {o : Oper} {a : Act} {Q : Exit → Act → World → Prop}
    (hg : o.guard = none) (m x v : Operand) (hop : o.op = Op.mapUpdate 49 m x v) (B : Nat) (l : List (Nat × Nat))
    (hm : a.eval m = .map (some B)) (hown : MapIs w B l) (p : Nat × Nat) (hn : hasc l p = false) (hx : a.eval x = .complex .f64 p.1 p.2) (hv : a.eval v = .agg #[])
    (hK : ∀ w', MapIs w' B (l ++ [p]) → w.grownBy w' (some B) → wpList Try.prog ops Q rest (a.put o.dst undef) w') : wpList Try.prog ops Q (o :: rest) a w := by
  refine wpList_plain hg fun K' hK' => ?_
  obtain ⟨w', hrun, r1, r2⟩ := run_update_c p w B l hown hn
  unfold cv at hrun
  unfold Oper.wp
  simp [execOp, hop, hm, hx, hv, hrun, Result.andThen]
  exact hK' _ _ (hK w' r1 r2)

theorem info_c : (Try.prog.info? 23).map (fun i => (i.zero, i.size, i.bytes)) = some (some (.complex .f64 0 0), 1, 16) := by kernel_rfl

end Go.Proofs.Ytmgdicpcljippab
