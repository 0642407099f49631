/- The operations of a region that draws its order, one law a kind: what its slot comes to hold. -/
import Derived.Test.YtnfgdhnoidpncaaCZ
import Derived.Deep.MidRow
namespace Go.Proofs.Ytnfgdhnoidpncaa
open Go.RowKit

section
variable {o : Oper} {a : Act} {w : World} {V : Nat → Value → Prop} {C : World → Prop} {d : Nat}

theorem slot_of {v : Value} (hd : o.dst = some d) (hV : V d v) : ∀ d', o.dst = some d' → V d' v := by
  intro d' h; rw [hd] at h; cases h; exact hV

theorem ok_move {x : Operand} {v : Value} (hop : o.op = .move x) (hd : o.dst = some d) (he : a.eval x = v) (hV : V d v) (hC : C w) :
    StepOk Try.prog o a w (fun v => ∀ d, o.dst = some d → V d v) C :=
  .inl ⟨v, w, by simp [execOp, hop, he], slot_of hd hV, hC⟩
theorem ok_assign {x : Operand} {v : Value} (hop : o.op = .assign x) (hd : o.dst = some d) (he : a.eval x = v) (hV : V d v) (hC : C w) :
    StepOk Try.prog o a w (fun v => ∀ d, o.dst = some d → V d v) C :=
  .inl ⟨v, w, by simp [execOp, hop, he], slot_of hd hV, hC⟩

theorem ok_field {x : Operand} {v r : Value} {t : TypeId} {f : Nat} (hop : o.op = .fieldAddr t x f) (hd : o.dst = some d) (he : a.eval x = v) (hr : (Instr.fieldAt t v f).run Try.prog w = .ok r w) (hV : V d r) (hC : C w) :
    StepOk Try.prog o a w (fun v => ∀ d, o.dst = some d → V d v) C :=
  .inl ⟨r, w, by simp [execOp, hop, he, hr], slot_of hd hV, hC⟩

theorem ok_load {x : Operand} {v r : Value} {t : TypeId} (hop : o.op = .load t x) (hd : o.dst = some d) (he : a.eval x = v) (hr : (Instr.loadAt t v).run Try.prog w = .ok r w) (hV : V d r) (hC : C w) :
    StepOk Try.prog o a w (fun v => ∀ d, o.dst = some d → V d v) C :=
  .inl ⟨r, w, by simp [execOp, hop, he, hr], slot_of hd hV, hC⟩

theorem ok_mul {x y : Operand} {tys : Array TypeId} {za zb : C2} (hop : o.op = .call { callee := .value (.func 37), args := #[x, y], argTypes := tys }) (hd : o.dst = some d) (hx : CIs (a.eval x) za) (hy : CIs (a.eval y) zb)
    (hV : ∀ v, CIs v (cmul za zb) → V d v) (hC : ∀ w', Still w w' → C w') : StepOk Try.prog o a w (fun v => ∀ d, o.dst = some d → V d v) C := by
  refine .inr (.inr ⟨37, #[a.eval x, a.eval y], ?_, ?_⟩)
  · simp [execOp, hop]
    go_simp
  · refine (mulC hx hy w).mono ?_
    rintro e w' ⟨r, rfl, hr, hs⟩
    exact ⟨r, rfl, slot_of hd (hV r hr), hC w' hs⟩

theorem ok_sum {x y : Operand} {t t' : TypeId} {op : BinOp} {za zb : C2} (hop : o.op = .binOp op t x y t') (hadd : op = .add ∨ op = .sub) (hd : o.dst = some d) (hx : CIs (a.eval x) za) (hy : CIs (a.eval y) zb)
    (hV : ∀ v, CIs v (cop op za zb) → V d v) (hC : ∀ w', Still w w' → C w') : StepOk Try.prog o a w (fun v => ∀ d, o.dst = some d → V d v) C := by
  obtain ⟨r, w', hr, h1, h2⟩ := sumC op hadd hx hy t w
  refine .inl ⟨r, w', ?_, slot_of hd (hV r h1), hC w' h2⟩
  rcases hadd with rfl | rfl <;> simp [execOp, hop, eqGuard, hr]
end

theorem field_sec (b f : Nat) (hf : f < 5) (w : World) : (Instr.fieldAt 52 (.pointer (some ⟨b, 0, none⟩)) f).run Try.prog w = .ok (.pointer (some ⟨b, f, none⟩)) w := by
  rcases (by omega : f = 0 ∨ f = 1 ∨ f = 2 ∨ f = 3 ∨ f = 4) with rfl | rfl | rfl | rfl | rfl <;> go_simp
theorem field_st (b f : Nat) (hf : f < 2) (w : World) : (Instr.fieldAt 74 (.pointer (some ⟨b, 0, none⟩)) f).run Try.prog w = .ok (.pointer (some ⟨b, f, none⟩)) w := by
  rcases (by omega : f = 0 ∨ f = 1) with rfl | rfl <;> go_simp
theorem load_c (p : Addr) (r i : Nat) (w : World) (h : w.cell? p = some (.complex .f64 r i)) : (Instr.loadAt 24 (.pointer (some p))).run Try.prog w = .ok (.complex .f64 r i) w := by
  go_simp
theorem build_st (r i s j : Nat) (w : World) : (Instr.build 74 #[(0, .complex .f64 r i), (1, .complex .f64 s j)]).run Try.prog w = .ok (.agg #[.complex .f64 r i, .complex .f64 s j]) w := by
  go_simp
theorem info_st : (Try.prog.info? 74).map (·.size) = some 2 := by kernel_rfl
theorem info_sec : (Try.prog.info? 52).map (·.size) = some 5 := by kernel_rfl
theorem info_link : (Try.prog.info? 89).map (·.size) = some 7 := by kernel_rfl
theorem CIs.one {v : Value} {z : C2} (h : CIs v z) : v.oneCell' = true := by
  obtain ⟨r, i, rfl, _⟩ := h; rfl

section
variable {o : Oper} {a : Act} {w : World} {V : Nat → Value → Prop} {C : World → Prop} {d : Nat}
theorem ok_build {x y : Operand} {u v : Value} {za zb : C2} (hop : o.op = .build 74 #[(0, x), (1, y)]) (hd : o.dst = some d) (hx : a.eval x = u) (hy : a.eval y = v) (hu : CIs u za) (hv : CIs v zb)
    (hV : V d (.agg #[u, v])) (hC : C w) : StepOk Try.prog o a w (fun v => ∀ d, o.dst = some d → V d v) C := by
  obtain ⟨r, i, rfl, _⟩ := hu
  obtain ⟨s, j, rfl, _⟩ := hv
  exact .inl ⟨_, w, by simp [execOp, hop, hx, hy, build_st], slot_of hd hV, hC⟩
theorem ok_store {x y : Operand} {t : TypeId} {b off : Nat} {cs : Array Value} (hop : o.op = .store t x y) (hd : o.dst = none) (hx : a.eval x = .pointer (some ⟨b, off, none⟩)) (hy : a.eval y = .agg cs)
    (hi : (Try.prog.info? t).map (·.size) = some cs.size) (h1 : cs.all (·.oneCell') = true) (ht : w.there b off cs.size) (hC : C (w.setCells b off cs.toList)) : StepOk Try.prog o a w (fun v => ∀ d, o.dst = some d → V d v) C := by
  refine .inr (.inl ⟨_, ?_, ?_, hC⟩)
  · simp [execOp, hop, hx, hy, run_storeAt_mid w b off t cs ht hi h1]
  · intro d' h; rw [hd] at h; cases h
end
end Go.Proofs.Ytnfgdhnoidpncaa
