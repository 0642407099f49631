/- The sum of a step of WholeFixed's section, as its own loop spells it. -/
import Derived.Test.YtkadojmfcnleoaaQy
namespace Go.Proofs.Ytkadojmfcnleoaa
open Go.RowKit

/-- How great the coefficients are. -/
structure FxB (f : Fx) : Prop where
  bits : f.bits = 8
  b0 : -510 ≤ f.b0 ∧ f.b0 ≤ 510
  b1 : -510 ≤ f.b1 ∧ f.b1 ≤ 510
  b2 : -510 ≤ f.b2 ∧ f.b2 ≤ 510
  a1 : -510 ≤ f.a1 ∧ f.a1 ≤ 510
  a2 : -510 ≤ f.a2 ∧ f.a2 ≤ 510
theorem FxB.of {b c d : Int} (hb : 0 ≤ b ∧ b ≤ 255) (hc : 0 ≤ c ∧ c ≤ 255) (hd : 0 ≤ d ∧ d ≤ 255) : FxB ⟨8, b - 128, c - 128, d, c * 2, b⟩ := by
  constructor <;> simp only <;> omega
theorem FxB.fits {f : Fx} (h : FxB f) : f.fits := by unfold Fx.fits; rw [h.bits]; omega

theorem prod_b {a b : Int} (ha : -510 ≤ a ∧ a ≤ 510) (hb : i32 b) : -1095216660480 ≤ a * b ∧ a * b ≤ 1095216660480 := by
  unfold i32 at hb
  have h1 : a.natAbs ≤ 510 := by omega
  have h2 : b.natAbs ≤ 2147483648 := by omega
  have h3 := Nat.mul_le_mul h1 h2
  rw [← Int.natAbs_mul] at h3
  omega

theorem zSt_low : zSt.low := by refine ⟨?_, ?_, ?_, ?_⟩ <;> (show i32 0; unfold i32; omega)
theorem sN_low (f : Fx) (X : Nat → Int) (i : Nat) : (sN f zSt X i).low := by
  cases i with
  | zero => exact zSt_low
  | succ i => exact nxt_low _ _ _

/-- The five products. -/
structure Five (f : Fx) (s : St) (x S : Int) : Prop where
  eq : S = f.b0 * x + f.b1 * s.x1 + f.b2 * s.x2 - f.a1 * s.y1 - f.a2 * s.y2
  spelt : wrap64 (wrap64 (wrap64 (wrap64 (wrap64 (f.b0 * x) + wrap64 (f.b1 * s.x1)) + wrap64 (f.b2 * s.x2)) - wrap64 (f.a1 * s.y1)) - wrap64 (f.a2 * s.y2)) = S
  bound : -5476083302400 ≤ S ∧ S ≤ 5476083302400
theorem five {f : Fx} (h : FxB f) {s : St} (hs : s.low) {x : Int} (hx : i32 x) : Five f s x (tot f s x) := by
  have e : tot f s x = f.b0 * x + f.b1 * s.x1 + f.b2 * s.x2 - f.a1 * s.y1 - f.a2 * s.y2 := by
    unfold tot
    obtain ⟨h1, h2, h3, h4⟩ := hs
    have q : ∀ {a : Int}, -510 ≤ a ∧ a ≤ 510 → i32 a := fun g => by unfold i32; omega
    rw [kp_same _ h1, kp_same _ h2, kp_same _ h3, kp_same _ h4, kp_same _ hx, kp_same _ (q h.b0), kp_same _ (q h.b1), kp_same _ (q h.b2), kp_same _ (q h.a1), kp_same _ (q h.a2)]
  have p1 := prod_b h.b0 hx
  have p2 := prod_b h.b1 hs.1
  have p3 := prod_b h.b2 hs.2.1
  have p4 := prod_b h.a1 hs.2.2.1
  have p5 := prod_b h.a2 hs.2.2.2
  generalize tot f s x = S at *
  refine ⟨e, ?_, ?_⟩
  all_goals
    rw [e]
    generalize f.b0 * x = A at *
    generalize f.b1 * s.x1 = B at *
    generalize f.b2 * s.x2 = C at *
    generalize f.a1 * s.y1 = D at *
    generalize f.a2 * s.y2 = E at *
  · unfold wrap64; omega
  · omega

theorem ans8 {f : Fx} (h : FxB f) (s : St) (x : Int) : ans f s x = kp (rnd (tot f s x) 8) := by
  unfold ans ansRaw
  rw [if_pos h.fits, h.bits]
  rfl
theorem rnd8_up {S : Int} (h : 128 < S % 256 ∨ (S % 256 = 128 ∧ S / 256 % 2 = 1)) : rnd S 8 = S / 256 + 1 := by
  unfold rnd
  rw [show (2 : Int) ^ 8 = 256 by decide, if_pos (by omega)]
theorem rnd8_stay {S : Int} (h : S % 256 < 128 ∨ (S % 256 = 128 ∧ S / 256 % 2 = 0)) : rnd S 8 = S / 256 := by
  unfold rnd
  rw [show (2 : Int) ^ 8 = 256 by decide, if_neg (by omega)]
theorem nxt8 {f : Fx} (h : FxB f) {s : St} (hs : s.low) {x : Int} (hx : i32 x) : nxt f s x = ⟨x, s.x1, ans f s x, s.y1⟩ := by
  unfold nxt
  rw [if_pos h.fits, kp_same _ hx, kp_same _ hs.1, kp_same _ hs.2.2.1]

/-- Is it rounded up? -/
def up8 (S : Int) : Bool := decide (128 < S % 256 ∨ (S % 256 = 128 ∧ S / 256 % 2 = 1))

section
variable {o : Oper} {a : Act} {w : World} {R : Value → World → Prop}
theorem okR_idx {x y : Operand} {b off n cap i : Nat} (hop : o.op = .indexAddr 32 x y) (hx : a.eval x = .slice (some ⟨b, off, none⟩) n cap) (hy : a.eval y = .int .i64 (i : Nat)) (hi : i < n) (h : R (.pointer (some ⟨b, off + i, none⟩)) w) : StepOkR Try.prog o a w R := by
  have h1 : (i : Int) < (n : Int) := by omega
  have h2 : (0 : Int) ≤ (i : Int) := by omega
  refine .inl ⟨_, w, ?_, h⟩
  simp [execOp, hop, hx, hy]
  go_simp
theorem okR_st4 {x y z u : Operand} {s : St} (hop : o.op = .build 35 #[(0, x), (1, y), (2, z), (3, u)]) (hx : a.eval x = .int .i64 s.x1) (hy : a.eval y = .int .i64 s.x2) (hz : a.eval z = .int .i64 s.y1) (hu : a.eval u = .int .i64 s.y2) (h : R (vS s) w) : StepOkR Try.prog o a w R := by
  refine .inl ⟨_, w, ?_, h⟩
  unfold vS
  simp [execOp, hop, hx, hy, hz, hu]
  go_simp
end
/-- The world of the region that lays the next state over the one that stood there. -/
def c35 (W : World) (N : Nat) (s : St) (listed : Array Bool) (w' : World) : Prop := w' = if listed.getD 10 false then W.drew.setCells N 0 (aS s).toList else W.drew
section
variable {W w' : World} {N : Nat} {s : St} {listed : Array Bool}
theorem c35.start {n : Nat} : c35 W N s (Array.replicate n false) W.drew := by unfold c35; rw [getD_rep]; rfl
theorem c35.same (h : c35 W N s listed w') (i : Nat) (hi : i ≠ 10) : c35 W N s (listed.setIfInBounds i true) w' := by
  unfold c35; rw [getD_set_ne false hi]; exact h
theorem c35.pre (h : c35 W N s listed w') (hu : listed.getD 10 false = false) : w' = W.drew := by
  unfold c35 at h; rw [hu] at h; exact h
theorem c35.store (h : c35 W N s listed w') (hu : listed.getD 10 false = false) (hs : 10 < listed.size) : c35 W N s (listed.setIfInBounds 10 true) (w'.setCells N 0 (aS s).toList) := by
  rw [h.pre hu]
  unfold c35
  rw [lset rfl hs]; rfl
end
def v35 (b off n cap i N : Nat) (x A : Int) (s s' : St) : Nat → Value → Prop
  | 309, v => v = .slice (some ⟨b, off, none⟩) n cap
  | 310, v => v = .int .i64 (i : Nat)
  | 311, v => v = .pointer (some ⟨b, off + i, none⟩)
  | 312, v => v = .int .i64 x
  | 313, v => v = .pointer (some ⟨N, 0, none⟩)
  | 314, v => v = .int .i64 s.x1
  | 315, v => v = .int .i64 A
  | 316, v => v = .pointer (some ⟨N, 2, none⟩)
  | 317, v => v = .int .i64 s.y1
  | 318, v => v = vS s'
  | _, _ => True
end Go.Proofs.Ytkadojmfcnleoaa
