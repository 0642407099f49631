/- The statement's stream is changed for another. -/
import Derived.Test.YtnfgdhnoidpncaaGwn
namespace Go.Proofs.Ytnfgdhnoidpncaa
open Go.RowKit

theorem SInv.swap {K : SK} {W wr w' : World} {O0 O O' N : Nat → Prop} {n B B' t s : Nat} {g : Gu} {sec : Nat → Sec} {X : Nat → C2} {Ds : List Nat} {v : Value} {ps : List Value} (h : SInv K W wr O0 n B g sec X Ds t s O v ps) (hb : But N wr w') (hN : ∀ k, N k → O k)
    (hA : K.At w' O' B' n gG sec g (wStN g gG n sec rest0 X s) s (wCntN g gG n sec rest0 X s)) (hO' : ∀ k, O' k → W.heap.size < k ∧ k ∉ Ds ∧ some k ≠ v.ownBlock) : SInv K W w' O0 n B' g sec X Ds t s O' v ps := by
  obtain ⟨a1, a2, a3, a4, a5, a6, a7, a8, a9⟩ := h
  have hW := a1.size
  refine ⟨a1.trans hb (fun k hk => (a5 k (hN k hk)).1.elim .inl (fun e => .inr (by omega))), a2.keep (fun D hD => hb.block D (a2.lt hD) (fun e => (a5 D (hN D e)).2.1 hD)), a3, hA, fun k hk => ⟨.inr (hO' k hk).1, (hO' k hk).2⟩, a6, (hb.block _ a7.lt (fun e => (a5 _ (hN _ e)).1.elim (fun e => by have := a6 _ e; omega) (fun e => by omega))).trans a7, ownsRow_same a8 (fun j hj => hb.block j (a8.lt j hj).2 (fun e => (a5 j (hN j e)).2.2 hj.symm)), a9⟩
/-- New blocks are none of what the loop keeps. -/
theorem SInv.news {K : SK} {W wr : World} {O0 O : Nat → Prop} {n B t s : Nat} {g : Gu} {sec : Nat → Sec} {X : Nat → C2} {Ds : List Nat} {v : Value} {ps : List Value} (h : SInv K W wr O0 n B g sec X Ds t s O v ps) (k : Nat) (hk : wr.heap.size ≤ k) : W.heap.size < k ∧ k ∉ Ds ∧ some k ≠ v.ownBlock := by
  have hbx := h.box.lt
  exact ⟨by omega, fun hD => by have := h.marks.lt hD; omega, fun hv => by have := (h.own.lt k hv.symm).2; omega⟩
theorem push_law2 {K : SK} {W wr : World} {O0 O : Nat → Prop} {n B t s q : Nat} {g : Gu} {sec : Nat → Sec} {X : Nat → C2} {Ds : List Nat} {v lv : Value} {ps : List Value} (h : SInv K W wr O0 n B g sec X Ds t s O v ps)
    (hl : ListIs wr lv q (fun j => X (s + j))) (hoff : ∀ b, O b → Off lv q b) (hn : n ≤ 16) (hq : q ≤ 300) (hs : s ≤ 300) :
    Calls Try.prog 11 #[.pointer (some ⟨B, 0, none⟩), lv] wr fun e w' => ∃ A O', e = .returned (.slice (some ⟨A, 0, none⟩) q q) ∧ wr.heap.size ≤ A ∧ A < w'.heap.size ∧ ¬ O' A ∧
      (∀ j, j < q → ∃ u, w'.cell? ⟨A, j, none⟩ = some u ∧ CIs u (wAnsN g gG n sec rest0 X (s + j))) ∧ SInv K W w' O0 n B g sec X Ds t (s + q) O' v ps ∧ But O wr w' ∧ ∀ k, O' k → O k ∨ wr.heap.size ≤ k := by
  have hc : wCntN g gG n sec rest0 X s ≤ 1000000000000 := by
    have h1 := wCntN_le g gG n sec rest0 X s
    have h2 : 6 * n * s ≤ 6 * 16 * 300 := Nat.mul_le_mul (by omega) hs
    omega
  refine (K.push h.strm hl hoff hn hq (by omega) hc).mono ?_
  rintro e w' ⟨A, O', rfl, h1, h2, h3, h4, h5, h6, h7⟩
  replace h7 := h7.mono (O' := O) (fun k h => h.1)
  rw [← wStN_add, ← wCntN_add] at h5
  exact ⟨A, O', rfl, h1, h2, h3, fun j hj => by obtain ⟨u, hu1, hu2⟩ := h4 j hj; exact ⟨u, hu1, by rw [wAnsN_add]; exact hu2⟩, h.push h7 h5 h6, h7, h6⟩
theorem SInv.other2 {K : SK} {W wr w' : World} {O0 O N : Nat → Prop} {n B t s : Nat} {g : Gu} {sec : Nat → Sec} {X : Nat → C2} {Ds : List Nat} {v : Value} {ps : List Value} (h : SInv K W wr O0 n B g sec X Ds t s O v ps) (hb : But N wr w')
    (hN : ∀ k, N k → (O0 k ∨ W.heap.size < k) ∧ ¬ O k ∧ k ∉ Ds ∧ some k ≠ v.ownBlock) : SInv K W w' O0 n B g sec X Ds t s O v ps := by
  obtain ⟨a1, a2, a3, a4, a5, a6, a7, a8, a9⟩ := h
  refine ⟨a1.trans hb (fun k hk => (hN k hk).1.elim .inl (fun e => .inr (Nat.le_of_lt e))), a2.keep (fun D hD => hb.block D (a2.lt hD) (fun e => (hN D e).2.2.1 hD)), a3, K.keep a4 (fun k hk => hb.block k ((K.lt a4).1 k hk) (fun e => (hN k e).2.1 hk)) hb.size, a5, a6, (hb.block _ a7.lt (fun e => (hN _ e).1.elim (fun e => by have := a6 _ e; omega) (fun e => by omega))).trans a7, ownsRow_same a8 (fun j hj => hb.block j (a8.lt j hj).2 (fun e => (hN j e).2.2.2 hj.symm)), a9⟩
end Go.Proofs.Ytnfgdhnoidpncaa
