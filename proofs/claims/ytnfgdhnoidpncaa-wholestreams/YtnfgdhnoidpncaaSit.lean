/- A stream's sequence: what the function that is ranged over does. -/
import Derived.Test.YtnfgdhnoidpncaaSat
import Derived.OwnWalkIn
import Derived.TacticsInMore
import Derived.LoopNIn
import Derived.LoopIn
namespace Go.Proofs.Ytnfgdhnoidpncaa
open Go.RowKit
attribute [local go_sem] Oper.semAt_some

set_option maxRecDepth 100000 in
set_option maxHeartbeats 2000000 in
theorem siter_any {w : World} {gf : Nat} {lb : Array Value} {C O : Nat → Prop} {B A n cA gr gi : Nat} {sv : Value} {G : C2} {sec : Nat → Sec} {g : Gu} {st : Nat → C2 × C2} {t c m : Nat} {X : Nat → C2} (hS : SeqAt w gf lb C B m X) (hA : SA w O B A n cA gr gi sv G sec g st t c)
    (hC : ∀ k, C k → ¬ O k ∧ k < w.heap.size) (hn : n ≤ 16) (hm : m ≤ 300) (ht : t ≤ 1000000000) (hc : c ≤ 1000000000000) (l : Nat) (P : Nat → World → Prop) (hP : ∀ j W W', P j W → But (fun k => k = B ∨ k = A) W W' → P j W') (h0 : P 0 w)
    (hround : ∀ j r i W, j < m → CIs (.complex .f64 r i) (wAnsN g G n sec st X j) → P j W → SA W O B A n cA gr gi sv G sec g (wStN g G n sec st X (j + 1)) (t + (j + 1)) (c + wCntN g G n sec st X (j + 1)) → (∀ k, C k → k < W.heap.size) →
      YieldAt Fence.wide 0 Try.prog l #[.int .i64 j, .complex .f64 r i] W fun e W' => e = .returned (.bool true) ∧ P (j + 1) W' ∧ (∀ k, O k ∨ C k → W'.heap[k]? = W.heap[k]?) ∧ W.heap.size ≤ W'.heap.size) :
    Calls Try.prog gf (#[.func (.yield l) #[] #[]] ++ lb) w fun e W' => (∃ v, e = .returned v) ∧ P m W' ∧ SA W' O B A n cA gr gi sv G sec g (wStN g G n sec st X m) (t + m) (c + wCntN g G n sec st X m) := by
  obtain ⟨rfl, b1, b2, v, rfl, c1, c2, h1, h2, h3, h4⟩ := id hS
  obtain ⟨ad, cap, rfl, _⟩ := id h3
  have HA := hide hA
  have HS := hide hS
  have HL := hide h3
  clear hA hS h3 h4
  refine (callsIn_wide (n := 0)).1 (callsIn_of_wp Try.func44 rfl trivial ?_)
  simp only [Try.ntmps44, List.size_toArray, List.length_cons, List.length_nil, Nat.reduceAdd, Nat.reduceSub, Array.replicate_succ, Array.replicate_zero, List.push_toArray, List.append_toArray, List.nil_append, List.cons_append]
  gi_wp2
  gi_loopw [8] (fun i wr => ∃ j : Nat, j ≤ m ∧ i = .int .i64 j ∧ P j wr ∧ SA wr O B A n cA gr gi sv G sec g (wStN g G n sec st X j) (t + j) (c + wCntN g G n sec st X j) ∧ SeqAt wr 44 #[.pointer (some ⟨b1, 0, none⟩), .pointer (some ⟨b2, 0, none⟩)] C B m X ∧ ListIs wr (.slice ad m cap) m X ∧ wr.cell? ⟨b2, 0, none⟩ = some (.pointer (some ⟨B, 0, none⟩)) ∧ (∀ k, C k → wr.heap[k]? = w.heap[k]?) ∧ w.heap.size ≤ wr.heap.size)
    (fun i _ => m - (intOf i).toNat)
  case atStart => exact ⟨0, Nat.zero_le _, rfl, h0, unhide HA, unhide HS, unhide HL, h2, fun _ _ => rfl, Nat.le_refl _⟩
  case round =>
    obtain ⟨j, hj, rfl, hp, hA, hS, hL, hb2, hk, hsz⟩ := hrel
    have hCr : ∀ k, C k → ¬ O k ∧ k < wr.heap.size := fun k e => ⟨(hC k e).1, Nat.lt_of_lt_of_le (hC k e).2 hsz⟩
    by_cases hjm : j < m
    · have hjm' : (j : Int) < (m : Int) := by omega
      obtain ⟨ad2, cap2, e2, hl⟩ := id hL
      obtain ⟨b, off, u, hads, hb, hcell, hu⟩ := hl j hjm
      obtain ⟨rfl, rfl⟩ : ad = ad2 ∧ cap = cap2 := by simpa using e2
      subst hads
      obtain ⟨x, x', rfl, _⟩ := id hu
      have HSt := hide (hA.step hu hn (by omega) (by have := wCntN_le96 g G n sec st X hn (j := j) (by omega); omega))
      have HH := hide (And.intro hp (And.intro hA (And.intro hS (And.intro hL (And.intro hk hsz)))))
      clear hp hA hS hL hk hl e2 hu
      gi_wp2_with fail
      refine ⟨trivial, rfl, (callsIn_wide (n := 0)).2 ((unhide HSt).mono ?_)⟩
      rintro e W2 ⟨r, i, rfl, hr, hA2, hbt⟩
      obtain ⟨hp, hA, hS, hL, hk, hsz⟩ := unhide HH
      have hCBA : ∀ k, C k → ¬ (k = B ∨ k = A) := fun k e h => (hCr k e).1 (by rcases h with rfl | rfl; exact hA.oB; exact hA.oA)
      have hk2 : ∀ k, C k → W2.heap[k]? = wr.heap[k]? := fun k e => hbt.block k (hCr k e).2 (hCBA k e)
      have hst : wUp g sec (wStN g G n sec st X j) (cmul G (X j)) n = wStN g G n sec st X (j + 1) := rfl
      have hct : c + wCntN g G n sec st X j + wCnt g sec (wStN g G n sec st X j) (cmul G (X j)) n = c + wCntN g G n sec st X (j + 1) := by rw [wCntN]; omega
      rw [hst, hct, Nat.add_assoc] at hA2
      obtain ⟨fn, tmps, assign, body, hy, hR⟩ := hround j r i W2 hjm hr (hP j wr W2 hp hbt) hA2 (fun k e => Nat.lt_of_lt_of_le (hCr k e).2 hbt.size)
      have HH2 := hide (And.intro hA2 (And.intro (hS.keep hk2) (And.intro (hL) (And.intro hk2 (And.intro hk (And.intro hbt.size hsz))))))
      have HR := hide hR
      clear hp hA hS hL hk hk2 hA2 hst hct hbt hr hR HSt HH hround hP
      gi_wp2
      refine ⟨rfl, (unhide HR).mono ?_⟩
      rintro e W3 ⟨rfl, hp3, hk3, hs3⟩
      have Hp3 := hide (And.intro hp3 (And.intro hk3 hs3))
      clear hp3 hk3 hs3 hy
      gi_wp2
      go_roundw
      case rel =>
        obtain ⟨hA2, hS2, hL, hk2, hk, h23, hsz⟩ := unhide HH2
        obtain ⟨hp3, hk3, hs3⟩ := unhide Hp3
        have hkC : ∀ k, C k → W3.heap[k]? = wr.heap[k]? := fun k e => (hk3 k (.inr e)).trans (hk2 k e)
        refine ⟨j + 1, by omega, by go_num, hp3, hA2.keep (fun k e => hk3 k (.inl e)) hs3, hS2.keep (fun k e => hk3 k (.inr e)), ?_, ?_, fun k e => (hkC k e).trans (hk k e), by omega⟩
        · obtain ⟨_, b1', b2', v', e1, d1, d2, d3, d4, d5, d6⟩ := hS2.keep (fun k e => hk3 k (.inr e))
          have hb : b1 = b1' := by injection e1 with e1; injection e1 with e1 _; injection e1 with e1; injection e1 with e1; injection e1
          subst hb
          rw [World.cell?_of_block (w := w) ((hkC b1 c1).trans (hk b1 c1)), h1] at d3
          obtain rfl := Option.some.inj d3
          exact d5
        · rw [World.cell?_of_block (w := w) ((hkC b2 c2).trans (hk b2 c2))]; exact h2
      case measure => simp [intOf]; omega
    · have : j = m := by omega
      subst this
      have HH := hide (And.intro hp hA)
      clear hp hA hS hL hk
      gi_wp2
      go_end0
      exact ⟨⟨_, rfl⟩, unhide HH⟩
end Go.Proofs.Ytnfgdhnoidpncaa
