/- Whether all numbers of a filter are finite: what package numbers' Finite and Coefficients and package cascade's finite answer where they are. -/
import Derived.Test.YthafffnebaaeiaaDoorCrun
import Derived.Deep.Light
namespace Go.Proofs.YthafffnebaaeiaaDoor
open Go.RowKit

/-- A finite number. -/
def FinV (u : Value) : Prop := ∃ r i, u = .complex .f64 r i ∧ r < 18446744073709551616 ∧ i < 18446744073709551616 ∧ max (cls r) (cls i) < 3

set_option maxRecDepth 100000 in
set_option maxHeartbeats 1000000 in
theorem nfinite_any (A off m c : Nat) (hm : m ≤ 1000000) (w : World) (h : ∀ j, j < m → ∃ u, w.cell? ⟨A, off + j, none⟩ = some u ∧ FinV u) :
    Calls Tryd.prog 40 #[.slice (some ⟨A, off, none⟩) m c] w fun e w' => e = .returned (.bool true) ∧ w' = w := by
  have H := hide h
  clear h
  go_enter Tryd.func40, Tryd.ntmps40
  go_wp2_with fail
  go_loopw [7] (fun i wr => ∃ k : Nat, k ≤ m ∧ i = .int .i64 k ∧ wr = w) (fun i _ => m - (intOf i).toNat)
  case atStart => exact ⟨0, Nat.zero_le _, rfl, rfl⟩
  case round =>
    obtain ⟨k, hk, rfl, rfl⟩ := hrel
    by_cases hkm : k < m
    · have hkm' : (k : Int) < (m : Int) := by omega
      obtain ⟨u, hu, r, i, rfl, hr, hi, hf⟩ := unhide H k hkm
      have Hf := hide (finite_yes r i hr hi hf)
      clear hr hi hf
      go_wp2_with fail
      refine (unhide Hf _).mono ?_
      rintro e w' ⟨rfl, rfl⟩
      go_wp2
      go_roundw
      case rel => exact ⟨k + 1, by omega, by go_num, trivial⟩
      case measure => simp [intOf]; omega
    · have : k = m := by omega
      subst this
      go_wp2
      go_ret
      exact ⟨rfl, rfl⟩

set_option maxRecDepth 100000 in
set_option maxHeartbeats 1000000 in
theorem coeff_any (b0 b0' b1 b1' b2 b2' a1 a1' a2 a2' : Nat) (w : World) :
    Calls Tryd.prog 41 #[.agg #[.complex .f64 b0 b0', .complex .f64 b1 b1', .complex .f64 b2 b2', .complex .f64 a1 a1', .complex .f64 a2 a2']] w
      fun e w' => ∃ A, e = .returned (.slice (some ⟨A, 0, none⟩) 5 5) ∧ w'.rangeAt A 0 [.complex .f64 b0 b0', .complex .f64 b1 b1', .complex .f64 b2 b2', .complex .f64 a1 a1', .complex .f64 a2 a2'] ∧ Below w.heap.size w w' := by
  go_enter Tryd.func41, Tryd.ntmps41
  go_wp2
  go_ret
  refine ⟨w.heap.size + 1, rfl, ?_, ?_⟩
  · intro j v hv
    have hj : j < 5 := (List.getElem?_eq_some_iff.1 hv).1
    rcases (by omega : j = 0 ∨ j = 1 ∨ j = 2 ∨ j = 3 ∨ j = 4) with rfl | rfl | rfl | rfl | rfl <;> (obtain rfl := Option.some.inj hv; go_simp)
  · exact ((Below.refl _ _).alloc (Nat.le_refl _) _).alloc (by simp) _

/-- The value is a list of n sections of finite numbers. -/
def SecsIs (w : World) (v : Value) (n : Nat) (sec : Nat → Sec) : Prop :=
  ∃ ad c, v = .slice ad n c ∧ ∀ i, i < n → ∃ b u0 u1 u2 u3 u4, ad = some ⟨b, 0, none⟩ ∧ b < w.heap.size ∧ w.rangeAt b (i * 5) [u0, u1, u2, u3, u4] ∧
    FinV u0 ∧ FinV u1 ∧ FinV u2 ∧ FinV u3 ∧ FinV u4 ∧ CIs u0 (sec i).b0 ∧ CIs u1 (sec i).b1 ∧ CIs u2 (sec i).b2 ∧ CIs u3 (sec i).a1 ∧ CIs u4 (sec i).a2

set_option maxRecDepth 100000 in
set_option maxHeartbeats 1000000 in
theorem cfinite_any (g g' n : Nat) (v : Value) (sec : Nat → Sec) (w : World) (hg : FinV (.complex .f64 g g')) (hv : SecsIs w v n sec) (hn : n ≤ 16) :
    Calls Tryd.prog 35 #[.agg #[.complex .f64 g g', v]] w fun e w' => e = .returned (.bool true) ∧ Below w.heap.size w w' := by
  obtain ⟨ad, c, rfl, hs⟩ := hv
  have H := hide hs
  have Hg := hide hg
  clear hs hg
  go_enter Tryd.func35, Tryd.ntmps35
  go_wp2_with fail
  obtain ⟨W, hW⟩ : ∃ W, W = w.alloc (Obj.cells #[.complex .f64 g g', .slice ad n c] 40) := ⟨_, rfl⟩
  rw [← hW]
  have hbw : Below w.heap.size w W := by rw [hW]; exact (Below.refl _ _).alloc (Nat.le_refl _) _
  have hsz : W.heap.size = w.heap.size + 1 := by rw [hW]; simp
  have hcw : W.cell? ⟨w.heap.size, 0, none⟩ = some (.complex .f64 g g') := by rw [hW]; go_simp
  clear hW
  go_loopw [8] (fun i wr => ∃ k : Nat, k ≤ n ∧ i = .int .i64 k ∧ Below (w.heap.size + 1) W wr) (fun i _ => n - (intOf i).toNat)
  case atStart => exact ⟨0, Nat.zero_le _, rfl, Below.refl _ _⟩
  case round =>
    obtain ⟨k, hk, rfl, hbl⟩ := hrel
    by_cases hkn : k < n
    · have hkn' : (k : Int) < (n : Int) := by omega
      obtain ⟨b, v0, v1, v2, v3, v4, rfl, hb, hra, f0, f1, f2, f3, f4, _⟩ := unhide H k hkn
      obtain ⟨b0, b0', rfl, _⟩ := id f0
      obtain ⟨b1, b1', rfl, _⟩ := id f1
      obtain ⟨b2, b2', rfl, _⟩ := id f2
      obtain ⟨a1, a1', rfl, _⟩ := id f3
      obtain ⟨a2, a2', rfl, _⟩ := id f4
      have hc : ∀ j x, [Value.complex .f64 b0 b0', .complex .f64 b1 b1', .complex .f64 b2 b2', .complex .f64 a1 a1', .complex .f64 a2 a2'][j]? = some x → wr.cell? ⟨b, k * 5 + j, none⟩ = some x := fun j x hx => by
        have h1 := hra j x hx
        rw [hbl.cell (by show b < _; omega), hbw.cell (by exact hb)]
        exact h1
      have l0 : wr.cell? ⟨b, k * 5, none⟩ = some (.complex .f64 b0 b0') := hc 0 _ rfl
      have l1 : wr.cell? ⟨b, k * 5 + 1, none⟩ = some (.complex .f64 b1 b1') := hc 1 _ rfl
      have l2 : wr.cell? ⟨b, k * 5 + 2, none⟩ = some (.complex .f64 b2 b2') := hc 2 _ rfl
      have l3 : wr.cell? ⟨b, k * 5 + 3, none⟩ = some (.complex .f64 a1 a1') := hc 3 _ rfl
      have l4 : wr.cell? ⟨b, k * 5 + 4, none⟩ = some (.complex .f64 a2 a2') := hc 4 _ rfl
      have Hc := hide (coeff_any b0 b0' b1 b1' b2 b2' a1 a1' a2 a2')
      have Hf := hide (And.intro f0 (And.intro f1 (And.intro f2 (And.intro f3 f4))))
      have Hb := hide hbl
      have hws : w.heap.size + 1 ≤ wr.heap.size := by have := hbl.size; omega
      clear hra hc f0 f1 f2 f3 f4 hbl
      have hsc := run_store_c
      go_wp2_with fail
      refine (unhide Hc _).mono ?_
      rintro e w2 ⟨A, rfl, hr2, hb2⟩
      have hfin : ∀ w3, w3 = w2 → ∀ A, w2.rangeAt A 0 [.complex .f64 b0 b0', .complex .f64 b1 b1', .complex .f64 b2 b2', .complex .f64 a1 a1', .complex .f64 a2 a2'] → Calls Tryd.prog 40 #[.slice (some ⟨A, 0, none⟩) 5 5] w3 fun e w' => e = .returned (.bool true) ∧ w' = w3 := by
        intro w3 hw3 A hA
        subst hw3
        refine nfinite_any A 0 5 5 (by omega) w3 ?_
        intro j hj
        obtain ⟨f0, f1, f2, f3, f4⟩ := unhide Hf
        rcases (by omega : j = 0 ∨ j = 1 ∨ j = 2 ∨ j = 3 ∨ j = 4) with rfl | rfl | rfl | rfl | rfl
        · exact ⟨_, hA 0 _ rfl, f0⟩
        · exact ⟨_, hA 1 _ rfl, f1⟩
        · exact ⟨_, hA 2 _ rfl, f2⟩
        · exact ⟨_, hA 3 _ rfl, f3⟩
        · exact ⟨_, hA 4 _ rfl, f4⟩
      have Hn := hide (hfin w2 rfl A hr2)
      have hb3 : Below (w.heap.size + 1) wr w2 := by
        refine Below.trans ?_ (hb2.mono ?_)
        · exact (Below.refl _ wr).alloc hws _
        · simp; omega
      have Hbb := hide ((unhide Hb).trans hb3)
      clear hb3
      clear hfin hr2 hb2
      go_wp2_with fail
      refine (unhide Hn).mono ?_
      rintro e w3 ⟨rfl, rfl⟩
      go_wp2
      go_roundw
      case rel =>
        exact ⟨k + 1, by omega, by go_num, unhide Hbb⟩
      case measure => simp [intOf]; omega
    · have : k = n := by omega
      subst this
      have hcr : wr.cell? ⟨w.heap.size, 0, none⟩ = some (.complex .f64 g g') := by rw [hbl.cell (by simp)]; exact hcw
      have Hb := hide hbl
      have hws : w.heap.size + 1 ≤ wr.heap.size := by have := hbl.size; omega
      clear hbl
      go_wp2_with fail
      refine (nfinite_any wr.heap.size 0 1 1 (by omega) _ ?_).mono ?_
      · intro j hj
        obtain rfl : j = 0 := by omega
        exact ⟨_, by go_simp, unhide Hg⟩
      rintro e w3 ⟨rfl, rfl⟩
      go_wp2
      go_ret
      exact ⟨rfl, hbw.trans (((unhide Hb).mono (by omega)).trans ((Below.refl _ wr).alloc (by omega) _))⟩
end Go.Proofs.YthafffnebaaeiaaDoor
