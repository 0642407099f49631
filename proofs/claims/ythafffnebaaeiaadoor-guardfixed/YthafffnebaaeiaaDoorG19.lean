/- The statement's own cleaning and comparisons, for layer 19. -/
import Derived.Test.YthafffnebaaeiaaDoorGw
namespace Go.Proofs.YthafffnebaaeiaaDoor
open Go.RowKit

theorem lf_both {a b : Nat} (h : lf a = lf b) (hne : a ≠ b) : isnan a = true ∧ isnan b = true := by
  unfold lf at h
  cases h1 : isnan a <;> cases h2 : isnan b <;> simp [h1, h2] at h ⊢
  exact hne h
set_option maxRecDepth 100000 in
set_option maxHeartbeats 1000000 in
theorem rsame_yes (a b : Nat) (ha : a < 18446744073709551616) (hb : b < 18446744073709551616) (h : lf a = lf b) (w : World) :
    Calls Tryd.prog 24 #[.float .f64 a, .float .f64 b] w fun e w' => e = .returned (.bool true) ∧ w' = w := by
  have hx := run_bits
  cases h1 : ((a : Int) == (b : Int))
  · obtain ⟨n1, n2⟩ := lf_both h (by intro e; subst e; simp at h1)
    have h2 : (FloatKind.f64.format.order a a != some .eq) = true := by rw [neq_self a ha]; exact n1
    have h3 : (FloatKind.f64.format.order b b != some .eq) = true := by rw [neq_self b hb]; exact n2
    clear h n1 n2 ha hb
    go_enter Tryd.func24, Tryd.ntmps24
    go_wp2
    go_ret
    exact ⟨rfl, rfl⟩
  · clear h ha hb
    go_enter Tryd.func24, Tryd.ntmps24
    go_wp2
    go_ret
    exact ⟨rfl, rfl⟩
set_option maxRecDepth 100000 in
set_option maxHeartbeats 1000000 in
theorem rSameC {u v : Value} {z : C2} (hu : CIs u z) (hv : CIs v z) (w : World) :
    Calls Tryd.prog 9 #[u, v] w fun e w' => e = .returned (.bool true) ∧ w' = w := by
  obtain ⟨a, b, rfl, ha, hb, h1, h2⟩ := hu
  obtain ⟨c, d, rfl, hc, hd, h3, h4⟩ := hv
  have H1 := hide (rsame_yes a c ha hc (h1.trans h3.symm))
  have H2 := hide (rsame_yes b d hb hd (h2.trans h4.symm))
  clear ha hb hc hd h1 h2 h3 h4
  go_enter Tryd.func9, Tryd.ntmps9
  go_wp2_with fail
  refine (unhide H1 _).mono ?_
  rintro e w' ⟨rfl, rfl⟩
  go_wp2_with fail
  refine (unhide H2 _).mono ?_
  rintro e w' ⟨rfl, rfl⟩
  go_wp2
  go_ret
  exact ⟨rfl, rfl⟩

set_option maxRecDepth 100000 in
set_option maxHeartbeats 2000000 in
theorem sameAll_any (A A' m c c' : Nat) (X : Nat → C2) (w : World) (hm : m ≤ 1000) (h : ∀ j, j < m → ∃ u, w.cell? ⟨A, j, none⟩ = some u ∧ CIs u (X j)) (h' : ∀ j, j < m → ∃ u, w.cell? ⟨A', j, none⟩ = some u ∧ CIs u (X j)) :
    Calls Tryd.prog 14 #[.slice (some ⟨A, 0, none⟩) m c, .slice (some ⟨A', 0, none⟩) m c'] w fun e w' => e = .returned (.bool true) ∧ Still w w' := by
  have H := hide h
  have H' := hide h'
  clear h h'
  go_enter Tryd.func14, Tryd.ntmps14
  go_wp2_with fail
  go_loopw [13] (fun i wr => ∃ k : Nat, k ≤ m ∧ i = .int .i64 k ∧ Still w wr) (fun i _ => m - (intOf i).toNat)
  case atStart => exact ⟨0, Nat.zero_le _, rfl, Still.refl _⟩
  case round =>
    obtain ⟨k, hk, rfl, hst⟩ := hrel
    by_cases hkm : k < m
    · have hkm' : (k : Int) < (m : Int) := by omega
      have hk0 : (0 : Int) ≤ (k : Int) := by omega
      obtain ⟨u, hu, hz⟩ := unhide H k hkm
      obtain ⟨u', hu', hz'⟩ := unhide H' k hkm
      obtain ⟨a, b, rfl, _⟩ := id hz
      obtain ⟨a', b', rfl, _⟩ := id hz'
      have k1 : wr.cell? ⟨A, k, none⟩ = some (.complex .f64 a b) := by rw [hst.cell]; exact hu
      have k2 : wr.cell? ⟨A', k, none⟩ = some (.complex .f64 a' b') := by rw [hst.cell]; exact hu'
      have Ha := hide (rSameC hz hz')
      have Hs := hide hst
      clear hu hu' hz hz' hst
      go_wp2_with fail
      go_region_held3 (fun w' => w'.cell? ⟨A, k, none⟩ = some (.complex .f64 a b) ∧ w'.cell? ⟨A', k, none⟩ = some (.complex .f64 a' b')) (go_keep)
        ((go_at_call 9; refine (unhide Ha _).mono ?_; rintro e w1 ⟨rfl, rfl⟩))
      go_wp2
      go_roundw
      case rel => exact ⟨k + 1, by omega, by go_num, (unhide Hs).trans (still_drew _)⟩
      case measure => simp [intOf]; omega
    · have : k = m := by omega
      subst this
      go_wp2
      go_ret
      exact ⟨rfl, hst⟩
end Go.Proofs.YthafffnebaaeiaaDoor
