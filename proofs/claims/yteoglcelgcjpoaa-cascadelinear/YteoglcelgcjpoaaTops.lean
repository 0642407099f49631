/- The statement's own comparisons: lists and states that are alike. -/
import Derived.Test.YteoglcelgcjpoaaCimp
namespace Go.Proofs.Yteoglcelgcjpoaa
open Go.RowKit

theorem alikeC {u v : Value} {z : C2} (hu : CIs u z) (hv : CIs v z) (w : World) : Calls Try.prog 25 #[u, v] w fun e w' => e = .returned (.bool true) ∧ w' = w := by
  obtain ⟨a, b, rfl, ha, hb, h1, h2⟩ := hu
  obtain ⟨c, d, rfl, hc, hd, h3, h4⟩ := hv
  exact alike_yes a b c d ha hb hc hd (h1.trans h3.symm) (h2.trans h4.symm) w

set_option maxRecDepth 100000 in
set_option maxHeartbeats 2000000 in
theorem lists_any (A m c c' : Nat) (ad : Option Addr) (X : Nat → C2) (w : World) (hm : m ≤ 1000000) (h : ∀ j, j < m → ∃ u, w.cell? ⟨A, j, none⟩ = some u ∧ CIs u (X j)) (h' : ∀ j, j < m → ∃ b u, ad = some ⟨b, 0, none⟩ ∧ w.cell? ⟨b, j, none⟩ = some u ∧ CIs u (X j)) :
    Calls Try.prog 16 #[.slice (some ⟨A, 0, none⟩) m c, .slice ad m c'] w fun e w' => e = .returned (.bool true) ∧ Still w w' := by
  have H := hide h
  have H' := hide h'
  clear h h'
  go_enter Try.func16, Try.ntmps16
  go_wp2_with fail
  go_loopw [5] (fun i wr => ∃ k : Nat, k ≤ m ∧ i = .int .i64 k ∧ Still w wr) (fun i _ => m - (intOf i).toNat)
  case atStart => exact ⟨0, Nat.zero_le _, rfl, Still.refl _⟩
  case round =>
    obtain ⟨k, hk, rfl, hst⟩ := hrel
    by_cases hkm : k < m
    · have hkm' : (k : Int) < (m : Int) := by omega
      have hk0 : (0 : Int) ≤ (k : Int) := by omega
      obtain ⟨u, hu, hz⟩ := unhide H k hkm
      obtain ⟨A', u', rfl, hu', hz'⟩ := unhide H' k hkm
      obtain ⟨a, b, rfl, _⟩ := id hz
      obtain ⟨a', b', rfl, _⟩ := id hz'
      have k1 : wr.cell? ⟨A, k, none⟩ = some (.complex .f64 a b) := by rw [hst.cell]; exact hu
      have k2 : wr.cell? ⟨A', k, none⟩ = some (.complex .f64 a' b') := by rw [hst.cell]; exact hu'
      have Ha := hide (alikeC hz hz')
      have Hs := hide hst
      clear hu hu' hz hz' hst
      go_wp2_with fail
      go_region_held3 (fun w' => w'.cell? ⟨A, k, none⟩ = some (.complex .f64 a b) ∧ w'.cell? ⟨A', k, none⟩ = some (.complex .f64 a' b')) (go_keep)
        ((go_at_call 25; refine (unhide Ha _).mono ?_; rintro e w1 ⟨rfl, rfl⟩))
      go_wp2
      go_roundw
      case rel => exact ⟨k + 1, by omega, by go_num, (unhide Hs).trans (still_drew _)⟩
      case measure => simp [intOf]; omega
    · have : k = m := by omega
      subst this
      go_wp2
      go_ret
      exact ⟨rfl, hst⟩

end Go.Proofs.Yteoglcelgcjpoaa
