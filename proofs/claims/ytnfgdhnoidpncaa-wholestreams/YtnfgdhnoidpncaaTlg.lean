/- lists over parts of lists. -/
import Derived.Test.YtnfgdhnoidpncaaTops0
namespace Go.Proofs.Ytnfgdhnoidpncaa
open Go.RowKit

set_option maxRecDepth 100000 in
set_option maxHeartbeats 2000000 in
theorem lists_gen (m c c' : Nat) (ad ad' : Option Addr) (X : Nat → C2) (w : World) (hm : m ≤ 8796093022208) (h : ∀ j, j < m → ∃ b o u, ad = some ⟨b, o, none⟩ ∧ w.cell? ⟨b, o + j, none⟩ = some u ∧ CIs u (X j)) (h' : ∀ j, j < m → ∃ b o u, ad' = some ⟨b, o, none⟩ ∧ w.cell? ⟨b, o + j, none⟩ = some u ∧ CIs u (X j)) :
    Calls Try.prog 15 #[.slice ad m c, .slice ad' m c'] w fun e w' => e = .returned (.bool true) ∧ Still w w' := by
  have H := hide h
  have H' := hide h'
  clear h h'
  go_enter Try.func15, Try.ntmps15
  go_wp2_with fail
  go_loopw [5] (fun i wr => ∃ k : Nat, k ≤ m ∧ i = .int .i64 k ∧ Still w wr) (fun i _ => m - (intOf i).toNat)
  case atStart => exact ⟨0, Nat.zero_le _, rfl, Still.refl _⟩
  case round =>
    obtain ⟨k, hk, rfl, hst⟩ := hrel
    by_cases hkm : k < m
    · have hkm' : (k : Int) < (m : Int) := by omega
      have hk0 : (0 : Int) ≤ (k : Int) := by omega
      obtain ⟨A, o, u, rfl, hu, hz⟩ := unhide H k hkm
      obtain ⟨A', o', u', rfl, hu', hz'⟩ := unhide H' k hkm
      obtain ⟨a, b, rfl, _⟩ := id hz
      obtain ⟨a', b', rfl, _⟩ := id hz'
      have k1 : wr.cell? ⟨A, o + k, none⟩ = some (.complex .f64 a b) := by rw [hst.cell]; exact hu
      have k2 : wr.cell? ⟨A', o' + k, none⟩ = some (.complex .f64 a' b') := by rw [hst.cell]; exact hu'
      have Ha := hide (alikeC hz hz')
      have Hs := hide hst
      clear hu hu' hz hz' hst
      go_wp2_with fail
      go_region_held3 (fun w' => w'.cell? ⟨A, o + k, none⟩ = some (.complex .f64 a b) ∧ w'.cell? ⟨A', o' + k, none⟩ = some (.complex .f64 a' b')) (go_keep)
        ((go_at_call 34; refine (unhide Ha _).mono ?_; rintro e w1 ⟨rfl, rfl⟩))
      go_wp2
      go_roundw
      case rel => exact ⟨k + 1, by omega, by go_num, (unhide Hs).trans (still_drew _)⟩
      case measure => simp [intOf]; omega
    · have : k = m := by omega
      subst this
      go_wp2
      go_ret
      exact ⟨rfl, hst⟩
end Go.Proofs.Ytnfgdhnoidpncaa
