/- States that are alike. -/
import Derived.Test.YteoglcelgcjpoaaTops
import Derived.BigQuiet
import Derived.Deep.QuietTactic
namespace Go.Proofs.Yteoglcelgcjpoaa
open Go.RowKit

theorem still_drewN (w : World) (n : Nat) : Still w (w.drewN n) := fun _ => ⟨rfl, rfl, rfl, Nat.le_refl _, fun _ _ => rfl⟩

set_option maxRecDepth 100000 in
set_option maxHeartbeats 2000000 in
theorem states_any (A A' n c c' : Nat) (st : Nat → C2 × C2) (w : World) (hn : n ≤ 16) (h : StRow w A n st) (h' : StRow w A' n st) :
    Calls Try.prog 17 #[.slice (some ⟨A, 0, none⟩) n c, .slice (some ⟨A', 0, none⟩) n c'] w fun e w' => e = .returned (.bool true) ∧ Still w w' := by
  have H := hide h
  have H' := hide h'
  clear h h'
  go_enter Try.func17, Try.ntmps17
  go_wp2_with fail
  go_loopw [5] (fun i wr => ∃ k : Nat, k ≤ n ∧ i = .int .i64 k ∧ Still w wr) (fun i _ => n - (intOf i).toNat)
  case atStart => exact ⟨0, Nat.zero_le _, rfl, Still.refl _⟩
  case round =>
    obtain ⟨k, hk, rfl, hst⟩ := hrel
    by_cases hkm : k < n
    · have hkm' : (k : Int) < (n : Int) := by omega
      have hk0 : (0 : Int) ≤ (k : Int) := by omega
      obtain ⟨p, q, hr, hp, hq⟩ := unhide H k hkm
      obtain ⟨p', q', hr', hp', hq'⟩ := unhide H' k hkm
      obtain ⟨a, b, rfl, _⟩ := id hp
      obtain ⟨a', b', rfl, _⟩ := id hp'
      obtain ⟨d, e, rfl, _⟩ := id hq
      obtain ⟨d', e', rfl, _⟩ := id hq'
      have k1 : wr.cell? ⟨A, k * 2, none⟩ = some (.complex .f64 a b) := by rw [hst.cell]; exact hr 0 _ rfl
      have k2 : wr.cell? ⟨A', k * 2, none⟩ = some (.complex .f64 a' b') := by rw [hst.cell]; exact hr' 0 _ rfl
      have k3 : wr.cell? ⟨A, k * 2 + 1, none⟩ = some (.complex .f64 d e) := by rw [hst.cell]; exact hr 1 _ rfl
      have k4 : wr.cell? ⟨A', k * 2 + 1, none⟩ = some (.complex .f64 d' e') := by rw [hst.cell]; exact hr' 1 _ rfl
      have Ha := hide (alikeC hp hp')
      have Hb := hide (alikeC hq hq')
      have Hs := hide hst
      clear hr hr' hp hp' hq hq' hst
      go_wp2_with fail
      go_quiet (first | (go_at_call_of 25 (Value.complex FloatKind.f64 a b); exact Calls.quiet_of_same (unhide Ha _)) | (go_at_call_of 25 (Value.complex FloatKind.f64 d e); exact Calls.quiet_of_same (unhide Hb _)))
      go_wp2
      go_roundw
      case rel => exact ⟨k + 1, by omega, by go_num, (unhide Hs).trans (still_drewN _ _)⟩
      case measure => simp [intOf]; omega
    · have : k = n := by omega
      subst this
      go_wp2
      go_ret
      exact ⟨rfl, hst⟩
end Go.Proofs.Yteoglcelgcjpoaa
