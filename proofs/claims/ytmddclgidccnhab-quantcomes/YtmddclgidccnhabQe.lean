/- What package quant's period answers. -/
import Derived.Test.YtmddclgidccnhabQd
namespace Go.Proofs.Ytmddclgidccnhab
open Go.RowKit

/-- The states behind one another, when nothing comes in. -/
def so (f : Fx) (s : St) (k : Nat) : St := orb (fun s => nxt f s 0) s k
theorem so_succ (f : Fx) (s : St) (k : Nat) : so f s (k + 1) = nxt f (so f s k) 0 := rfl

/-- No state within 2^j steps behind number 2^j - 1 is that one. -/
def noHit (f : Fx) (s : St) (j : Nat) : Prop := ∀ c, 0 < c → c ≤ 2 ^ j → so f s (2 ^ j - 1 + c) ≠ so f s (2 ^ j - 1)
/-- What period tells. -/
def PerIs (f : Fx) (s : St) (steps : Nat) (b : Int) (found : Bool) : Prop :=
  (found = true ∧ ∃ p c : Nat, p < 2 * steps ∧ 0 < c ∧ c < 2 * steps ∧ b = c ∧ so f s (p + c) = so f s p ∧ ∀ d, 0 < d → d < c → so f s (p + d) ≠ so f s p) ∨
  (found = false ∧ b = 0 ∧ ∀ j, 2 ^ j < 2 * steps → noHit f s j)
def PerPost (f : Fx) (s : St) (n : Nat) (e : Ending) : Prop := ∃ b o, e = .returned (.tuple #[.int .i64 b, .bool o]) ∧ PerIs f s n b o

set_option maxRecDepth 100000 in
set_option maxHeartbeats 2000000 in
theorem period_any (f : Fx) (s : St) (n : Nat) (hn : n ≤ 1048576) (w : World) :
    Calls Try.prog 23 #[vF f, vS s, .int .i64 n] w fun e w' => PerPost f s n e ∧ Below w.heap.size w w' := by
  have Hs := hide (fun k => next_any f (so f s k))
  have h0 : so f s 0 = s := rfl
  have Hq := hide (QW.start w (aF f) (aS s) (aS s))
  clear h0
  unfold vF vS at *
  go_enter Try.func23, Try.ntmps23
  go_wp2_with fail
  go_loopw [9] (fun t wr => ∃ (k T : Nat), t = .int .i64 T ∧ Hid (T = 2 ^ k) ∧ T ≤ 4194304 ∧ Hid (QW w (aF f) (aS (so f s (2 ^ k - 1))) (aS (so f s (2 ^ k - 1))) wr) ∧ Hid (∀ j, j < k → noHit f s j)) (fun t _ => 2 * n - (intOf t).toNat)
  case atStart =>
    exact ⟨0, 1, rfl, rfl, by omega, Hq, fun j hj => absurd hj (Nat.not_lt_zero j)⟩
  case round =>
    obtain ⟨k, T, rfl, hT, hTn, hQ, hno⟩ := hrel
    clear Hq
    by_cases hlt : (T : Int) < 2 * (n : Int)
    · go_wp2_with fail
      obtain ⟨p, hp⟩ : ∃ p, p = 2 ^ k - 1 := ⟨_, rfl⟩
      rw [← hp] at hQ
      have Hp := hide hp
      clear hp
      go_loopw [19] (fun b wr => ∃ c : Nat, b = .int .i64 c ∧ c ≤ T ∧ Hid (QW w (aF f) (aS (so f s (p + c))) (aS (so f s p)) wr) ∧ Hid (∀ d, 0 < d → d ≤ c → so f s (p + d) ≠ so f s p)) (fun b _ => T - (intOf b).toNat)
      case atStart =>
        exact ⟨0, rfl, Nat.zero_le _, hQ, fun d h1 h2 => by omega⟩
      case round =>
        obtain ⟨c, rfl, hcT, hQc, hnc⟩ := hrel
        by_cases hc : (c : Int) < (T : Int)
        · obtain ⟨c0, c1, c2, c3, c4, c5⟩ := (unhide hQc).cellsF
          obtain ⟨d0, d1, d2, d3, d4, d5, d6, d7⟩ := (unhide hQc).cellsS
          clear hQ
          go_wp2_with fail
          refine (unhide Hs (p + c) _).mono ?_
          rintro e w2 ⟨rfl, hb⟩
          have hQ2 := (unhide hQc).later hb
          clear c0 c1 c2 c3 c4 c5 d0 d1 d2 d3 d4 d5 d6 d7
          obtain ⟨d0, d1, d2, d3, d4, d5, d6, d7⟩ := hQ2.cellsS
          obtain ⟨e0, e1, e2, e3, e4, e5, e6, e7⟩ := hQ2.cellsR
          have HQ2 := hide hQ2
          clear hQ2 hb hQc
          obtain ⟨A, hA⟩ : ∃ A, nxt f (so f s (p + c)) 0 = A := ⟨_, rfl⟩
          obtain ⟨H, hH⟩ : ∃ H, so f s p = H := ⟨_, rfl⟩
          have HA := hide hA
          have HH := hide hH
          rw [hH] at e0 e1 e2 e3 HQ2
          rw [hA]
          clear hA hH
          go_wp2
          · rename_i h1 h2 h3 h4
            go_ret2
            have hAH : A = H := by
              obtain ⟨a, b, c, d⟩ := A
              obtain ⟨a', b', c', d'⟩ := H
              simp only at h1 h2 h3 h4
              rw [h1, h2, h3, h4]
            have hT1 := unhide hT
            have hp1 := unhide Hp
            refine ⟨⟨(c : Int) + 1, true, rfl, .inl ⟨rfl, p, c + 1, by omega, by omega, by omega, by omega, ?_, fun d g1 g2 => unhide hnc d g1 (by omega)⟩⟩, ?_⟩
            · rw [← Nat.add_assoc, so_succ, unhide HA, unhide HH, hAH]
            · have q := ((unhide HQ2).setS A).low
              rw [h1, h2, h3, h4] at q
              exact q
          all_goals
            go_roundw
            case rel =>
              refine ⟨c + 1, by go_num, by omega, ?_, ?_⟩
              · have q := (unhide HQ2).setS A
                try rw [show A.x1 = H.x1 by assumption] at q
                try rw [show A.x2 = H.x2 by assumption] at q
                try rw [show A.y1 = H.y1 by assumption] at q
                rw [← Nat.add_assoc, so_succ, unhide HA, unhide HH]
                exact q
              · intro d g1 g2
                by_cases g3 : d = c + 1
                · subst g3
                  rw [← Nat.add_assoc, so_succ, unhide HA, unhide HH]
                  intro hAH
                  first
                    | exact (show ¬ A.x1 = H.x1 by assumption) (by rw [hAH])
                    | exact (show ¬ A.x2 = H.x2 by assumption) (by rw [hAH])
                    | exact (show ¬ A.y1 = H.y1 by assumption) (by rw [hAH])
                    | exact (show ¬ A.y2 = H.y2 by assumption) (by rw [hAH])
                · exact unhide hnc d g1 (by omega)
            case measure => simp [intOf]; omega
        · obtain rfl : c = T := by omega
          obtain ⟨d0, d1, d2, d3, d4, d5, d6, d7⟩ := (unhide hQc).cellsS
          obtain ⟨e0, e1, e2, e3, e4, e5, e6, e7⟩ := (unhide hQc).cellsR
          clear hQ
          go_wp2
          go_roundw
          case rel =>
            have hT1 := unhide hT
            have hp1 := unhide Hp
            have hpos := Nat.two_pow_pos k
            have hpt : p + c = 2 ^ (k + 1) - 1 := by rw [Nat.pow_succ]; omega
            refine ⟨k + 1, c * 2, by go_num, ?_, by omega, ?_, ?_⟩
            · show c * 2 = 2 ^ (k + 1)
              rw [Nat.pow_succ, hT1]
            · rw [← hpt]
              exact (unhide hQc).setR (so f s (p + c))
            · intro j hj
              by_cases hjk : j = k
              · subst hjk
                intro d g1 g2
                rw [← hp1]
                exact unhide hnc d g1 (by omega)
              · exact unhide hno j (by omega)
          case measure =>
            have hT1 := unhide hT
            have hpos := Nat.two_pow_pos k
            simp [intOf]; omega
    · go_wp2
      go_ret2
      refine ⟨⟨0, false, rfl, .inr ⟨rfl, rfl, fun j hj => unhide hno j ?_⟩⟩, (unhide hQ).low⟩
      have hT1 := unhide hT
      have : 2 ^ j < 2 ^ k := by omega
      exact (Nat.pow_lt_pow_iff_right (by decide)).1 this
end Go.Proofs.Ytmddclgidccnhab
