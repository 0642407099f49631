/- SubN. -/
import Derived.Test.YtlajalfdcfkmpaaNe
namespace Go.Proofs.Ytlajalfdcfkmpaa
open Go.RowKit Go.Maps

set_option maxRecDepth 100000 in
set_option maxHeartbeats 1000000 in
theorem subN_any {v1 v2 : Value} {x y : Nat} {w : World} (h1 : NA w v1 x) (h2 : NA w v2 y) (hx : x < 4294967296 ^ 1000) (hyx : y ≤ x) :
    Calls Try.prog 63 #[v1, v2] w fun e w' => ∃ v, e = .returned v ∧ NA w' v (x - y) ∧ Below w.heap.size w w' := by
  obtain ⟨i0, hi0, hz0, hz1, hz2⟩ := info_parts infoz_u64
  obtain ⟨a1, n1, c1, d1, rfl, k1, r1, g1, rfl⟩ := h1
  obtain ⟨a2, n2, c2, d2, rfl, k2, r2, g2, rfl⟩ := h2
  have l1 := g1.len hx
  have l2 : n2 ≤ n1 := g2.len (Nat.lt_of_le_of_lt hyx g1.ub)
  have R1 := hide r1
  have R2 := hide r2
  have G1 := hide g1
  have G2 := hide g2
  have HY := hide hyx
  clear r1 r2 g1 g2 hx hyx
  go_enter Try.func63, Try.ntmps63
  go_wp2_with (first
    | (refine wpList_make_full _ rfl _ _ 66 rfl w.heap.size 22 i0 (.int .u64 0) 1 Try.underlying66 hi0 hz0 hz1 .i64 .i64 _ _ n1 rfl rfl rfl rfl (by rw [hz2]; omega) (by unfold maxLen; omega) (by simp) ?_; intro w1 hown hgr)
    | fail)
  rw [show (madeCells (Value.int IntKind.u64 0).cells (n1 * 1)).toList = rowU (fun _ => 0) n1 by rw [← rowU_zero, Nat.mul_one]; exact toList_madeCells_one _ _] at hown
  have hb1 : Below w.heap.size w w1 := (Below.refl _ _).grown hgr (Nat.le_refl _) (fun _ e => by cases e)
  obtain ⟨g, hg⟩ : ∃ g, g = w.heap.size := ⟨_, rfl⟩
  rw [← hg] at hown ⊢
  have H1 := hide (And.intro hown hb1)
  have Hg := hide hg
  clear hown hgr hb1 hg
  go_wp2_with fail
  go_loopw [6, 7, 8] (fun C i _ wr => ∃ k K : Nat, i = .int .i64 k ∧ C = .int .u64 K ∧ Hid (K = bw d1 d2 k) ∧ k ≤ n1 ∧ Hid (wr.ownsRow g 22 1 (.slice (some ⟨g, 0, none⟩) n1 n1) n1 (rowU (fun j => if j < k then sb d1 d2 j else 0) n1)) ∧ Hid (Below w.heap.size w wr)) (fun _ i _ _ => n1 - (intOf i).toNat)
  case atStart => exact ⟨0, 0, rfl, rfl, rfl, Nat.zero_le _, (unhide H1).1, (unhide H1).2⟩
  case round =>
    obtain ⟨k, K, rfl, rfl, hK, hk, hown, hbw⟩ := hrel
    clear H1
    have b0 : K ≤ 1 := by rw [unhide hK]; exact bw_le _ _ k
    by_cases hgo : (k : Int) < (n1 : Int)
    · obtain ⟨D1, hD1⟩ : ∃ D, d1 k = D := ⟨_, rfl⟩
      obtain ⟨D2, hD2⟩ : ∃ D, d2 k = D := ⟨_, rfl⟩
      have b1 : D1 < 4294967296 := by rw [← hD1]; exact (unhide G1).lt k
      have b2 : D2 < 4294967296 := by rw [← hD2]; exact (unhide G2).lt k
      have z2 : n2 ≤ k → D2 = 0 := fun h => by rw [← hD2]; exact (unhide G2).out k h
      obtain ⟨b, off, rfl, hb, hc⟩ := unhide R1 k (by omega)
      rw [hD1] at hc
      have hc2 : wr.cell? ⟨b, off + k, none⟩ = some (.int .u64 (D1 : Nat)) := ((unhide hbw).cell (by exact hb)).trans hc
      clear hc
      obtain ⟨E, hE⟩ : ∃ E : Nat, E = D1 + 4294967296 - K := ⟨_, rfl⟩
      have hw1 : IntKind.u64.wrap ((D1 : Int) + 4294967296) = (D1 : Int) + 4294967296 := by rw [IntKind.wrap_u64]; omega
      have hw2 : IntKind.u64.wrap ((D1 : Int) + 4294967296 - (K : Int)) = (E : Int) := by rw [IntKind.wrap_u64]; omega
      have hw3 : (D1 : Int) + 4294967296 - (K : Int) = (E : Int) := by omega
      have hEb : E < 8589934592 := by omega
      have hEl : 4294967295 ≤ E := by omega
      have HE := hide hE
      clear hE
      go_upto_if 28 with fail
      obtain ⟨F, hF⟩ : ∃ F : Nat, F = E - D2 := ⟨_, rfl⟩
      have hw4 : IntKind.u64.wrap ((E : Int) - (D2 : Int)) = (F : Int) := by rw [IntKind.wrap_u64]; omega
      have hw5 : (E : Int) - (D2 : Int) = (F : Int) := by omega
      have hFb : F < 8589934592 := by omega
      go_cut [8] (fun v wx => v = .int .u64 (F : Int) ∧ wr = wx)
      case first =>
        by_cases j1 : (k : Int) < (n2 : Int)
        · obtain ⟨b2', off2, rfl, hb2, hcc⟩ := unhide R2 k (by omega)
          rw [hD2] at hcc
          have hc3 : wr.cell? ⟨b2', off2 + k, none⟩ = some (.int .u64 (D2 : Nat)) := ((unhide hbw).cell (by exact hb2)).trans hcc
          clear hcc hF
          go_wp2_with fail
          go_meet
          exact ⟨by first | rfl | exact congrArg _ hw4, rfl⟩
        · have hFE : F = E := by have := z2 (by omega); omega
          have HFE := hide hFE
          clear hFE hF hw4 hw5
          go_wp2_with fail
          go_meet
          exact ⟨by rw [unhide HFE], rfl⟩
      case rest =>
        obtain ⟨rfl, rfl⟩ := hcut
        obtain ⟨p, hp⟩ : ∃ p : Nat, F % 4294967296 = p := ⟨_, rfl⟩
        obtain ⟨q, hq⟩ : ∃ q : Nat, F / 4294967296 = q := ⟨_, rfl⟩
        obtain ⟨r, hr⟩ : ∃ r : Nat, 1 - q = r := ⟨_, rfl⟩
        have e1 : (F : Int) % 4294967296 = (p : Int) := by omega
        have e2 : (F : Int) / 4294967296 = (q : Int) := by omega
        have e3 : (1 : Int) - (q : Int) = (r : Int) := by omega
        have e4 : IntKind.u64.wrap ((1 : Int) - (q : Int)) = (r : Int) := by rw [IntKind.wrap_u64]; omega
        have hX : F = d1 k + 4294967296 - bw d1 d2 k - d2 k := by rw [hF, unhide HE, hD1, hD2, ← unhide hK]
        have HP : Hid (p = sb d1 d2 k) := by show p = _; unfold sb; rw [← hp, hX]
        have HR : Hid (r = bw d1 d2 (k + 1)) := by show r = 1 - _; rw [← hr, ← hq, hX]
        have p0 : wr.cell? ⟨g, k, none⟩ = some (.int .u64 0) := by
          rw [(unhide hown).cellAt k (by omega), rowU_at _ _ _ (by omega), if_neg (by omega)]; rfl
        have p1 : wr.frozen? ⟨g, k, none⟩ = false := (unhide hown).frozenAt k
        have HO := hide ((unhide hown).stored k (.int .u64 (p : Int)))
        have hr2 : r ≤ 1 := by omega
        clear hown hX hr hq hp hF hD1 hD2 z2 hw1 hw2 hw3 hw4 hw5 hc2 hEb hEl
        go_wp2_with fail
        go_roundw
        case rel =>
          refine ⟨k + 1, r, by go_num, (by first | rfl | rw [wrapU (by omega)]), HR, by omega, ?_, ?_⟩
          · have h := (unhide HO).1
            rw [rowU_set _ _ _ _ (by omega)] at h
            rw [rowU_congr (b := upd (fun j => if j < k then sb d1 d2 j else 0) k p) (fun j hj => by
              by_cases e : j = k
              · subst e; rw [upd_same, if_pos (by omega), unhide HP]
              · rw [upd_ne _ e]
                by_cases h : j < k
                · rw [if_pos h, if_pos (by omega)]
                · rw [if_neg h, if_neg (by omega)])]
            exact h
          · exact (unhide hbw).grown (unhide HO).2 (unhide hbw).size (fun kk e => by cases e; have := unhide Hg; omega)
        case measure => simp [intOf]; omega
    · have hkn : k = n1 := by omega
      subst hkn
      obtain ⟨adx, cap, hv, hcap, hr⟩ := Row_own (unhide hown)
      cases hv
      have HV : Hid (vp (fun j => if j < k then sb d1 d2 j else 0) k = vp d1 k - vp d2 n2) := by
        have h := sb_vp (unhide G1).lt (unhide G2).lt k
        rw [vp_tail (unhide G2).out k (by omega)] at h
        have h2 : vp (fun j => if j < k then sb d1 d2 j else 0) k = vp (sb d1 d2) k := vp_congr (fun j hj => by simp only [hj, if_true])
        have h3 := vp_lt (k := k) (fun j _ => sb_lt d1 d2 j)
        have h4 := unhide HY
        have h5 := bw_le d1 d2 k
        show _ = _
        rw [h2]
        rcases (by omega : bw d1 d2 k = 0 ∨ bw d1 d2 k = 1) with e | e
        · rw [e, Nat.zero_mul] at h; omega
        · rw [e, Nat.one_mul] at h; omega
      clear hown
      go_wp2_with fail
      refine (norm_any _ k k _ _ (Nat.le_refl _) (by omega) hr).mono ?_
      rintro e w' ⟨m, hm, rfl, hz, hl, hw'⟩
      subst hw'
      have hN := NA.norm hcap hr (fun j hj => by rw [if_pos hj]; exact sb_lt d1 d2 j) hm hz hl
      rw [unhide HV] at hN
      have HN := hide hN
      clear hN hz hl hr HV
      go_wp2
      go_ret
      exact ⟨_, rfl, unhide HN, unhide hbw⟩
end Go.Proofs.Ytlajalfdcfkmpaa
