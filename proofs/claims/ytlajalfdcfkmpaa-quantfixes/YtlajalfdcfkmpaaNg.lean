/- MulN. -/
import Derived.Test.YtlajalfdcfkmpaaNf
namespace Go.Proofs.Ytlajalfdcfkmpaa
open Go.RowKit Go.Maps

theorem mul_in {c d2 : Nat → Nat} {N K A a i j T : Nat} (h : vp c N + K * 4294967296 ^ (i + j) = A + a * vp d2 j * 4294967296 ^ i) (hT : T = K + (a * d2 j + c (i + j))) (hN : i + j < N) :
    vp (upd c (i + j) (T % 4294967296)) N + T / 4294967296 * 4294967296 ^ (i + (j + 1)) = A + a * vp d2 (j + 1) * 4294967296 ^ i := by
  have h1 := vp_upd c (i + j) (T % 4294967296) N hN
  have h2 : T % 4294967296 + T / 4294967296 * 4294967296 = K + (a * d2 j + c (i + j)) := by omega
  have h3 := congrArg (· * 4294967296 ^ (i + j)) h2
  simp only [Nat.add_mul] at h3
  have h4 : a * vp d2 (j + 1) * 4294967296 ^ i = a * vp d2 j * 4294967296 ^ i + a * d2 j * 4294967296 ^ (i + j) := by
    show a * (vp d2 j + d2 j * 4294967296 ^ j) * 4294967296 ^ i = _
    rw [Nat.mul_add, Nat.add_mul, badd, ← Nat.mul_assoc a, Nat.mul_assoc (a * d2 j), Nat.mul_comm (4294967296 ^ j)]
  rw [h4, ← Nat.add_assoc i j 1, bsucc, ← Nat.mul_assoc]
  omega
theorem mul_out {c d1 d2 : Nat → Nat} {N K n2 i : Nat} (h : vp c N + K * 4294967296 ^ (i + n2) = vp d1 i * vp d2 n2 + d1 i * vp d2 n2 * 4294967296 ^ i) (hz : c (i + n2) = 0) (hN : i + n2 < N) :
    vp (upd c (i + n2) K) N = vp d1 (i + 1) * vp d2 n2 := by
  have h1 := vp_upd c (i + n2) K N hN
  rw [hz, Nat.zero_mul, Nat.add_zero] at h1
  rw [h1, h]
  show _ = (vp d1 i + d1 i * 4294967296 ^ i) * vp d2 n2
  rw [Nat.add_mul, Nat.mul_right_comm]
theorem mul_bound {K D1 D2 C : Nat} (hK : K < 4294967296) (h1 : D1 < 4294967296) (h2 : D2 < 4294967296) (hC : C < 4294967296) : K + (D1 * D2 + C) < 18446744073709551616 := by
  have := Nat.mul_le_mul (show D1 ≤ 4294967295 by omega) (show D2 ≤ 4294967295 by omega)
  omega

/-- What a product's rounds hold on to. -/
def MO (w : World) (g N n2 : Nat) (d1 d2 : Nat → Nat) (i : Nat) (wr : World) : Prop :=
  ∃ c, wr.ownsRow g 22 1 (.slice (some ⟨g, 0, none⟩) N N) N (rowU c N) ∧ (∀ j, c j < 4294967296) ∧ (∀ j, i + n2 ≤ j → c j = 0) ∧ vp c N = vp d1 i * vp d2 n2 ∧ Below w.heap.size w wr
def MI (w : World) (g N n2 : Nat) (d1 d2 : Nat → Nat) (i j K : Nat) (wr : World) : Prop :=
  ∃ c, wr.ownsRow g 22 1 (.slice (some ⟨g, 0, none⟩) N N) N (rowU c N) ∧ (∀ j, c j < 4294967296) ∧ (∀ j, i + n2 ≤ j → c j = 0) ∧ vp c N + K * 4294967296 ^ (i + j) = vp d1 i * vp d2 n2 + d1 i * vp d2 j * 4294967296 ^ i ∧ Below w.heap.size w wr

set_option maxRecDepth 100000 in
set_option maxHeartbeats 1000000 in
theorem mulN_any {v1 v2 : Value} {x y : Nat} {w : World} (h1 : NA w v1 x) (h2 : NA w v2 y) (hx : x < 4294967296 ^ 1000) (hy : y < 4294967296 ^ 1000) :
    Calls Try.prog 53 #[v1, v2] w fun e w' => ∃ v, e = .returned v ∧ NA w' v (x * y) ∧ Below w.heap.size w w' := by
  obtain ⟨i0, hi0, hz0, hz1, hz2⟩ := info_parts infoz_u64
  obtain ⟨a1, n1, c1, d1, rfl, k1, r1, g1, rfl⟩ := h1
  obtain ⟨a2, n2, c2, d2, rfl, k2, r2, g2, rfl⟩ := h2
  have l1 := g1.len hx
  have l2 := g2.len hy
  have R1 := hide r1
  have R2 := hide r2
  have G1 := hide g1
  have G2 := hide g2
  clear r1 r2 g1 g2 hx hy
  obtain ⟨N, hN⟩ : ∃ N, n1 + n2 = N := ⟨_, rfl⟩
  have hN2 : (n1 : Int) + (n2 : Int) = (N : Int) := by omega
  go_enter Try.func53, Try.ntmps53
  go_wp2_with (first
    | (refine wpList_make_full _ rfl _ _ 66 rfl w.heap.size 22 i0 (.int .u64 0) 1 Try.underlying66 hi0 hz0 hz1 .i64 .i64 _ _ N rfl rfl rfl rfl (by rw [hz2]; omega) (by unfold maxLen; omega) (by simp) ?_; intro w1 hown hgr)
    | fail)
  rw [show (madeCells (Value.int IntKind.u64 0).cells (N * 1)).toList = rowU (fun _ => 0) N by rw [← rowU_zero, Nat.mul_one]; exact toList_madeCells_one _ _] at hown
  have hb1 : Below w.heap.size w w1 := (Below.refl _ _).grown hgr (Nat.le_refl _) (fun _ e => by cases e)
  obtain ⟨g, hg⟩ : ∃ g, g = w.heap.size := ⟨_, rfl⟩
  rw [← hg] at hown ⊢
  have H1 : Hid (MO w g N n2 d1 d2 0 w1) := ⟨_, hown, fun _ => by decide, fun _ _ => rfl, by rw [show vp d1 0 = 0 from rfl, Nat.zero_mul, vp_tail (n := 0) (fun _ _ => rfl) N (Nat.zero_le _)]; rfl, hb1⟩
  have Hg := hide hg
  clear hown hgr hb1 hg
  go_wp2_with fail
  go_loopw [6, 7, 8] (fun t _ _ wr => ∃ i : Nat, t = .int .i64 i ∧ i ≤ n1 ∧ Hid (MO w g N n2 d1 d2 i wr)) (fun t _ _ _ => n1 - (intOf t).toNat)
  case atStart => exact ⟨0, rfl, Nat.zero_le _, H1⟩
  case round =>
    obtain ⟨i, rfl, hi, hM⟩ := hrel
    clear H1
    by_cases hgo : (i : Int) < (n1 : Int)
    · obtain ⟨D1, hD1⟩ : ∃ D, d1 i = D := ⟨_, rfl⟩
      have b1 : D1 < 4294967296 := by rw [← hD1]; exact (unhide G1).lt i
      have HM : Hid (MI w g N n2 d1 d2 i 0 0 wr) := by
        obtain ⟨c, h1, h2, h3, h4, h5⟩ := unhide hM
        exact ⟨c, h1, h2, h3, by rw [h4, show vp d2 0 = 0 from rfl, Nat.zero_mul, Nat.mul_zero, Nat.zero_mul], h5⟩
      clear hM
      go_wp2_with fail
      go_loopw [7, 8] (fun C t wr => ∃ j K : Nat, t = .int .i64 j ∧ j ≤ n2 ∧ C = .int .u64 K ∧ K < 4294967296 ∧ Hid (MI w g N n2 d1 d2 i j K wr)) (fun _ t _ => n2 - (intOf t).toNat)
      case atStart => exact ⟨0, 0, rfl, Nat.zero_le _, rfl, by decide, HM⟩
      case round =>
        obtain ⟨j, K, rfl, hj, rfl, hK, hM⟩ := hrel
        clear HM
        obtain ⟨c, m1, m2, m3, m4, m5⟩ := unhide hM
        clear hM
        by_cases hgj : (j : Int) < (n2 : Int)
        · obtain ⟨D2, hD2⟩ : ∃ D, d2 j = D := ⟨_, rfl⟩
          have b2 : D2 < 4294967296 := by rw [← hD2]; exact (unhide G2).lt j
          obtain ⟨s, hs⟩ : ∃ s, i + j = s := ⟨_, rfl⟩
          have hs1 : (i : Int) + (j : Int) = (s : Int) := by omega
          have hs2 : (s : Int) < (N : Int) := by omega
          obtain ⟨C, hC⟩ : ∃ C, c s = C := ⟨_, rfl⟩
          have b3 : C < 4294967296 := by rw [← hC]; exact m2 s
          obtain ⟨ba, oa, rfl, hba, hca⟩ := unhide R1 i (by omega)
          obtain ⟨bb, ob, rfl, hbb, hcb⟩ := unhide R2 j (by omega)
          rw [hD1] at hca
          rw [hD2] at hcb
          have f1 : wr.cell? ⟨ba, oa + i, none⟩ = some (.int .u64 (D1 : Nat)) := (m5.cell (by exact hba)).trans hca
          have f2 : wr.cell? ⟨bb, ob + j, none⟩ = some (.int .u64 (D2 : Nat)) := (m5.cell (by exact hbb)).trans hcb
          have f3 : wr.cell? ⟨g, s, none⟩ = some (.int .u64 (C : Nat)) := by rw [m1.cellAt s (by omega), rowU_at _ _ _ (by omega), hC]
          clear hca hcb
          obtain ⟨M, hMM⟩ : ∃ M : Nat, D1 * D2 = M := ⟨_, rfl⟩
          obtain ⟨T, hT⟩ : ∃ T : Nat, K + (M + C) = T := ⟨_, rfl⟩
          have hTb : T < 18446744073709551616 := by rw [← hT, ← hMM]; exact mul_bound hK b1 b2 b3
          have w1 : (D1 : Int) * (D2 : Int) = (M : Int) := by rw [← hMM]; simp
          have w2 : IntKind.u64.wrap (M : Int) = (M : Int) := wrapU (by omega)
          have w3 : IntKind.u64.wrap ((M : Int) + (C : Int)) = (M : Int) + (C : Int) := by rw [IntKind.wrap_u64]; omega
          have w4 : IntKind.u64.wrap ((K : Int) + ((M : Int) + (C : Int))) = (T : Int) := by rw [IntKind.wrap_u64]; omega
          have w5 : (K : Int) + ((M : Int) + (C : Int)) = (T : Int) := by omega
          have HI := hide (And.intro m1 (And.intro m2 (And.intro m3 (And.intro m4 m5))))
          have HC := hide (And.intro hC (And.intro hMM hT))
          clear m1 m2 m3 m4 m5 hC hMM hT
          go_upto_region 9 with fail
          go_cut [7] (fun v wx => v = .int .u64 (T : Int) ∧ ∃ n, wr.drewN n = wx)
          case first =>
            go_quiet (fail)
            go_wp2_with fail
            go_meet
            exact ⟨by first | rfl | exact congrArg _ w4, _, rfl⟩
          case rest =>
            obtain ⟨rfl, n, rfl⟩ := hcut
            obtain ⟨m1, m2, m3, m4, m5⟩ := unhide HI
            obtain ⟨hC, hMM, hT⟩ := unhide HC
            obtain ⟨p, hp⟩ : ∃ p : Nat, T % 4294967296 = p := ⟨_, rfl⟩
            obtain ⟨q, hq⟩ : ∃ q : Nat, T / 4294967296 = q := ⟨_, rfl⟩
            have e1 : (T : Int) % 4294967296 = (p : Int) := by omega
            have e2 : (T : Int) / 4294967296 = (q : Int) := by omega
            have hqb : q < 4294967296 := by omega
            have hpb : p < 4294967296 := by omega
            have p1 : wr.frozen? ⟨g, s, none⟩ = false := m1.frozenAt s
            have hown : (wr.drewN n).ownsRow g 22 1 (.slice (some ⟨g, 0, none⟩) N N) N (rowU c N) := m1.kept (belowG (below_drewN (Below.refl _ _) n)) (.inr (by simp [Value.ownBlock]))
            have HO := hide (hown.stored s (.int .u64 (p : Int)))
            have HV : Hid (vp (upd c s p) N + q * 4294967296 ^ (i + (j + 1)) = vp d1 i * vp d2 n2 + d1 i * vp d2 (j + 1) * 4294967296 ^ i) := by
              have h := mul_in m4 (T := T) (by rw [← hT, ← hMM, ← hC, hD1, hD2, hs]) (by omega)
              rw [hs, hp, hq] at h
              exact h
            have HB := hide (below_drewN m5 n)
            clear m1 m2 m3 m4 m5 hC hMM hT hown hp hq
            go_wp2_with fail
            go_roundw
            case rel =>
              refine ⟨j + 1, q, by go_num, by omega, (by first | rfl | rw [wrapU (by omega)]), hqb, upd c s p, ?_, fun j' => ?_, fun j' hj' => ?_, unhide HV, ?_⟩
              · have h := (unhide HO).1
                rw [rowU_set _ _ _ _ (by omega)] at h
                exact h
              · by_cases e : j' = s
                · subst e; rw [upd_same]; exact hpb
                · rw [upd_ne _ e]; exact (unhide HI).2.1 j'
              · rw [upd_ne _ (by omega)]; exact (unhide HI).2.2.1 j' hj'
              · exact (unhide HB).grown (unhide HO).2 (unhide HB).size (fun kk e => by cases e; have := unhide Hg; omega)
            case measure => simp [intOf]; omega
        · have hjn : j = n2 := by omega
          subst hjn
          obtain ⟨s, hs⟩ : ∃ s, i + j = s := ⟨_, rfl⟩
          have hs1 : (i : Int) + (j : Int) = (s : Int) := by omega
          have hs2 : (s : Int) < (N : Int) := by omega
          have f3 : wr.cell? ⟨g, s, none⟩ = some (.int .u64 0) := by rw [m1.cellAt s (by omega), rowU_at _ _ _ (by omega), m3 s (by omega)]; rfl
          have p1 : wr.frozen? ⟨g, s, none⟩ = false := m1.frozenAt s
          have w4 : IntKind.u64.wrap (0 + (K : Int)) = (K : Int) := by rw [IntKind.wrap_u64]; omega
          have w5 : IntKind.u64.wrap (K : Int) = (K : Int) := wrapU (by omega)
          have HO := hide (m1.stored s (.int .u64 (K : Int)))
          have HV : Hid (vp (upd c s K) N = vp d1 (i + 1) * vp d2 j) := by
            have h := mul_out m4 (m3 _ (by omega)) (by omega)
            rw [hs] at h
            exact h
          have HI := hide (And.intro m2 (And.intro m3 m5))
          clear m1 m2 m3 m4 m5
          go_wp2_with fail
          go_roundw
          case rel =>
            refine ⟨i + 1, by go_num, by omega, upd c s K, ?_, fun j' => ?_, fun j' hj' => ?_, unhide HV, ?_⟩
            · have h := (unhide HO).1
              rw [rowU_set _ _ _ _ (by omega)] at h
              exact h
            · by_cases e : j' = s
              · subst e; rw [upd_same]; exact hK
              · rw [upd_ne _ e]; exact (unhide HI).1 j'
            · rw [upd_ne _ (by omega)]; exact (unhide HI).2.1 j' (by omega)
            · exact (unhide HI).2.2.grown (unhide HO).2 (unhide HI).2.2.size (fun kk e => by cases e; have := unhide Hg; omega)
          case measure => simp [intOf]; omega
    · have hin : i = n1 := by omega
      subst hin
      obtain ⟨c, m1, m2, m3, m4, m5⟩ := unhide hM
      obtain ⟨adx, cap, hv, hcap, hr⟩ := Row_own m1
      cases hv
      have HV := hide m4
      have HB := hide m5
      have H2 := hide m2
      clear hM m1 m2 m3 m4 m5
      go_wp2_with fail
      refine (norm_any _ N N _ _ (Nat.le_refl _) (by omega) hr).mono ?_
      rintro e w' ⟨m, hm, rfl, hz, hl, hw'⟩
      subst hw'
      have hNn := NA.norm hcap hr (fun j _ => unhide H2 j) hm hz hl
      rw [unhide HV] at hNn
      have HN := hide hNn
      clear hNn hz hl hr HV
      go_wp2
      go_ret
      exact ⟨_, rfl, unhide HN, unhide HB⟩
end Go.Proofs.Ytlajalfdcfkmpaa
