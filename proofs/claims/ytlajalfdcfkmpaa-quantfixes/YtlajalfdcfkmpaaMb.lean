/- SubN as a row of its own; over and take. -/
import Derived.Test.YtlajalfdcfkmpaaMa
namespace Go.Proofs.Ytlajalfdcfkmpaa
open Go.RowKit Go.Maps

set_option maxRecDepth 100000 in
set_option maxHeartbeats 1000000 in
theorem sub_own {v1 v2 : Value} {x y : Nat} {w : World} (h1 : NA w v1 x) (h2 : NA w v2 y) (hx : x < 4294967296 ^ 1000) (hyx : y ≤ x) :
    Calls Try.prog 63 #[v1, v2] w fun e w' => ∃ v, e = .returned v ∧ OwnN w' w.heap.size v (x - y) ∧ Below w.heap.size w w' := by
  obtain ⟨i0, hi0, hz0, hz1, hz2⟩ := info_parts infoz_u64
  obtain ⟨a1, n1, c1, d1, rfl, k1, r1, g1, rfl⟩ := h1
  obtain ⟨a2, n2, c2, d2, rfl, k2, r2, g2, rfl⟩ := h2
  have l1 := g1.len hx
  have l2 : n2 ≤ n1 := g2.len (Nat.lt_of_le_of_lt hyx g1.ub)
  have R1 := hide r1
  have R2 := hide r2
  have G1 := hide g1
  have G2 := hide g2
  have HY := hide hyx
  clear r1 r2 g1 g2 hx hyx
  go_enter Try.func63, Try.ntmps63
  go_wp2_with (first
    | (refine wpList_make_full _ rfl _ _ 66 rfl w.heap.size 22 i0 (.int .u64 0) 1 Try.underlying66 hi0 hz0 hz1 .i64 .i64 _ _ n1 rfl rfl rfl rfl (by rw [hz2]; omega) (by unfold maxLen; omega) (by simp) ?_; intro w1 hown hgr)
    | fail)
  rw [show (madeCells (Value.int IntKind.u64 0).cells (n1 * 1)).toList = rowU (fun _ => 0) n1 by rw [← rowU_zero, Nat.mul_one]; exact toList_madeCells_one _ _] at hown
  have hb1 : Below w.heap.size w w1 := (Below.refl _ _).grown hgr (Nat.le_refl _) (fun _ e => by cases e)
  obtain ⟨g, hg⟩ : ∃ g, g = w.heap.size := ⟨_, rfl⟩
  rw [← hg] at hown ⊢
  have H1 := hide (And.intro hown hb1)
  have Hg := hide hg
  clear hown hgr hb1 hg
  go_wp2_with fail
  go_loopw [6, 7, 8] (fun C i _ wr => ∃ k K : Nat, i = .int .i64 k ∧ C = .int .u64 K ∧ Hid (K = bw d1 d2 k) ∧ k ≤ n1 ∧ Hid (wr.ownsRow g 22 1 (.slice (some ⟨g, 0, none⟩) n1 n1) n1 (rowU (fun j => if j < k then sb d1 d2 j else 0) n1)) ∧ Hid (Below w.heap.size w wr)) (fun _ i _ _ => n1 - (intOf i).toNat)
  case atStart => exact ⟨0, 0, rfl, rfl, rfl, Nat.zero_le _, (unhide H1).1, (unhide H1).2⟩
  case round =>
    obtain ⟨k, K, rfl, rfl, hK, hk, hown, hbw⟩ := hrel
    clear H1
    have b0 : K ≤ 1 := by rw [unhide hK]; exact bw_le _ _ k
    by_cases hgo : (k : Int) < (n1 : Int)
    · obtain ⟨D1, hD1⟩ : ∃ D, d1 k = D := ⟨_, rfl⟩
      obtain ⟨D2, hD2⟩ : ∃ D, d2 k = D := ⟨_, rfl⟩
      have b1 : D1 < 4294967296 := by rw [← hD1]; exact (unhide G1).lt k
      have b2 : D2 < 4294967296 := by rw [← hD2]; exact (unhide G2).lt k
      have z2 : n2 ≤ k → D2 = 0 := fun h => by rw [← hD2]; exact (unhide G2).out k h
      obtain ⟨b, off, rfl, hb, hc⟩ := unhide R1 k (by omega)
      rw [hD1] at hc
      have hc2 : wr.cell? ⟨b, off + k, none⟩ = some (.int .u64 (D1 : Nat)) := ((unhide hbw).cell (by exact hb)).trans hc
      clear hc
      obtain ⟨E, hE⟩ : ∃ E : Nat, E = D1 + 4294967296 - K := ⟨_, rfl⟩
      have hw1 : IntKind.u64.wrap ((D1 : Int) + 4294967296) = (D1 : Int) + 4294967296 := by rw [IntKind.wrap_u64]; omega
      have hw2 : IntKind.u64.wrap ((D1 : Int) + 4294967296 - (K : Int)) = (E : Int) := by rw [IntKind.wrap_u64]; omega
      have hw3 : (D1 : Int) + 4294967296 - (K : Int) = (E : Int) := by omega
      have hEb : E < 8589934592 := by omega
      have hEl : 4294967295 ≤ E := by omega
      have HE := hide hE
      clear hE
      go_upto_if 28 with fail
      obtain ⟨F, hF⟩ : ∃ F : Nat, F = E - D2 := ⟨_, rfl⟩
      have hw4 : IntKind.u64.wrap ((E : Int) - (D2 : Int)) = (F : Int) := by rw [IntKind.wrap_u64]; omega
      have hw5 : (E : Int) - (D2 : Int) = (F : Int) := by omega
      have hFb : F < 8589934592 := by omega
      go_cut [8] (fun v wx => v = .int .u64 (F : Int) ∧ wr = wx)
      case first =>
        by_cases j1 : (k : Int) < (n2 : Int)
        · obtain ⟨b2', off2, rfl, hb2, hcc⟩ := unhide R2 k (by omega)
          rw [hD2] at hcc
          have hc3 : wr.cell? ⟨b2', off2 + k, none⟩ = some (.int .u64 (D2 : Nat)) := ((unhide hbw).cell (by exact hb2)).trans hcc
          clear hcc hF
          go_wp2_with fail
          go_meet
          exact ⟨by first | rfl | exact congrArg _ hw4, rfl⟩
        · have hFE : F = E := by have := z2 (by omega); omega
          have HFE := hide hFE
          clear hFE hF hw4 hw5
          go_wp2_with fail
          go_meet
          exact ⟨by rw [unhide HFE], rfl⟩
      case rest =>
        obtain ⟨rfl, rfl⟩ := hcut
        obtain ⟨p, hp⟩ : ∃ p : Nat, F % 4294967296 = p := ⟨_, rfl⟩
        obtain ⟨q, hq⟩ : ∃ q : Nat, F / 4294967296 = q := ⟨_, rfl⟩
        obtain ⟨r, hr⟩ : ∃ r : Nat, 1 - q = r := ⟨_, rfl⟩
        have e1 : (F : Int) % 4294967296 = (p : Int) := by omega
        have e2 : (F : Int) / 4294967296 = (q : Int) := by omega
        have e3 : (1 : Int) - (q : Int) = (r : Int) := by omega
        have e4 : IntKind.u64.wrap ((1 : Int) - (q : Int)) = (r : Int) := by rw [IntKind.wrap_u64]; omega
        have hX : F = d1 k + 4294967296 - bw d1 d2 k - d2 k := by rw [hF, unhide HE, hD1, hD2, ← unhide hK]
        have HP : Hid (p = sb d1 d2 k) := by show p = _; unfold sb; rw [← hp, hX]
        have HR : Hid (r = bw d1 d2 (k + 1)) := by show r = 1 - _; rw [← hr, ← hq, hX]
        have p0 : wr.cell? ⟨g, k, none⟩ = some (.int .u64 0) := by
          rw [(unhide hown).cellAt k (by omega), rowU_at _ _ _ (by omega), if_neg (by omega)]; rfl
        have p1 : wr.frozen? ⟨g, k, none⟩ = false := (unhide hown).frozenAt k
        have HO := hide ((unhide hown).stored k (.int .u64 (p : Int)))
        have hr2 : r ≤ 1 := by omega
        clear hown hX hr hq hp hF hD1 hD2 z2 hw1 hw2 hw3 hw4 hw5 hc2 hEb hEl
        go_wp2_with fail
        go_roundw
        case rel =>
          refine ⟨k + 1, r, by go_num, (by first | rfl | rw [wrapU (by omega)]), HR, by omega, ?_, ?_⟩
          · have h := (unhide HO).1
            rw [rowU_set _ _ _ _ (by omega)] at h
            rw [rowU_congr (b := upd (fun j => if j < k then sb d1 d2 j else 0) k p) (fun j hj => by
              by_cases e : j = k
              · subst e; rw [upd_same, if_pos (by omega), unhide HP]
              · rw [upd_ne _ e]
                by_cases h : j < k
                · rw [if_pos h, if_pos (by omega)]
                · rw [if_neg h, if_neg (by omega)])]
            exact h
          · exact (unhide hbw).grown (unhide HO).2 (unhide hbw).size (fun kk e => by cases e; have := unhide Hg; omega)
        case measure => simp [intOf]; omega
    · have hkn : k = n1 := by omega
      subst hkn
      obtain ⟨adx, cap, hv, hcap, hr⟩ := Row_own (unhide hown)
      cases hv
      have HV : Hid (vp (fun j => if j < k then sb d1 d2 j else 0) k = vp d1 k - vp d2 n2) := by
        have h := sb_vp (unhide G1).lt (unhide G2).lt k
        rw [vp_tail (unhide G2).out k (by omega)] at h
        have h2 : vp (fun j => if j < k then sb d1 d2 j else 0) k = vp (sb d1 d2) k := vp_congr (fun j hj => by simp only [hj, if_true])
        have h3 := vp_lt (k := k) (fun j _ => sb_lt d1 d2 j)
        have h4 := unhide HY
        have h5 := bw_le d1 d2 k
        show _ = _
        rw [h2]
        rcases (by omega : bw d1 d2 k = 0 ∨ bw d1 d2 k = 1) with e | e
        · rw [e, Nat.zero_mul] at h; omega
        · rw [e, Nat.one_mul] at h; omega
      have HOw := hide (unhide hown)
      clear hown
      go_wp2_with fail
      refine (norm_any _ k k _ _ (Nat.le_refl _) (by omega) hr).mono ?_
      rintro e w' ⟨m, hm, rfl, hz, hl, hw'⟩
      subst hw'
      have hN := OwnN.norm (Joins.ownsRow_le (unhide HOw) (by have := unhide Hg; omega : w.heap.size ≤ _)) (fun j hj => by rw [if_pos hj]; exact sb_lt d1 d2 j) hm hz hl
      rw [unhide HV] at hN
      have HN := hide hN
      clear hN hz hl hr HV HOw
      go_wp2
      go_ret
      exact ⟨_, rfl, unhide HN, unhide hbw⟩

theorem lt_k {t : Nat} (k : Nat) (hk : 1 ≤ k) (h : t < 4294967296) : t < 4294967296 ^ k := Nat.lt_of_lt_of_le h (by have := ble (i := 1) (k := k) hk; rwa [Nat.pow_one] at this)
theorem mul_k {y t k : Nat} (hy : y < 4294967296 ^ k) (ht : t < 4294967296) : y * t < 4294967296 ^ (k + 1) := by
  rw [Nat.pow_succ]
  exact Nat.mul_lt_mul'' hy ht
theorem mul_kk {y t k m : Nat} (hy : y < 4294967296 ^ k) (ht : t < 4294967296) (h : k + 1 ≤ m) : y * t < 4294967296 ^ m := Nat.lt_of_lt_of_le (mul_k hy ht) (ble h)
/-- A row of digits that may end in noughts, made a number. -/
theorem NA.cutRow {w : World} {ad : Option Addr} {n m cap : Nat} {d : Nat → Nat} (hcap : n ≤ cap) (hr : Row w ad n d) (hlt : ∀ j, j < n → d j < 4294967296) (hm : m ≤ n) (hz : ∀ j, m ≤ j → j < n → d j = 0) (hl : 0 < m → d (m - 1) ≠ 0) : NA w (.slice ad m cap) (vp d n) := NA.norm hcap hr hlt hm hz hl
theorem cmpI_pos (x y : Nat) : decide (0 < cmpI x y) = decide (y < x) := by
  unfold cmpI
  by_cases h1 : x < y
  · rw [if_pos h1]; exact (decide_eq_false (by omega)).trans (decide_eq_false (by omega)).symm
  · by_cases h2 : x = y
    · rw [if_neg h1, if_pos h2]; exact (decide_eq_false (by omega)).trans (decide_eq_false (by omega)).symm
    · rw [if_neg h1, if_neg h2]; exact (decide_eq_true (by omega)).trans (decide_eq_true (by omega)).symm
set_option maxRecDepth 100000 in
set_option maxHeartbeats 1000000 in
theorem overN_any {ad : Option Addr} {n cap : Nat} {dp : Nat → Nat} {vb : Value} {y t : Nat} {w : World} (hcap : n ≤ cap) (hn : n ≤ 999) (hr : Row w ad n dp) (hlt : ∀ j, j < n → dp j < 4294967296) (hb : NA w vb y) (hy : y < 4294967296 ^ 998) (ht : t < 4294967296) :
    Calls Try.prog 74 #[.slice ad n cap, vb, .int .u64 t] w fun e w' => e = .returned (.bool (decide (vp dp n < y * t))) ∧ Below w.heap.size w w' := by
  have hP : vp dp n < 4294967296 ^ 1000 := Nat.lt_of_lt_of_le (vp_lt hlt) (ble (i := n) (k := 1000) (by omega))
  have hT : t < 4294967296 ^ 1000 := lt_k 1000 (by omega) ht
  have hyt : y * t < 4294967296 ^ 1000 := mul_kk (k := 998) (m := 1000) hy ht (by omega)
  have hy1 : y < 4294967296 ^ 1000 := Nat.lt_of_lt_of_le hy (ble (i := 998) (k := 1000) (by omega))
  have Hw := hide (word_any t (by omega))
  have HB := hide hb
  have HR := hide hr
  have HL := hide hlt
  have HB1 := hide (And.intro hP (And.intro hT (And.intro hyt hy1)))
  clear hb hr hlt hy hP hT hyt hy1
  go_enter Try.func74, Try.ntmps74
  go_wp2_with fail
  refine (unhide Hw _).mono ?_
  rintro e w1 ⟨v1, rfl, hv1, hb1⟩
  go_wp2_with fail
  refine (mulN_any ((unhide HB).below hb1) hv1 (unhide HB1).2.2.2 (unhide HB1).2.1).mono ?_
  rintro e w2 ⟨v2, rfl, hv2, hb2⟩
  have HB2 := hide (hb1.trans (hb2.mono hb1.size))
  have HV2 := hide hv2
  clear hv1 hb1 hv2 hb2
  go_wp2_with fail
  refine (norm_any ad n cap dp _ hcap (by omega) ((unhide HR).below (unhide HB2))).mono ?_
  rintro e w3 ⟨m, hm, rfl, hz, hl, hw3⟩
  obtain rfl := hw3.symm
  have hN := NA.cutRow hcap ((unhide HR).below (unhide HB2)) (unhide HL) hm hz hl
  have HN := hide hN
  clear hN hz hl
  go_wp2_with fail
  refine (cmp_any (unhide HV2) (unhide HN) (unhide HB1).2.2.1 (unhide HB1).1).mono ?_
  rintro e w4 ⟨rfl, hs4⟩
  have HE := hide (cmpI_pos (y * t) (vp dp n))
  go_wp2
  go_ret
  exact ⟨by rw [unhide HE]; rfl, (unhide HB2).trans (hs4 _)⟩
end Go.Proofs.Ytlajalfdcfkmpaa
