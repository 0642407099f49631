/- small; DivN by a number of one digit. -/
import Derived.Test.YtlajalfdcfkmpaaNi
namespace Go.Proofs.Ytlajalfdcfkmpaa
open Go.RowKit Go.Maps

theorem lt_pow {y k : Nat} (hk : 1 ≤ k) (hy : y < 4294967296) : y < 4294967296 ^ k := by
  have h := ble hk
  rw [Nat.pow_one] at h
  omega
theorem lt1000 {y : Nat} (hy : y < 4294967296) : y < 4294967296 ^ 1000 := lt_pow (k := 1000) (by decide) hy

set_option maxRecDepth 100000 in
set_option maxHeartbeats 1000000 in
theorem small_any {v1 : Value} {x D : Nat} {w : World} (h1 : NA w v1 x) (hx : x < 4294967296 ^ 1000) (hD : 0 < D) (hDb : D < 4294967296) :
    Calls Try.prog 72 #[v1, .int .u64 D] w fun e w' => ∃ v v', e = .returned (.tuple #[v, v']) ∧ NA w' v (x / D) ∧ NA w' v' (x % D) ∧ Below w.heap.size w w' := by
  obtain ⟨i0, hi0, hz0, hz1, hz2⟩ := info_parts infoz_u64
  obtain ⟨a1, n1, c1, d1, rfl, k1, r1, g1, rfl⟩ := h1
  have l1 := g1.len hx
  have R1 := hide r1
  have G1 := hide g1
  clear r1 g1 hx
  go_enter Try.func72, Try.ntmps72
  go_wp2_with (first
    | (refine wpList_make_full _ rfl _ _ 66 rfl w.heap.size 22 i0 (.int .u64 0) 1 Try.underlying66 hi0 hz0 hz1 .i64 .i64 _ _ n1 rfl rfl rfl rfl (by rw [hz2]; omega) (by unfold maxLen; omega) (by simp) ?_; intro w1 hown hgr)
    | fail)
  rw [show (madeCells (Value.int IntKind.u64 0).cells (n1 * 1)).toList = rowU (fun _ => 0) n1 by rw [← rowU_zero, Nat.mul_one]; exact toList_madeCells_one _ _] at hown
  have hb1 : Below w.heap.size w w1 := (Below.refl _ _).grown hgr (Nat.le_refl _) (fun _ e => by cases e)
  obtain ⟨g, hg⟩ : ∃ g, g = w.heap.size := ⟨_, rfl⟩
  rw [← hg] at hown ⊢
  rw [rowU_congr (a := fun _ => 0) (b := fun j => if n1 ≤ j then dig (vp d1 n1 / D) j else 0) (fun j hj => by rw [if_neg (by omega)])] at hown
  have H1 := hide (And.intro hown hb1)
  have Hg := hide hg
  clear hown hgr hb1 hg
  go_wp2_with fail
  go_loopw [7, 8] (fun r i wr => ∃ m K : Nat, m ≤ n1 ∧ i = .int .i64 ((m : Int) - 1) ∧ r = .int .u64 K ∧ Hid (K = vp d1 n1 / 4294967296 ^ m % D) ∧ K < D ∧ Hid (wr.ownsRow g 22 1 (.slice (some ⟨g, 0, none⟩) n1 n1) n1 (rowU (fun j => if m ≤ j then dig (vp d1 n1 / D) j else 0) n1)) ∧ Hid (Below w.heap.size w wr)) (fun _ i _ => (intOf i + 1).toNat)
  case atStart =>
    refine ⟨n1, 0, Nat.le_refl _, by go_num, rfl, ?_, hD, (unhide H1).1, (unhide H1).2⟩
    show 0 = _
    rw [Nat.div_eq_of_lt (unhide G1).ub, Nat.zero_mod]
  case round =>
    obtain ⟨m, K, hm, rfl, rfl, hK, hKD, hown, hbw⟩ := hrel
    clear H1
    by_cases h0 : 0 < m
    · obtain ⟨k, hk⟩ : ∃ k, m = k + 1 := ⟨m - 1, by omega⟩
      subst hk
      have i0' : ((k + 1 : Nat) : Int) - 1 = (k : Int) := by omega
      rw [i0']
      have i1 : (0 : Int) ≤ (k : Int) := by omega
      have i2 : (k : Int) < (n1 : Int) := by omega
      obtain ⟨D1, hD1⟩ : ∃ D, d1 k = D := ⟨_, rfl⟩
      have b1 : D1 < 4294967296 := by rw [← hD1]; exact (unhide G1).lt k
      obtain ⟨b, off, rfl, hb, hc⟩ := unhide R1 k (by omega)
      rw [hD1] at hc
      have hc2 : wr.cell? ⟨b, off + k, none⟩ = some (.int .u64 (D1 : Nat)) := ((unhide hbw).cell (by exact hb)).trans hc
      clear hc
      obtain ⟨E, hE⟩ : ∃ E : Nat, K * 4294967296 + D1 = E := ⟨_, rfl⟩
      have w1 : IntKind.u64.wrap ((K : Int) * 4294967296) = (K : Int) * 4294967296 := by rw [IntKind.wrap_u64]; omega
      have w2 : IntKind.u64.wrap ((K : Int) * 4294967296 + (D1 : Int)) = (E : Int) := by rw [IntKind.wrap_u64]; omega
      have w3 : (K : Int) * 4294967296 + (D1 : Int) = (E : Int) := by omega
      obtain ⟨p, hp⟩ : ∃ p : Nat, E / D = p := ⟨_, rfl⟩
      obtain ⟨q, hq⟩ : ∃ q : Nat, E % D = q := ⟨_, rfl⟩
      have e1 : (E : Int) / (D : Int) = (p : Int) := by rw [← hp]; simp
      have e2 : (E : Int) % (D : Int) = (q : Int) := by rw [← hq]; simp
      have e3 : (E : Int).tdiv (D : Int) = (p : Int) := by rw [Int.tdiv_eq_ediv_of_nonneg (by omega)]; exact e1
      have e4 : (E : Int).tmod (D : Int) = (q : Int) := by rw [Int.tmod_eq_emod_of_nonneg (by omega)]; exact e2
      have hqb : q < D := by rw [← hq]; exact Nat.mod_lt _ hD
      have hpb : p < 18446744073709551616 := by
        rw [← hp]
        exact Nat.lt_of_le_of_lt (Nat.div_le_self _ _) (by omega)
      have w4 : IntKind.u64.wrap (p : Int) = (p : Int) := wrapU hpb
      have w5 : IntKind.u64.wrap (q : Int) = (q : Int) := wrapU (by omega)
      have hdz : ¬ ((D : Int) = 0) := by omega
      have hs := small_dig (vp d1 n1) D k hD
      rw [dig_vp (unhide G1), hD1, ← unhide hK, hE, hp, hq] at hs
      have HS := hide hs
      clear hs hp hq hE
      have p0 : wr.cell? ⟨g, k, none⟩ = some (.int .u64 0) := by
        rw [(unhide hown).cellAt k (by omega), rowU_at _ _ _ (by omega), if_neg (by omega)]; rfl
      have p1 : wr.frozen? ⟨g, k, none⟩ = false := (unhide hown).frozenAt k
      have HO := hide ((unhide hown).stored k (.int .u64 (p : Int)))
      clear hown hD1
      go_wp2_with fail
      go_roundw
      case rel =>
        refine ⟨k, q, by omega, by go_num, (by first | rfl | rw [wrapU (by omega)]), (unhide HS).2, hqb, ?_, ?_⟩
        · have h := (unhide HO).1
          rw [rowU_set _ _ _ _ (by omega)] at h
          rw [rowU_congr (a := fun j => if k ≤ j then dig (vp d1 n1 / D) j else 0) (b := upd (fun j => if k + 1 ≤ j then dig (vp d1 n1 / D) j else 0) k p) (fun j hj => by
            by_cases e : j = k
            · subst e; rw [upd_same, if_pos (Nat.le_refl _), (unhide HS).1]
            · rw [upd_ne _ e]
              by_cases h : k + 1 ≤ j
              · rw [if_pos h, if_pos (by omega)]
              · rw [if_neg h, if_neg (by omega)])]
          exact h
        · exact (unhide hbw).grown (unhide HO).2 (unhide hbw).size (fun kk e => by cases e; have := unhide Hg; omega)
      case measure => (simp [intOf] <;> omega)
    · obtain rfl : m = 0 := by omega
      obtain ⟨adx, cap, hv, hcap, hr⟩ := Row_own (unhide hown)
      cases hv
      have HV : Hid (vp (fun j => if 0 ≤ j then dig (vp d1 n1 / D) j else 0) n1 = vp d1 n1 / D) := by
        show _ = _
        rw [vp_congr (a := fun j => if 0 ≤ j then dig (vp d1 n1 / D) j else 0) (b := dig (vp d1 n1 / D)) (fun j hj => by rw [if_pos (Nat.zero_le _)]), vp_dig]
        exact Nat.mod_eq_of_lt (Nat.lt_of_le_of_lt (Nat.div_le_self _ _) (unhide G1).ub)
      have HW := hide (word_any K (by omega))
      have hK2 : K = vp d1 n1 % D := by have := unhide hK; rw [Nat.pow_zero, Nat.div_one] at this; exact this
      have HK2 := hide hK2
      clear hown hK2
      go_wp2_with fail
      refine (norm_any _ n1 n1 _ _ (Nat.le_refl _) (by omega) hr).mono ?_
      rintro e w' ⟨mm, hmm, rfl, hz, hl, hw'⟩
      subst hw'
      have hN := NA.norm hcap hr (fun j hj => by rw [if_pos (Nat.zero_le _)]; exact dig_lt _ j) hmm hz hl
      rw [unhide HV] at hN
      have HN := hide hN
      clear hN hz hl hr HV
      go_wp2_with fail
      refine (unhide HW _).mono ?_
      rintro e w2 ⟨v2, rfl, hN2, hB2⟩
      have HN2 := hide hN2
      have HB2 := hide hB2
      clear hN2 hB2 HW
      go_wp2
      refine bodyPost_ret (v := .tuple #[.slice (some ⟨g, 0, none⟩) mm n1, v2]) (by simp [results, Try.results72, go_sem]) rfl ?_
      exact ⟨_, _, rfl, (unhide HN).below (unhide HB2), by rw [← unhide HK2]; exact unhide HN2, (unhide hbw).trans ((unhide HB2).mono (unhide hbw).size)⟩

set_option maxRecDepth 100000 in
set_option maxHeartbeats 1000000 in
theorem div1_any {v1 v2 : Value} {x y : Nat} {w : World} (h1 : NA w v1 x) (h2 : NA w v2 y) (hx : x < 4294967296 ^ 1000) (hy0 : 0 < y) (hy : y < 4294967296) :
    Calls Try.prog 66 #[v1, v2] w fun e w' => ∃ v v', e = .returned (.tuple #[v, v']) ∧ NA w' v (x / y) ∧ NA w' v' (x % y) ∧ Below w.heap.size w w' := by
  have HC := hide (cmp_any h1 h2 hx (lt1000 hy))
  have HS := hide (fun w' (hs : Still w w') => small_any (w := w') (h1.below (hs _)) hx hy0 hy)
  have H1 := hide h1
  obtain ⟨a2, n2, c2, d2, rfl, k2, r2, g2, hyv⟩ := h2
  have hn2 : n2 = 1 := by
    have l2 := g2.len (k := 1) (by rw [← hyv, Nat.pow_one]; exact hy)
    have := g2.zero
    omega
  subst hn2
  have hd0 : d2 0 = y := by rw [hyv]; simp [vp]
  obtain ⟨b, off, rfl, hb, hc⟩ := r2 0 (by omega)
  rw [hd0] at hc
  have Hc := hide hc
  clear hc r2 g2 hyv hd0 h1 hx
  go_enter Try.func66, Try.ntmps66
  go_wp2_with fail
  refine (unhide HC).mono ?_
  rintro e w' ⟨rfl, hs⟩
  have Hs := hide hs
  clear hs HC
  by_cases hlt : x < y
  · rw [cmpI_lt hlt]
    go_wp2
    refine bodyPost_ret (v := .tuple #[.slice none 0 0, v1]) (by simp [results, Try.results66, go_sem]) rfl ?_
    exact ⟨_, _, rfl, by rw [Nat.div_eq_of_lt hlt]; exact NA.nil _, by rw [Nat.mod_eq_of_lt hlt]; exact (unhide H1).below (unhide Hs _), unhide Hs _⟩
  · obtain ⟨C, hC, hC0⟩ : ∃ C, cmpI x y = C ∧ ¬ C < 0 := by
      refine ⟨_, rfl, ?_⟩
      unfold cmpI
      rw [if_neg hlt]
      split <;> omega
    rw [hC]
    have hc2 : w'.cell? ⟨b, off, none⟩ = some (.int .u64 (y : Nat)) := by rw [(unhide Hs).cell]; exact unhide Hc
    clear hC
    go_wp2_with fail
    refine (unhide HS _ (unhide Hs)).mono ?_
    rintro e w2 ⟨v, v', rfl, hN, hN', hB⟩
    have HH := hide (And.intro hN (And.intro hN' hB))
    clear hN hN' hB HS
    go_wp2
    refine bodyPost_ret (v := .tuple #[v, v']) (by simp [results, Try.results66, go_sem]) rfl ?_
    exact ⟨_, _, rfl, (unhide HH).1, (unhide HH).2.1, (unhide Hs _).trans ((unhide HH).2.2.mono (unhide Hs w.heap.size).size)⟩
end Go.Proofs.Ytlajalfdcfkmpaa
