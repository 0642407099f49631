/- shr, ShrN, small; DivN by a number of one digit. -/
import Derived.Test.YtlajalfdcfkmpaaNh
namespace Go.Proofs.Ytlajalfdcfkmpaa
open Go.RowKit Go.Maps

set_option maxRecDepth 100000 in
set_option maxHeartbeats 1000000 in
theorem shr_any {v1 : Value} {x : Nat} {w : World} (h1 : NA w v1 x) (hx : x < 4294967296 ^ 1000) (m : Nat) (hm : m ≤ 31) :
    Calls Try.prog 76 #[v1, .int .i64 m] w fun e w' => ∃ v, e = .returned v ∧ NA w' v (x / 2 ^ m) ∧ Below w.heap.size w w' := by
  obtain ⟨i0, hi0, hz0, hz1, hz2⟩ := info_parts infoz_u64
  obtain ⟨a1, n1, c1, d1, rfl, k1, r1, g1, rfl⟩ := h1
  have l1 := g1.len hx
  have R1 := hide r1
  have G1 := hide g1
  clear r1 g1 hx
  go_enter Try.func76, Try.ntmps76
  go_wp2_with (first
    | (refine wpList_make_full _ rfl _ _ 66 rfl w.heap.size 22 i0 (.int .u64 0) 1 Try.underlying66 hi0 hz0 hz1 .i64 .i64 _ _ n1 rfl rfl rfl rfl (by rw [hz2]; omega) (by unfold maxLen; omega) (by simp) ?_; intro w1 hown hgr)
    | fail)
  rw [show (madeCells (Value.int IntKind.u64 0).cells (n1 * 1)).toList = rowU (fun _ => 0) n1 by rw [← rowU_zero, Nat.mul_one]; exact toList_madeCells_one _ _] at hown
  have hb1 : Below w.heap.size w w1 := (Below.refl _ _).grown hgr (Nat.le_refl _) (fun _ e => by cases e)
  obtain ⟨g, hg⟩ : ∃ g, g = w.heap.size := ⟨_, rfl⟩
  rw [← hg] at hown ⊢
  have H1 := hide (And.intro hown hb1)
  have Hg := hide hg
  obtain ⟨Y, hY⟩ : ∃ Y, vp d1 n1 / 2 ^ m = Y := ⟨_, rfl⟩
  have HY := hide hY
  clear hown hgr hb1 hg hY
  go_wp2_with fail
  go_loopw [6, 7] (fun i _ wr => ∃ k : Nat, i = .int .i64 k ∧ k ≤ n1 ∧ Hid (wr.ownsRow g 22 1 (.slice (some ⟨g, 0, none⟩) n1 n1) n1 (rowU (fun j => if j < k then dig Y j else 0) n1)) ∧ Hid (Below w.heap.size w wr)) (fun i _ _ => n1 - (intOf i).toNat)
  case atStart => exact ⟨0, rfl, Nat.zero_le _, (unhide H1).1, (unhide H1).2⟩
  case round =>
    obtain ⟨k, rfl, hk, hown, hbw⟩ := hrel
    clear H1
    by_cases hgo : (k : Int) < (n1 : Int)
    · obtain ⟨D1, hD1⟩ : ∃ D, d1 k = D := ⟨_, rfl⟩
      obtain ⟨D2, hD2⟩ : ∃ D, d1 (k + 1) = D := ⟨_, rfl⟩
      have b1 : D1 < 4294967296 := by rw [← hD1]; exact (unhide G1).lt k
      have b2 : D2 < 4294967296 := by rw [← hD2]; exact (unhide G1).lt (k + 1)
      have z2 : n1 ≤ k + 1 → D2 = 0 := fun h => by rw [← hD2]; exact (unhide G1).out _ h
      obtain ⟨b, off, rfl, hb, hc⟩ := unhide R1 k (by omega)
      rw [hD1] at hc
      have hc2 : wr.cell? ⟨b, off + k, none⟩ = some (.int .u64 (D1 : Nat)) := ((unhide hbw).cell (by exact hb)).trans hc
      clear hc
      obtain ⟨E, hE⟩ : ∃ E : Nat, D1 + D2 * 4294967296 = E := ⟨_, rfl⟩
      have hw1 : IntKind.u64.wrap ((D2 : Int) * 4294967296) = (D2 : Int) * 4294967296 := by rw [IntKind.wrap_u64]; omega
      have hw2 : IntKind.u64.wrap ((D1 : Int) + (D2 : Int) * 4294967296) = (E : Int) := by rw [IntKind.wrap_u64]; omega
      have hw3 : (D1 : Int) + (D2 : Int) * 4294967296 = (E : Int) := by omega
      obtain ⟨p, hp⟩ : ∃ p : Nat, E / 2 ^ m % 4294967296 = p := ⟨_, rfl⟩
      have t1 : ((E : Int) / 2 ^ m).tmod 4294967296 = (p : Int) := by
        rw [show (E : Int) / 2 ^ m = ((E / 2 ^ m : Nat) : Int) by simp]
        rw [Int.tmod_eq_emod_of_nonneg (Int.natCast_nonneg _), ← hp]
        generalize E / 2 ^ m = z
        omega
      have HP : Hid (p = dig Y k) := by
        have h := shr_dig (vp d1 n1) m k hm
        rw [dig_vp (unhide G1), dig_vp (unhide G1), hD1, hD2, hE, hp, unhide HY] at h
        exact h
      have HE := hide hE
      clear hE hp
      go_upto_if 25 with fail
      go_cut [7] (fun v wx => v = .int .u64 (E : Int) ∧ wr = wx)
      case first =>
        by_cases j1 : (k : Int) + 1 < (n1 : Int)
        · obtain ⟨b', off', e', hb2, hcc⟩ := unhide R1 (k + 1) (by omega)
          simp only [Option.some.injEq, Addr.mk.injEq, and_true] at e'
          obtain ⟨rfl, rfl⟩ := e'
          rw [hD2] at hcc
          have hc3 : wr.cell? ⟨b, off + (k + 1), none⟩ = some (.int .u64 (D2 : Nat)) := ((unhide hbw).cell (by exact hb2)).trans hcc
          have t2 : ((k : Int) + 1).toNat = k + 1 := by omega
          have t3 : ¬ ((k : Int) + 1 < 0) := by omega
          clear hcc
          go_wp2_with fail
          go_meet
          exact ⟨by first | rfl | exact congrArg _ hw2, rfl⟩
        · have hFE : D1 = E := by have := z2 (by omega); have := unhide HE; omega
          have HFE := hide hFE
          clear hFE hw2 hw3
          go_wp2_with fail
          go_meet
          exact ⟨by rw [unhide HFE], rfl⟩
      case rest =>
        obtain ⟨rfl, rfl⟩ := hcut
        have p0 : wr.cell? ⟨g, k, none⟩ = some (.int .u64 0) := by
          rw [(unhide hown).cellAt k (by omega), rowU_at _ _ _ (by omega), if_neg (by omega)]; rfl
        have p1 : wr.frozen? ⟨g, k, none⟩ = false := (unhide hown).frozenAt k
        have HO := hide ((unhide hown).stored k (.int .u64 (p : Int)))
        clear hown hD1 hD2 z2 hw1 hw2 hw3 hc2
        go_wp2_with fail
        go_roundw
        case rel =>
          refine ⟨k + 1, by go_num, by omega, ?_, ?_⟩
          · have h := (unhide HO).1
            rw [rowU_set _ _ _ _ (by omega)] at h
            rw [rowU_congr (a := fun j => if j < k + 1 then dig Y j else 0) (b := upd (fun j => if j < k then dig Y j else 0) k p) (fun j hj => by
              by_cases e : j = k
              · subst e; rw [upd_same, if_pos (by omega), unhide HP]
              · rw [upd_ne _ e]
                by_cases h : j < k
                · rw [if_pos h, if_pos (by omega)]
                · rw [if_neg h, if_neg (by omega)])]
            exact h
          · exact (unhide hbw).grown (unhide HO).2 (unhide hbw).size (fun kk e => by cases e; have := unhide Hg; omega)
        case measure => simp [intOf]; omega
    · have hkn : k = n1 := by omega
      subst hkn
      obtain ⟨adx, cap, hv, hcap, hr⟩ := Row_own (unhide hown)
      cases hv
      have HV : Hid (vp (fun j => if j < k then dig Y j else 0) k = vp d1 k / 2 ^ m) := by
        show _ = _
        rw [unhide HY, vp_congr (a := fun j => if j < k then dig Y j else 0) (b := dig Y) (fun j hj => by simp only [hj, if_true]), vp_dig]
        refine Nat.mod_eq_of_lt ?_
        rw [← unhide HY]
        exact Nat.lt_of_le_of_lt (Nat.div_le_self _ _) (unhide G1).ub
      clear hown
      go_wp2_with fail
      refine (norm_any _ k k _ _ (Nat.le_refl _) (by omega) hr).mono ?_
      rintro e w' ⟨mm, hmm, rfl, hz, hl, hw'⟩
      subst hw'
      have hN := NA.norm hcap hr (fun j hj => by rw [if_pos hj]; exact dig_lt Y j) hmm hz hl
      rw [unhide HV] at hN
      have HN := hide hN
      clear hN hz hl hr HV
      go_wp2
      go_ret
      exact ⟨_, rfl, unhide HN, unhide hbw⟩

/-- The rest of a number from a digit on. -/
theorem NA.from {w : World} {b off n cap : Nat} {d : Nat → Nat} (hcap : n ≤ cap) (hr : Row w (some ⟨b, off, none⟩) n d) (hd : Dg n d) (q : Nat) (hq : q < n) :
    NA w (.slice (some ⟨b, off + q, none⟩) (n - q) (cap - q)) (vp d n / 4294967296 ^ q) := by
  refine ⟨_, n - q, cap - q, fun j => d (q + j), rfl, by omega, fun j hj => ?_, ⟨fun j => hd.lt _, fun j hj => hd.out _ (by omega), fun h => ?_⟩, ?_⟩
  · obtain ⟨b', off', e, h1, h2⟩ := hr (q + j) (by omega)
    simp only [Option.some.injEq, Addr.mk.injEq, and_true] at e
    obtain ⟨rfl, rfl⟩ := e
    exact ⟨b, off + q, rfl, h1, by rw [Nat.add_assoc]; exact h2⟩
  · rw [show q + (n - q - 1) = n - 1 by omega]
    exact hd.last (by omega)
  · have h := vp_split d q (n - q)
    rw [show q + (n - q) = n by omega] at h
    rw [h, Nat.add_mul_div_left _ _ (bpos q), Nat.div_eq_of_lt (vp_lt (fun j _ => hd.lt j)), Nat.zero_add]

set_option maxRecDepth 100000 in
set_option maxHeartbeats 1000000 in
theorem shrN_any {v1 : Value} {x : Nat} {w : World} (h1 : NA w v1 x) (hx : x < 4294967296 ^ 1000) (m : Nat) (hm : m ≤ 1000000) :
    Calls Try.prog 78 #[v1, .int .i64 m] w fun e w' => ∃ v, e = .returned v ∧ NA w' v (x / 2 ^ m) ∧ Below w.heap.size w w' := by
  obtain ⟨a1, n1, c1, d1, rfl, k1, r1, g1, rfl⟩ := h1
  have l1 := g1.len hx
  obtain ⟨q, hq⟩ : ∃ q : Nat, m / 32 = q := ⟨_, rfl⟩
  obtain ⟨s, hs⟩ : ∃ s : Nat, m % 32 = s := ⟨_, rfl⟩
  have q1 : (m : Int) / 32 = (q : Int) := by omega
  have s1 : (m : Int) % 32 = (s : Int) := by omega
  have s2 : s ≤ 31 := by omega
  have hms : 2 ^ m = 4294967296 ^ q * 2 ^ s := by rw [bpow, ← Nat.pow_add, show 32 * q + s = m by omega]
  have HMS := hide hms
  by_cases hqn : n1 ≤ q
  · have i1 : decide ((n1 : Int) ≤ (q : Int)) = true := decide_eq_true (by omega)
    have i2 : (n1 : Int) ≤ (q : Int) := by omega
    have HU := hide g1.ub
    clear hms r1 g1 hx
    go_enter Try.func78, Try.ntmps78
    go_wp2
    go_ret
    refine ⟨_, rfl, ?_, Below.refl _ _⟩
    rw [unhide HMS, Nat.div_eq_of_lt]
    · exact NA.nil _
    · have h1 := ble hqn
      have h2 := Nat.mul_le_mul_left (4294967296 ^ q) (Nat.two_pow_pos s)
      have h3 := unhide HU
      omega
  · obtain ⟨b, off, e0, _, _⟩ := r1 q (by omega)
    subst e0
    have hF := NA.from k1 r1 g1 q (by omega)
    have hFx : vp d1 n1 / 4294967296 ^ q < 4294967296 ^ 1000 := Nat.lt_of_le_of_lt (Nat.div_le_self _ _) hx
    have HC := hide (shr_any hF hFx s s2)
    have i1 : ¬ ((n1 : Int) ≤ (q : Int)) := by omega
    have i3 : (q : Int) ≤ (n1 : Int) := by omega
    have i4 : (q : Int) ≤ (c1 : Int) := by omega
    have i5 : ¬ (c1 = q) := by omega
    have i6 : ¬ (q = c1) := by omega
    clear hms r1 g1 hx hF hFx
    go_enter Try.func78, Try.ntmps78
    go_wp2_with fail
    refine (unhide HC).mono ?_
    rintro e w' ⟨v, rfl, hN, hB⟩
    have HN := hide hN
    have HB := hide hB
    clear hN hB HC
    go_wp2
    go_ret
    refine ⟨_, rfl, ?_, unhide HB⟩
    rw [unhide HMS, ← Nat.div_div_eq_div_mul]
    exact unhide HN
end Go.Proofs.Ytlajalfdcfkmpaa
