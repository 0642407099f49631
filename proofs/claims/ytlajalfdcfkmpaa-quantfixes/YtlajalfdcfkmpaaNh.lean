/- ShlN, TwosN. -/
import Derived.Test.YtlajalfdcfkmpaaNg
namespace Go.Proofs.Ytlajalfdcfkmpaa
open Go.RowKit Go.Maps

theorem bpow (n : Nat) : 4294967296 ^ n = 2 ^ (32 * n) := by rw [Nat.pow_mul]
theorem twos_next {x k : Nat} (h : 2 ^ k ∣ x) (h0 : x / 2 ^ k % 2 = 0) : 2 ^ (k + 1) ∣ x := by
  obtain ⟨z, rfl⟩ := h
  rw [Nat.mul_div_cancel_left _ (Nat.two_pow_pos k)] at h0
  obtain ⟨y, rfl⟩ := Nat.dvd_of_mod_eq_zero h0
  exact ⟨y, by rw [Nat.pow_succ, Nat.mul_assoc]⟩
theorem twos_bound {x k n : Nat} (h : 2 ^ k ∣ x) (h0 : 0 < x) (hx : x < 4294967296 ^ n) : k < 32 * n := by
  have h1 := Nat.le_of_dvd h0 h
  rw [bpow] at hx
  exact (Nat.pow_lt_pow_iff_right (by decide)).1 (Nat.lt_of_le_of_lt h1 hx)
theorem pow31 {m : Nat} (hm : m ≤ 31) : 2 ^ m ≤ 2147483648 := Nat.pow_le_pow_right (n := 2) (by decide) hm

set_option maxRecDepth 100000 in
set_option maxHeartbeats 1000000 in
theorem shlN_any {v1 : Value} {x : Nat} {w : World} (h1 : NA w v1 x) (hx : x < 4294967296 ^ 1000) (m : Nat) (hm : m ≤ 31) :
    Calls Try.prog 54 #[v1, .int .i64 m] w fun e w' => ∃ v, e = .returned v ∧ NA w' v (x * 2 ^ m) ∧ Below w.heap.size w w' := by
  obtain ⟨i0, hi0, hz0, hz1, hz2⟩ := info_parts infoz_u64
  obtain ⟨a1, n1, c1, d1, rfl, k1, r1, g1, rfl⟩ := h1
  have l1 := g1.len hx
  have R1 := hide r1
  have G1 := hide g1
  clear r1 g1 hx
  have m1 : (m : Int) / 32 = 0 := by omega
  have m2 : (m : Int) % 32 = (m : Int) := by omega
  by_cases hn : n1 = 0
  · subst hn
    go_enter Try.func54, Try.ntmps54
    go_wp2
    go_ret
    exact ⟨_, rfl, by rw [show vp d1 0 = 0 from rfl, Nat.zero_mul]; exact NA.nil _, Below.refl _ _⟩
  have hn1 : ¬ (n1 : Int) = 0 := by omega
  go_enter Try.func54, Try.ntmps54
  go_wp2_with (first
    | (refine wpList_make_own _ rfl _ _ 66 rfl w.heap.size 22 i0 (.int .u64 0) 1 Try.underlying66 hi0 hz0 hz1 .i64 .i64 _ (n1 + 1) rfl rfl (by simp) (by rw [hz2]; omega) (by unfold maxLen; omega) (by simp) ?_; intro w1 hown hgr)
    | fail)
  have hb1 : Below w.heap.size w w1 := (Below.refl _ _).grown hgr (Nat.le_refl _) (fun _ e => by cases e)
  have H1 := hide (And.intro hown hb1)
  clear hown hgr hb1
  go_wp2_with fail
  go_loopw [5, 6, 7] (fun c C i wr => ∃ k K : Nat, i = .int .i64 k ∧ C = .int .u64 K ∧ Hid (K = sc d1 m k) ∧ K < 4294967296 ∧ k ≤ n1 ∧ Hid (wr.ownsRow w.heap.size 22 1 c k (rowU (sh d1 m) k)) ∧ Hid (Below w.heap.size w wr)) (fun _ _ i _ => n1 - (intOf i).toNat)
  case atStart => exact ⟨0, 0, rfl, rfl, rfl, by decide, Nat.zero_le _, (unhide H1).1, (unhide H1).2⟩
  case round =>
    obtain ⟨k, K, rfl, rfl, hK, hKb, hk, hown, hbw⟩ := hrel
    clear H1
    by_cases hgo : (k : Int) < (n1 : Int)
    · obtain ⟨D1, hD1⟩ : ∃ D, d1 k = D := ⟨_, rfl⟩
      have b1 : D1 < 4294967296 := by rw [← hD1]; exact (unhide G1).lt k
      obtain ⟨b, off, rfl, hb, hc⟩ := unhide R1 k (by omega)
      rw [hD1] at hc
      have hc2 : wr.cell? ⟨b, off + k, none⟩ = some (.int .u64 (D1 : Nat)) := ((unhide hbw).cell (by exact hb)).trans hc
      clear hc
      have b2 := pow31 hm
      obtain ⟨M, hM⟩ : ∃ M : Nat, D1 * 2 ^ m = M := ⟨_, rfl⟩
      have hMb : M ≤ 9223372034707292160 := by
        rw [← hM]
        exact Nat.le_trans (Nat.mul_le_mul (show D1 ≤ 4294967295 by omega) b2) (by decide)
      have w1 : IntKind.u64.wrap ((D1 : Int) * 2 ^ m) = (M : Int) := by
        rw [show (D1 : Int) * 2 ^ m = ((D1 * 2 ^ m : Nat) : Int) by simp, hM]
        exact wrapU (by omega)
      obtain ⟨E, hE⟩ : ∃ E : Nat, K + M = E := ⟨_, rfl⟩
      have w2 : IntKind.u64.wrap ((K : Int) + (M : Int)) = (E : Int) := by rw [IntKind.wrap_u64]; omega
      have w3 : (K : Int) + (M : Int) = (E : Int) := by omega
      obtain ⟨p, hp⟩ : ∃ p : Nat, E % 4294967296 = p := ⟨_, rfl⟩
      obtain ⟨q, hq⟩ : ∃ q : Nat, E / 4294967296 = q := ⟨_, rfl⟩
      have e1 : (E : Int) % 4294967296 = (p : Int) := by omega
      have e2 : (E : Int) / 4294967296 = (q : Int) := by omega
      have hqb : q < 4294967296 := by omega
      have HP : Hid (p = sh d1 m k) := by show p = _; unfold sh; rw [← hp, ← hE, ← hM, unhide hK, hD1]
      have HQ : Hid (q = sc d1 m (k + 1)) := by show q = (sc d1 m k + d1 k * 2 ^ m) / 4294967296; rw [← hq, ← hE, ← hM, unhide hK, hD1]
      have o2 : Hid ((wr.alloc (Obj.cells #[.int .u64 (p : Int)] 22)).ownsRow w.heap.size 22 1 u5 k (rowU (sh d1 m) k)) := hide ((unhide hown).alloc _)
      have hnews : Hid (∀ j u, [Value.int .u64 (p : Int)][j]? = some u → (wr.alloc (Obj.cells #[.int .u64 (p : Int)] 22)).cell? ((⟨wr.heap.size, 0, none⟩ : Addr).add j) = some u) := hide (cell_one_new wr _ _)
      have hbase : Hid (w.heap.size ≤ (wr.alloc (Obj.cells #[.int .u64 (p : Int)] 22)).heap.size) := hide (by have := (unhide hbw).size; simp; omega)
      have hH : Hid ((wr.alloc (Obj.cells #[.int .u64 (p : Int)] 22)).heap.size = wr.heap.size + 1) := hide (by simp)
      have Hap := hide (fun (kk : Nat) (e : u5.ownBlock = some kk) => ((unhide hown).lt kk e))
      clear hown hD1 hE hp hq hM hMb
      go_wp2_with (first
        | (at_builtin; refine wpList_append_lies _ rfl (.tmp 35) (.tmp 38) 66 rfl w.heap.size 22 i0 (.int .u64 0) 1 8 Try.underlying66 hi0 hz0 hz1 hz2 rfl Nat.one_pos u5 k (rowU (sh d1 m) k) rfl o2.out ⟨wr.heap.size, 0, none⟩ 1 1 [.int .u64 (p : Int)] rfl rfl hnews.out (rowU_one _) Nat.one_pos (by unfold maxLen; omega) (by omega) hbase.out (wr.heap.size + 1) hH.out ?_; intro gg cap9 w9 hown9 hg9 hat9 hlt9)
        | fail)
      go_roundw
      case rel =>
        refine ⟨k + 1, q, by go_num, (by first | rfl | rw [wrapU (by omega)]), HQ, hqb, by omega, ?_, ?_⟩
        · rw [← rowU_app, ← unhide HP]; exact hown9
        · exact ((unhide hbw).alloc (unhide hbw).size _).grown hg9 (by have := (unhide hbw).size; simp; omega) (fun kk e => by have := (unhide Hap kk e).1; omega)
      case measure => simp [intOf]; omega
    · have hkn : k = n1 := by omega
      subst hkn
      have o2 : Hid ((wr.alloc (Obj.cells #[.int .u64 (K : Int)] 22)).ownsRow w.heap.size 22 1 u5 k (rowU (sh d1 m) k)) := hide ((unhide hown).alloc _)
      have hnews : Hid (∀ j u, [Value.int .u64 (K : Int)][j]? = some u → (wr.alloc (Obj.cells #[.int .u64 (K : Int)] 22)).cell? ((⟨wr.heap.size, 0, none⟩ : Addr).add j) = some u) := hide (cell_one_new wr _ _)
      have hbase : Hid (w.heap.size ≤ (wr.alloc (Obj.cells #[.int .u64 (K : Int)] 22)).heap.size) := hide (by have := (unhide hbw).size; simp; omega)
      have hH : Hid ((wr.alloc (Obj.cells #[.int .u64 (K : Int)] 22)).heap.size = wr.heap.size + 1) := hide (by simp)
      have Hap := hide (fun (kk : Nat) (e : u5.ownBlock = some kk) => ((unhide hown).lt kk e))
      have HW := hide (fun (b : World) (row : Option Nat) (hg : (wr.alloc (Obj.cells #[.int .u64 (K : Int)] 22)).grownBy b row) (hr : ∀ kk, row = some kk → w.heap.size ≤ kk) => (((unhide hbw).alloc (unhide hbw).size (Obj.cells #[.int .u64 (K : Int)] 22)).grown hg (by have := (unhide hbw).size; simp; omega) hr))
      clear hown
      go_wp2_with (first
        | (at_builtin; refine wpList_append_lies _ rfl (.tmp 42) (.tmp 44) 66 rfl w.heap.size 22 i0 (.int .u64 0) 1 8 Try.underlying66 hi0 hz0 hz1 hz2 rfl Nat.one_pos u5 k (rowU (sh d1 m) k) rfl o2.out ⟨wr.heap.size, 0, none⟩ 1 1 [.int .u64 (K : Int)] rfl rfl hnews.out (rowU_one _) Nat.one_pos (by unfold maxLen; omega) (by omega) hbase.out (wr.heap.size + 1) hH.out ?_; intro gg cap9 w9 hown9 hg9 hat9 hlt9)
        | fail)
      have hrow : rowU (sh d1 m) k ++ [.int .u64 (K : Int)] = rowU (fun j => if j < k then sh d1 m j else K) (k + 1) := by
        rw [← rowU_app, if_neg (by omega), rowU_congr (a := fun j => if j < k then sh d1 m j else K) (b := sh d1 m) (fun j hj => by simp only [hj, if_true])]
      rw [hrow] at hown9
      obtain ⟨adx, cap, hv, hcap, hr⟩ := Row_own hown9
      cases hv
      have HV : Hid (vp (fun j => if j < k then sh d1 m j else K) (k + 1) = vp d1 k * 2 ^ m) := by
        have h := sh_vp d1 m k
        show vp (fun j => if j < k then sh d1 m j else K) k + (if k < k then sh d1 m k else K) * 4294967296 ^ k = _
        rw [if_neg (by omega), vp_congr (a := fun j => if j < k then sh d1 m j else K) (b := sh d1 m) (fun j hj => by simp only [hj, if_true]), unhide hK]
        exact h
      have HB := hide (unhide HW w9 _ hg9 (fun kk e => (unhide Hap kk e).1))
      refine (norm_any _ (k + 1) cap9 _ _ hcap (by omega) hr).mono ?_
      rintro e w' ⟨mm, hmm, rfl, hz, hl, hw'⟩
      subst hw'
      have hN := NA.norm hcap hr (fun j hj => by
        by_cases h : j < k
        · rw [if_pos h]; exact Nat.mod_lt _ (by decide)
        · rw [if_neg h]; exact hKb) hmm hz hl
      rw [unhide HV] at hN
      have HN := hide hN
      clear hN hz hl hr HV hown9 hrow HW
      go_wp2
      go_ret
      exact ⟨_, rfl, unhide HN, unhide HB⟩
set_option maxRecDepth 100000 in
set_option maxHeartbeats 1000000 in
theorem twosN_any {v1 : Value} {x : Nat} {w : World} (h1 : NA w v1 x) (hx : x < 4294967296 ^ 1000) (h0 : 0 < x) :
    Calls Try.prog 77 #[v1] w fun e w' => ∃ r : Nat, e = .returned (.int .i64 r) ∧ 2 ^ r ∣ x ∧ x / 2 ^ r % 2 = 1 ∧ w' = w := by
  obtain ⟨a1, n1, c1, d1, rfl, k1, r1, g1, rfl⟩ := h1
  have l1 := g1.len hx
  have R1 := hide r1
  have G1 := hide g1
  have H0 := hide h0
  clear r1 g1 hx h0
  go_enter Try.func77, Try.ntmps77
  go_wp2_with fail
  go_loopw [3] (fun i wr => ∃ k : Nat, i = .int .i64 k ∧ k < 32 * n1 ∧ Hid (2 ^ k ∣ vp d1 n1) ∧ wr = w) (fun i _ => 32 * n1 - (intOf i).toNat)
  case atStart =>
    refine ⟨0, rfl, ?_, Nat.one_dvd _, rfl⟩
    have h1 := (unhide G1).zero
    have h2 := unhide H0
    omega
  case round =>
    obtain ⟨k, rfl, hk, hdv, rfl⟩ := hrel
    obtain ⟨q, hq⟩ : ∃ q : Nat, k / 32 = q := ⟨_, rfl⟩
    obtain ⟨s, hs⟩ : ∃ s : Nat, k % 32 = s := ⟨_, rfl⟩
    have q1 : (k : Int) / 32 = (q : Int) := by omega
    have s1 : (k : Int) % 32 = (s : Int) := by omega
    have q2 : (q : Int) < (n1 : Int) := by omega
    have s2 : s < 32 := by omega
    obtain ⟨D1, hD1⟩ : ∃ D, d1 q = D := ⟨_, rfl⟩
    obtain ⟨b, off, rfl, hb, hc⟩ := unhide R1 q (by omega)
    rw [hD1] at hc
    have hbit : D1 / 2 ^ s % 2 = vp d1 n1 / 2 ^ k % 2 := by
      have h := bit_dig (vp d1 n1) q s s2
      rw [dig_vp (unhide G1), hD1, show 32 * q + s = k by omega] at h
      exact h
    obtain ⟨r, hr⟩ : ∃ r : Nat, D1 / 2 ^ s % 2 = r := ⟨_, rfl⟩
    have t1 : ((D1 : Int) / 2 ^ s).tmod 2 = (r : Int) := by
      rw [show (D1 : Int) / 2 ^ s = ((D1 / 2 ^ s : Nat) : Int) by simp]
      rw [Int.tmod_eq_emod_of_nonneg (Int.natCast_nonneg _), ← hr]
      generalize D1 / 2 ^ s = z
      omega
    rw [hr] at hbit
    have Hbit := hide hbit
    clear hbit
    rcases (by omega : r = 0 ∨ r = 1) with rfl | rfl
    · have hdv2 := twos_next (unhide hdv) (unhide Hbit).symm
      have hk2 := twos_bound hdv2 (unhide H0) (unhide G1).ub
      have HD := hide hdv2
      clear hdv2 hr
      go_wp2_with fail
      go_roundw
      case rel => exact ⟨k + 1, by go_num, hk2, HD, by trivial⟩
      case measure => simp [intOf]; omega
    · clear hr
      go_wp2_with fail
      go_ret
      exact ⟨k, rfl, unhide hdv, (unhide Hbit).symm, rfl⟩
end Go.Proofs.Ytlajalfdcfkmpaa
