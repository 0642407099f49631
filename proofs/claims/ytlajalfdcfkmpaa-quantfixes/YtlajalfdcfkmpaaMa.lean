/- ShlN by any count of bits, as a row of its own; BitsN. -/
import Derived.Test.YtlajalfdcfkmpaaNi
import Derived.Deep.OwnRows
namespace Go.Proofs.Ytlajalfdcfkmpaa
open Go.RowKit Go.Maps

/-- The natural number x lies there, in a row of its own. -/
def OwnN (w : World) (base : Nat) (v : Value) (x : Nat) : Prop := ∃ n d, w.ownsRow base 22 1 v n (rowU d n) ∧ Dg n d ∧ x = vp d n
theorem OwnN.na {w : World} {base : Nat} {v : Value} {x : Nat} (h : OwnN w base v x) : NA w v x := by
  obtain ⟨n, d, h1, h2, h3⟩ := h
  obtain ⟨ad, cap, rfl, hc, hr⟩ := Row_own h1
  exact ⟨ad, n, cap, d, rfl, hc, hr, h2, h3⟩
theorem own_less {w : World} {base n m : Nat} {ad : Option Addr} {cap : Nat} {d : Nat → Nat} (h : w.ownsRow base 22 1 (.slice ad n cap) n (rowU d n)) (hm : m ≤ n) : w.ownsRow base 22 1 (.slice ad m cap) m (rowU d m) := by
  rcases h.2 with ⟨h0, rfl⟩ | ⟨g, cap', cur, h0, hb, hg, hnc, hcm, hcs, htake⟩
  · obtain rfl : m = 0 := by omega
    exact h
  · simp only [Value.slice.injEq, true_and] at h0
    obtain ⟨rfl, rfl⟩ := h0
    refine ⟨by rw [rowU_len, Nat.mul_one], .inr ⟨g, cap, cur, rfl, hb, hg, by omega, hcm, hcs, ?_⟩⟩
    rw [Nat.mul_one] at htake ⊢
    have : cur.toList.take m = (cur.toList.take n).take m := by rw [List.take_take, Nat.min_eq_left hm]
    rw [this, htake]
    apply List.ext_getElem?
    intro j
    by_cases hj : j < m
    · rw [List.getElem?_take_of_lt hj, rowU_at _ _ _ (by omega), rowU_at _ _ _ hj]
    · rw [List.getElem?_eq_none (by simp [rowU_len]; omega), List.getElem?_eq_none (by rw [rowU_len]; omega)]
theorem OwnN.norm {w : World} {base : Nat} {ad : Option Addr} {n m cap : Nat} {d : Nat → Nat} (h : w.ownsRow base 22 1 (.slice ad n cap) n (rowU d n)) (hlt : ∀ j, j < n → d j < 4294967296) (hm : m ≤ n) (hz : ∀ j, m ≤ j → j < n → d j = 0) (hl : 0 < m → d (m - 1) ≠ 0) : OwnN w base (.slice ad m cap) (vp d n) := by
  obtain ⟨h1, h2⟩ := Dg.cut hlt hm hz hl
  refine ⟨m, _, ?_, h1, h2.symm⟩
  rw [rowU_congr (a := fun j => if j < m then d j else 0) (b := d) (fun j hj => by simp only [hj, if_true])]
  exact own_less h hm
/-- Q noughts ahead of the digits. -/
def gsh (d : Nat → Nat) (p Q j : Nat) : Nat := if j < Q then 0 else sh d p (j - Q)
theorem vp_zero (k : Nat) : vp (fun _ => 0) k = 0 := by
  induction k with
  | zero => rfl
  | succ k ih => show vp (fun _ => 0) k + 0 * _ = 0; rw [ih, Nat.zero_mul]
theorem gsh_vp (d : Nat → Nat) (p Q k : Nat) : vp (gsh d p Q) (Q + k) = vp (sh d p) k * 4294967296 ^ Q := by
  rw [vp_split, vp_congr (a := gsh d p Q) (b := fun _ => 0) (fun j hj => by unfold gsh; rw [if_pos hj]), vp_zero, Nat.zero_add, Nat.mul_comm]
  congr 1
  exact vp_congr (fun j _ => by unfold gsh; rw [if_neg (by omega), Nat.add_sub_cancel_left])

theorem wpList_make_spareU (w : World) {ops : Array Oper} {rest : List Oper} {o : Oper} {a : Act} {Q : Exit → Act → World → Prop}
    (hg : o.guard = none) (l c : Operand) (hop : o.op = Op.makeSlice 66 l c)
    (i : TypeInfo) (hi : Try.prog.info? 22 = some i) (hz : i.zero = some (.int .u64 0)) (hsize : i.size = 1) (hby : i.bytes = 8)
    (n k : Nat) (hl : a.eval l = .int .i64 (n : Int)) (hc : a.eval c = .int .i64 ((k : Nat) : Int)) (hnk : n ≤ k) (hk : k ≤ 17592186044418)
    (base : Nat) (hbase : base ≤ w.heap.size)
    (hK : ∀ w', w'.ownsRow base 22 1 (.slice (some ⟨w.heap.size, 0, none⟩) n k) n (rowU (fun _ => 0) n) → w.grownBy w' none → wpList Try.prog ops Q rest (a.put o.dst (.slice (some ⟨w.heap.size, 0, none⟩) n k)) w') :
    wpList Try.prog ops Q (o :: rest) a w := by
  refine wpList_plain hg fun K hK' => ?_
  have hrun := run_make (P := Try.prog) w 66 22 i (.int .u64 0) Try.underlying66 hi hz .i64 .i64 (n : Int) (k : Int) (by omega) (by omega) (by rw [hby]; omega) (by omega)
  simp only [Int.toNat_natCast, hsize, Nat.mul_one] at hrun
  unfold Oper.wp
  simp [execOp, hop, hl, hc, hrun, Result.andThen]
  refine hK' _ _ (hK _ ?_ (belowG (Joins.below_alloc1 _ _)))
  refine ⟨by rw [rowU_len, Nat.mul_one], .inr ⟨w.heap.size, k, _, rfl, hbase, heap_alloc_new w _, hnk, by unfold maxLen; omega, ?_, ?_⟩⟩
  · show (madeCells #[.int .u64 0] k).size = k * 1
    rw [← Array.length_toList, toList_madeCells_one]; simp
  · show (madeCells #[.int .u64 0] k).toList.take (n * 1) = _
    rw [toList_madeCells_one, Nat.mul_one, List.take_replicate, Nat.min_eq_left hnk, rowU_zero]

set_option maxRecDepth 100000 in
set_option maxHeartbeats 1000000 in
theorem shl_own {v1 : Value} {x : Nat} {w : World} (h1 : NA w v1 x) (hx : x < 4294967296 ^ 1000) (m : Nat) (hm0 : m ≤ 19200) :
    Calls Try.prog 54 #[v1, .int .i64 m] w fun e w' => ∃ v, e = .returned v ∧ OwnN w' w.heap.size v (x * 2 ^ m) ∧ Below w.heap.size w w' := by
  obtain ⟨i0, hi0, hz0, hz1, hz2⟩ := info_parts infoz_u64
  obtain ⟨a1, n1, c1, d1, rfl, k1, r1, g1, rfl⟩ := h1
  have l1 := g1.len hx
  have R1 := hide r1
  have G1 := hide g1
  clear r1 g1 hx
  obtain ⟨Q, hQ⟩ : ∃ Q : Nat, m / 32 = Q := ⟨_, rfl⟩
  obtain ⟨p, hp⟩ : ∃ p : Nat, m % 32 = p := ⟨_, rfl⟩
  have m1 : (m : Int) / 32 = (Q : Int) := by omega
  have m2 : (m : Int) % 32 = (p : Int) := by omega
  have hm : p ≤ 31 := by omega
  have hQb : Q ≤ 600 := by omega
  have HM : Hid (2 ^ m = 2 ^ p * 4294967296 ^ Q) := by
    show 2 ^ m = _
    rw [bpow, ← Nat.pow_add]; congr 1; omega
  clear hQ hp
  by_cases hn : n1 = 0
  · subst hn
    go_enter Try.func54, Try.ntmps54
    go_wp2
    go_ret
    exact ⟨_, rfl, ⟨0, fun _ => 0, World.ownsRow_nil _ _ _ _, ⟨fun _ => by decide, fun _ _ => rfl, fun h => by omega⟩, by rw [show vp d1 0 = 0 from rfl, Nat.zero_mul]; rfl⟩, Below.refl _ _⟩
  have hn1 : ¬ (n1 : Int) = 0 := by omega
  go_enter Try.func54, Try.ntmps54
  go_wp2_with (first
    | (refine wpList_make_spareU _ rfl (.tmp 12) (.tmp 18) rfl i0 hi0 hz0 hz1 hz2 Q (Q + n1 + 1) rfl rfl (by omega) (by omega) w.heap.size (Nat.le_refl _) ?_; intro w1 hown hgr)
    | fail)
  have hb1 : Below w.heap.size w w1 := (Below.refl _ _).grown hgr (Nat.le_refl _) (fun _ e => by cases e)
  have H1 := hide (And.intro hown hb1)
  clear hown hgr hb1
  go_wp2_with fail
  go_loopw [5, 6, 7] (fun c C i wr => ∃ k K : Nat, i = .int .i64 k ∧ C = .int .u64 K ∧ Hid (K = sc d1 p k) ∧ K < 4294967296 ∧ k ≤ n1 ∧ Hid (wr.ownsRow w.heap.size 22 1 c (Q + k) (rowU (gsh d1 p Q) (Q + k))) ∧ Hid (Below w.heap.size w wr)) (fun _ _ i _ => n1 - (intOf i).toNat)
  case atStart => exact ⟨0, 0, rfl, rfl, rfl, by decide, Nat.zero_le _, by rw [Nat.add_zero, rowU_congr (a := gsh d1 p Q) (b := fun _ => 0) (fun j hj => by unfold gsh; exact if_pos hj)]; exact (unhide H1).1, (unhide H1).2⟩
  case round =>
    obtain ⟨k, K, rfl, rfl, hK, hKb, hk, hown, hbw⟩ := hrel
    clear H1
    by_cases hgo : (k : Int) < (n1 : Int)
    · obtain ⟨D1, hD1⟩ : ∃ D, d1 k = D := ⟨_, rfl⟩
      have b1 : D1 < 4294967296 := by rw [← hD1]; exact (unhide G1).lt k
      obtain ⟨b, off, rfl, hb, hc⟩ := unhide R1 k (by omega)
      rw [hD1] at hc
      have hc2 : wr.cell? ⟨b, off + k, none⟩ = some (.int .u64 (D1 : Nat)) := ((unhide hbw).cell (by exact hb)).trans hc
      clear hc
      have b2 := pow31 hm
      obtain ⟨M, hM⟩ : ∃ M : Nat, D1 * 2 ^ p = M := ⟨_, rfl⟩
      have hMb : M ≤ 9223372034707292160 := by
        rw [← hM]
        exact Nat.le_trans (Nat.mul_le_mul (show D1 ≤ 4294967295 by omega) b2) (by decide)
      have w1 : IntKind.u64.wrap ((D1 : Int) * 2 ^ p) = (M : Int) := by
        rw [show (D1 : Int) * 2 ^ p = ((D1 * 2 ^ p : Nat) : Int) by simp, hM]
        exact wrapU (by omega)
      obtain ⟨E, hE⟩ : ∃ E : Nat, K + M = E := ⟨_, rfl⟩
      have w2 : IntKind.u64.wrap ((K : Int) + (M : Int)) = (E : Int) := by rw [IntKind.wrap_u64]; omega
      have w3 : (K : Int) + (M : Int) = (E : Int) := by omega
      obtain ⟨pp, hp⟩ : ∃ pp : Nat, E % 4294967296 = pp := ⟨_, rfl⟩
      obtain ⟨q, hq⟩ : ∃ q : Nat, E / 4294967296 = q := ⟨_, rfl⟩
      have e1 : (E : Int) % 4294967296 = (pp : Int) := by omega
      have e2 : (E : Int) / 4294967296 = (q : Int) := by omega
      have hqb : q < 4294967296 := by omega
      have HP : Hid (pp = sh d1 p k) := by show pp = _; unfold sh; rw [← hp, ← hE, ← hM, unhide hK, hD1]
      have HQ : Hid (q = sc d1 p (k + 1)) := by show q = (sc d1 p k + d1 k * 2 ^ p) / 4294967296; rw [← hq, ← hE, ← hM, unhide hK, hD1]
      have o2 : Hid ((wr.alloc (Obj.cells #[.int .u64 (pp : Int)] 22)).ownsRow w.heap.size 22 1 u5 (Q + k) (rowU (gsh d1 p Q) (Q + k))) := hide ((unhide hown).alloc _)
      have hnews : Hid (∀ j u, [Value.int .u64 (pp : Int)][j]? = some u → (wr.alloc (Obj.cells #[.int .u64 (pp : Int)] 22)).cell? ((⟨wr.heap.size, 0, none⟩ : Addr).add j) = some u) := hide (cell_one_new wr _ _)
      have hbase : Hid (w.heap.size ≤ (wr.alloc (Obj.cells #[.int .u64 (pp : Int)] 22)).heap.size) := hide (by have := (unhide hbw).size; simp; omega)
      have hH : Hid ((wr.alloc (Obj.cells #[.int .u64 (pp : Int)] 22)).heap.size = wr.heap.size + 1) := hide (by simp)
      have Hap := hide (fun (kk : Nat) (e : u5.ownBlock = some kk) => ((unhide hown).lt kk e))
      clear hown hD1 hE hp hq hM hMb
      go_wp2_with (first
        | (at_builtin; refine wpList_append_lies _ rfl (.tmp 35) (.tmp 38) 66 rfl w.heap.size 22 i0 (.int .u64 0) 1 8 Try.underlying66 hi0 hz0 hz1 hz2 rfl Nat.one_pos u5 (Q + k) (rowU (gsh d1 p Q) (Q + k)) rfl o2.out ⟨wr.heap.size, 0, none⟩ 1 1 [.int .u64 (pp : Int)] rfl rfl hnews.out (rowU_one _) Nat.one_pos (by unfold maxLen; omega) (by omega) hbase.out (wr.heap.size + 1) hH.out ?_; intro gg cap9 w9 hown9 hg9 hat9 hlt9)
        | fail)
      go_roundw
      case rel =>
        refine ⟨k + 1, q, by go_num, (by first | rfl | rw [wrapU (by omega)]), HQ, hqb, by omega, ?_, ?_⟩
        · rw [← Nat.add_assoc, ← rowU_app, show gsh d1 p Q (Q + k) = sh d1 p k by unfold gsh; rw [if_neg (by omega), Nat.add_sub_cancel_left], ← unhide HP]; exact hown9
        · exact ((unhide hbw).alloc (unhide hbw).size _).grown hg9 (by have := (unhide hbw).size; simp; omega) (fun kk e => by have := (unhide Hap kk e).1; omega)
      case measure => simp [intOf]; omega
    · have hkn : k = n1 := by omega
      subst hkn
      have o2 : Hid ((wr.alloc (Obj.cells #[.int .u64 (K : Int)] 22)).ownsRow w.heap.size 22 1 u5 (Q + k) (rowU (gsh d1 p Q) (Q + k))) := hide ((unhide hown).alloc _)
      have hnews : Hid (∀ j u, [Value.int .u64 (K : Int)][j]? = some u → (wr.alloc (Obj.cells #[.int .u64 (K : Int)] 22)).cell? ((⟨wr.heap.size, 0, none⟩ : Addr).add j) = some u) := hide (cell_one_new wr _ _)
      have hbase : Hid (w.heap.size ≤ (wr.alloc (Obj.cells #[.int .u64 (K : Int)] 22)).heap.size) := hide (by have := (unhide hbw).size; simp; omega)
      have hH : Hid ((wr.alloc (Obj.cells #[.int .u64 (K : Int)] 22)).heap.size = wr.heap.size + 1) := hide (by simp)
      have Hap := hide (fun (kk : Nat) (e : u5.ownBlock = some kk) => ((unhide hown).lt kk e))
      have HW := hide (fun (b : World) (row : Option Nat) (hg : (wr.alloc (Obj.cells #[.int .u64 (K : Int)] 22)).grownBy b row) (hr : ∀ kk, row = some kk → w.heap.size ≤ kk) => (((unhide hbw).alloc (unhide hbw).size (Obj.cells #[.int .u64 (K : Int)] 22)).grown hg (by have := (unhide hbw).size; simp; omega) hr))
      clear hown
      go_wp2_with (first
        | (at_builtin; refine wpList_append_lies _ rfl (.tmp 42) (.tmp 44) 66 rfl w.heap.size 22 i0 (.int .u64 0) 1 8 Try.underlying66 hi0 hz0 hz1 hz2 rfl Nat.one_pos u5 (Q + k) (rowU (gsh d1 p Q) (Q + k)) rfl o2.out ⟨wr.heap.size, 0, none⟩ 1 1 [.int .u64 (K : Int)] rfl rfl hnews.out (rowU_one _) Nat.one_pos (by unfold maxLen; omega) (by omega) hbase.out (wr.heap.size + 1) hH.out ?_; intro gg cap9 w9 hown9 hg9 hat9 hlt9)
        | fail)
      have hrow : rowU (gsh d1 p Q) (Q + k) ++ [.int .u64 (K : Int)] = rowU (fun j => if j < Q + k then gsh d1 p Q j else K) (Q + k + 1) := by
        rw [← rowU_app, if_neg (by omega), rowU_congr (a := fun j => if j < Q + k then gsh d1 p Q j else K) (b := gsh d1 p Q) (fun j hj => by simp only [hj, if_true])]
      rw [hrow] at hown9
      have HO9 := hide hown9
      obtain ⟨adx, cap, hv, hcap, hr⟩ := Row_own hown9
      cases hv
      have HV : Hid (vp (fun j => if j < Q + k then gsh d1 p Q j else K) (Q + k + 1) = vp d1 k * 2 ^ m) := by
        have h := sh_vp d1 p k
        show vp (fun j => if j < Q + k then gsh d1 p Q j else K) (Q + k) + (if Q + k < Q + k then gsh d1 p Q (Q + k) else K) * 4294967296 ^ (Q + k) = _
        rw [if_neg (by omega), vp_congr (a := fun j => if j < Q + k then gsh d1 p Q j else K) (b := gsh d1 p Q) (fun j hj => by simp only [hj, if_true]), gsh_vp, unhide hK, unhide HM, ← Nat.mul_assoc, ← h, Nat.add_mul, badd]
        congr 1
        rw [Nat.mul_comm (4294967296 ^ Q) (4294967296 ^ k), ← Nat.mul_assoc]
      have HB := hide (unhide HW w9 _ hg9 (fun kk e => (unhide Hap kk e).1))
      refine (norm_any _ (Q + k + 1) cap9 _ _ hcap (by omega) hr).mono ?_
      rintro e w' ⟨mm, hmm, rfl, hz, hl, hw'⟩
      subst hw'
      have hN := OwnN.norm (unhide HO9) (fun j hj => by
        by_cases h : j < Q + k
        · rw [if_pos h]; unfold gsh; split
          · decide
          · exact Nat.mod_lt _ (by decide)
        · rw [if_neg h]; exact hKb) hmm hz hl
      rw [unhide HV] at hN
      have HN := hide hN
      clear hN hz hl hr HV hown9 hrow HW HO9
      go_wp2
      go_ret
      exact ⟨_, rfl, unhide HN, unhide HB⟩

/-- How many bits a number has. -/
def IsLen (x r : Nat) : Prop := (x = 0 ∧ r = 0) ∨ (0 < r ∧ 2 ^ (r - 1) ≤ x ∧ x < 2 ^ r)
theorem len_step {x r : Nat} (h : IsLen (x / 2) r) (hx : 0 < x) : IsLen x (r + 1) := by
  rcases h with ⟨h1, rfl⟩ | ⟨h1, h2, h3⟩
  · exact .inr ⟨by omega, by simp; omega, by simp; omega⟩
  · refine .inr ⟨by omega, ?_, ?_⟩
    · obtain ⟨s, rfl⟩ : ∃ s, r = s + 1 := ⟨r - 1, by omega⟩
      simp only [Nat.add_sub_cancel] at h2 ⊢
      rw [Nat.pow_succ]; omega
    · rw [Nat.pow_succ]; omega
theorem len_digits {d : Nat → Nat} {n r : Nat} (hd : Dg (n + 1) d) (h : IsLen (d n) r) : IsLen (vp d (n + 1)) (32 * n + r) := by
  have h0 := hd.last (by omega)
  simp only [Nat.add_sub_cancel] at h0
  rcases h with ⟨h1, _⟩ | ⟨h1, h2, h3⟩
  · exact absurd h1 h0
  · have hl : vp d n < 4294967296 ^ n := vp_lt (fun j _ => hd.lt j)
    refine .inr ⟨by omega, ?_, ?_⟩
    · show _ ≤ vp d n + d n * 4294967296 ^ n
      rw [show 32 * n + r - 1 = 32 * n + (r - 1) by omega, Nat.pow_add, ← bpow, Nat.mul_comm]
      exact Nat.le_trans (Nat.mul_le_mul_right _ h2) (by omega)
    · show vp d n + d n * 4294967296 ^ n < _
      rw [Nat.pow_add, ← bpow, Nat.mul_comm _ (2 ^ r)]
      have : (d n + 1) * 4294967296 ^ n ≤ 2 ^ r * 4294967296 ^ n := Nat.mul_le_mul_right _ h3
      rw [Nat.add_mul, Nat.one_mul] at this
      omega
set_option maxRecDepth 100000 in
set_option maxHeartbeats 1000000 in
theorem bitsN_any {v1 : Value} {x : Nat} {w : World} (h1 : NA w v1 x) (hx : x < 4294967296 ^ 1000) :
    Calls Try.prog 73 #[v1] w fun e w' => ∃ r : Nat, e = .returned (.int .i64 r) ∧ IsLen x r ∧ w' = w := by
  obtain ⟨a1, n1, c1, d1, rfl, k1, r1, g1, rfl⟩ := h1
  have l1 := g1.len hx
  clear hx
  by_cases hn : n1 = 0
  · subst hn
    go_enter Try.func73, Try.ntmps73
    go_wp2
    go_ret
    exact ⟨0, rfl, .inl ⟨rfl, rfl⟩, rfl⟩
  obtain ⟨n, rfl⟩ : ∃ n, n1 = n + 1 := ⟨n1 - 1, by omega⟩
  obtain ⟨b, off, rfl, hb, hc⟩ := r1 n (by omega)
  obtain ⟨D, hD⟩ : ∃ D, d1 n = D := ⟨_, rfl⟩
  have hDb : D < 4294967296 := by rw [← hD]; exact g1.lt n
  rw [hD] at hc
  have HG := hide (And.intro g1 hD)
  clear g1 hD r1 hb
  go_enter Try.func73, Try.ntmps73
  go_wp2_with fail
  go_loopw [3, 4] (fun nv xv wr => ∃ c y : Nat, nv = .int .i64 (32 * (n : Int) + (c : Int)) ∧ xv = .int .u64 (y : Nat) ∧ y < 4294967296 ∧ c ≤ 32 ∧ Hid (y * 2 ^ c ≤ D) ∧ Hid (∀ r, IsLen y r → IsLen D (r + c)) ∧ wr = w) (fun _ xv _ => (intOf xv).toNat)
  case atStart => exact ⟨0, D, by simp, rfl, hDb, by omega, by show D * 2 ^ 0 ≤ D; simp, fun r h => h, rfl⟩
  case round =>
    obtain ⟨c, y, rfl, rfl, hy, hcb, hle, hlen, hw⟩ := hrel
    obtain rfl := hw.symm
    by_cases h0 : y = 0
    · subst h0
      go_wp2
      go_ret
      have h1 := unhide hlen 0 (.inl ⟨rfl, rfl⟩)
      rw [Nat.zero_add, ← (unhide HG).2] at h1
      exact ⟨32 * n + c, by first | rfl | (congr 2), len_digits (unhide HG).1 h1, rfl⟩
    · have hy0 : decide (0 < y) = true := decide_eq_true (by omega)
      have hc31 : c < 32 := by
        have h1 : 2 ^ c ≤ D := Nat.le_trans (Nat.le_mul_of_pos_left _ (by omega)) (unhide hle)
        refine (Nat.pow_lt_pow_iff_right (show 1 < 2 by decide)).1 (Nat.lt_of_le_of_lt h1 hDb)
      obtain ⟨y2, hy2⟩ : ∃ y2 : Nat, y / 2 = y2 := ⟨_, rfl⟩
      have e1 : (y : Int) / 2 = (y2 : Int) := by omega
      have i1 : (0 : Int) < (y : Int) := by omega
      have HY := hide hy2
      clear hy2
      go_wp2
      go_roundw
      case rel =>
        refine ⟨c + 1, y2, by go_num, rfl, by have := unhide HY; omega, by omega, ?_, ?_, trivial⟩
        · show y2 * 2 ^ (c + 1) ≤ D
          have h1 := unhide HY
          have h2 : y2 * 2 ≤ y := by omega
          rw [Nat.pow_succ, Nat.mul_comm (2 ^ c) 2, ← Nat.mul_assoc]
          exact Nat.le_trans (Nat.mul_le_mul_right _ h2) (unhide hle)
        · intro r hr
          rw [← unhide HY] at hr
          have := unhide hlen (r + 1) (len_step hr (by omega))
          rwa [show r + (c + 1) = r + 1 + c by omega]
      case measure => have := unhide HY; simp [intOf]; omega
end Go.Proofs.Ytlajalfdcfkmpaa
