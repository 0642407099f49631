/- Lm, Nem, Nea, Nez, Pat, Bkd, one behind the other. -/
import Derived.Test.YtlajalfdcfkmpaaDfx
import Derived.Deep.RegionWith
/- Limbs of numbers below 2^64. -/
namespace Go.Proofs.Ytlajalfdcfkmpaa
open Go.RowKit Go.Maps

set_option maxRecDepth 100000 in
set_option maxHeartbeats 1000000 in
theorem limbs_zero {v : Value} {w : World} (h : NA w v 0) :
    Calls Try.prog 79 #[v] w fun e w' => e = .returned (.slice none 0 0) ∧ Below w.heap.size w w' := by
  obtain ⟨ad, n, c, rfl, f⟩ := h.form
  obtain rfl : n = 0 := f.2 rfl
  clear f h
  go_enter Try.func79, Try.ntmps79
  go_wp2_with fail
  go_loopw [3, 4] (fun l i wr => l = .slice none 0 0 ∧ i = .int .i64 0 ∧ wr = w) (fun _ _ _ => 0)
  case atStart => exact ⟨rfl, rfl, rfl⟩
  case round =>
    obtain ⟨rfl, rfl, hw⟩ := hrel
    obtain rfl := hw.symm
    go_wp2
    go_ret
    exact ⟨rfl, Below.refl _ _⟩
def LmPost (x : Nat) (w : World) (e : Ending) (w' : World) : Prop := ∃ g c, e = .returned (.slice (some ⟨g, 0, none⟩) 1 c) ∧ w'.cell? ⟨g, 0, none⟩ = some (.int .u64 (x : Nat)) ∧ Below w.heap.size w w'
set_option maxRecDepth 100000 in
set_option maxHeartbeats 1000000 in
theorem limbs_any {v : Value} {x : Nat} {w : World} (h : NA w v x) (h0 : 0 < x) (hx : x < 18446744073709551616) :
    Calls Try.prog 79 #[v] w fun e w' => LmPost x w e w' := by
  obtain ⟨i0, hi0, hz0, hz1, hz2⟩ := info_parts infoz_u64
  obtain ⟨ad, n, c, d, rfl, hc, hr, hd, hv⟩ := h
  have hn : n ≤ 2 := hd.len (by rw [← hv]; exact Nat.lt_of_lt_of_le hx (by decide))
  have hn0 : 0 < n := by
    have := hd.zero
    omega
  obtain ⟨b, off, rfl, hb, hc0⟩ := hr 0 hn0
  obtain ⟨D0, hD0⟩ : ∃ D, d 0 = D := ⟨_, rfl⟩
  obtain ⟨D1, hD1⟩ : ∃ D, d 1 = D := ⟨_, rfl⟩
  have b0 : D0 < 4294967296 := by rw [← hD0]; exact hd.lt 0
  have b1 : D1 < 4294967296 := by rw [← hD1]; exact hd.lt 1
  have hxv : x = D0 + D1 * 4294967296 := by
    rw [hv, ← vp_tail hd.out 2 hn, ← hD0, ← hD1]; simp [vp]
  rw [Nat.add_zero, hD0] at hc0
  have HR := hide hr
  have HX := hide hxv
  have HD := hide hD1
  have HO := hide hd.out
  have hxb : x < 18446744073709551616 := hx
  clear hr hD0 hD1 hv hd hx hxv
  go_enter Try.func79, Try.ntmps79
  go_wp2_with fail
  go_loopw [3, 4] (fun l i wr => (l = .slice none 0 0 ∧ i = .int .i64 0 ∧ wr = w) ∨ (i = .int .i64 2 ∧ (∃ g c, l = .slice (some ⟨g, 0, none⟩) 1 c ∧ Hid (wr.cell? ⟨g, 0, none⟩ = some (.int .u64 (x : Nat))) ∧ Hid (Below w.heap.size w wr)))) (fun _ i _ => 2 - (intOf i).toNat)
  case atStart => exact .inl ⟨rfl, rfl, rfl⟩
  case round =>
    rcases hrel with ⟨rfl, rfl, hw⟩ | ⟨rfl, g, c', rfl, hcell, hbw⟩
    · obtain rfl := hw.symm
      have i1 : (0 : Int) < (n : Int) := by omega
      go_upto_if 20 with fail
      go_cut [5] (fun xv wx => xv = .int .u64 (x : Nat) ∧ w = wx)
      case first =>
        by_cases h2 : n = 2
        · subst h2
          obtain ⟨b', off', e', _, hc1⟩ := unhide HR 1 (by omega)
          simp only [Option.some.injEq, Addr.mk.injEq, and_true] at e'
          obtain ⟨rfl, rfl⟩ := e'
          rw [unhide HD] at hc1
          obtain ⟨M, hM⟩ : ∃ M : Nat, D1 * 4294967296 = M := ⟨_, rfl⟩
          have m1 : IntKind.u64.wrap ((D1 : Int) * 4294967296) = (M : Int) := wrapI (by omega) (by omega)
          have m3 : (D1 : Int) * 4294967296 = (M : Int) := by omega
          have m4 : (D0 : Int) + (M : Int) = (x : Int) := by have := unhide HX; omega
          have m2 : IntKind.u64.wrap ((D0 : Int) + (M : Int)) = (x : Int) := wrapI m4 hxb
          clear hM
          go_wp2_with fail
          go_meet
          exact ⟨rfl, rfl⟩
        · obtain rfl : n = 1 := by omega
          have hD10 : D1 = 0 := by rw [← unhide HD]; exact unhide HO 1 (by omega)
          have hx0 : Hid (x = D0) := by have := unhide HX; show x = D0; omega
          go_wp2_with fail
          go_meet
          exact ⟨by rw [unhide hx0], rfl⟩
      case rest =>
      obtain ⟨rfl, rfl⟩ := hcut
      have o2 : Hid ((w.alloc (Obj.cells #[.int .u64 (x : Int)] 22)).ownsRow w.heap.size 22 1 (.slice none 0 0) 0 []) := hide (World.ownsRow_nil _ _ _ _)
      have hnews : Hid (∀ j u, [Value.int .u64 (x : Int)][j]? = some u → (w.alloc (Obj.cells #[.int .u64 (x : Int)] 22)).cell? ((⟨w.heap.size, 0, none⟩ : Addr).add j) = some u) := hide (cell_one_new w _ _)
      have hbase : Hid (w.heap.size ≤ (w.alloc (Obj.cells #[.int .u64 (x : Int)] 22)).heap.size) := hide (by simp)
      have hH : Hid ((w.alloc (Obj.cells #[.int .u64 (x : Int)] 22)).heap.size = w.heap.size + 1) := hide (by simp)
      go_wp2_with (first
        | (at_builtin; refine wpList_append_lies _ rfl (.tmp 29) (.tmp 31) 66 rfl w.heap.size 22 i0 (.int .u64 0) 1 8 Try.underlying66 hi0 hz0 hz1 hz2 rfl Nat.one_pos (.slice none 0 0) 0 [] rfl o2.out ⟨w.heap.size, 0, none⟩ 1 1 [.int .u64 (x : Int)] rfl rfl hnews.out (rowU_one _) Nat.one_pos (by unfold maxLen; omega) (by omega) hbase.out (w.heap.size + 1) hH.out ?_; intro gg cap9 w9 hown9 hg9 hat9 hlt9)
        | fail)
      go_roundw
      case rel =>
        refine .inr ⟨rfl, gg, cap9, rfl, ?_, ?_⟩
        · exact hown9.cellAt 0 (by decide)
        · exact ((Below.refl _ w).alloc (Nat.le_refl _) _).grown hg9 (by simp) (fun kk e => by cases e)
      case measure => simp [intOf]
    · have i1 : ¬ (2 : Int) < (n : Int) := by omega
      go_wp2
      go_ret
      exact ⟨g, c', rfl, unhide hcell, unhide hbw⟩
end Go.Proofs.Ytlajalfdcfkmpaa

/- The nearest float of a fraction over a power of two, as mathematics. -/
namespace Go.Proofs.Ytlajalfdcfkmpaa

theorem IsLen.unique {x r s : Nat} (h : IsLen x r) (h' : IsLen x s) : r = s := by
  rcases h with ⟨h1, rfl⟩ | ⟨h1, h2, h3⟩
  · rcases h' with ⟨_, rfl⟩ | ⟨g1, g2, g3⟩
    · rfl
    · have := Nat.two_pow_pos (s - 1); omega
  · rcases h' with ⟨g1, rfl⟩ | ⟨g1, g2, g3⟩
    · have := Nat.two_pow_pos (r - 1); omega
    · have a := (Nat.pow_lt_pow_iff_right (show 1 < 2 by decide)).1 (Nat.lt_of_le_of_lt h2 g3)
      have b := (Nat.pow_lt_pow_iff_right (show 1 < 2 by decide)).1 (Nat.lt_of_le_of_lt g2 h3)
      omega
theorem IsLen.pow (t : Nat) : IsLen (2 ^ t) (t + 1) := .inr ⟨by omega, by rw [Nat.add_sub_cancel]; exact Nat.le_refl _, Nat.pow_lt_pow_right (by decide) (by omega)⟩
/-- How far the numerator and the denominator are shifted. -/
def nA (e : Int) : Nat := (-e).toNat
def nC (t : Nat) (e : Int) : Nat := t + e.toNat
theorem near_len {N L t B : Nat} {e : Int} (hL : IsLen N L) (hN : 0 < N) (he : (L : Int) - t - B = e) (hB : 0 < B) : IsLen (N * 2 ^ nA e / 2 ^ nC t e) B := by
  rcases hL with ⟨h0, _⟩ | ⟨h1, h2, h3⟩
  · omega
  have hx : L + nA e = nC t e + B := by unfold nA nC; omega
  have hp := Nat.two_pow_pos (nC t e)
  refine .inr ⟨hB, ?_, ?_⟩
  · rw [Nat.le_div_iff_mul_le hp, ← Nat.pow_add, show B - 1 + nC t e = L - 1 + nA e by omega, Nat.pow_add]
    exact Nat.mul_le_mul_right _ h2
  · rw [Nat.div_lt_iff_lt_mul hp, ← Nat.pow_add, show B + nC t e = L + nA e by omega, Nat.pow_add]
    exact Nat.mul_lt_mul_of_pos_right h3 (Nat.two_pow_pos _)
theorem rne_rnd (m s : Nat) : ((rne m s : Nat) : Int) = rnd (m : Int) s := by
  unfold rne rnd
  have e1 : (m : Int) % 2 ^ s = ((m % 2 ^ s : Nat) : Int) := by simp
  have e2 : (m : Int) / 2 ^ s = ((m / 2 ^ s : Nat) : Int) := by simp
  have e3 : (2 : Int) ^ s = ((2 ^ s : Nat) : Int) := by simp
  rw [e1, e2, e3]
  generalize 2 ^ s = D at *
  generalize m % D = r at *
  generalize m / D = q at *
  by_cases h : D < 2 * r ∨ (D = 2 * r ∧ q % 2 = 1)
  · rw [if_pos h, if_pos (by omega)]; omega
  · rw [if_neg h, if_neg (by omega)]; omega
theorem rne_scale (m s j : Nat) : rne (m * 2 ^ j) (s + j) = rne m s := by
  have h := rnd_scale (m : Int) s j
  have e : ((m * 2 ^ j : Nat) : Int) = (m : Int) * 2 ^ j := by simp
  rw [← e, ← rne_rnd, ← rne_rnd] at h
  omega
theorem rne_exact (m s : Nat) : rne (m * 2 ^ s) s = m := by
  have h := rnd_mul (m : Int) s
  have e : ((m * 2 ^ s : Nat) : Int) = (m : Int) * 2 ^ s := by simp
  rw [← e, ← rne_rnd] at h
  omega
theorem len_mul {N L j : Nat} (h : IsLen N L) (hN : 0 < N) : IsLen (N * 2 ^ j) (L + j) := by
  rcases h with ⟨h0, _⟩ | ⟨h1, h2, h3⟩
  · omega
  · refine .inr ⟨by omega, ?_, ?_⟩
    · rw [show L + j - 1 = L - 1 + j by omega, Nat.pow_add]; exact Nat.mul_le_mul_right _ h2
    · rw [Nat.pow_add]; exact Nat.mul_lt_mul_of_pos_right h3 (Nat.two_pow_pos _)
/-- What is rounded at that place is what Join rounds. -/
theorem near_kept {N L t k : Nat} (hL : IsLen N L) (hN : 0 < N) (htk : t ≤ k) (hk : k ≤ 31) (hM : N * 2 ^ (k - t) < 18446744073709551616) :
    stepOf (N * 2 ^ (k - t)) (-(k : Int)) = (L : Int) - t - 53 ∧ kept (N * 2 ^ (k - t)) (-(k : Int)) = rne (N * 2 ^ nA ((L : Int) - t - 53)) (nC t ((L : Int) - t - 53)) := by
  obtain ⟨M, hMd⟩ : ∃ M, N * 2 ^ (k - t) = M := ⟨_, rfl⟩
  have hlM : IsLen M (L + (k - t)) := by rw [← hMd]; exact len_mul hL hN
  have hM0 : 0 < M := by rw [← hMd]; exact Nat.mul_pos hN (Nat.two_pow_pos _)
  rw [hMd] at hM ⊢
  have hb := bitLen_bounds M hM
  have hbl : Lib.bitLen M = L + (k - t) := by
    refine IsLen.unique (x := M) (.inr ⟨?_, ?_, hb.1⟩) hlM
    · exact (hb.2 (by omega)).2
    · exact (hb.2 (by omega)).1
  have hL0 : 0 < L := by
    rcases hL with ⟨h0, _⟩ | ⟨h1, _, _⟩
    · omega
    · exact h1
  have hst : stepOf M (-(k : Int)) = (L : Int) - t - 53 := by unfold stepOf; rw [hbl]; omega
  refine ⟨hst, ?_⟩
  obtain ⟨e, he⟩ : ∃ e : Int, (L : Int) - t - 53 = e := ⟨_, rfl⟩
  rw [he] at hst ⊢
  have hx : L + nA e = nC t e + 53 := by unfold nA nC; omega
  unfold kept
  rw [hst]
  by_cases h : e ≤ -(k : Int)
  · rw [if_pos h, ← hMd, Nat.mul_assoc, ← Nat.pow_add]
    have h2 : nA e = (k - t + (-(k : Int) - e).toNat) + nC t e := by unfold nA nC at *; omega
    rw [h2, Nat.pow_add 2 _ (nC t e), ← Nat.mul_assoc, rne_exact]
  · rw [if_neg h, ← rne_scale M _ (nA e), ← rne_scale (N * 2 ^ nA e) (nC t e) (k - t), ← hMd, Nat.mul_assoc, Nat.mul_assoc, Nat.mul_comm (2 ^ nA e)]
    congr 1
    unfold nA nC at *; omega
/-- Where it is rounded to: 53 bits, or the next power of two. -/
theorem rne_between (m s : Nat) : m / 2 ^ s ≤ rne m s ∧ rne m s ≤ m / 2 ^ s + 1 := by
  unfold rne; split <;> omega
end Go.Proofs.Ytlajalfdcfkmpaa

/- What quaverref02's nearest answers of a fraction over a power of two. -/
namespace Go.Proofs.Ytlajalfdcfkmpaa
open Go.RowKit Go.Maps

theorem bitsN_is {v : Value} {x r : Nat} {w : World} (h : NA w v x) (hx : x < 4294967296 ^ 990) (hl : IsLen x r) :
    Calls Try.prog 73 #[v] w fun e w' => e = .returned (.int .i64 r) ∧ w' = w := by
  refine (bitsN_any h (up990 hx)).mono ?_
  rintro e w' ⟨s, rfl, hs, hw⟩
  rw [hs.unique hl]
  exact ⟨rfl, hw⟩
theorem NA.still {w w' : World} {v : Value} {x : Nat} (h : NA w v x) (hs : Still w w') : NA w' v x := h.below (hs _)
/-- The block of a fraction that came in as an argument. -/
structure NX (w0 : World) (cs : Array Value) (vN vD : Value) (N D : Nat) (w : World) : Prop where
  low : Below w0.heap.size w0 w
  blk : Blk w w0.heap.size cs 68
  n : NA w vN N
  d : NA w vD D
theorem NX.later {w0 w w' : World} {cs : Array Value} {vN vD : Value} {N D : Nat} (h : NX w0 cs vN vD N D w) (hb : Below w.heap.size w w') : NX w0 cs vN vD N D w' :=
  ⟨h.low.trans (hb.mono h.low.size), h.blk.below hb h.blk.lt, h.n.below hb, h.d.below hb⟩

set_option maxRecDepth 100000 in
set_option maxHeartbeats 2000000 in
theorem near_any {v : Value} {z : Int} {t L : Nat} {w : World} (h : QA w v z t) (hL : IsLen z.natAbs L) (hz : 0 < z.natAbs) (hL64 : L ≤ 64) (ht : t ≤ 31) :
    Calls Try.prog 70 #[v, .int .i64 53, .int .i64 (-1074)] w fun e w' => e = .returned (.tuple #[.int .u64 (rne (z.natAbs * 2 ^ nA ((L : Int) - t - 53)) (nC t ((L : Int) - t - 53)) : Nat), .int .i64 ((L : Int) - t - 53)]) ∧ Below w.heap.size w w' := by
  obtain ⟨a1, n1, c1, a2, n2, c2, rfl⟩ := h.form
  obtain ⟨vN, vD, eQ, nN, nD, _⟩ := h
  obtain ⟨rfl, rfl⟩ : Value.slice a1 n1 c1 = vN ∧ Value.slice a2 n2 c2 = vD := by
    injection eQ with e; simpa using e
  obtain ⟨s, hs⟩ : ∃ s, decide (z < 0) = s := ⟨_, rfl⟩
  rw [hs]
  obtain ⟨N, hN⟩ : ∃ N, z.natAbs = N := ⟨_, rfl⟩
  rw [hN] at hL hz nN ⊢
  have hNb : N < 18446744073709551616 := by
    rcases hL with ⟨h0, _⟩ | ⟨_, _, h3⟩
    · omega
    · exact Nat.lt_of_lt_of_le h3 (Nat.le_trans (Nat.pow_le_pow_right (by decide) hL64) (by decide))
  have hL0 : 0 < L := by
    rcases hL with ⟨h0, _⟩ | ⟨h1, _, _⟩
    · omega
    · exact h1
  obtain ⟨e1, he1⟩ : ∃ e1 : Int, (L : Int) - t - 53 = e1 := ⟨_, rfl⟩
  rw [he1]
  have hX0 := NX.mk (w0 := w) (Joins.below_alloc1 w (Obj.cells #[.bool s, .slice a1 n1 c1, .slice a2 n2 c2] 68)) Blk.alloc (nN.below (Joins.below_alloc1 _ _)) (nD.below (Joins.below_alloc1 _ _))
  obtain ⟨W, hW⟩ : ∃ W, W = w.alloc (Obj.cells #[.bool s, .slice a1 n1 c1, .slice a2 n2 c2] 68) := ⟨_, rfl⟩
  rw [← hW] at hX0
  have hN990 : N < 4294967296 ^ 990 := Nat.lt_of_lt_of_le hNb (by have := ble (i := 2) (k := 990) (by omega); exact Nat.le_trans (by decide) this)
  have hD990 : 2 ^ t < 4294967296 ^ 990 := pow_lt (k := 990) (by omega)
  have HB1 := hide (fun n => bitsN_is (w := W.drewN n) (hX0.n.still (still_drewN _ _)) hN990 hL)
  obtain ⟨T1, hT1⟩ : ∃ T1, t + 1 = T1 := ⟨_, rfl⟩
  have HB2 := hide (fun n => bitsN_is (w := W.drewN n) (hX0.d.still (still_drewN _ _)) hD990 (by rw [← hT1]; exact IsLen.pow t : IsLen (2 ^ t) T1))
  have HX := hide hX0
  have HN := hide (And.intro hL (And.intro hN990 hD990))
  have hcN := hX0.blk.cell 1 rfl
  have hcD := hX0.blk.cell 2 rfl
  clear hX0 hL hN990 hD990 nN nD eQ hs hN
  have HE1 := hide he1
  have heb : -84 ≤ e1 ∧ e1 ≤ 11 := by omega
  have d2 : (L : Int) - (T1 : Int) - 53 = e1 - 1 := by omega
  have hT32 : T1 ≤ 32 := by omega
  have d3 : ¬ (e1 - 1 < -1074) := by omega
  have d4 : -1074 ≤ e1 - 1 := by omega
  clear he1 hT1
  go_enter Try.func70, Try.ntmps70
  go_upto_region 1 with fail
  rw [← hW]
  clear hW
  go_quiet (first | (go_at_call_of 73 (Value.slice a1 n1 c1); exact Calls.quiet_of_same (unhide HB1 _)) | (go_at_call_of 73 (Value.slice a2 n2 c2); exact Calls.quiet_of_same (unhide HB2 _)))
  obtain ⟨W1, hW1⟩ : ∃ W1, W1 = W.drewN nq := ⟨_, rfl⟩
  rw [← hW1]
  have HX1 := hide ((unhide HX).later (by rw [hW1]; exact Joins.below_draws _ _ _ : Below W.heap.size W W1))
  clear hW1 HX HB1 HB2 hcN hcD d2 d3 d4
  go_wp2_with fail
  go_loopw [8] (fun ev wr => ∃ e : Int, ev = .int .i64 e ∧ Hid (e = e1 - 1 ∨ e = e1) ∧ Hid (NX w #[.bool s, .slice a1 n1 c1, .slice a2 n2 c2] (.slice a1 n1 c1) (.slice a2 n2 c2) N (2 ^ t) wr)) (fun ev _ => (e1 - intOf ev).toNat)
  case atStart => exact ⟨e1 - 1, rfl, .inl rfl, HX1⟩
  case round =>
    obtain ⟨e, rfl, hee, hX⟩ := hrel
    clear HX1
    have heb2 : -85 ≤ e ∧ e ≤ 11 := by rcases unhide hee with h3 | h3 <;> omega
    have hcN := (unhide hX).blk.cell 1 rfl
    have hcD := (unhide hX).blk.cell 2 rfl
    go_wp2_with fail
    go_quiet (fail)
    obtain ⟨w2, hw2⟩ : ∃ w2, w2 = wr.drewN nq := ⟨_, rfl⟩
    rw [← hw2]
    have HX2 := hide ((unhide hX).later (by rw [hw2]; exact Joins.below_draws _ _ _ : Below wr.heap.size wr w2))
    clear hw2 hX hcN hcD
    go_upto_if 31 with fail
    go_cut [9, 10] (fun nv dv wx => Hid (NA wx nv (N * 2 ^ nA e) ∧ NA wx dv (2 ^ nC t e) ∧ NX w #[.bool s, .slice a1 n1 c1, .slice a2 n2 c2] (.slice a1 n1 c1) (.slice a2 n2 c2) N (2 ^ t) wx))
    case first =>
      by_cases h0 : 0 ≤ e
      · obtain ⟨A, rfl⟩ := Int.eq_ofNat_of_zero_le h0
        go_wp2_with fail
        refine (shlN_b (unhide HX2).d (unhide HN).2.2 A (by omega)).mono ?_
        rintro e' w3 ⟨v3, rfl, hv3, hb3⟩
        have H3 := hide (And.intro hv3 ((unhide HX2).later hb3))
        clear hv3 hb3
        go_wp2_with fail
        go_meet
        refine ⟨?_, ?_, (unhide H3).2⟩
        · have := (unhide H3).2.n
          rwa [show nA ((A : Nat) : Int) = 0 by unfold nA; omega, Nat.pow_zero, Nat.mul_one]
        · have := (unhide H3).1
          rwa [← Nat.pow_add] at this
      · obtain ⟨A, hA⟩ : ∃ A : Nat, e = -(A : Int) := ⟨(-e).toNat, by omega⟩
        subst hA
        have ha3 : - -(A : Int) = (A : Int) := by omega
        go_wp2_with fail
        refine (shlN_b (unhide HX2).n (unhide HN).2.1 A (by omega)).mono ?_
        rintro e' w3 ⟨v3, rfl, hv3, hb3⟩
        have H3 := hide (And.intro hv3 ((unhide HX2).later hb3))
        clear hv3 hb3
        go_wp2_with fail
        go_meet
        refine ⟨?_, ?_, (unhide H3).2⟩
        · have := (unhide H3).1
          rwa [show nA (-(A : Int)) = A by unfold nA; omega]
        · have := (unhide H3).2.d
          rwa [show nC t (-(A : Int)) = t by unfold nC; omega]
    case rest =>
    obtain ⟨A, hA⟩ : ∃ A, N * 2 ^ nA e = A := ⟨_, rfl⟩
    obtain ⟨D, hD⟩ : ∃ D, 2 ^ nC t e = D := ⟨_, rfl⟩
    have hAb : A < 4294967296 ^ 990 := by
      rw [← hA]
      exact mul_lt (i := 2) (j := 3) (k := 990) (Nat.lt_of_lt_of_le hNb (by decide)) (pow_lt (k := 3) (by unfold nA; omega)) (by decide)
    have hDb : D < 4294967296 ^ 2 := by rw [← hD]; exact pow_lt (k := 2) (by unfold nC; omega)
    have hD0 : 0 < D := by rw [← hD]; exact Nat.two_pow_pos _
    rw [hA, hD] at hcut
    have hlen : IsLen (A / D) (if e = e1 then 53 else 54) := by
      have h4 := unhide HE1
      rw [← hA, ← hD]
      rcases unhide hee with h3 | h3
      · rw [if_neg (by omega)]; exact near_len (unhide HN).1 hz (by omega) (by omega)
      · rw [if_pos h3]; exact near_len (unhide HN).1 hz (by omega) (by omega)
    have HAD := hide (And.intro hA hD)
    have HDiv := hide (div_b (unhide hcut).1 (unhide hcut).2.1 hAb hD0 (lt_le (i := 2) (k := 990) hDb (by decide)))
    have Hlen := hide (And.intro hlen (And.intro hAb (And.intro hDb hD0)))
    clear hA hD hAb hlen hDb hD0 HX2
    go_wp2_with fail
    refine (unhide HDiv).mono ?_
    rintro e' w3 ⟨vq, vr, rfl, hq, hr, hb3⟩
    have H3 := hide (And.intro hq (And.intro hr (And.intro ((unhide hcut).2.1.below hb3) ((unhide hcut).2.2.later hb3))))
    have hq990 : A / D < 4294967296 ^ 990 := Nat.lt_of_le_of_lt (Nat.div_le_self _ _) (unhide Hlen).2.1
    have Hq990 := hide hq990
    clear hq hr hb3 HDiv hcut hq990
    by_cases hlast : e = e1
    · subst hlast
      have Hl := hide (by have h3 := (unhide Hlen).1; rwa [if_pos rfl] at h3 : IsLen (A / D) 53)
      have Hbd := hide (unhide Hlen).2
      clear Hlen
      have HBq := hide (fun w' (hs : Still w3 w') => bitsN_is (w := w') ((unhide H3).1.still hs) (unhide Hq990) (unhide Hl))
      go_wp2_with fail
      refine (unhide HBq _ (Still.refl _)).mono ?_
      rintro e' w4 ⟨rfl, hw4⟩
      obtain rfl := hw4.symm
      have hl53 := unhide Hl
      have hqb : 4503599627370496 ≤ A / D ∧ A / D < 9007199254740992 := by
        rcases hl53 with ⟨h3, h4⟩ | ⟨h3, h4, h5⟩
        · cases h4
        · exact ⟨h4, h5⟩
      have HQb := hide hqb
      clear hl53 hqb HBq
      go_wp2_with fail
      refine (shlN_b (unhide H3).2.1 (Nat.lt_of_lt_of_le (Nat.mod_lt _ (unhide Hbd).2.2) (Nat.le_of_lt (lt_le (i := 2) (k := 990) (unhide Hbd).2.1 (by decide)))) 1 (by omega)).mono ?_
      rintro e' w5 ⟨v5, rfl, hv5, hb5⟩
      rw [Nat.pow_one] at hv5
      have hr2 : A % D * 2 < 4294967296 ^ 990 := mul_kk (k := 2) (m := 990) (Nat.lt_trans (Nat.mod_lt _ (unhide Hbd).2.2) (unhide Hbd).2.1) (by decide) (by decide)
      have HC := hide (cmp_b hv5 ((unhide H3).2.2.1.below hb5) hr2 (lt_le (i := 2) (k := 990) (unhide Hbd).2.1 (by decide)))
      have HB5 := hide hb5
      clear hv5 hb5 hr2
      go_wp2_with fail
      refine (unhide HC).mono ?_
      rintro e' w6 ⟨rfl, hs6⟩
      have hb36 := (unhide HB5).trans (hs6 w3.heap.size)
      have H6 := hide (And.intro ((unhide H3).1.below hb36) ((unhide H3).2.2.2.later hb36))
      clear hs6 hb36 HC HB5 H3
      obtain ⟨up, hup⟩ : ∃ up, decide (D < 2 * (A % D) ∨ (2 * (A % D) = D ∧ A / D % 2 = 1)) = up := ⟨_, rfl⟩
      obtain ⟨aq, nq', cq, hvq, fq⟩ := (unhide H6).1.form
      subst hvq
      have hnq : 0 < nq' := by have := (unhide HQb).1; have := fq; omega
      obtain ⟨bq, oq, dq, hadq, hcq, hdq, _⟩ := (unhide H6).1.first hnq
      subst hadq
      have hup2 : up = (decide (0 < cmpI (A % D * 2) D) || (decide (cmpI (A % D * 2) D = 0) && decide (dq % 2 = 1))) := by
        rw [← hup, hdq]
        unfold cmpI
        by_cases h3 : A % D * 2 < D
        · rw [if_pos h3]; simp; omega
        · by_cases h4 : A % D * 2 = D
          · rw [if_neg h3, if_pos h4]
            by_cases h5 : A / D % 2 = 1
            · simp [h5]; omega
            · simp [h5]; omega
          · rw [if_neg h3, if_neg h4]; simp; omega
      obtain ⟨C, hC⟩ : ∃ C, cmpI (A % D * 2) D = C := ⟨_, rfl⟩
      rw [hC] at hup2 ⊢
      have HUp := hide (And.intro hup hup2)
      clear hup hup2 hC hdq fq
      have k1 : (0 : Int) < (nq' : Int) := by omega
      have k2 : decide (0 < nq') = true := decide_eq_true hnq
      go_upto_region 10 with fail
      go_cut [72] (fun uv wx => uv = .bool up ∧ w6 = wx)
      case first =>
        have hu := (unhide HUp).2
        by_cases h3 : 0 < C
        · have : up = true := by rw [hu, decide_eq_true h3]; rfl
          go_wp2_with fail
          go_meet
          exact ⟨by rw [this], rfl⟩
        · by_cases h4 : C = 0
          · subst h4
            obtain ⟨dr, hdr⟩ : ∃ dr : Nat, dq % 2 = dr := ⟨_, rfl⟩
            have e3 : (dq : Int) % 2 = (dr : Int) := by omega
            have hud : up = decide (dr = 1) := by rw [hu, ← hdr]; simp
            have e4 : ((dr : Int) == 1) = decide (dr = 1) := by
              by_cases h6 : dr = 1
              · subst h6; rfl
              · rw [decide_eq_false h6]; simp; omega
            clear hu hdr
            go_wp2_with fail
            go_meet
            exact ⟨by rw [hud], rfl⟩
          · have h5 : (C == 0) = false := by simpa using h4
            have : up = false := by rw [hu, decide_eq_false h3, decide_eq_false h4]; rfl
            go_wp2_with fail
            go_meet
            exact ⟨by rw [this], rfl⟩
      case rest =>
      obtain ⟨rfl, rfl⟩ := hcut
      obtain ⟨Qr, hQr⟩ : ∃ Qr, rne (N * 2 ^ nA e) (nC t e) = Qr := ⟨_, rfl⟩
      have hQe : Qr = if up = true then A / D + 1 else A / D := by
        rw [← hQr, (unhide HAD).1]
        unfold rne
        rw [(unhide HAD).2, ← (unhide HUp).1]
        by_cases h3 : D < 2 * (A % D) ∨ (2 * (A % D) = D ∧ A / D % 2 = 1)
        · rw [decide_eq_true h3]; simp only [if_true]; rw [if_pos (by omega)]
        · rw [decide_eq_false h3]; simp only [Bool.false_eq_true, if_false]; rw [if_neg (by omega), Nat.add_zero]
      have HQr := hide hQr
      have HQe := hide hQe
      have hQrb : 0 < Qr ∧ Qr < 18446744073709551616 := by
        have := unhide HQb
        rw [hQe]; split <;> omega
      clear hQr hQe hcq k1 k2 hnq
      go_upto_if 72 with fail
      go_cut [11] (fun qv wx => Hid (NA wx qv Qr ∧ Below w.heap.size w wx))
      case first =>
        cases up with
        | true =>
          go_wp2_with fail
          refine (word_any 1 (by omega) _).mono ?_
          rintro e' w7 ⟨v7, rfl, hv7, hb7⟩
          have HA7 := hide (addN_b ((unhide H6).1.below hb7) hv7 (unhide Hq990) (lt990 (by decide)))
          have HB7 := hide ((unhide H6).2.later hb7).low
          clear hv7 hb7
          go_wp2_with fail
          refine (unhide HA7).mono ?_
          rintro e' w8 ⟨v8, rfl, hv8, hb8⟩
          have H8 := hide (And.intro hv8 ((unhide HB7).trans (hb8.mono (unhide HB7).size)))
          clear hv8 hb8 HA7 HB7
          go_wp2_with fail
          go_meet
          have h3 : Qr = A / D + 1 := by have := unhide HQe; simpa using this
          rw [h3]
          exact unhide H8
        | false =>
          go_wp2_with fail
          go_meet
          have h3 : Qr = A / D := by have := unhide HQe; simpa using this
          rw [h3]
          exact ⟨(unhide H6).1, (unhide H6).2.low⟩
      case rest =>
      go_wp2_with fail
      refine (limbs_any (unhide hcut).1 hQrb.1 hQrb.2).mono ?_
      rintro e' w9 ⟨g, cg, rfl, hcell, hb9⟩
      have HL9 := hide ((unhide hcut).2.trans (hb9.mono (unhide hcut).2.size))
      clear hb9 hcut H6
      go_wp2
      go_ret2
      exact ⟨by rw [unhide HQr]; rfl, unhide HL9⟩
    · have h54 : e = e1 - 1 := by
        rcases unhide hee with h3 | h3
        · exact h3
        · exact absurd h3 hlast
      have Hl := hide (by have h3 := (unhide Hlen).1; rwa [if_neg hlast] at h3 : IsLen (A / D) 54)
      have HBq := hide (bitsN_is (unhide H3).1 (unhide Hq990) (unhide Hl))
      have HE := hide h54
      clear Hlen hlast h54 hee
      go_wp2_with fail
      refine (unhide HBq).mono ?_
      rintro e' w4 ⟨rfl, hw4⟩
      obtain rfl := hw4.symm
      clear HBq
      go_wp2
      go_roundw
      case rel => exact ⟨e + 1, rfl, .inr (by have := unhide HE; omega), (unhide H3).2.2.2⟩
      case measure => have := unhide HE; simp [intOf]; omega
end Go.Proofs.Ytlajalfdcfkmpaa

/- What quaverref02's nearest answers of 0. -/
namespace Go.Proofs.Ytlajalfdcfkmpaa
open Go.RowKit Go.Maps

set_option maxRecDepth 100000 in
set_option maxHeartbeats 2000000 in
theorem near_zero {v : Value} {t : Nat} {w : World} (h : QA w v 0 t) :
    Calls Try.prog 70 #[v, .int .i64 53, .int .i64 (-1074)] w fun e w' => e = .returned (.tuple #[.int .u64 0, .int .i64 (-54)]) ∧ Below w.heap.size w w' := by
  obtain ⟨a1, n1, c1, a2, n2, c2, rfl⟩ := h.form
  obtain ⟨vN, vD, eQ, nN, nD, hl⟩ := h
  obtain ⟨rfl, rfl⟩ : Value.slice a1 n1 c1 = vN ∧ Value.slice a2 n2 c2 = vD := by
    injection eQ with e; simpa using e
  obtain rfl : t = 0 := by
    rcases hl with h | h
    · exact h
    · cases h
  rw [Int.natAbs_zero] at nN
  rw [Nat.pow_zero] at nD
  obtain ⟨s, hs⟩ : ∃ s, decide ((0 : Int) < 0) = s := ⟨_, rfl⟩
  rw [hs]
  have hX0 := NX.mk (w0 := w) (Joins.below_alloc1 w (Obj.cells #[.bool s, .slice a1 n1 c1, .slice a2 n2 c2] 68)) Blk.alloc (nN.below (Joins.below_alloc1 _ _)) (nD.below (Joins.below_alloc1 _ _))
  obtain ⟨W, hW⟩ : ∃ W, W = w.alloc (Obj.cells #[.bool s, .slice a1 n1 c1, .slice a2 n2 c2] 68) := ⟨_, rfl⟩
  rw [← hW] at hX0
  have l0 : IsLen 0 0 := .inl ⟨rfl, rfl⟩
  have l1 : IsLen 1 1 := IsLen.pow 0
  have b0 : (0 : Nat) < 4294967296 ^ 990 := lt990 (by decide)
  have b1 : (1 : Nat) < 4294967296 ^ 990 := lt990 (by decide)
  have HB1 := hide (fun n => bitsN_is (w := W.drewN n) (hX0.n.still (still_drewN _ _)) b0 l0)
  have HB2 := hide (fun n => bitsN_is (w := W.drewN n) (hX0.d.still (still_drewN _ _)) b1 l1)
  have HX := hide hX0
  have HL := hide (And.intro l0 (And.intro b0 b1))
  have hcN := hX0.blk.cell 1 rfl
  have hcD := hX0.blk.cell 2 rfl
  clear hX0 nN nD eQ hs l0 l1 b0 b1
  go_enter Try.func70, Try.ntmps70
  go_upto_region 1 with fail
  rw [← hW]
  clear hW
  go_quiet (first | (go_at_call_of 73 (Value.slice a1 n1 c1); exact Calls.quiet_of_same (unhide HB1 _)) | (go_at_call_of 73 (Value.slice a2 n2 c2); exact Calls.quiet_of_same (unhide HB2 _)))
  obtain ⟨W1, hW1⟩ : ∃ W1, W1 = W.drewN nq := ⟨_, rfl⟩
  rw [← hW1]
  have HX1 := hide ((unhide HX).later (by rw [hW1]; exact Joins.below_draws _ _ _ : Below W.heap.size W W1))
  clear hW1 HX HB1 HB2 hcN hcD
  go_wp2_with fail
  go_loopw [8] (fun ev wr => ev = .int .i64 (-54) ∧ Hid (NX w #[.bool s, .slice a1 n1 c1, .slice a2 n2 c2] (.slice a1 n1 c1) (.slice a2 n2 c2) 0 1 wr)) (fun _ _ => 0)
  case atStart => exact ⟨rfl, HX1⟩
  case round =>
    obtain ⟨rfl, hX⟩ := hrel
    clear HX1
    have hcN := (unhide hX).blk.cell 1 rfl
    have hcD := (unhide hX).blk.cell 2 rfl
    go_wp2_with fail
    go_quiet (fail)
    obtain ⟨w2, hw2⟩ : ∃ w2, w2 = wr.drewN nq := ⟨_, rfl⟩
    rw [← hw2]
    have HX2 := hide ((unhide hX).later (by rw [hw2]; exact Joins.below_draws _ _ _ : Below wr.heap.size wr w2))
    clear hw2 hX hcN hcD
    go_wp2_with fail
    refine (shlN_b (unhide HX2).n (unhide HL).2.1 54 (by omega)).mono ?_
    rintro e' w3 ⟨v3, rfl, hv3, hb3⟩
    rw [Nat.zero_mul] at hv3
    have HX3 := hide ((unhide HX2).later hb3)
    have HDiv := hide (div_b hv3 (unhide HX3).d (unhide HL).2.1 Nat.one_pos (unhide HL).2.2)
    clear hv3 hb3 HX2
    go_wp2_with fail
    refine (unhide HDiv).mono ?_
    rintro e' w4 ⟨vq, vr, rfl, hq, hr, hb4⟩
    rw [Nat.zero_div] at hq
    rw [Nat.zero_mod] at hr
    have HX4 := hide ((unhide HX3).later hb4)
    have HQ4 := hide (And.intro hq hr)
    obtain ⟨aq, nq', cq, hvq, fq⟩ := hq.form
    subst hvq
    obtain rfl : nq' = 0 := fq.2 rfl
    have HBq := hide (bitsN_is hq (unhide HL).2.1 (unhide HL).1)
    clear hq hr hb4 HDiv HX3 fq
    go_wp2_with fail
    refine (unhide HBq).mono ?_
    rintro e' w5 ⟨rfl, hw5⟩
    obtain rfl := hw5.symm
    clear HBq
    go_wp2_with fail
    refine (shlN_b (unhide HQ4).2 (unhide HL).2.1 1 (by omega)).mono ?_
    rintro e' w6 ⟨v6, rfl, hv6, hb6⟩
    rw [Nat.zero_mul] at hv6
    have HX6 := hide ((unhide HX4).later hb6)
    have HQ6 := hide ((unhide HQ4).1.below hb6)
    have HC := hide (cmp_b hv6 (unhide HX6).d (unhide HL).2.1 (unhide HL).2.2)
    clear hv6 hb6 HX4 HQ4
    go_wp2_with fail
    refine (unhide HC).mono ?_
    rintro e' w7 ⟨rfl, hs7⟩
    rw [cmpI_lt (by decide)]
    have HX7 := hide ((unhide HX6).later (hs7 _))
    have HLm := hide (limbs_zero ((unhide HQ6).below (hs7 _)))
    clear hs7 HC HX6 HQ6
    go_wp2_with fail
    refine (unhide HLm).mono ?_
    rintro e' w8 ⟨rfl, hb8⟩
    have HX8 := hide ((unhide HX7).later hb8).low
    clear hb8 HLm HX7
    go_wp2
    go_ret2
    exact ⟨rfl, unhide HX8⟩
end Go.Proofs.Ytlajalfdcfkmpaa

/- pattern, Near64 and DocBack. -/
namespace Go.Proofs.Ytlajalfdcfkmpaa
open Go.RowKit Go.Maps

set_option maxRecDepth 100000 in
set_option maxHeartbeats 2000000 in
theorem pat_walk {s : Bool} {a1 a2 : Option Addr} {n1 c1 n2 c2 : Nat} {m : Nat} {e : Int} (w : World) (hm : 4503599627370496 ≤ m ∧ m ≤ 9007199254740992) (he : -84 ≤ e ∧ e ≤ 11)
    (Hn : Hid (∀ w', Below w.heap.size w w' → Calls Try.prog 70 #[.agg #[.bool s, .slice a1 n1 c1, .slice a2 n2 c2], .int .i64 53, .int .i64 (-1074)] w' fun e' w'' => e' = .returned (.tuple #[.int .u64 (m : Nat), .int .i64 e]) ∧ Below w'.heap.size w' w'')) :
    Calls Try.prog 59 #[.agg #[.bool s, .slice a1 n1 c1, .slice a2 n2 c2], .int .i64 53, .int .i64 (-1074), .int .i64 2047] w fun e' w' => e' = .returned (.tuple #[.int .u64 (((e + 1074).toNat * 4503599627370496 + m : Nat) : Int), .bool true]) ∧ Below w.heap.size w w' := by
  obtain ⟨Z, hZ⟩ : ∃ Z : Int, Z = m := ⟨_, rfl⟩
  obtain ⟨R, hR⟩ : ∃ R : Int, R = (((e + 1074).toNat * 4503599627370496 + m : Nat) : Int) := ⟨_, rfl⟩
  rw [← hZ] at Hn
  rw [← hR]
  have HZ := hide (And.intro hZ hR)
  have z0 : 4503599627370496 ≤ Z := by omega
  have z1 : Z ≤ 9007199254740992 := by omega
  clear hZ hR hm
  have hb1 := Joins.below_alloc1 w (Obj.cells #[.bool s, .slice a1 n1 c1, .slice a2 n2 c2] 68)
  have HB := hide hb1
  clear hb1
  go_enter Try.func59, Try.ntmps59
  go_wp2_with fail
  refine (unhide Hn _ (unhide HB)).mono ?_
  rintro e' w2 ⟨rfl, hb2⟩
  have HB2 := hide ((unhide HB).trans (hb2.mono (unhide HB).size))
  clear hb2 HB Hn
  have t1 : ¬ (2047 ≤ e + 1074 + 1) := by omega
  have t2 : ¬ (2047 ≤ e - -1074 + 1) := by omega
  go_wp2_with fail
  go_quiet (fail)
  have hR1 : (e + 1074 + 1) * 4503599627370496 + Z - 4503599627370496 = R := by
    obtain ⟨u1, u2⟩ := unhide HZ
    rw [u2, u1]
    omega
  rw [hR1]
  have r0 : 0 ≤ R := by omega
  have r1 : R / 4503599627370496 < 2047 := by omega
  have r2 : R < 18446744073709551616 := by omega
  have r3 : decide (R / 4503599627370496 < 2047) = true := decide_eq_true r1
  obtain ⟨w3, hw3⟩ : ∃ w3, w3 = w2.drewN nq := ⟨_, rfl⟩
  rw [← hw3]
  have HB3 := hide ((unhide HB2).trans (by rw [hw3]; exact Joins.below_draws _ _ _ : Below w.heap.size w2 w3))
  clear hw3 HB2 hR1 z0 z1 he t1 t2
  go_wp2_with fail
  go_quiet (fail)
  go_wp2
  go_ret2
  exact ⟨rfl, (unhide HB3).trans (Joins.below_draws _ _ _)⟩
set_option maxRecDepth 100000 in
set_option maxHeartbeats 2000000 in
theorem pat_zero {s : Bool} {a1 a2 : Option Addr} {n1 c1 n2 c2 : Nat} {e : Int} (w : World)
    (Hn : Hid (∀ w', Below w.heap.size w w' → Calls Try.prog 70 #[.agg #[.bool s, .slice a1 n1 c1, .slice a2 n2 c2], .int .i64 53, .int .i64 (-1074)] w' fun e' w'' => e' = .returned (.tuple #[.int .u64 0, .int .i64 e]) ∧ Below w'.heap.size w' w'')) :
    Calls Try.prog 59 #[.agg #[.bool s, .slice a1 n1 c1, .slice a2 n2 c2], .int .i64 53, .int .i64 (-1074), .int .i64 2047] w fun e' w' => e' = .returned (.tuple #[.int .u64 0, .bool true]) ∧ Below w.heap.size w w' := by
  have hb1 := Joins.below_alloc1 w (Obj.cells #[.bool s, .slice a1 n1 c1, .slice a2 n2 c2] 68)
  have HB := hide hb1
  clear hb1
  go_enter Try.func59, Try.ntmps59
  go_wp2_with fail
  refine (unhide Hn _ (unhide HB)).mono ?_
  rintro e' w2 ⟨rfl, hb2⟩
  have HB2 := hide ((unhide HB).trans (hb2.mono (unhide HB).size))
  clear hb2 HB Hn
  go_wp2
  go_ret2
  exact ⟨rfl, unhide HB2⟩
set_option maxRecDepth 100000 in
set_option maxHeartbeats 2000000 in
theorem near64_walk {s : Bool} {a1 a2 : Option Addr} {n1 c1 n2 c2 : Nat} {R : Int} (w : World) (hR : 0 ≤ R ∧ R < 9223372036854775808)
    (Hp : Hid (∀ w', Below w.heap.size w w' → Calls Try.prog 59 #[.agg #[.bool s, .slice a1 n1 c1, .slice a2 n2 c2], .int .i64 53, .int .i64 (-1074), .int .i64 2047] w' fun e' w'' => e' = .returned (.tuple #[.int .u64 R, .bool true]) ∧ Below w'.heap.size w' w'')) :
    Calls Try.prog 36 #[.agg #[.bool s, .slice a1 n1 c1, .slice a2 n2 c2]] w fun e' w' => e' = .returned (.tuple #[.float .f64 (putBits s R), .bool true]) ∧ Below w.heap.size w w' := by
  have hy := run_frombits
  have hb1 := Joins.below_alloc1 w (Obj.cells #[.bool s, .slice a1 n1 c1, .slice a2 n2 c2] 68)
  have HB := hide hb1
  have HBl := hide (Blk.alloc (w := w) (cs := #[.bool s, .slice a1 n1 c1, .slice a2 n2 c2]) (t := 68))
  clear hb1
  go_enter Try.func36, Try.ntmps36
  go_wp2_with fail
  refine (unhide Hp _ (unhide HB)).mono ?_
  rintro e' w2 ⟨rfl, hb2⟩
  have HB2 := hide ((unhide HB).trans (hb2.mono (unhide HB).size))
  have c0 := ((unhide HBl).below hb2 (unhide HBl).lt).cell 0 rfl
  clear hb2 HB Hp HBl
  cases s
  · go_wp2
    go_ret2
    refine ⟨?_, unhide HB2⟩
    unfold putBits
    simp
  · go_wp2
    go_ret2
    refine ⟨?_, unhide HB2⟩
    unfold putBits
    simp [Int.add_comm]
end Go.Proofs.Ytlajalfdcfkmpaa

/- What quaverref25's DocBack answers: what Back answers. -/
namespace Go.Proofs.Ytlajalfdcfkmpaa
open Go.RowKit Go.Maps

set_option maxHeartbeats 1000000 in
theorem back_out (n k : Int) (hk : fitsB k = false) (w : World) : Calls Try.prog 13 #[.int .i64 n, .int .i64 k] w fun e w' => e = .returned (.tuple #[.float .f64 0, .int .i64 1]) ∧ w' = w := by
  have Hf := hide (fits_any k)
  rw [hk] at Hf
  clear hk
  go_enter Try.func13, Try.ntmps13
  go_wp2_with fail
  refine (unhide Hf _).mono ?_
  rintro e w' ⟨rfl, rfl⟩
  go_wp2
  go_ret2
  exact ⟨rfl, rfl⟩
set_option maxHeartbeats 1000000 in
theorem docBack_out (n k : Int) (hk : fitsB k = false) (w : World) : Calls Try.prog 14 #[.int .i64 n, .int .i64 k] w fun e w' => e = .returned (.tuple #[.float .f64 0, .int .i64 1]) ∧ Below w.heap.size w w' := by
  have Hf := hide (fits25_any k)
  rw [hk] at Hf
  clear hk
  go_enter Try.func14, Try.ntmps14
  go_wp2_with fail
  refine (unhide Hf _).mono ?_
  rintro e w' ⟨rfl, hw'⟩
  obtain rfl := hw'.symm
  go_wp2
  go_ret2
  exact ⟨rfl, Below.refl _ _⟩
theorem min_inf {E m : Nat} (hE : E ≤ 1085) (hm : m ≤ 9007199254740992) : min (E * 4503599627370496 + m) 9218868437227405312 = E * 4503599627370496 + m := Nat.min_eq_left (by omega)
theorem rung_b {E m : Nat} (hE : E ≤ 1085) (hm : m ≤ 9007199254740992) : 0 ≤ ((E * 4503599627370496 + m : Nat) : Int) ∧ ((E * 4503599627370496 + m : Nat) : Int) < 9223372036854775808 := by omega
/-- The nearest float of a fraction, by Join's rounding. -/
theorem near64_any {v : Value} {z n : Int} {t K : Nat} {w : World} (h : QA w v z t) (hn : i64 n) (htK : t ≤ K) (hK : 1 ≤ K ∧ K ≤ 31) (hz : z * 2 ^ (K - t) = n) :
    Calls Try.prog 36 #[v] w fun e' w' => e' = .returned (.tuple #[.float .f64 (putBits (decide (n < 0)) (joinRung n.natAbs (-(K : Int)))), .bool true]) ∧ Below w.heap.size w w' := by
  have hp : (0 : Int) < 2 ^ (K - t) := Int.pow_pos (by decide)
  have hsgn : decide (z < 0) = decide (n < 0) := by
    rw [← hz]
    by_cases h0 : z < 0
    · rw [decide_eq_true h0, decide_eq_true (Int.mul_neg_of_neg_of_pos h0 hp)]
    · rw [decide_eq_false h0, decide_eq_false (Int.not_lt.2 (Int.mul_nonneg (by omega) (Int.le_of_lt hp)))]
  have hab : z.natAbs * 2 ^ (K - t) = n.natAbs := by rw [← hz, Int.natAbs_mul, two_abs]
  have hq := h
  obtain ⟨a1, n1, c1, a2, n2, c2, rfl⟩ := h.form
  rw [hsgn] at hq ⊢
  unfold i64 at hn
  by_cases h0 : z = 0
  · subst h0
    have hn0 : n = 0 := by rw [← hz, Int.zero_mul]
    subst hn0
    rw [show joinRung (0 : Int).natAbs (-(K : Int)) = 0 by unfold joinRung; rw [if_pos (.inl rfl)]]
    exact near64_walk w (by omega) (hide fun w' hb => pat_zero w' (hide fun w'' hb' => near_zero ((hq.below hb).below hb')))
  · have hN0 : 0 < z.natAbs := by omega
    have hMb : z.natAbs * 2 ^ (K - t) < 18446744073709551616 := by rw [hab]; omega
    have hNb : z.natAbs < 18446744073709551616 := Nat.lt_of_le_of_lt (Nat.le_mul_of_pos_right _ (Nat.two_pow_pos _)) hMb
    have hb := bitLen_bounds z.natAbs hNb
    obtain ⟨L, hLd⟩ : ∃ L, Lib.bitLen z.natAbs = L := ⟨_, rfl⟩
    rw [hLd] at hb
    have hL : IsLen z.natAbs L := .inr ⟨(hb.2 (by omega)).2, (hb.2 (by omega)).1, hb.1⟩
    have hL64 : L ≤ 64 := by
      have h3 := Nat.lt_of_le_of_lt (hb.2 (by omega)).1 hNb
      have h4 := (Nat.pow_lt_pow_iff_right (show 1 < 2 by decide) (m := 64)).1 h3
      omega
    have hL1 : 1 ≤ L := (hb.2 (by omega)).2
    obtain ⟨k1, k2⟩ := near_kept hL hN0 htK hK.2 hMb
    obtain ⟨e1, he1⟩ : ∃ e1 : Int, (L : Int) - t - 53 = e1 := ⟨_, rfl⟩
    obtain ⟨m, hm⟩ : ∃ m, rne (z.natAbs * 2 ^ nA e1) (nC t e1) = m := ⟨_, rfl⟩
    have hmb : 4503599627370496 ≤ m ∧ m ≤ 9007199254740992 := by
      have h3 := near_len (t := t) (B := 53) (e := e1) hL hN0 (by omega) (by omega)
      have h4 := rne_between (z.natAbs * 2 ^ nA e1) (nC t e1)
      rw [hm] at h4
      rcases h3 with ⟨_, h5⟩ | ⟨_, h5, h6⟩
      · cases h5
      · have h7 : 4503599627370496 ≤ z.natAbs * 2 ^ nA e1 / 2 ^ nC t e1 := h5
        have h8 : z.natAbs * 2 ^ nA e1 / 2 ^ nC t e1 < 9007199254740992 := h6
        omega
    have heb : -84 ≤ e1 ∧ e1 ≤ 11 := by omega
    rw [hab, he1] at k1
    rw [hab, he1, hm] at k2
    have hM0 : 0 < n.natAbs := by rw [← hab]; exact Nat.mul_pos hN0 (Nat.two_pow_pos _)
    have hj : joinRung n.natAbs (-(K : Int)) = (e1 + 1074).toNat * 4503599627370496 + m := by
      unfold joinRung
      rw [if_neg (by omega), if_neg (by omega), k1, k2]
      exact min_inf (by omega) hmb.2
    have hRb := rung_b (E := (e1 + 1074).toNat) (m := m) (by omega) hmb.2
    rw [hj]
    have hwalk : ∀ w', Below w.heap.size w w' → Calls Try.prog 59 #[.agg #[.bool (decide (n < 0)), .slice a1 n1 c1, .slice a2 n2 c2], .int .i64 53, .int .i64 (-1074), .int .i64 2047] w' fun e' w'' => e' = .returned (.tuple #[.int .u64 (((e1 + 1074).toNat * 4503599627370496 + m : Nat) : Int), .bool true]) ∧ Below w'.heap.size w' w'' := fun w' hb' => pat_walk w' hmb heb (hide fun w'' hb'' => by
      have h9 := near_any ((hq.below hb').below hb'') hL hN0 hL64 (by omega)
      rw [he1, hm] at h9
      exact h9)
    obtain ⟨R, hR⟩ : ∃ R : Int, (((e1 + 1074).toNat * 4503599627370496 + m : Nat) : Int) = R := ⟨_, rfl⟩
    rw [hR] at hwalk hRb ⊢
    exact near64_walk w hRb (hide hwalk)
set_option maxRecDepth 100000 in
set_option maxHeartbeats 1000000 in
theorem docBack_any (n k : Int) (hn : i64 n) (hk : fitsB k = true) (w : World) :
    Calls Try.prog 14 #[.int .i64 n, .int .i64 k] w fun e w' => e = .returned (.tuple #[.float .f64 (putBits (decide (n < 0)) (joinRung n.natAbs (-k))), .int .i64 0]) ∧ Below w.heap.size w w' := by
  have hk' : 1 ≤ k ∧ k ≤ 31 := by simpa [fitsB] using hk
  obtain ⟨K, rfl⟩ := Int.eq_ofNat_of_zero_le (by omega : 0 ≤ k)
  have Hf := hide (fits25_any (K : Int))
  rw [hk] at Hf
  have HN := hide (num_any n hn)
  have HS := hide (scale_any K (by omega))
  have Hn := hide hn
  clear hk hn
  go_enter Try.func14, Try.ntmps14
  go_wp2_with fail
  refine (unhide Hf _).mono ?_
  rintro e w' ⟨rfl, hw'⟩
  obtain rfl := hw'.symm
  go_wp2_with fail
  refine (unhide HN _).mono ?_
  rintro e w1 ⟨v1, rfl, hq1, hb1⟩
  go_wp2_with fail
  refine (unhide HS _).mono ?_
  rintro e w2 ⟨v2, rfl, hq2, hb2⟩
  have HQ := hide (quoQ_any (k := K) (hq1.below hb2) hq2 rfl rfl (Nat.lt_of_lt_of_le (by have := unhide Hn; unfold i64 at this; omega : n.natAbs < 18446744073709551616) (by have := ble (i := 2) (k := 990) (by omega); exact Nat.le_trans (by decide) this)) (by omega))
  have HB2 := hide (hb1.trans (hb2.mono hb1.size))
  clear hq1 hb1 hq2 hb2 HN HS
  go_wp2_with fail
  refine (unhide HQ).mono ?_
  rintro e w3 ⟨v3, z, t, rfl, hq3, ht3, hz3, hb3⟩
  rw [Nat.zero_add] at ht3 hz3
  have HNe := hide (near64_any hq3 (unhide Hn) ht3 (by omega) hz3)
  have HB3 := hide ((unhide HB2).trans (hb3.mono (unhide HB2).size))
  clear hq3 ht3 hz3 hb3 HQ HB2
  go_wp2_with fail
  refine (unhide HNe).mono ?_
  rintro e w4 ⟨rfl, hb4⟩
  have HB4 := hide ((unhide HB3).trans (hb4.mono (unhide HB3).size))
  clear hb4 HNe HB3
  go_wp2
  go_ret2
  exact ⟨rfl, unhide HB4⟩
end Go.Proofs.Ytlajalfdcfkmpaa
