/- DivN of all numbers. -/
import Derived.Test.YtlajalfdcfkmpaaMdm
import Derived.Test.YtlajalfdcfkmpaaNj
namespace Go.Proofs.Ytlajalfdcfkmpaa
open Go.RowKit Go.Maps

/-- The three rows of a long division: the divisor's, the rest's, the quotient's. -/
structure DX (w0 : World) (gb gr gq n N cb cr : Nat) (db dr dq : Nat → Nat) (w : World) : Prop where
  low : Below w0.heap.size w0 w
  b : w.ownsRow w0.heap.size 22 1 (.slice (some ⟨gb, 0, none⟩) n cb) n (rowU db n)
  r : w.ownsRow w0.heap.size 22 1 (.slice (some ⟨gr, 0, none⟩) (N + n) cr) (N + n) (rowU dr (N + n))
  q : w.ownsRow w0.heap.size 22 1 (.slice (some ⟨gq, 0, none⟩) N N) N (rowU dq N)
  ne : gb ≠ gr ∧ gb ≠ gq ∧ gr ≠ gq
section
variable {w0 w w' : World} {gb gr gq n N cb cr : Nat} {db dr dr' dq : Nat → Nat}
theorem DX.later (h : DX w0 gb gr gq n N cb cr db dr dq w) (hb : Below w.heap.size w w') : DX w0 gb gr gq n N cb cr db dr dq w' :=
  ⟨h.low.trans (hb.mono h.low.size), h.b.kept (belowG hb) (Classical.em _), h.r.kept (belowG hb) (Classical.em _), h.q.kept (belowG hb) (Classical.em _), h.ne⟩
theorem DX.rest (h : DX w0 gb gr gq n N cb cr db dr dq w) (hg : w.grownBy w' (some gr)) (hr : w'.ownsRow w0.heap.size 22 1 (.slice (some ⟨gr, 0, none⟩) (N + n) cr) (N + n) (rowU dr' (N + n))) : DX w0 gb gr gq n N cb cr db dr' dq w' :=
  ⟨h.low.grown hg h.low.size (fun k e => by cases e; exact (h.r.lt gr rfl).1), h.b.kept hg (.inr (by simp [Value.ownBlock]; exact h.ne.1)), hr, h.q.kept hg (.inr (by simp [Value.ownBlock]; exact fun e => h.ne.2.2 e.symm)), h.ne⟩
theorem DX.setQ (h : DX w0 gb gr gq n N cb cr db dr dq w) (k t : Nat) (hk : k < N) : DX w0 gb gr gq n N cb cr db dr (upd dq k t) (w.setCell ⟨gq, k, none⟩ (.int .u64 (t : Nat))) := by
  have hs := h.q.stored k (.int .u64 (t : Nat))
  rw [rowU_set _ _ _ _ hk] at hs
  exact ⟨h.low.grown hs.2 h.low.size (fun k e => by cases e; exact (h.q.lt gq rfl).1), h.b.kept hs.2 (.inr (by simp [Value.ownBlock]; exact h.ne.2.1)), h.r.kept hs.2 (.inr (by simp [Value.ownBlock]; exact h.ne.2.2)), hs.1, h.ne⟩
theorem DX.part (h : DX w0 gb gr gq n N cb cr db dr dq w) (k : Nat) (hk : k < N) : Row w (some ⟨gr, k, none⟩) (n + 1) (fun i => dr (k + i)) := fun i hi =>
  ⟨gr, k, rfl, (h.r.lt gr rfl).2, by rw [h.r.cellAt (k + i) (by omega), rowU_at _ _ _ (by omega)]⟩
end
theorem wrapI {z : Int} {n : Nat} (h : z = (n : Int)) (hn : n < 18446744073709551616) : IntKind.u64.wrap z = (n : Int) := by rw [h]; exact wrapU hn

set_option maxRecDepth 100000 in
set_option maxHeartbeats 4000000 in
theorem div2_any {v1 v2 : Value} {x y : Nat} {w : World} (h1 : NA w v1 x) (h2 : NA w v2 y) (hx : x < 4294967296 ^ 990) (hy : y < 4294967296 ^ 990) (hyB : 4294967296 ≤ y) :
    Calls Try.prog 66 #[v1, v2] w fun e w' => ∃ v v', e = .returned (.tuple #[v, v']) ∧ NA w' v (x / y) ∧ NA w' v' (x % y) ∧ Below w.heap.size w w' := by
  obtain ⟨i0, hi0, hz0, hz1, hz2⟩ := info_parts infoz_u64
  have hx1 : x < 4294967296 ^ 1000 := Nat.lt_of_lt_of_le hx (ble (i := 990) (k := 1000) (by omega))
  have hy1 : y < 4294967296 ^ 1000 := Nat.lt_of_lt_of_le hy (ble (i := 990) (k := 1000) (by omega))
  have HC := hide (cmp_any h1 h2 hx1 hy1)
  have H1 := hide h1
  have H2 := hide h2
  obtain ⟨a2, n2, c2, d2, rfl, k2, r2, g2, hyv⟩ := h2
  have hl2 : n2 ≤ 990 := g2.len (by rw [← hyv]; exact hy)
  have hn2 : 2 ≤ n2 := by
    refine Nat.le_of_not_lt fun h => ?_
    have := g2.ub
    rw [← hyv] at this
    have h3 := ble (show n2 ≤ 1 by omega)
    rw [Nat.pow_one] at h3
    omega
  have HY := hide (And.intro g2.ub (And.intro (g2.lb (by omega)) hyv))
  have HX := hide (And.intro hx (And.intro hx1 hy1))
  clear r2 g2 hyv h1 hx hx1 hy1 hy
  have hn21 : ¬ (n2 : Int) = 1 := by omega
  go_enter Try.func66, Try.ntmps66
  go_wp2_with fail
  refine (unhide HC).mono ?_
  rintro e w' ⟨rfl, hs⟩
  have Hs := hide hs
  clear hs HC
  by_cases hlt : x < y
  · rw [cmpI_lt hlt]
    go_wp2
    refine bodyPost_ret (v := .tuple #[.slice none 0 0, v1]) (by simp [results, Try.results66, go_sem]) rfl ?_
    exact ⟨_, _, rfl, by rw [Nat.div_eq_of_lt hlt]; exact NA.nil _, by rw [Nat.mod_eq_of_lt hlt]; exact (unhide H1).below (unhide Hs _), unhide Hs _⟩
  obtain ⟨C, hC, hC0⟩ : ∃ C, cmpI x y = C ∧ ¬ C < 0 := by
    refine ⟨_, rfl, ?_⟩
    unfold cmpI
    rw [if_neg hlt]
    split <;> omega
  rw [hC]
  clear hC
  go_wp2_with fail
  refine (bitsN_any ((unhide H2).below (unhide Hs _)) (unhide HX).2.2).mono ?_
  rintro e w2 ⟨r, rfl, hlen, hw2⟩
  obtain rfl := hw2.symm
  have hr1 : r ≤ 32 * n2 ∧ 32 * (n2 - 1) < r := by
    rcases hlen with ⟨h0, _⟩ | ⟨h0, h3, h4⟩
    · omega
    · obtain ⟨u1, u2, u3⟩ := unhide HY
      rw [← u3, bpow] at u1 u2
      refine ⟨?_, ?_⟩
      · have := (Nat.pow_lt_pow_iff_right (show 1 < 2 by decide)).1 (Nat.lt_of_le_of_lt h3 u1)
        omega
      · exact (Nat.pow_lt_pow_iff_right (show 1 < 2 by decide)).1 (Nat.lt_of_le_of_lt u2 h4)
  obtain ⟨s, hs⟩ : ∃ s : Nat, s + r = 32 * n2 := ⟨32 * n2 - r, by omega⟩
  have hs31 : s ≤ 31 := by omega
  have hsI : 32 * (n2 : Int) - (r : Int) = (s : Int) := by omega
  clear hlen hr1
  go_wp2_with fail
  refine (shl_own ((unhide H2).below (unhide Hs _)) (unhide HX).2.2 s (by omega)).mono ?_
  rintro e w3 ⟨vb, rfl, ⟨n, db, hownb, hdb, hvb⟩, hb3⟩
  have HB3 := hide ((unhide Hs w.heap.size).trans (hb3.mono (unhide Hs w.heap.size).size))
  have HOb := hide (Joins.ownsRow_le hownb (unhide Hs w.heap.size).size)
  have HDb := hide (And.intro hdb hvb)
  clear hownb hdb hvb hb3 Hs hs hsI
  go_wp2_with fail
  refine (shl_own ((unhide H1).below (unhide HB3)) (unhide HX).2.1 s (by omega)).mono ?_
  rintro e w4 ⟨va, rfl, ⟨nx, dx, hownx, hdx, hvx⟩, hb4⟩
  have hnx : nx ≤ 991 := hdx.len (by
    rw [← hvx]
    exact mul_kk (k := 990) (m := 991) (unhide HX).1 (Nat.lt_of_le_of_lt (pow31 hs31) (by decide)) (by omega))
  have hbs := hb4.size
  have HB4 := hide (hb4.trans (Joins.below_alloc1 w4 (Obj.cells #[.int .u64 0] 22) |>.mono hb4.size))
  have HOx := hide (hownx.alloc (Obj.cells #[.int .u64 0] 22))
  have HDx := hide (And.intro hdx hvx)
  have HxL := hide (fun kk e => (hownx.lt kk e))
  have hnews : Hid (∀ j u, [Value.int .u64 0][j]? = some u → (w4.alloc (Obj.cells #[.int .u64 0] 22)).cell? ((⟨w4.heap.size, 0, none⟩ : Addr).add j) = some u) := hide (cell_one_new w4 _ _)
  have hbase : Hid (w3.heap.size ≤ (w4.alloc (Obj.cells #[.int .u64 0] 22)).heap.size) := hide (by simp; omega)
  have hH : Hid ((w4.alloc (Obj.cells #[.int .u64 0] 22)).heap.size = w4.heap.size + 1) := hide (by simp)
  clear hownx hdx hvx hb4
  go_upto_region 8 with (first
    | (at_builtin; refine wpList_append_lies _ rfl (.tmp 39) (.tmp 40) 66 rfl w3.heap.size 22 i0 (.int .u64 0) 1 8 Try.underlying66 hi0 hz0 hz1 hz2 rfl Nat.one_pos va nx (rowU dx nx) rfl HOx.out ⟨w4.heap.size, 0, none⟩ 1 1 [.int .u64 0] rfl rfl hnews.out (rowU_one _) Nat.one_pos (by unfold maxLen; omega) (by omega) hbase.out (w4.heap.size + 1) hH.out ?_; intro gr cr w5 hown5 hg5 hat5 hlt5)
    | fail)
  have hd0 : dx nx = 0 := (unhide HDx).1.out nx (Nat.le_refl _)
  rw [show rowU dx nx ++ [.int .u64 0] = rowU dx (nx + 1) by rw [← rowU_app, hd0]; rfl] at hown5
  have hb35 : Below w3.heap.size w3 w5 := (unhide HB4).grown hg5 (by have := unhide hbase; exact this) (fun kk e => (unhide HxL kk e).1)
  have HB5 := hide ((unhide HB3).trans (hb35.mono (unhide HB3).size))
  have HOb5 := hide ((unhide HOb).kept (belowG hb35) (Classical.em _))
  have hgr3 : w3.heap.size ≤ gr := (hown5.lt gr rfl).1
  have HOr := hide (Joins.ownsRow_le hown5 (unhide HB3).size)
  have hnn : n ≤ nx := by
    refine Nat.le_of_not_lt fun h => ?_
    have h3 := (unhide HDx).1.shorter (unhide HDb).1 h
    rw [← (unhide HDx).2, ← (unhide HDb).2] at h3
    have := Nat.lt_of_mul_lt_mul_right h3
    omega
  have hn0 : 0 < n := by
    rcases Nat.eq_zero_or_pos n with h | h
    · exfalso
      subst h
      have h3 := (unhide HDb).2
      have h4 : 0 < y * 2 ^ s := Nat.mul_pos (by omega) (Nat.two_pow_pos s)
      rw [show vp db 0 = 0 from rfl] at h3
      omega
    · exact h
  obtain ⟨gb, cb, hvb⟩ := Joins.ownsRow_form (unhide HOb) (by omega)
  subst hvb
  have hgb3 : gb < w3.heap.size := ((unhide HOb).lt gb rfl).2
  obtain ⟨N, hN⟩ : ∃ N : Nat, N + n = nx + 1 := ⟨nx + 1 - n, by omega⟩
  have hNI : (N : Int) + (n : Int) - (n : Int) = (N : Int) := by omega
  rw [← hN] at HOr ⊢
  have hNb : N ≤ 991 := by omega
  have hN0 : 0 < N := by omega
  have hbase5 : Hid (w.heap.size ≤ w5.heap.size) := hide (unhide HB5).size
  clear hown5 hg5 hat5 hlt5 hb35 HB4 HOx HxL hnews hbase hH HOb HB3
  have LD0 := hide (LD.start (N := N) (n := n) (y := y * 2 ^ s) hn0 (unhide HDx).1.lt (by rw [hN]; exact hd0) (by rw [(unhide HDb).2]; exact (unhide HDb).1.lb hn0) hN0)
  rw [show vp dx (N + n) = x * 2 ^ s by rw [hN]; show vp dx nx + dx nx * _ = _; rw [hd0, Nat.zero_mul, Nat.add_zero, ← (unhide HDx).2]] at LD0
  clear hd0 hN
  go_upto_region 10 with (first
    | (refine wpList_make_full _ rfl _ _ 66 rfl w.heap.size 22 i0 (.int .u64 0) 1 Try.underlying66 hi0 hz0 hz1 .i64 .i64 _ _ N rfl rfl rfl rfl (by rw [hz2]; omega) (by unfold maxLen; omega) (unhide hbase5) ?_; intro w6 hown6 hg6)
    | fail)
  rw [show (madeCells (Value.int IntKind.u64 0).cells (N * 1)).toList = rowU (fun _ => 0) N by rw [← rowU_zero, Nat.mul_one]; exact toList_madeCells_one _ _] at hown6
  obtain ⟨gq, hgq⟩ : ∃ gq, gq = w5.heap.size := ⟨_, rfl⟩
  rw [← hgq] at hown6 ⊢
  have hgrl : gr < w5.heap.size := ((unhide HOr).lt gr rfl).2
  have DX0 := hide (DX.mk ((unhide HB5).grown hg6 (unhide HB5).size (fun _ e => by cases e)) ((unhide HOb5).kept hg6 (Classical.em _)) ((unhide HOr).kept hg6 (Classical.em _)) hown6 ⟨by omega, by omega, by omega⟩)
  clear hown6 hg6 hgq hgrl HOb5 HOr HB5 hbase5 hgr3 hgb3 hbs
  obtain ⟨Y, hY⟩ : ∃ Y, y * 2 ^ s = Y := ⟨_, rfl⟩
  obtain ⟨X, hX⟩ : ∃ X, x * 2 ^ s = X := ⟨_, rfl⟩
  rw [hY, hX] at LD0
  have hYn : Hid (Y < 4294967296 ^ n) := by show Y < _; rw [← hY, (unhide HDb).2]; exact (unhide HDb).1.ub
  have hY0 : Hid (0 < Y) := by show 0 < Y; rw [← hY]; exact Nat.mul_pos (by omega) (Nat.two_pow_pos s)
  have hYt : Hid (db (n - 1) * 4294967296 ^ (n - 1) ≤ Y) := by
    show _ ≤ Y
    rw [← hY, (unhide HDb).2]
    obtain ⟨m, rfl⟩ : ∃ m, n = m + 1 := ⟨n - 1, by omega⟩
    simp only [Nat.add_sub_cancel]
    show _ ≤ vp db m + db m * 4294967296 ^ m
    omega
  have hY998 : Hid (Y < 4294967296 ^ 998) := Nat.lt_of_lt_of_le (unhide hYn) (ble (i := n) (k := 998) (by omega))
  obtain ⟨Bn, hBn⟩ : ∃ Bn, db (n - 1) = Bn := ⟨_, rfl⟩
  have hBn0 : 0 < Bn := by rw [← hBn]; exact Nat.pos_of_ne_zero ((unhide HDb).1.last hn0)
  have hBnb : Bn < 4294967296 := by rw [← hBn]; exact (unhide HDb).1.lt _
  have HXY := hide (And.intro hX (And.intro hY hBn))
  have HNb : Hid (∀ (wq : World) (dr dq : Nat → Nat), DX w gb gr gq n N cb cr db dr dq wq → NA wq (.slice (some ⟨gb, 0, none⟩) n cb) Y) := fun wq dr dq h => OwnN.na ⟨n, db, h.b, (unhide HDb).1, by rw [← hY]; exact (unhide HDb).2⟩
  clear hX hY hBn
  go_wp2_with fail
  go_loopw [10] (fun jv wr => ∃ (k : Nat) (dr dq : Nat → Nat), jv = .int .i64 ((k : Int) - 1) ∧ k ≤ N ∧ Hid (LD n N k Y X dr dq) ∧ Hid (DX w gb gr gq n N cb cr db dr dq wr)) (fun jv _ => (intOf jv + 1).toNat)
  case atStart => exact ⟨N, dx, fun _ => 0, rfl, Nat.le_refl _, LD0, DX0⟩
  case round =>
    obtain ⟨k1, dr, dq, rfl, hk1, hLD, hDX⟩ := hrel
    clear LD0 DX0
    by_cases hk0 : k1 = 0
    · subst hk0
      as_aux_lemma =>
      obtain ⟨a1, a2'⟩ := (unhide hLD).done (unhide hY0)
      have HA := hide (And.intro a1 a2')
      clear a1 a2'
      obtain ⟨adq, capq, hvq, hcq, hrq⟩ := Row_own (unhide hDX).q
      cases hvq
      obtain ⟨adr, capr, hvr, hcr, hrr⟩ := Row_own (unhide hDX).r
      cases hvr
      have HRq := hide hrq
      have HRr := hide hrr
      clear hrq hrr
      go_wp2_with fail
      refine (norm_any _ N N dq _ (Nat.le_refl _) (by omega) (unhide HRq)).mono ?_
      rintro e w8 ⟨m, hm, rfl, hz, hl, hw8⟩
      obtain rfl := hw8.symm
      have HNq := hide (NA.norm hcq (unhide HRq) (fun j _ => (unhide hLD).ql j) hm hz hl)
      clear hz hl HRq
      go_wp2_with fail
      refine (norm_any _ (N + n) cr dr _ hcr (by omega) (unhide HRr)).mono ?_
      rintro e w9 ⟨m', hm', rfl, hz, hl, hw9⟩
      obtain rfl := hw9.symm
      have HNr := hide (NA.norm hcr (unhide HRr) (fun j _ => (unhide hLD).lt j) hm' hz hl)
      clear hz hl HRr
      go_wp2_with fail
      refine (shr_any (unhide HNr) (Nat.lt_of_lt_of_le (by have h3 := (unhide hLD).less; rw [Nat.pow_zero, Nat.mul_one] at h3; exact Nat.lt_trans h3 (unhide hYn) : vp dr (N + n) < 4294967296 ^ n) (ble (i := n) (k := 1000) (by omega))) s hs31).mono ?_
      rintro e w10 ⟨v, rfl, hv, hb10⟩
      have HV := hide (And.intro hv hb10)
      clear hv hb10
      go_wp2
      refine bodyPost_ret (v := .tuple #[.slice (some ⟨gq, 0, none⟩) m N, v]) (by simp [results, Try.results66, go_sem]) rfl ?_
      have hp2 := Nat.two_pow_pos s
      refine ⟨_, _, rfl, ?_, ?_, (unhide hDX).low.trans ((unhide HV).2.mono (unhide hDX).low.size)⟩
      · have h3 := (unhide HNq).below (unhide HV).2
        rw [(unhide HA).1, ← (unhide HXY).1, ← (unhide HXY).2.1, Nat.mul_div_mul_right _ _ hp2] at h3
        exact h3
      · have h3 := (unhide HV).1
        rw [(unhide HA).2, ← (unhide HXY).1, ← (unhide HXY).2.1, Nat.mul_mod_mul_right, Nat.mul_div_cancel _ hp2] at h3
        exact h3
    · obtain ⟨k, rfl⟩ : ∃ k, k1 = k + 1 := ⟨k1 - 1, by omega⟩
      obtain ⟨P, hP⟩ : ∃ P, vp (fun i => dr (k + i)) (n + 1) = P := ⟨_, rfl⟩
      obtain ⟨D1, hD1⟩ : ∃ D, dr (k + n) = D := ⟨_, rfl⟩
      obtain ⟨D2, hD2⟩ : ∃ D, dr (k + n - 1) = D := ⟨_, rfl⟩
      have hD1b : D1 < 4294967296 := by rw [← hD1]; exact (unhide hLD).lt _
      have hD2b : D2 < 4294967296 := by rw [← hD2]; exact (unhide hLD).lt _
      have hqs : Hid (P / Y < 4294967296) := by show P / Y < _; rw [← hP]; exact (unhide hLD).digit (unhide hYn) (by omega) hn0 (unhide hY0)
      have htry : Hid (P / Y ≤ (D1 * 4294967296 + D2) / Bn) := by
        show P / Y ≤ _
        rw [← hP, ← (unhide HXY).2.2, ← hD1, ← hD2, show k + n - 1 = k + (n - 1) by omega]
        exact first_try (e := fun i => dr (k + i)) (fun i => (unhide hLD).lt _) hn0 (unhide hYt) (by rw [(unhide HXY).2.2]; exact hBn0)
      have c1 : wr.cell? ⟨gr, k + n, none⟩ = some (.int .u64 (D1 : Nat)) := by rw [(unhide hDX).r.cellAt (k + n) (by omega), rowU_at _ _ _ (by omega), hD1]
      have c2 : wr.cell? ⟨gr, k + n - 1, none⟩ = some (.int .u64 (D2 : Nat)) := by rw [(unhide hDX).r.cellAt (k + n - 1) (by omega), rowU_at _ _ _ (by omega), hD2]
      have i0' : ((k + 1 : Nat) : Int) - 1 = (k : Int) := by omega
      rw [i0']
      have i1 : ((k : Int) + (n : Int)).toNat = k + n := by omega
      have i2 : ((k : Int) + (n : Int) - 1).toNat = k + n - 1 := by omega
      have i3 : (k : Int) + (n : Int) < (N : Int) + (n : Int) := by omega
      have i4 : (0 : Int) ≤ (k : Int) + (n : Int) - 1 := by omega
      have i5 : (k : Int) + (n : Int) - 1 < (N : Int) + (n : Int) := by omega
      obtain ⟨M, hM⟩ : ∃ M : Nat, D1 * 4294967296 = M := ⟨_, rfl⟩
      obtain ⟨T, hT⟩ : ∃ T : Nat, M + D2 = T := ⟨_, rfl⟩
      have m1 : IntKind.u64.wrap ((D1 : Int) * 4294967296) = (M : Int) := wrapI (by omega) (by omega)
      have m2 : IntKind.u64.wrap ((M : Int) + (D2 : Int)) = (T : Int) := wrapI (by omega) (by omega)
      have m3 : (D1 : Int) * 4294967296 = (M : Int) := by omega
      have m4 : (M : Int) + (D2 : Int) = (T : Int) := by omega
      have hTb : T < 18446744073709551616 := by omega
      rw [hM, hT] at htry
      have HK := hide (And.intro hP (And.intro hD1 hD2))
      clear hP hD1 hD2 hM hT i0'
      go_wp2_with fail
      go_quiet (fail)
      obtain ⟨w7, hw7⟩ : ∃ w7, w7 = wr.drewN nq := ⟨_, rfl⟩
      rw [← hw7]
      have HDX7 := hide ((unhide hDX).later (by rw [hw7]; exact Joins.below_draws _ _ _ : Below wr.heap.size wr w7))
      clear hw7 hDX c1 c2 i1 i2 i3 i4 i5 m1 m2 m3 m4
      obtain ⟨U, hU⟩ : ∃ U : Nat, T / Bn = U := ⟨_, rfl⟩
      have hUb : U < 18446744073709551616 := by rw [← hU]; exact Nat.lt_of_le_of_lt (Nat.div_le_self _ _) hTb
      have e1 : (T : Int) / (Bn : Int) = (U : Int) := by rw [← hU]; rfl
      have hB1 : ¬ (Bn : Int) = 0 := by omega
      have c3 : w7.cell? ⟨gb, n - 1, none⟩ = some (.int .u64 (Bn : Nat)) := by rw [(unhide HDX7).b.cellAt (n - 1) (by omega), rowU_at _ _ _ (by omega), (unhide HXY).2.2]
      have j1 : ((n : Int) - 1).toNat = n - 1 := by omega
      have j2 : (0 : Int) ≤ (n : Int) - 1 := by omega
      have j3 : (n : Int) - 1 < (n : Int) := by omega
      obtain ⟨t0, ht0⟩ : ∃ t0 : Nat, min U 4294967295 = t0 := ⟨_, rfl⟩
      have HT0 : Hid (P / Y ≤ t0 ∧ t0 < 4294967296) := by
        show _ ∧ _
        have h3 := unhide htry
        have h4 := unhide hqs
        rw [hU] at h3
        omega
      rw [hU] at htry
      clear hU hqs htry
      go_upto_region 14 with fail
      go_cut [12] (fun v wx => v = .int .u64 (t0 : Nat) ∧ w7 = wx)
      case first =>
        by_cases hmin : (U : Int) ≤ 4294967295
        · have : t0 = U := by omega
          go_wp2_with fail
          go_meet
          exact ⟨by rw [this], rfl⟩
        · have : t0 = 4294967295 := by omega
          go_wp2_with fail
          go_meet
          exact ⟨by rw [this]; rfl, rfl⟩
      case rest =>
      obtain ⟨rfl, rfl⟩ := hcut
      have hcr : N + n ≤ cr := by
        rcases (unhide HDX7).r.2 with ⟨h3, _⟩ | ⟨g', cap', cur, h3, _, _, h4, _⟩
        · cases h3
        · simp only [Value.slice.injEq, true_and] at h3
          obtain ⟨_, rfl⟩ := h3
          exact h4
      have s1 : (k : Int) + (n : Int) + 1 ≤ (cr : Int) := by omega
      have s2 : (k : Int) ≤ (k : Int) + (n : Int) + 1 := by omega
      have s3 : ¬ (k : Int) = (cr : Int) := by omega
      have s4 : ¬ cr = k := by omega
      have s5 : ¬ cr ≤ k := by omega
      clear c3 e1 hB1 j1 j2 j3
      obtain ⟨Qs, hQs⟩ : ∃ Qs, P / Y = Qs := ⟨_, rfl⟩
      rw [hQs] at HT0
      have HQs := hide hQs
      clear hQs
      go_upto_block 2 with fail
      go_cut [12] (fun v wx => v = .int .u64 (Qs : Nat) ∧ Hid (DX w gb gr gq n N cb cr db dr dq wx))
      case first =>
        go_wp2_with fail
        go_loopw [12] (fun tv wq => ∃ t : Nat, tv = .int .u64 (t : Nat) ∧ t < 4294967296 ∧ Hid (Qs ≤ t) ∧ Hid (DX w gb gr gq n N cb cr db dr dq wq)) (fun tv _ => (intOf tv).toNat)
        case atStart => exact ⟨t0, rfl, (unhide HT0).2, (unhide HT0).1, HDX7⟩
        case round =>
          obtain ⟨t, rfl, htb, hQt, hDX⟩ := hrel
          clear HDX7
          by_cases ht : t = 0
          · subst ht
            go_wp2_with fail
            go_meet
            exact ⟨by rw [show Qs = 0 by have := unhide hQt; omega], hDX⟩
          · have t1 : (0 : Int) < (t : Int) := by omega
            have t2 : decide (0 < t) = true := decide_eq_true (by omega)
            go_wp2_with fail
            rw [show k + n + 1 - k = n + 1 by omega]
            refine (overN_any (by omega) (by omega) ((unhide hDX).part k (by omega)) (fun i _ => (unhide hLD).lt _) (unhide HNb _ _ _ (unhide hDX)) (unhide hY998) htb).mono ?_
            rintro e w8 ⟨rfl, hb8⟩
            have HDX8 := hide ((unhide hDX).later hb8)
            clear hb8 hDX
            rw [(unhide HK).1]
            by_cases hov : P < Y * t
            · have ho : decide (P < Y * t) = true := decide_eq_true hov
              rw [ho]
              have hlt1 : Qs ≤ t - 1 := by
                have h3 : Qs < t := by
                  rw [← unhide HQs, Nat.div_lt_iff_lt_mul (unhide hY0), Nat.mul_comm]
                  exact hov
                omega
              have HQ1 := hide hlt1
              clear hov ho hlt1
              have t3 : (t : Int) - 1 = ((t - 1 : Nat) : Int) := by omega
              obtain ⟨t', ht'⟩ : ∃ t', t - 1 = t' := ⟨_, rfl⟩
              rw [ht'] at t3 HQ1
              have t4 : IntKind.u64.wrap ((t : Int) - 1) = (t' : Int) := wrapI t3 (by omega)
              clear hQt
              go_wp2
              go_roundw
              case rel => exact ⟨t', rfl, by omega, HQ1, HDX8⟩
              case measure => simp [intOf]; omega
            · have ho : decide (P < Y * t) = false := decide_eq_false hov
              rw [ho]
              have hQe : Qs = t := by
                have h3 : t ≤ Qs := by
                  rw [← unhide HQs, Nat.le_div_iff_mul_le (unhide hY0), Nat.mul_comm]
                  omega
                have h4 := unhide hQt
                omega
              clear hov ho hQt
              go_wp2_with fail
              go_meet
              exact ⟨by rw [hQe], HDX8⟩
      case rest =>
      obtain ⟨rfl, hDX⟩ := hcut
      clear HDX7 HT0
      go_wp2_with fail
      rw [show k + n + 1 - k = n + 1 by omega]
      refine (takeN_any (j := k) (n := n + 1) (unhide hDX).r (by omega) (by omega) (by omega) (by omega) (unhide hLD).lt (unhide HNb _ _ _ (unhide hDX)) (unhide hY998) (by rw [← unhide HQs, ← (unhide HK).1]; exact (unhide hLD).digit (unhide hYn) (by omega) hn0 (unhide hY0)) (by rw [← unhide HQs, ← (unhide HK).1]; exact Nat.mul_div_le _ _)).mono ?_
      rintro e w9 ⟨rfl, dl, hdl, hvl, hown9, hg9⟩
      have HDX9 := hide ((unhide hDX).rest hg9 hown9)
      have HLD9 := hide ((unhide hLD).step (unhide hYn) (by omega) hn0 (unhide hY0) (t := Qs) (by rw [← unhide HQs, ← (unhide HK).1]) hdl hvl)
      have p0 : w9.cell? ⟨gq, k, none⟩ = some (.int .u64 (dq k : Nat)) := by rw [(unhide HDX9).q.cellAt k (by omega), rowU_at _ _ _ (by omega)]
      have p1 : w9.frozen? ⟨gq, k, none⟩ = false := (unhide HDX9).q.frozenAt k
      have q1 : (k : Int) < (N : Int) := by omega
      clear hdl hvl hown9 hg9 hDX hLD
      go_wp2
      go_roundw
      case rel => exact ⟨k, tk dr dl k (n + 1), upd dq k Qs, rfl, by omega, HLD9, (unhide HDX9).setQ k Qs (by omega)⟩
      case measure => simp [intOf]
theorem divN_any {v1 v2 : Value} {x y : Nat} {w : World} (h1 : NA w v1 x) (h2 : NA w v2 y) (hx : x < 4294967296 ^ 990) (hy : y < 4294967296 ^ 990) (hy0 : 0 < y) :
    Calls Try.prog 66 #[v1, v2] w fun e w' => ∃ v v', e = .returned (.tuple #[v, v']) ∧ NA w' v (x / y) ∧ NA w' v' (x % y) ∧ Below w.heap.size w w' := by
  by_cases h : y < 4294967296
  · exact div1_any h1 h2 (Nat.lt_of_lt_of_le hx (ble (i := 990) (k := 1000) (by omega))) hy0 h
  · exact div2_any h1 h2 hx hy (by omega)
end Go.Proofs.Ytlajalfdcfkmpaa
