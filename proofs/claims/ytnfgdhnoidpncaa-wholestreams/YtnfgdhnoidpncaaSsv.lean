/- All that a stream is, as bytes: what its Save does. -/
import Derived.Test.YtnfgdhnoidpncaaSwr
import Derived.Deep.RegionLawGrows
import Derived.Lib.SlBytesConst
namespace Go.Proofs.Ytnfgdhnoidpncaa
open Go.RowKit

section
variable (n : Nat) (G : C2) (sec : Nat → Sec) (g : Gu) (st : Nat → C2 × C2) (t c : Nat)
theorem svB_at (q i : Nat) (hi : i < 8) : svB n G sec g st t c (6 + 8 * q + i) = be8 (svN n G sec st t c q) i := by
  unfold svB
  rw [if_neg (by omega), if_neg (by omega), if_neg (by omega), if_neg (by omega), if_neg (by omega), if_neg (by omega), show (6 + 8 * q + i - 6) / 8 = q by omega, show (6 + 8 * q + i - 6) % 8 = i by omega]
theorem svN_gain : svN n G sec st t c 0 = cbits G.1 ∧ svN n G sec st t c 1 = cbits G.2 := ⟨rfl, rfl⟩
/-- The part r of ten of a section. -/
def secP (s : Sec) (r : Nat) : Option Nat := if r = 0 then s.b0.1 else if r = 1 then s.b0.2 else if r = 2 then s.b1.1 else if r = 3 then s.b1.2 else if r = 4 then s.b2.1 else if r = 5 then s.b2.2 else if r = 6 then s.a1.1 else if r = 7 then s.a1.2 else if r = 8 then s.a2.1 else s.a2.2
def stP (z : C2 × C2) (r : Nat) : Option Nat := if r = 0 then z.1.1 else if r = 1 then z.1.2 else if r = 2 then z.2.1 else z.2.2
theorem svN_sec (k r : Nat) (hk : k < n) (hr : r < 10) : svN n G sec st t c (2 + 10 * k + r) = cbits (secP (sec k) r) := by
  unfold svN secP
  rw [if_neg (by omega), if_neg (by omega), if_pos (by omega)]
  simp only [show (2 + 10 * k + r - 2) / 10 = k by omega, show (2 + 10 * k + r - 2) % 10 = r by omega]
theorem svN_t : svN n G sec st t c (2 + 10 * n) = t := by
  unfold svN
  rw [if_neg (by omega), if_neg (by omega), if_neg (by omega), if_pos rfl]
theorem svN_c : svN n G sec st t c (3 + 10 * n) = c := by
  unfold svN
  rw [if_neg (by omega), if_neg (by omega), if_neg (by omega), if_neg (by omega), if_pos rfl]
theorem svN_st (k r : Nat) (hr : r < 4) : svN n G sec st t c (4 + 10 * n + 4 * k + r) = cbits (stP (st k) r) := by
  unfold svN stP
  rw [if_neg (by omega), if_neg (by omega), if_neg (by omega), if_neg (by omega), if_neg (by omega)]
  simp only [show (4 + 10 * n + 4 * k + r - 4 - 10 * n) / 4 = k by omega, show (4 + 10 * n + 4 * k + r - 4 - 10 * n) % 4 = r by omega]
end

set_option maxRecDepth 100000 in
set_option maxHeartbeats 2000000 in
theorem byteOf_any (g : Gu) (w : World) : Calls Try.prog 20 #[.agg #[.bool g.flush, .bool g.clip, .bool g.mute]] w fun e w' => e = .returned (.int .u8 (gbyte g : Nat)) ∧ Below w.heap.size w w' := by
  obtain ⟨fl, cp, mu⟩ := g
  cases fl <;> cases cp <;> cases mu
  all_goals
    go_enter Try.func20, Try.ntmps20
    go_wp2
    go_ret
    exact ⟨rfl, (Below.refl _ _).alloc (Nat.le_refl _) _⟩

/-- Behind a call and a new block. -/
theorem cell_low {W w4 : World} {o : Obj} {N j : Nat} {u : Value} (hb : Below W.drew.heap.size W.drew w4) (hN : N + 1 < W.heap.size) (hc : W.cell? ⟨N, j, none⟩ = some u) : (w4.alloc o).cell? ⟨N, j, none⟩ = some u := by
  have hs : W.heap.size ≤ w4.heap.size := hb.size
  rw [World.cell?_alloc_lt _ _ _ (by show N < w4.heap.size; omega), hb.cell (by show N < W.heap.size; omega)]
  exact hc
theorem box_low {W w4 w9 : World} {o : Obj} {Bw : Nat} {v : Value} {T : TypeId} (hb : Below W.drew.heap.size W.drew w4) (hB : Boxed W Bw T v) (hg : (w4.alloc o).grownBy w9 none) : Boxed w9 Bw T v :=
  (Boxed.alloc (W := w4) ((hb.block Bw hB.lt).trans hB) o).kept hg (by simp)
theorem own_cap {w : World} {base size n g cap : Nat} {e : TypeId} {xs : List Value} (h : w.ownsRow base e size (.slice (some ⟨g, 0, none⟩) n cap) n xs) : n ≤ cap ∧ cap ≤ 9223372036854775807 := by
  rcases h.2 with ⟨h1, _⟩ | ⟨g', cap', cur, h1, _, hg, hn, hc, _⟩
  · cases h1
  · obtain ⟨_, rfl⟩ : g = g' ∧ cap = cap' := by simpa using h1
    unfold maxLen at hc
    exact ⟨hn, by omega⟩
theorem own_some {w : World} {base size n : Nat} {e : TypeId} {v : Value} {xs : List Value} (h : w.ownsRow base e size v n xs) (hn : 0 < n) : ∃ g cap, v = .slice (some ⟨g, 0, none⟩) n cap := by
  rcases h.2 with ⟨_, h0⟩ | ⟨g, cap, _, hv, _⟩
  · omega
  · exact ⟨g, cap, hv⟩
theorem CIs.dest {r i : Nat} {z : C2} (h : CIs (.complex .f64 r i) z) : r < 18446744073709551616 ∧ i < 18446744073709551616 ∧ lf r = z.1 ∧ lf i = z.2 := by
  obtain ⟨r', i', e, h⟩ := h
  injection e with _ e1 e2
  subst e1; subst e2
  exact h
theorem own_base {w : World} {base base' size n : Nat} {e : TypeId} {v : Value} {xs : List Value} (h : w.ownsRow base e size v n xs) (hb : base' ≤ base) : w.ownsRow base' e size v n xs :=
  ⟨h.1, h.2.elim Or.inl (fun ⟨g, cap, cur, hv, hg, r⟩ => Or.inr ⟨g, cap, cur, hv, Nat.le_trans hb hg, r⟩)⟩
theorem coeff2_any (b0 b0' b1 b1' b2 b2' a1 a1' a2 a2' : Nat) (w : World) :
    Calls Try.prog 22 #[.agg #[.complex .f64 b0 b0', .complex .f64 b1 b1', .complex .f64 b2 b2', .complex .f64 a1 a1', .complex .f64 a2 a2']] w
      fun e w' => ∃ A, e = .returned (.slice (some ⟨A, 0, none⟩) 5 5) ∧ w'.rangeAt A 0 [.complex .f64 b0 b0', .complex .f64 b1 b1', .complex .f64 b2 b2', .complex .f64 a1 a1', .complex .f64 a2 a2'] ∧ w.heap.size ≤ A ∧ Below w.heap.size w w' := by
  go_enter Try.func22, Try.ntmps22
  go_wp2
  go_ret
  refine ⟨w.heap.size + 1, rfl, ?_, by omega, ?_⟩
  · intro j v hv
    have hj : j < 5 := (List.getElem?_eq_some_iff.1 hv).1
    rcases (by omega : j = 0 ∨ j = 1 ∨ j = 2 ∨ j = 3 ∨ j = 4) with rfl | rfl | rfl | rfl | rfl <;> (obtain rfl := Option.some.inj hv; go_simp)
  · exact ((Below.refl _ _).alloc (Nat.le_refl _) _).alloc (by simp) _
theorem head_wb {W w4 w9 : World} {o : Obj} {S Bw gb n' : Nat} {v : Value} {ad9 : Option Addr} {c9 : Nat} {F : Nat → Nat} (hB : Boxed W Bw 68 v) (hb : Below W.drew.heap.size W.drew w4) (hg : (w4.alloc o).grownBy w9 none)
    (ho : w9.ownsRow (w4.alloc o).heap.size 5 1 (.slice ad9 6 c9) 6 ([.int .u8 81, .int .u8 86, .int .u8 83, .int .u8 49] ++ [.int .u8 (gb : Nat), .int .u8 (n' : Nat)])) (hS : S ≤ Bw) (hSw : S ≤ w4.heap.size) (h0 : F 0 = 81) (h1 : F 1 = 86) (h2 : F 2 = 83) (h3 : F 3 = 49) (h4 : F 4 = gb) (h5 : F 5 = n') :
    WB (w9.setCell ⟨Bw, 0, none⟩ (.slice ad9 6 c9)) S Bw F 6 (.slice ad9 6 c9) := by
  have hB9 := box_low hb hB hg
  have hne := hB9.not_row wr_ne ho
  refine ⟨hB9.set _, ⟨_, ownsRow_same (own_base ho (by simp; omega)) (fun j hj => Below.heap_setCell _ _ _ _ (fun e => hne (by rw [hj]; exact congrArg some e.symm))), fun j hj => ?_⟩, hS⟩
  rcases (by omega : j = 0 ∨ j = 1 ∨ j = 2 ∨ j = 3 ∨ j = 4 ∨ j = 5) with rfl | rfl | rfl | rfl | rfl | rfl
  · rw [h0]; rfl
  · rw [h1]; rfl
  · rw [h2]; rfl
  · rw [h3]; rfl
  · rw [h4]; rfl
  · rw [h5]; rfl
theorem head_le {S : Nat} {W w4 : World} (h : S + 1 < W.heap.size) (hb : Below W.drew.heap.size W.drew w4) : S ≤ w4.heap.size := by
  have hs : W.heap.size ≤ w4.heap.size := hb.size
  omega
theorem head_low {w W w4 w9 : World} {o : Obj} {Bw : Nat} {x : Value} (h1 : Below w.heap.size w W) (hb : Below W.drew.heap.size W.drew w4) (hg : (w4.alloc o).grownBy w9 none) (hB : w.heap.size ≤ Bw) : Below w.heap.size w (w9.setCell ⟨Bw, 0, none⟩ x) := by
  have hs := h1.size
  have hs4 : W.heap.size ≤ w4.heap.size := hb.size
  have hbd : Below W.heap.size W w4 := (still_drew W _).trans hb
  exact (((h1.trans (hbd.mono hs)).alloc (by omega) o).grown hg (by simp; omega) (by intro k e; cases e)).setCell hB _

set_option maxRecDepth 100000 in
set_option maxHeartbeats 4000000 in
theorem ssave_any {w : World} {O : Nat → Prop} {B A n cA gr gi : Nat} {sv : Value} {G : C2} {sec : Nat → Sec} {g : Gu} {st : Nat → C2 × C2} {t c : Nat} (h : SA w O B A n cA gr gi sv G sec g st t c) (hn : n ≤ 16) :
    Calls Try.prog 9 #[.pointer (some ⟨B, 0, none⟩)] w fun e w' => ∃ Pb cap, e = .returned (.slice (some ⟨Pb, 0, none⟩) (38 + 112 * n) cap) ∧ w.heap.size ≤ Pb ∧ Pb < w'.heap.size ∧ SavedAt w' Pb n G sec g st t c ∧ Below w.heap.size w w' ∧ 38 + 112 * n ≤ cap ∧ cap ≤ 9223372036854775807 := by
  obtain ⟨i0, hi, hz0, hz1, hz2⟩ := info_parts info_u8
  have H := hide h
  obtain ⟨ad, cs, rfl, _⟩ := id h.secs
  have hBw : B < w.heap.size := h.lt B h.oB
  clear h
  have hcv := Go.Lib.run_convert_bytes_const (P := Try.prog) w 68 5 #[.int .u8 81, .int .u8 86, .int .u8 83, .int .u8 49] 4 4 Try.underlying68 Try.underlying5
  go_enter Try.func9, Try.ntmps9
  go_wp2_with fail
  obtain ⟨W, hW⟩ : ∃ W, (w.alloc (Obj.cells #[.int .u8 81, .int .u8 86, .int .u8 83, .int .u8 49] 5 (4, 5))).alloc (Obj.cells #[.slice (some ⟨w.heap.size, 0, none⟩) 4 4] 68) = W := ⟨_, rfl⟩
  rw [hW]
  have hbW : Below w.heap.size w W := by rw [← hW]; exact ((Below.refl _ _).alloc (Nat.le_refl _) _).alloc (by simp) _
  have hsW : W.heap.size = w.heap.size + 2 := by rw [← hW]; simp
  have hBx : Boxed W (w.heap.size + 1) 68 (.slice (some ⟨w.heap.size, 0, none⟩) 4 4) := by rw [← hW]; have := Boxed.new (w.alloc (Obj.cells #[.int .u8 81, .int .u8 86, .int .u8 83, .int .u8 49] 5 (4, 5))) 68 (.slice (some ⟨w.heap.size, 0, none⟩) 4 4); rwa [World.size_alloc] at this
  have hrow : ∀ j u, [Value.int .u8 81, .int .u8 86, .int .u8 83, .int .u8 49][j]? = some u → W.cell? ⟨w.heap.size, j, none⟩ = some u := fun j u hu => by
    rw [← hW, World.cell?_alloc_lt _ _ _ (by show w.heap.size < _; simp), cell_of_row _ w.heap.size _ _ _ _ (heap_alloc_new _ _), List.getElem?_toArray]; exact hu
  clear hW hcv
  have hA1 := (unhide H).keep (w' := W) (fun k hk => hbW.block k ((unhide H).lt k hk)) hbW.size
  have m0 := hBx.cell
  have m0f := hBx.frozen
  have m1 : W.cell? ⟨B, 1, none⟩ = some (.slice ad n cs) := hA1.cells.2 1 _ rfl
  have m2 : W.cell? ⟨B, 2, none⟩ = some (.bool g.flush) := hA1.cells.2 2 _ rfl
  have m3 : W.cell? ⟨B, 3, none⟩ = some (.bool g.clip) := hA1.cells.2 3 _ rfl
  have m4 : W.cell? ⟨B, 4, none⟩ = some (.bool g.mute) := hA1.cells.2 4 _ rfl
  have hn8 : IntKind.u8.wrap (n : Int) = (n : Int) := by simp [IntKind.wrap, IntKind.bits, IntKind.signed]; omega
  have hBW : B < W.heap.size := by omega
  have HW := hide (And.intro hbW (And.intro hBx (And.intro hrow (And.intro hA1 hsW))))
  clear hbW hBx hrow hA1 hsW
  have Hby := hide (byteOf_any g)
  have hWlt : w.heap.size + 1 < W.heap.size := by have := (unhide HW).2.2.2.2; omega
  rename_i K hK
  have hrest : ∀ (u25 : Value) (ad9 : Option Addr) (c9 : Nat) (W9 : World), WB W9 w.heap.size (w.heap.size + 1) (svB n G sec g st t c) 6 (.slice ad9 6 c9) → Below w.heap.size w W9 → K { tmps := #[.pointer (some ⟨B, 0, none⟩), undef, .slice none 0 0, .pointer (some ⟨w.heap.size + 1, 0, none⟩), undef, undef, undef, undef, .pointer (some ⟨B, 0, none⟩), .bool false, .slice (some ⟨w.heap.size, 0, none⟩) 4 4, .slice (some ⟨w.heap.size, 0, none⟩) 4 4, .slice (some ⟨w.heap.size, 0, none⟩) 4 4, .pointer (some ⟨B, 0, none⟩), .pointer (some ⟨B, 0, none⟩), .pointer (some ⟨B, 2, none⟩), .agg #[.bool g.flush, .bool g.clip, .bool g.mute], .int .u8 (gbyte g : Nat), .pointer (some ⟨B, 0, none⟩), .pointer (some ⟨B, 0, none⟩), .pointer (some ⟨B, 0, none⟩), .pointer (some ⟨B, 1, none⟩), .slice ad n cs, .int .i64 n, .int .u8 n, u25, .slice ad9 6 c9, undef, undef, undef, undef, undef, undef, undef, undef, undef, undef, undef, undef, undef, undef, undef, undef, undef, undef, undef, undef, undef, undef, undef, undef, undef, undef, undef, undef, undef, undef, undef, undef, undef, undef, undef, undef, undef, undef, undef, undef, undef, undef, undef, undef, undef, undef, undef, undef], defers := [] } W9 := by
    intro u25 ad9 c9 W9 h9 hb9
    have hA9 := (unhide H).keep (w' := W9) (fun k hk => hb9.block k ((unhide H).lt k hk)) hb9.size
    clear HW Hby hWlt m0 m0f m1 m2 m3 m4
    refine hK _ _ ?_
    clear hK
    have d0 : W9.cell? ⟨B, 0, none⟩ = some (.complex .f64 gr gi) := hA9.cells.2 0 _ rfl
    have h9' := h9.low ((Below.refl _ W9).alloc (Nat.le_refl _) (Obj.cells #[.complex .f64 gr gi] 24))
    have hlt9 := h9.lt
    obtain ⟨gr1, gi1, gl1, gl2⟩ := hA9.gain.dest
    have Hn := hide (numbers_any w.heap.size (w.heap.size + 1) 6 1 1 W9.heap.size (svB n G sec g st t c) (fun _ => gr) (fun _ => gi) _ _ h9' (by omega) (by omega) (by omega) (fun e => by have := (hlt9.2 _ e).2; omega) (fun j hj => ⟨(by obtain rfl : j = 0 := (by omega); exact box_new _ _ _), gr1, gi1⟩) (fun j hj i hi => by
      obtain rfl : j = 0 := by omega
      constructor
      · rw [show 6 + 16 * 0 + i = 6 + 8 * 0 + i by omega, svB_at _ _ _ _ _ _ _ _ _ hi, (svN_gain n G sec st t c).1, gl1]
      · rw [show 6 + 16 * 0 + 8 + i = 6 + 8 * 1 + i by omega, svB_at _ _ _ _ _ _ _ _ _ hi, (svN_gain n G sec st t c).2, gl2]))
    have H9 := hide (And.intro h9 (And.intro hb9 hA9))
    clear h9 hb9 hA9 h9' hlt9 gl1 gl2
    have hsc := run_store_c
    go_wp2_with fail
    refine (unhide Hn).mono ?_
    rintro e w10 ⟨⟨u, rfl⟩, v10, hB10, hK10⟩
    obtain ⟨h9, hb9, hA9⟩ := unhide H9
    have hb10 : Below w.heap.size w w10 := (hb9.alloc hb9.size _).trans (WK.below (h9.low ((Below.refl _ W9).alloc (Nat.le_refl _) _)) hK10)
    have hA10 := (unhide H).keep (w' := w10) (fun k hk => hb10.block k ((unhide H).lt k hk)) hb10.size
    have d1 : w10.cell? ⟨B, 1, none⟩ = some (.slice ad n cs) := hA10.cells.2 1 _ rfl
    have H10 := hide (And.intro hB10 hb10)
    clear h9 hb9 hA9 hB10 hK10 hb10 hA10 Hn H9 d0
    go_wp2_with fail
    go_loopw [40] (fun i wr => ∃ k : Nat, k ≤ n ∧ i = .int .i64 k ∧ ∃ v', WB wr w.heap.size (w.heap.size + 1) (svB n G sec g st t c) (22 + 80 * k) v' ∧ Below w.heap.size w wr)
      (fun i _ => n - (intOf i).toNat)
    case atStart => exact ⟨0, Nat.zero_le _, rfl, v10, (unhide H10).1, (unhide H10).2⟩
    case round =>
      obtain ⟨k, hk, rfl, v', hB, hb⟩ := hrel
      have hAr := (unhide H).keep (w' := wr) (fun k hk => hb.block k ((unhide H).lt k hk)) hb.size
      by_cases hkn : k < n
      · have hkn' : (k : Int) < (n : Int) := by omega
        obtain ⟨ad2, cs2, e2, hsec⟩ := hAr.secs
        obtain ⟨b, v0, v1, v2, v3, v4, hads, hbb, hra, _, _, _, _, _, i0', i1, i2, i3, i4⟩ := hsec k hkn
        obtain ⟨rfl, rfl⟩ : ad = ad2 ∧ cs = cs2 := by simpa using e2
        subst hads
        obtain ⟨b0, b0', rfl, p0, q0, x0, y0⟩ := i0'
        obtain ⟨b1, b1', rfl, p1, q1, x1, y1⟩ := i1
        obtain ⟨b2, b2', rfl, p2, q2, x2, y2⟩ := i2
        obtain ⟨a1, a1', rfl, p3, q3, x3, y3⟩ := i3
        obtain ⟨a2, a2', rfl, p4, q4, x4, y4⟩ := i4
        have l0 : wr.cell? ⟨b, k * 5, none⟩ = some (.complex .f64 b0 b0') := hra 0 _ rfl
        have l1 : wr.cell? ⟨b, k * 5 + 1, none⟩ = some (.complex .f64 b1 b1') := hra 1 _ rfl
        have l2 : wr.cell? ⟨b, k * 5 + 2, none⟩ = some (.complex .f64 b2 b2') := hra 2 _ rfl
        have l3 : wr.cell? ⟨b, k * 5 + 3, none⟩ = some (.complex .f64 a1 a1') := hra 3 _ rfl
        have l4 : wr.cell? ⟨b, k * 5 + 4, none⟩ = some (.complex .f64 a2 a2') := hra 4 _ rfl
        have HF : Hid (∀ j, j < 5 → ∀ i, i < 8 → svB n G sec g st t c (22 + 80 * k + 16 * j + i) = be8 (cbits (lf ([b0, b1, b2, a1, a2].getD j 0))) i ∧ svB n G sec g st t c (22 + 80 * k + 16 * j + 8 + i) = be8 (cbits (lf ([b0', b1', b2', a1', a2'].getD j 0))) i) := hide (fun j hj i hi => by
          rw [show 22 + 80 * k + 16 * j + i = 6 + 8 * (2 + 10 * k + 2 * j) + i by omega, show 22 + 80 * k + 16 * j + 8 + i = 6 + 8 * (2 + 10 * k + (2 * j + 1)) + i by omega, svB_at _ _ _ _ _ _ _ _ _ hi, svB_at _ _ _ _ _ _ _ _ _ hi, svN_sec _ _ _ _ _ _ _ _ hkn (by omega), svN_sec _ _ _ _ _ _ _ _ hkn (by omega)]
          rcases (by omega : j = 0 ∨ j = 1 ∨ j = 2 ∨ j = 3 ∨ j = 4) with rfl | rfl | rfl | rfl | rfl
          · exact ⟨by show be8 (cbits (sec k).b0.1) i = be8 (cbits (lf b0)) i; rw [x0], by show be8 (cbits (sec k).b0.2) i = be8 (cbits (lf b0')) i; rw [y0]⟩
          · exact ⟨by show be8 (cbits (sec k).b1.1) i = be8 (cbits (lf b1)) i; rw [x1], by show be8 (cbits (sec k).b1.2) i = be8 (cbits (lf b1')) i; rw [y1]⟩
          · exact ⟨by show be8 (cbits (sec k).b2.1) i = be8 (cbits (lf b2)) i; rw [x2], by show be8 (cbits (sec k).b2.2) i = be8 (cbits (lf b2')) i; rw [y2]⟩
          · exact ⟨by show be8 (cbits (sec k).a1.1) i = be8 (cbits (lf a1)) i; rw [x3], by show be8 (cbits (sec k).a1.2) i = be8 (cbits (lf a1')) i; rw [y3]⟩
          · exact ⟨by show be8 (cbits (sec k).a2.1) i = be8 (cbits (lf a2)) i; rw [x4], by show be8 (cbits (sec k).a2.2) i = be8 (cbits (lf a2')) i; rw [y4]⟩)
        have HP : Hid (∀ j, j < 5 → [b0, b1, b2, a1, a2].getD j 0 < 18446744073709551616 ∧ [b0', b1', b2', a1', a2'].getD j 0 < 18446744073709551616) := hide (fun j hj => by
          rcases (by omega : j = 0 ∨ j = 1 ∨ j = 2 ∨ j = 3 ∨ j = 4) with rfl | rfl | rfl | rfl | rfl
          · exact ⟨p0, q0⟩
          · exact ⟨p1, q1⟩
          · exact ⟨p2, q2⟩
          · exact ⟨p3, q3⟩
          · exact ⟨p4, q4⟩)
        have HB := hide (And.intro hB hb)
        clear x0 y0 x1 y1 x2 y2 x3 y3 x4 y4 p0 q0 p1 q1 p2 q2 p3 q3 p4 q4 hra hsec e2 hAr hB hb d1
        go_wp2_with fail
        refine (coeff2_any b0 b0' b1 b1' b2 b2' a1 a1' a2 a2' _).mono ?_
        rintro e w2 ⟨Lb, rfl, hL1, hL2, hL3⟩
        obtain ⟨hB, hb⟩ := unhide HB
        have hB2 := (hB.low ((Below.refl _ wr).alloc (Nat.le_refl _) (Obj.cells #[.complex .f64 b0 b0', .complex .f64 b1 b1', .complex .f64 b2 b2', .complex .f64 a1 a1', .complex .f64 a2 a2'] 52))).low hL3
        have hb2 := (hb.alloc hb.size (Obj.cells #[.complex .f64 b0 b0', .complex .f64 b1 b1', .complex .f64 b2 b2', .complex .f64 a1 a1', .complex .f64 a2 a2'] 52)).trans (hL3.mono (by simp; have := hb.size; omega))
        have hlt := hB.lt
        simp only [World.size_alloc] at hL2
        have Hn := hide (numbers_any w.heap.size (w.heap.size + 1) (22 + 80 * k) 5 5 Lb (svB n G sec g st t c) (fun j => [b0, b1, b2, a1, a2].getD j 0) (fun j => [b0', b1', b2', a1', a2'].getD j 0) _ _ hB2 (by omega) (by omega) (by omega) (fun e => by have := (hlt.2 _ e).2; omega) (fun j hj => ⟨by
          have hx := fun u hu => hL1 j u hu
          rw [Nat.zero_add] at hx
          rcases (by omega : j = 0 ∨ j = 1 ∨ j = 2 ∨ j = 3 ∨ j = 4) with rfl | rfl | rfl | rfl | rfl <;> exact hx _ rfl, unhide HP j hj⟩) (unhide HF))
        have HB2 := hide (And.intro hB2 hb2)
        clear hB hb hB2 hb2 hlt hL1 hL2 hL3 l0 l1 l2 l3 l4
        go_wp2_with fail
        refine (unhide Hn).mono ?_
        rintro e w3 ⟨⟨u, rfl⟩, v3, hB3, hK3⟩
        have HB3 := hide (And.intro hB3 hK3)
        clear hB3 hK3 Hn
        go_wp2
        go_roundw
        case rel => exact ⟨k + 1, by omega, by go_num, v3, by rw [show 22 + 80 * (k + 1) = 22 + 80 * k + 16 * 5 by omega]; exact (unhide HB3).1, (unhide HB2).2.trans (WK.below (unhide HB2).1 (unhide HB3).2)⟩
        case measure => simp [intOf]; omega
      · have : k = n := by omega
        subst this
        have d5 : wr.cell? ⟨B, 5, none⟩ = some (.int .u64 t) := hAr.cells.2 5 _ rfl
        have Hw := hide (word_any w.heap.size (w.heap.size + 1) (22 + 80 * k) t (svB k G sec g st t c) v' wr hB (by omega) (fun i hi => by rw [show 22 + 80 * k + i = 6 + 8 * (2 + 10 * k) + i by omega, svB_at _ _ _ _ _ _ _ _ _ hi, svN_t]))
        have HB := hide (And.intro hB hb)
        clear hB hb hAr d1
        go_wp2_with fail
        refine (unhide Hw).mono ?_
        rintro e w2 ⟨⟨u, rfl⟩, v2, hB2, hK2⟩
        have hb2 := (unhide HB).2.trans (WK.below (unhide HB).1 hK2)
        have hA2 := (unhide H).keep (w' := w2) (fun k hk => hb2.block k ((unhide H).lt k hk)) hb2.size
        have d6 : w2.cell? ⟨B, 6, none⟩ = some (.int .u64 c) := hA2.cells.2 6 _ rfl
        have Hw2 := hide (word_any w.heap.size (w.heap.size + 1) (22 + 80 * k + 8) c (svB k G sec g st t c) v2 w2 hB2 (by omega) (fun i hi => by rw [show 22 + 80 * k + 8 + i = 6 + 8 * (3 + 10 * k) + i by omega, svB_at _ _ _ _ _ _ _ _ _ hi, svN_c]))
        have HB2 := hide (And.intro hB2 hb2)
        clear hB2 hK2 hb2 hA2 Hw d5
        go_wp2_with fail
        refine (unhide Hw2).mono ?_
        rintro e w3 ⟨⟨u, rfl⟩, v3, hB3, hK3⟩
        have hb3 := (unhide HB2).2.trans (WK.below (unhide HB2).1 hK3)
        have hA3 := (unhide H).keep (w' := w3) (fun k hk => hb3.block k ((unhide H).lt k hk)) hb3.size
        have d7 : w3.cell? ⟨B, 7, none⟩ = some (.slice (some ⟨A, 0, none⟩) k cA) := hA3.cells.2 7 _ rfl
        have HB3 := hide (And.intro hB3 hb3)
        clear hB3 hK3 hb3 hA3 Hw2 d6
        go_wp2_with fail
        go_loopw [63] (fun i wr => ∃ q : Nat, q ≤ k ∧ i = .int .i64 q ∧ ∃ v', WB wr w.heap.size (w.heap.size + 1) (svB k G sec g st t c) (38 + 80 * k + 32 * q) v' ∧ Below w.heap.size w wr)
          (fun i _ => k - (intOf i).toNat)
        case atStart => exact ⟨0, Nat.zero_le _, rfl, v3, by rw [show 38 + 80 * k + 32 * 0 = 22 + 80 * k + 8 + 8 by omega]; exact (unhide HB3).1, (unhide HB3).2⟩
        case round =>
          obtain ⟨q, hq, rfl, v4, hB, hb⟩ := hrel
          have hAr := (unhide H).keep (w' := wr) (fun k hk => hb.block k ((unhide H).lt k hk)) hb.size
          by_cases hqk : q < k
          · have hqk' : (q : Int) < (k : Int) := by omega
            obtain ⟨p1, p2, hra, i1, i2⟩ := hAr.row q hqk
            obtain ⟨s, s', rfl, _⟩ := id i1
            obtain ⟨z, z', rfl, _⟩ := id i2
            obtain ⟨a1, a2, x1, y1⟩ := i1.dest
            obtain ⟨a3, a4, x2, y2⟩ := i2.dest
            have l0 : wr.cell? ⟨A, q * 2, none⟩ = some (.complex .f64 s s') := hra 0 _ rfl
            have l1 : wr.cell? ⟨A, q * 2 + 1, none⟩ = some (.complex .f64 z z') := hra 1 _ rfl
            have HF : Hid (∀ j, j < 2 → ∀ i, i < 8 → svB k G sec g st t c (38 + 80 * k + 32 * q + 16 * j + i) = be8 (cbits (lf ([s, z].getD j 0))) i ∧ svB k G sec g st t c (38 + 80 * k + 32 * q + 16 * j + 8 + i) = be8 (cbits (lf ([s', z'].getD j 0))) i) := hide (fun j hj i hi => by
              rw [show 38 + 80 * k + 32 * q + 16 * j + i = 6 + 8 * (4 + 10 * k + 4 * q + 2 * j) + i by omega, show 38 + 80 * k + 32 * q + 16 * j + 8 + i = 6 + 8 * (4 + 10 * k + 4 * q + (2 * j + 1)) + i by omega, svB_at _ _ _ _ _ _ _ _ _ hi, svB_at _ _ _ _ _ _ _ _ _ hi, svN_st _ _ _ _ _ _ _ _ (by omega), svN_st _ _ _ _ _ _ _ _ (by omega)]
              rcases (by omega : j = 0 ∨ j = 1) with rfl | rfl
              · exact ⟨by show be8 (cbits (st q).1.1) i = be8 (cbits (lf s)) i; rw [x1], by show be8 (cbits (st q).1.2) i = be8 (cbits (lf s')) i; rw [y1]⟩
              · exact ⟨by show be8 (cbits (st q).2.1) i = be8 (cbits (lf z)) i; rw [x2], by show be8 (cbits (st q).2.2) i = be8 (cbits (lf z')) i; rw [y2]⟩)
            have HP : Hid (∀ j, j < 2 → [s, z].getD j 0 < 18446744073709551616 ∧ [s', z'].getD j 0 < 18446744073709551616) := hide (fun j hj => by
              rcases (by omega : j = 0 ∨ j = 1) with rfl | rfl
              · exact ⟨a1, a2⟩
              · exact ⟨a3, a4⟩)
            have HB := hide (And.intro hB hb)
            clear a1 a2 a3 a4 x1 y1 x2 y2 i1 i2 hra hAr hB hb d7
            go_wp2_with fail
            obtain ⟨hB, hb⟩ := unhide HB
            obtain ⟨W5, hW5⟩ : ∃ W5, (wr.alloc (Obj.cells #[.complex .f64 s s', .complex .f64 z z'] 74)).alloc (Obj.cells #[.complex .f64 s s', .complex .f64 z z'] 24) = W5 := ⟨_, rfl⟩
            have hb5 : Below wr.heap.size wr W5 := by rw [← hW5]; exact ((Below.refl _ _).alloc (Nat.le_refl _) _).alloc (by simp) _
            have hc5 : ∀ j, j < 2 → W5.cell? ⟨wr.heap.size + 1, j, none⟩ = some (.complex .f64 ([s, z].getD j 0) ([s', z'].getD j 0)) := fun j hj => by
              have e := cell_of_row _ _ j _ _ _ (heap_alloc_new (wr.alloc (Obj.cells #[.complex .f64 s s', .complex .f64 z z'] 74)) (Obj.cells #[.complex .f64 s s', .complex .f64 z z'] 24))
              rw [World.size_alloc] at e
              rw [← hW5, e]
              rcases (by omega : j = 0 ∨ j = 1) with rfl | rfl <;> rfl
            rw [hW5]
            have hB5 := hB.low hb5
            have hb05 := hb.trans (hb5.mono hb.size)
            have hlt := hB.lt
            refine (numbers_any w.heap.size (w.heap.size + 1) (38 + 80 * k + 32 * q) 2 2 (wr.heap.size + 1) (svB k G sec g st t c) (fun j => [s, z].getD j 0) (fun j => [s', z'].getD j 0) _ _ hB5 (by omega) (by omega) (by omega) (fun e => by have := (hlt.2 _ e).2; omega) (fun j hj => ⟨hc5 j hj, unhide HP j hj⟩) (unhide HF)).mono ?_
            rintro e w5 ⟨⟨u, rfl⟩, v5, hB6, hK6⟩
            have HB6 := hide (And.intro hB6 (hb05.trans (WK.below hB5 hK6)))
            clear hB hb hW5 hb5 hc5 hB5 hb05 hlt hB6 hK6 l0 l1
            go_wp2
            go_roundw
            case rel => exact ⟨q + 1, by omega, by go_num, v5, by rw [show 38 + 80 * k + 32 * (q + 1) = 38 + 80 * k + 32 * q + 16 * 2 by omega]; exact (unhide HB6).1, (unhide HB6).2⟩
            case measure => simp [intOf]; omega
          · have : q = k := by omega
            subst this
            have hbc := hB.box.cell
            obtain ⟨xs, ho, hx⟩ := hB.own
            obtain ⟨gb, cp, e⟩ := own_some ho (by omega)
            subst e
            have HB := hide (And.intro hB (And.intro hb (And.intro ho hx)))
            clear hB hb ho hx hAr d7
            go_wp2
            go_ret
            obtain ⟨hB, hb, ho, hx⟩ := unhide HB
            have hlt := hB.lt.2 gb rfl
            refine ⟨gb, cp, by rw [show 38 + 112 * q = 38 + 80 * q + 32 * q by omega]; rfl, hlt.1, hlt.2, fun j hj => ?_, hb, by have := (own_cap ho).1; omega, (own_cap ho).2⟩
            have h1 := ho.cells (g := gb) rfl j _ (hx j (by omega))
            rw [Addr.add_mid, Nat.zero_add] at h1
            exact h1
  have HK := hide hrest
  clear hrest hK
  go_region_law (first
    | (go_simp; go_at_call 20; refine (unhide Hby _).mono ?_; rintro e w4 ⟨rfl, hb4⟩; have k0 : w4.cell? ⟨w.heap.size + 1, 0, none⟩ = some (.slice (some ⟨w.heap.size, 0, none⟩) 4 4) := (hb4.cell (by show w.heap.size + 1 < _; simp; omega)).trans m0; have k1 : w4.cell? ⟨B, 1, none⟩ = some (.slice ad n cs) := (hb4.cell (by show B < _; simp; omega)).trans m1; have k0' : ∀ o, (w4.alloc o).cell? ⟨w.heap.size + 1, 0, none⟩ = some (.slice (some ⟨w.heap.size, 0, none⟩) 4 4) := fun o => (World.cell?_alloc_lt _ _ _ (World.block_lt_of_cell? _ _ k0)).trans k0; dsimp only)
    | (refine step_append_grows (by rfl) _ _ 68 (by rfl) 5 i0 (.int .u8 0) 1 1 Try.underlying68 hi hz0 hz1 hz2 rfl Nat.one_pos (some ⟨w.heap.size, 0, none⟩) 4 4 [.int .u8 81, .int .u8 86, .int .u8 83, .int .u8 49] (by rfl) (by intro h; cases h) rfl (by intro b hb j u hu; cases hb; rw [Addr.add_mid, Nat.zero_add]; exact cell_low hb4 hWlt ((unhide HW).2.2.1 j u hu)) ⟨w4.heap.size, 0, none⟩ 2 2 [.int .u8 (gbyte g : Nat), .int .u8 (n : Int)] (by rfl) rfl (World.news_of_block (cs := #[.int .u8 (gbyte g : Nat), .int .u8 (n : Int)]) (t := 5) (fr := (0, 0)) (heap_alloc_new w4 _)) (by intro u hu; simp at hu; rcases hu with rfl | rfl <;> rfl) (by omega) (by unfold maxLen; omega) (by omega) ?_; intro v9 w9 hown9 hg9; obtain ⟨ad9, c9, rfl⟩ := row_form hown9; have hbx9 : Boxed w9 (w.heap.size + 1) 68 (.slice (some ⟨w.heap.size, 0, none⟩) 4 4) := box_low hb4 (unhide HW).2.1 hg9; have hgc9 := hbx9.cell; have hgf9 := hbx9.frozen))
  all_goals exact unhide HK _ _ _ _ (head_wb (unhide HW).2.1 hb4 hg9 hown9 (by omega) (head_le hWlt hb4) rfl rfl rfl rfl rfl rfl) (head_low (unhide HW).1 hb4 hg9 (by omega))
end Go.Proofs.Ytnfgdhnoidpncaa
