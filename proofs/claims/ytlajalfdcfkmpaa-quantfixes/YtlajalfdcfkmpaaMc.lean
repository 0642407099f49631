/- take: so many times b off a part of a row. -/
import Derived.Test.YtlajalfdcfkmpaaMb
namespace Go.Proofs.Ytlajalfdcfkmpaa
open Go.RowKit Go.Maps

/-- The digits dl laid over dr from place j on, k of them. -/
def tk (dr dl : Nat → Nat) (j k i : Nat) : Nat := if j ≤ i ∧ i < j + k then dl (i - j) else dr i
theorem tk_zero (dr dl : Nat → Nat) (j : Nat) : tk dr dl j 0 = dr := by funext i; unfold tk; rw [if_neg (by omega)]
theorem tk_step (dr dl : Nat → Nat) (j k L : Nat) : rowU (upd (tk dr dl j k) (j + k) (dl k)) L = rowU (tk dr dl j (k + 1)) L := by
  apply rowU_congr
  intro i _
  by_cases h : i = j + k
  · subst h
    rw [upd_same]; unfold tk; rw [if_pos (by omega), Nat.add_sub_cancel_left]
  · rw [upd_ne _ h]; unfold tk
    by_cases h2 : j ≤ i ∧ i < j + k
    · rw [if_pos h2, if_pos (by omega)]
    · rw [if_neg h2, if_neg (by omega)]
theorem tk_step2 (dr dl : Nat → Nat) (j k L v : Nat) : rowU (upd (upd (tk dr dl j k) (j + k) v) (j + k) (dl k)) L = rowU (tk dr dl j (k + 1)) L := by
  rw [← tk_step]
  apply rowU_congr
  intro i _
  by_cases h : i = j + k
  · subst h; rw [upd_same, upd_same]
  · rw [upd_ne _ h, upd_ne _ h, upd_ne _ h]

set_option maxRecDepth 100000 in
set_option maxHeartbeats 1000000 in
theorem takeN_any {g L cap j n cp base : Nat} {dr : Nat → Nat} {vb : Value} {y t : Nat} {w : World} (hown : w.ownsRow base 22 1 (.slice (some ⟨g, 0, none⟩) L cap) L (rowU dr L)) (hj : j + n ≤ L) (hn : n ≤ 999) (_hL : L ≤ 3000) (hcp : n ≤ cp) (hdr : ∀ i, dr i < 4294967296) (hb : NA w vb y) (hy : y < 4294967296 ^ 998) (ht : t < 4294967296) (hle : y * t ≤ vp (fun i => dr (j + i)) n) :
    Calls Try.prog 75 #[.slice (some ⟨g, j, none⟩) n cp, vb, .int .u64 t] w fun e w' => e = .returned (.tuple #[]) ∧ ∃ dl, (∀ i, dl i < 4294967296) ∧ vp dl n = vp (fun i => dr (j + i)) n - y * t ∧ w'.ownsRow base 22 1 (.slice (some ⟨g, 0, none⟩) L cap) L (rowU (tk dr dl j n) L) ∧ w.grownBy w' (some g) := by
  have hrow : Row w (some ⟨g, j, none⟩) n (fun i => dr (j + i)) := fun i hi => ⟨g, j, rfl, (hown.lt g rfl).2, by rw [hown.cellAt (j + i) (by omega), rowU_at _ _ _ (by omega)]⟩
  have hP : vp (fun i => dr (j + i)) n < 4294967296 ^ 1000 := Nat.lt_of_lt_of_le (vp_lt (fun i _ => hdr _)) (ble (i := n) (k := 1000) (by omega))
  have hT : t < 4294967296 ^ 1000 := lt_k 1000 (by omega) ht
  have hy1 : y < 4294967296 ^ 1000 := Nat.lt_of_lt_of_le hy (ble (i := 998) (k := 1000) (by omega))
  have hgl : g < w.heap.size := (hown.lt g rfl).2
  have Hw := hide (word_any t (by omega))
  have HB := hide hb
  have HR := hide hrow
  have HD := hide hdr
  have HO := hide hown
  have HB1 := hide (And.intro hP (And.intro hT (And.intro hy1 hle)))
  clear hb hrow hdr hy hP hT hy1 hown hle
  go_enter Try.func75, Try.ntmps75
  go_wp2_with fail
  refine (norm_any _ n cp _ _ hcp (by omega) (unhide HR)).mono ?_
  rintro e w0 ⟨m, hm, rfl, hz, hl, hw0⟩
  obtain rfl := hw0.symm
  have hN := NA.cutRow hcp (unhide HR) (fun i _ => unhide HD _) hm hz hl
  have HN := hide hN
  clear hN hz hl HR
  go_wp2_with fail
  refine (unhide Hw _).mono ?_
  rintro e w1 ⟨v1, rfl, hv1, hb1⟩
  go_wp2_with fail
  refine (mulN_any ((unhide HB).below hb1) hv1 (unhide HB1).2.2.1 (unhide HB1).2.1).mono ?_
  rintro e w2 ⟨v2, rfl, hv2, hb2⟩
  have HB2 := hide (hb1.trans (hb2.mono hb1.size))
  have HV2 := hide hv2
  clear hv1 hb1 hv2 hb2
  go_wp2_with fail
  refine (sub_own ((unhide HN).below (unhide HB2)) (unhide HV2) (unhide HB1).1 (unhide HB1).2.2.2).mono ?_
  rintro e w3 ⟨v3, rfl, ⟨nl, dl, hown3, hdl, hvl⟩, hb3⟩
  obtain ⟨al, cl, rfl, hcl, hrl⟩ := Row_own hown3
  have hnl : nl ≤ 1000 := hdl.len (by rw [← hvl]; exact Nat.lt_of_le_of_lt (Nat.sub_le _ _) (unhide HB1).1)
  have hw3 := (unhide HB2).trans (hb3.mono (unhide HB2).size)
  have HA := hide (fun (bb oo : Nat) (e : al = some ⟨bb, oo, none⟩) => (by subst e; exact Nat.le_trans (unhide HB2).size (hown3.lt bb rfl).1 : w.heap.size ≤ bb))
  have HRL := hide hrl
  have HDL := hide (And.intro hdl hvl)
  have HO3 := hide ((unhide HO).kept (belowG hw3) (Classical.em _))
  have HG3 := hide (belowG hw3)
  have hs3 := hw3.size
  clear HN HB2 HV2 hown3 hdl hvl hb3 hrl hw3 HO HB Hw
  go_wp2_with fail
  go_loopw [7] (fun i wr => ∃ k : Nat, i = .int .i64 k ∧ k ≤ n ∧ Hid (wr.ownsRow base 22 1 (.slice (some ⟨g, 0, none⟩) L cap) L (rowU (tk dr dl j k) L)) ∧ Hid (w3.grownBy wr (some g))) (fun i _ => n - (intOf i).toNat)
  case atStart => exact ⟨0, rfl, Nat.zero_le _, by rw [tk_zero]; exact HO3, World.grownBy.refl _ _⟩
  case round =>
    obtain ⟨k, rfl, hk, hO, hG⟩ := hrel
    clear HO3
    by_cases hkn : (k : Int) < (n : Int)
    · have p0 : wr.cell? ⟨g, j + k, none⟩ = some (.int .u64 (tk dr dl j k (j + k) : Nat)) := by
        rw [(unhide hO).cellAt (j + k) (by omega), rowU_at _ _ _ (by omega)]
      have p1 : wr.frozen? ⟨g, j + k, none⟩ = false := (unhide hO).frozenAt (j + k)
      by_cases hkl : (k : Int) < (nl : Int)
      · obtain ⟨bl, ol, rfl, hbl, hcl2⟩ := unhide HRL k (by omega)
        have hbw := unhide HA bl ol rfl
        have q0 : wr.cell? ⟨bl, ol + k, none⟩ = some (.int .u64 (dl k : Nat)) := by
          rw [← hcl2]
          exact World.cell?_of_block (w := w3) ((unhide hG).block bl hbl (by intro e; have := Option.some.inj e; omega))
        have hne1 : ¬ g = bl := by omega
        have hne2 : ¬ bl = g := by omega
        clear hcl2
        have hs1 := (unhide hO).stored (j + k) (.int .u64 0)
        have hs2 := hs1.1.stored (j + k) (.int .u64 (dl k : Nat))
        rw [show (Value.int .u64 0) = .int .u64 ((0 : Nat) : Int) from rfl, rowU_set _ _ _ _ (by omega), rowU_set _ _ _ _ (by omega), tk_step2] at hs2
        have HS := hide (And.intro hs2.1 ((unhide hG).trans (hs1.2.trans hs2.2)))
        clear hs1 hs2
        go_wp2
        go_roundw
        case rel => exact ⟨k + 1, by go_num, by omega, (unhide HS).1, (unhide HS).2⟩
        case measure => simp [intOf]; omega
      · have hd0 : dl k = 0 := (unhide HDL).1.out k (by omega)
        have hs1 := (unhide hO).stored (j + k) (.int .u64 0)
        rw [show (Value.int .u64 0) = .int .u64 ((dl k : Nat) : Int) by rw [hd0]; rfl, rowU_set _ _ _ _ (by omega), tk_step] at hs1
        have HS := hide (And.intro hs1.1 ((unhide hG).trans hs1.2))
        rw [hd0] at HS
        clear hs1 hd0
        go_wp2
        go_roundw
        case rel => exact ⟨k + 1, by go_num, by omega, (unhide HS).1, (unhide HS).2⟩
        case measure => simp [intOf]; omega
    · obtain rfl : k = n := by omega
      go_wp2
      refine bodyPost_end (results_none rfl _ _ _) rfl ?_
      have h1 : vp (fun i => dr (j + i)) k < 4294967296 ^ k := vp_lt (fun i _ => unhide HD _)
      have h2 : nl ≤ k := (unhide HDL).1.len (by rw [← (unhide HDL).2]; exact Nat.lt_of_le_of_lt (Nat.sub_le _ _) h1)
      have h3 : w.grownBy w3 (some g) := ⟨(unhide HG3).os, (unhide HG3).tape, (unhide HG3).output, (unhide HG3).size, fun q hq _ => (unhide HG3).block q hq (by simp)⟩
      exact ⟨rfl, dl, (unhide HDL).1.lt, by rw [vp_tail (unhide HDL).1.out k h2, ← (unhide HDL).2], unhide hO, h3.trans (unhide hG)⟩
end Go.Proofs.Ytlajalfdcfkmpaa
