/- Samples through a guarded filter, one behind the other: what its Run does. -/
import Derived.Test.YthafffnebaaeiaaGstp
namespace Go.Proofs.Ythafffnebaaeiaa
open Go.RowKit

theorem wCntN_le (g : Gu) (G : C2) (n : Nat) (sec : Nat → Sec) (st : Nat → C2 × C2) (X : Nat → C2) : ∀ k, wCntN g G n sec st X k ≤ 6 * n * k
  | 0 => Nat.le_refl _
  | k + 1 => by
    have h1 := wCntN_le g G n sec st X k
    have h2 := wCnt_le g sec (wStN g G n sec st X k) (cmul G (X k)) n
    rw [wCntN, Nat.mul_add, Nat.mul_one]
    omega

set_option maxRecDepth 100000 in
set_option maxHeartbeats 2000000 in
theorem grun_any (N M B L n c m : Nat) (v : Value) (g : Gu) (G : C2) (X : Nat → C2) (sec : Nat → Sec) (st : Nat → C2 × C2) (w : World) (hGA : GuardAt w N M B L n G sec st g c) (hv : ListIs w v m X) (hvB : Off v m B) (hvL : Off v m L) (hm : m ≤ 8796093022208) (hn : n ≤ 16) (hc : c ≤ 1000000000000000000) :
    Calls Try.prog 16 #[.pointer (some ⟨B, 0, none⟩), v] w fun e w' => ∃ A, e = .returned (.slice (some ⟨A, 0, none⟩) m m) ∧ w.heap.size ≤ A ∧ A < w'.heap.size ∧ (∀ j, j < m → ∃ u, w'.cell? ⟨A, j, none⟩ = some u ∧ CIs u (wAnsN g G n sec st X j)) ∧
      GuardAt w' N M B L n G sec (wStN g G n sec st X m) g (c + wCntN g G n sec st X m) ∧ Apart w w' B L := by
  obtain ⟨gr, gi, cap, sv, hG, hg, hL, hS, hI, hSB, hSL, hne, b1, b2, b3, b4, b5⟩ := hGA
  obtain ⟨ad, cl, rfl, hcl⟩ := hv
  obtain ⟨i0, hi, hz0, hz1, hz2⟩ := info_parts info_c
  have Hs := hide (gstates_any B L n cap c gr gi sv g sec st w hG hL hn (by omega))
  have H := hide (And.intro hG (And.intro hL (And.intro hS hcl)))
  have HO := hide (And.intro hI (And.intro hSB (And.intro hSL (And.intro hvB hvL))))
  clear hG hL hS hcl hI hSB hSL hvB hvL
  go_enter Try.func16, Try.ntmps16
  go_wp2_with fail
  refine (unhide Hs).mono ?_
  rintro e w1 ⟨A1, rfl, h1, h2, h3, h4, h5⟩
  have H1 := hide (And.intro h3 (And.intro h4 h5))
  have hw1 : w.heap.size ≤ w1.heap.size := h4.size
  clear h3 h4 h5
  go_wp2_with (first
    | (refine wpList_make_full _ rfl _ _ 39 rfl w1.heap.size 26 i0 (.complex .f64 0 0) 1 Try.underlying39 hi hz0 hz1 .i64 .i64 _ _ m rfl rfl rfl rfl (by rw [hz2]; omega) (by unfold maxLen; omega) (Nat.le_refl _) ?_; intro w2 hown hgr))
  obtain ⟨hth, hAw⟩ := own_there hown
  rw [Nat.mul_one] at hth
  clear hown hi hz0 hz1 hz2
  have H2 := hide (And.intro hgr hth)
  clear hgr hth
  go_loopw [18] (fun i wr => ∃ k : Nat, k ≤ m ∧ i = .int .i64 k ∧ StRow wr A1 n (wStN g G n sec st X k) ∧ wr.there A1 0 (n * 2) ∧ GCells wr B (.complex .f64 gr gi) (.slice (some ⟨L, 0, none⟩) n cap) sv g (c + wCntN g G n sec st X k) ∧ SecsIs wr sv n sec ∧ Apart w wr B A1 ∧ w1.heap.size < wr.heap.size ∧ wr.there w1.heap.size 0 m ∧ ∀ j, j < k → ∃ u, wr.cell? ⟨w1.heap.size, j, none⟩ = some u ∧ CIs u (wAnsN g G n sec st X j))
    (fun i _ => m - (intOf i).toNat)
  case atStart =>
    obtain ⟨hgr, hth⟩ := unhide H2
    obtain ⟨h3, h4, h5⟩ := unhide H1
    obtain ⟨hG, hL, hS, hcl⟩ := unhide H
    have hw2 := hgr.size
    have hbl : Below w.heap.size w w2 := h4.grown hgr hw1 (by intro k e; cases e)
    exact ⟨0, Nat.zero_le _, rfl, h3.grown hgr (by simp), there_grown h5 hgr h2 (by simp), hG.below hbl (by omega), hS.below hbl, .low _ _ hbl, hAw, hth, fun j hj => by omega⟩
  case round =>
    obtain ⟨k, hk, rfl, q1, q2, q3, q4, q5, q6, q7, q8⟩ := hrel
    obtain ⟨hI, hSB, hSL, hvB, hvL⟩ := unhide HO
    obtain ⟨hG0, hL0, hS0, hcl⟩ := unhide H
    have hbk : 6 * n * k ≤ 6 * 16 * 8796093022208 := Nat.mul_le_mul (by omega) (by omega)
    have hck := wCntN_le g G n sec st X k
    by_cases hkm : k < m
    · have hkm' : (k : Int) < (m : Int) := by omega
      obtain ⟨b, off, u, rfl, hb, hcu, hu⟩ := hcl k hkm
      obtain ⟨x, x', rfl, _⟩ := id hu
      have hcw : wr.cell? ⟨b, off + k, none⟩ = some (.complex .f64 x x') := q5.cell hcu (hvB (by omega) _ _ _ _ rfl) (by show b ≠ A1; omega)
      have Hst := hide (gstep_any B A1 n (c + wCntN g G n sec st X k) n gr gi x x' _ sv g G (X k) sec (wStN g G n sec st X k) wr q3 hg hu q4 hSB (hS0.off h1) q1 q2 (by omega) (by have := q5.size; omega) (by omega) hn (by omega))
      have HQ := hide (And.intro q5 (And.intro q7 q8))
      clear q1 q2 q3 q4 q5 q7 q8 hcu hu hcl hI hSB hSL hvB hvL hG0 hL0 hS0 hbk hck
      go_wp2_with fail
      refine (unhide Hst).mono ?_
      rintro e w3 ⟨r, r', rfl, hy, s1, s2, s3, s4, s5⟩
      obtain ⟨q5, q7, q8⟩ := unhide HQ
      have hA2 : w1.heap.size < w3.heap.size := Nat.lt_of_lt_of_le q6 s5.size
      have q7' := s5.there q7 q6 (by omega) (by omega)
      have hcA : (w3.cell? ⟨w1.heap.size, k, none⟩).isSome = true := by have := (q7' k hkm).1; rwa [Nat.zero_add] at this
      have hfA : w3.frozen? ⟨w1.heap.size, k, none⟩ = false := by have := (q7' k hkm).2; rwa [Nat.zero_add] at this
      obtain ⟨uo, huo⟩ := Option.isSome_iff_exists.1 hcA
      have q8' : ∀ j, j < k → ∃ u, w3.cell? ⟨w1.heap.size, j, none⟩ = some u ∧ CIs u (wAnsN g G n sec st X j) := fun j hj => by
        obtain ⟨v, hv1, hv2⟩ := q8 j hj
        exact ⟨v, s5.cell hv1 (by show w1.heap.size ≠ B; omega) (by show w1.heap.size ≠ A1; omega), hv2⟩
      have H3 := hide (And.intro hy (And.intro s1 (And.intro s2 (And.intro s3 (And.intro s4 (And.intro (q5.trans s5) (And.intro q7' q8')))))))
      clear hy s1 s2 s3 s4 s5 q5 q7 q7' q8 q8' hcA
      have hsc := run_store_c
      go_wp2
      go_roundw
      case rel =>
        obtain ⟨hy, s1, s2, s3, s4, s5, q7, q8⟩ := unhide H3
        obtain ⟨hI, hSB, hSL, hvB, hvL⟩ := unhide HO
        obtain ⟨hG0, hL0, hS0, hcl⟩ := unhide H
        have hgs : w3.grownBy (w3.setCell ⟨w1.heap.size, k, none⟩ (.complex .f64 r r')) (some w1.heap.size) := grown_setCells (o := k) (cs := [.complex .f64 r r']) (grown_refl _ _)
        refine ⟨k + 1, by omega, by go_num, s1.grown hgs (by intro e; have := Option.some.inj e; omega), there_grown s2 hgs (by omega) (by intro e; have := Option.some.inj e; omega), ?_, s4.apart (.snd B hgs) hSB (hS0.off hw1), s5.own (.snd B hgs) hw1, Nat.lt_of_lt_of_le hA2 hgs.size, there_setCell q7 _ _, fun j hj => ?_⟩
        · have := s3.grown hgs (by omega) (by intro e; have := Option.some.inj e; omega)
          rw [Nat.add_assoc] at this
          exact this
        · by_cases hjk : j = k
          · subst hjk
            exact ⟨_, cell_eq huo, hy⟩
          · obtain ⟨v, hv1, hv2⟩ := q8 j (by omega)
            refine ⟨v, ?_, hv2⟩
            rw [cell_ne (by intro e; exact hjk (Addr.mk.inj e).2.1.symm)]
            exact hv1
      case measure => simp [intOf]; omega
    · have : k = m := by omega
      subst this
      have hLr := hL0.apart q5 (by omega) (by omega) (by omega)
      have hws := q5.size
      have Hset := hide (cset_any B L n cap gr gi A1 n sec st (wStN g G n sec st X k) wr (fun j v hv => q3.2 j v (by
        have hj : j < 2 := (List.getElem?_eq_some_iff.1 hv).1
        rcases (by omega : j = 0 ∨ j = 1) with rfl | rfl <;> exact hv)) hLr q1 (by omega) hne hn (by omega))
      have HQ := hide (And.intro q3 (And.intro q4 (And.intro q5 (And.intro q7 q8))))
      clear q1 q2 q3 q4 q5 q7 q8 hLr hG0 hL0 hS0 hcl hI hSB hSL hvB hvL
      go_wp2_with fail
      refine (unhide Hset).mono ?_
      rintro e w4 ⟨rfl, hL4, hg4⟩
      have H4 := hide (And.intro hL4 hg4)
      clear hL4 hg4
      go_wp2
      go_ret
      obtain ⟨hL4, hg4⟩ := unhide H4
      obtain ⟨q3, q4, q5, q7, q8⟩ := unhide HQ
      obtain ⟨hI, hSB, hSL, hvB, hvL⟩ := unhide HO
      have hs4 := hg4.size
      refine ⟨w1.heap.size, rfl, hw1, by omega, fun j hj => ?_, ⟨gr, gi, cap, sv, q3.grown hg4 (by omega) (by intro e; exact hne (Option.some.inj e)), hg, hL4, q4.apart (.snd B hg4) hSB hSL, hI, hSB, hSL, hne, b1, b2, b3, b4, by omega⟩, ?_⟩
      · obtain ⟨v, hv1, hv2⟩ := q8 j hj
        exact ⟨v, hg4.cell hv1 (by intro e; have := Option.some.inj e; simp only at this; omega), hv2⟩
      · exact ⟨hg4.os.trans q5.os, hg4.tape.trans q5.tape, hg4.output.trans q5.output, by omega, fun j hj j1 j2 => (hg4.block j (by omega) (by intro e; exact j2 (Option.some.inj e))).trans (q5.block j hj j1 (by omega))⟩
end Go.Proofs.Ythafffnebaaeiaa
