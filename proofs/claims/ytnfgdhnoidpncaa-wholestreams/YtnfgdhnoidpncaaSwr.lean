/- Bytes written: what a stream's writer does. -/
import Derived.Test.YtnfgdhnoidpncaaSne
namespace Go.Proofs.Ytnfgdhnoidpncaa
open Go.RowKit

/-- At block Bw lies a writer whose slice is v: l bytes, byte j is F j; all in blocks from base on. -/
structure WB (w : World) (base Bw : Nat) (F : Nat → Nat) (l : Nat) (v : Value) : Prop where
  box : Boxed w Bw 68 v
  own : ∃ xs, w.ownsRow base 5 1 v l xs ∧ ∀ j, j < l → xs[j]? = some (.int .u8 (F j : Nat))
  le : base ≤ Bw
/-- What changed: the writer's block, the block of its bytes; else there are new blocks only. -/
def WK (w w' : World) (Bw : Nat) (v v' : Value) : Prop := But (fun k => k = Bw ∨ some k = v.ownBlock) w w' ∧ ∀ k, some k = v'.ownBlock → some k = v.ownBlock ∨ w.heap.size ≤ k
theorem WK.refl (w : World) (Bw : Nat) (v : Value) : WK w w Bw v v := ⟨But.refl _ _, fun _ h => .inl h⟩
theorem WK.trans {a b c : World} {Bw : Nat} {u v z : Value} (h : WK a b Bw u v) (k : WK b c Bw v z) : WK a c Bw u z := by
  refine ⟨h.1.trans k.1 (fun i hi => ?_), fun i hi => ?_⟩
  · rcases hi with hi | hi
    · exact .inl (.inl hi)
    · exact (h.2 i hi).elim (fun e => .inl (.inr e)) .inr
  · rcases k.2 i hi with e | e
    · exact h.2 i e
    · exact .inr (Nat.le_trans h.1.size e)
theorem WK.low {w w' : World} (hb : Below w.heap.size w w') (Bw : Nat) (v : Value) : WK w w' Bw v v := ⟨But.low hb, fun _ h => .inl h⟩
theorem WB.lt {w : World} {base Bw l : Nat} {F : Nat → Nat} {v : Value} (h : WB w base Bw F l v) : Bw < w.heap.size ∧ ∀ k, some k = v.ownBlock → base ≤ k ∧ k < w.heap.size := by
  obtain ⟨xs, ho, _⟩ := h.own
  exact ⟨h.box.lt, fun k hk => ho.lt k hk.symm⟩
theorem WK.below {w w' : World} {base Bw l : Nat} {F : Nat → Nat} {v v' : Value} (h : WB w base Bw F l v) (k : WK w w' Bw v v') : Below base w w' :=
  ⟨k.1.os, k.1.tape, k.1.output, k.1.size, fun i hi => k.1.block i (by have := h.le; have := h.box.lt; omega) (fun e => e.elim (fun e => by have := h.le; omega) (fun e => by have := (h.lt.2 i e).1; omega))⟩
theorem WB.same {w w' : World} {base Bw l : Nat} {F : Nat → Nat} {v : Value} {O : Nat → Prop} (h : WB w base Bw F l v) (hb : But O w w') (h1 : ¬ O Bw) (h2 : ∀ k, some k = v.ownBlock → ¬ O k) : WB w' base Bw F l v := by
  obtain ⟨xs, ho, hx⟩ := h.own
  exact ⟨(hb.block Bw h.box.lt h1).trans h.box, ⟨xs, ownsRow_same ho (fun j hj => hb.block j (ho.lt j hj).2 (h2 j hj.symm)), hx⟩, h.le⟩
theorem WB.low {w w' : World} {base Bw l : Nat} {F : Nat → Nat} {v : Value} (h : WB w base Bw F l v) (hb : Below w.heap.size w w') : WB w' base Bw F l v := h.same (But.low (O := fun _ => False) hb) (fun e => e) (fun _ _ e => e)
theorem info_u8 : (Try.prog.info? 5).map (fun i => (i.zero, i.size, i.bytes)) = some (some (.int .u8 0), 1, 1) := by kernel_rfl
theorem wr_ne : (68 : TypeId) ≠ 5 := by decide
/-- One byte more. -/
theorem WB.put {w w9 : World} {base Bw l b : Nat} {F : Nat → Nat} {v v9 : Value} {o : Obj} (h : WB w base Bw F l v) {xs : List Value} (hx : ∀ j, j < l → xs[j]? = some (.int .u8 (F j : Nat))) (hlen : xs.length = l) (hg : (w.alloc o).grownBy w9 v.ownBlock) (ho : w9.ownsRow base 5 1 v9 (l + 1) (xs ++ [.int .u8 (b : Nat)]))
    (hv : v9.ownBlock = v.ownBlock ∨ v9.ownBlock = some (w.alloc o).heap.size) (hF : F l = b) : WB (w9.setCell ⟨Bw, 0, none⟩ v9) base Bw F (l + 1) v9 ∧ WK w (w9.setCell ⟨Bw, 0, none⟩ v9) Bw v v9 := by
  have hne : some Bw ≠ v.ownBlock := by obtain ⟨ys, hy, _⟩ := h.own; exact h.box.not_row wr_ne hy
  have hB9 : Boxed w9 Bw 68 v := (h.box.alloc o).kept hg hne
  have hs := hg.size
  have hsa : (w.alloc o).heap.size = w.heap.size + 1 := by simp
  have hne9 : some Bw ≠ v9.ownBlock := hB9.not_row wr_ne ho
  refine ⟨⟨hB9.set v9, ⟨xs ++ [.int .u8 (b : Nat)], ownsRow_same ho (fun j hj => Below.heap_setCell _ _ _ _ (fun e => hne9 (by rw [hj]; exact congrArg some e.symm))), fun j hj => ?_⟩, h.le⟩, ⟨hg.os, hg.tape, hg.output, by simp; omega, fun k hk hn => ?_⟩, fun k hk => ?_⟩
  · by_cases hjl : j < l
    · rw [List.getElem?_append_left (by omega)]; exact hx j hjl
    · have : j = l := by omega
      subst this
      rw [List.getElem?_append_right (by omega), hlen, Nat.sub_self, hF]; rfl
  · exact (Below.heap_setCell _ _ _ _ (fun e => hn (.inl e))).trans ((hg.block k (by omega) (fun e => hn (.inr e))).trans (Below.heap_alloc _ _ _ hk))
  · rcases hv with e | e
    · exact .inl (hk.trans e)
    · rw [e] at hk; have := Option.some.inj hk; exact .inr (by omega)

set_option maxRecDepth 100000 in
set_option maxHeartbeats 2000000 in
theorem word_any (base Bw l x : Nat) (F : Nat → Nat) (v : Value) (w : World) (h : WB w base Bw F l v) (hl : l ≤ 4000) (hF : ∀ i, i < 8 → F (l + i) = be8 x i) :
    Calls Try.prog 23 #[.pointer (some ⟨Bw, 0, none⟩), .int .u64 x] w fun e w' => (∃ u, e = .returned u) ∧ ∃ v', WB w' base Bw F (l + 8) v' ∧ WK w w' Bw v v' := by
  obtain ⟨i0, hi, hz0, hz1, hz2⟩ := info_parts info_u8
  have H := hide h
  clear h
  go_enter Try.func23, Try.ntmps23
  go_wp2_with fail
  go_loopw [4] (fun sh wr => ∃ i : Nat, i ≤ 8 ∧ sh = .int .i64 (56 - 8 * (i : Int)) ∧ ∃ v', WB wr base Bw F (l + i) v' ∧ WK w wr Bw v v')
    (fun sh _ => (intOf sh + 8).toNat)
  case atStart => exact ⟨0, by omega, by go_num, v, unhide H, WK.refl _ _ _⟩
  case round =>
    obtain ⟨i, hi8, rfl, v', hB, hK⟩ := hrel
    by_cases hlt : i < 8
    · have h56 : (0 : Int) ≤ 56 - 8 * (i : Int) := by omega
      obtain ⟨xs, ho, hxs⟩ := hB.own
      obtain ⟨ad, cp, rfl⟩ := row_form ho
      have hlen : xs.length = l + i := by have := ho.1; omega
      have hc := hB.box.cell
      have hf := hB.box.frozen
      have hblt := hB.box.lt
      have hle := hB.le
      have HB := hide (And.intro hB (And.intro hK hxs))
      clear hB hK hxs
      obtain ⟨bb, hbb, hbF⟩ : ∃ bb : Nat, IntKind.u8.wrap ((x : Int) / 2 ^ (56 - 8 * (i : Int)).toNat) = (bb : Int) ∧ F (l + i) = bb := by
        refine ⟨be8 x i, ?_, hF i hlt⟩
        rcases (by omega : i = 0 ∨ i = 1 ∨ i = 2 ∨ i = 3 ∨ i = 4 ∨ i = 5 ∨ i = 6 ∨ i = 7) with rfl | rfl | rfl | rfl | rfl | rfl | rfl | rfl <;> simp [be8, IntKind.wrap, IntKind.bits, IntKind.signed]
      have hod : (wr.drew.alloc (Obj.cells #[.int .u8 (bb : Int)] 5)).ownsRow base 5 1 (.slice ad (l + i) cp) (l + i) xs := (ownsRow_same (w' := wr.drew) ho (fun j _ => rfl)).alloc _
      have hbx : Boxed (wr.drew.alloc (Obj.cells #[.int .u8 (bb : Int)] 5)) Bw 68 (.slice ad (l + i) cp) := Boxed.alloc (W := wr.drew) (unhide HB).1.box _
      have hne := hbx.not_row wr_ne hod
      have Hod := hide (And.intro hod hbx)
      clear ho hbx hF
      go_wp2_with fail
      go_region_law (first | (refine step_append_at (by rfl) _ _ 68 (by rfl) base 5 i0 (.int .u8 0) 1 1 Try.underlying68 hi hz0 hz1 hz2 rfl Nat.one_pos (.slice ad (l + i) cp) (l + i) xs (by rfl) (unhide Hod).1 ⟨wr.heap.size, 0, none⟩ 1 1 [.int .u8 (bb : Int)] (by rfl) rfl (World.news_of_block (cs := #[.int .u8 (bb : Int)]) (t := 5) (fr := (0, 0)) (heap_alloc_new wr.drew _)) (by intro u hu; simp at hu; subst hu; rfl) (by unfold maxLen; omega) (by omega) (by simp; omega) ?_; intro v9 w9 hown9 hg9 hv9; obtain ⟨ad9, c9, rfl⟩ := row_form hown9; have hgc9 : w9.cell? ⟨Bw, 0, none⟩ = some (.slice ad (l + i) cp) := ((unhide Hod).2.kept hg9 hne).cell; have hgf9 : w9.frozen? ⟨Bw, 0, none⟩ = false := ((unhide Hod).2.kept hg9 hne).frozen) | fail)
      all_goals
        obtain ⟨hB, hK, hxs⟩ := unhide HB
        obtain ⟨k1, k2⟩ := (hB.low (still_drew wr _)).put hxs hlen hg9 hown9 hv9 hbF
        have k3 := (hK.trans (WK.low (still_drew wr _) Bw _)).trans k2
        have HK9 := hide (And.intro k1 k3)
        clear hB hK hxs k1 k2 k3 HB Hod hod hg9 hown9 hv9 hgc9 hgf9 hc hf
        go_wp2
        go_roundw
        case rel => exact ⟨i + 1, by omega, by go_num, _, (unhide HK9).1, (unhide HK9).2⟩
        case measure => simp [intOf]; omega
    · have : i = 8 := by omega
      subst this
      have HK9 := hide (And.intro hB hK)
      clear hB hK
      go_wp2
      go_end0
      exact ⟨⟨_, rfl⟩, v', unhide HK9⟩

set_option maxRecDepth 100000 in
theorem isNaN_any (b : Nat) (hb : b < 18446744073709551616) (w : World) : Calls Try.prog 50 #[.float .f64 b] w fun e w' => e = .returned (.bool (isnan b)) ∧ w' = w := by
  have t1 := neq_self b hb
  go_enter Try.func50, Try.ntmps50
  go_wp2
  go_ret
  exact ⟨rfl, rfl⟩
set_option maxRecDepth 100000 in
set_option maxHeartbeats 2000000 in
theorem wfloat_any (base Bw l b : Nat) (F : Nat → Nat) (v : Value) (w : World) (h : WB w base Bw F l v) (hb : b < 18446744073709551616) (hl : l ≤ 4000) (hF : ∀ i, i < 8 → F (l + i) = be8 (cbits (lf b)) i) :
    Calls Try.prog 40 #[.pointer (some ⟨Bw, 0, none⟩), .float .f64 b] w fun e w' => (∃ u, e = .returned u) ∧ ∃ v', WB w' base Bw F (l + 8) v' ∧ WK w w' Bw v v' := by
  have Hn := hide (isNaN_any b hb w)
  have hx := run_bits
  cases hnan : isnan b
  · have e : cbits (lf b) = b := by unfold lf; rw [hnan]; rfl
    rw [e] at hF
    have Hw := hide (word_any base Bw l b F v w h hl hF)
    rw [hnan] at Hn
    clear h hF e hnan
    go_enter Try.func40, Try.ntmps40
    go_wp2_with fail
    refine (unhide Hn).mono ?_
    rintro e w1 ⟨rfl, rfl⟩
    go_wp2_with fail
    refine (unhide Hw).mono ?_
    rintro e w2 ⟨⟨u, rfl⟩, h2⟩
    have H2 := hide h2
    clear h2
    go_wp2
    go_end0
    exact ⟨⟨_, rfl⟩, unhide H2⟩
  · have e : cbits (lf b) = 9221120237041090561 := by unfold lf; rw [hnan]; rfl
    rw [e] at hF
    have Hw := hide (word_any base Bw l 9221120237041090561 F v w h hl hF)
    rw [hnan] at Hn
    clear h hF e hnan
    go_enter Try.func40, Try.ntmps40
    go_wp2_with fail
    refine (unhide Hn).mono ?_
    rintro e w1 ⟨rfl, rfl⟩
    go_wp2_with fail
    refine (unhide Hw).mono ?_
    rintro e w2 ⟨⟨u, rfl⟩, h2⟩
    have H2 := hide h2
    clear h2
    go_wp2
    refine bodyPost_ret (results_none rfl _ _ _) rfl ?_
    exact ⟨⟨_, rfl⟩, unhide H2⟩

set_option maxRecDepth 100000 in
set_option maxHeartbeats 2000000 in
theorem numbers_any (base Bw l m cl Lb : Nat) (F : Nat → Nat) (R I : Nat → Nat) (v : Value) (w : World) (h : WB w base Bw F l v) (hm : m ≤ 5) (hl : l ≤ 3000) (hLB : Lb ≠ Bw) (hLv : some Lb ≠ v.ownBlock)
    (hc : ∀ j, j < m → w.cell? ⟨Lb, j, none⟩ = some (.complex .f64 (R j) (I j)) ∧ R j < 18446744073709551616 ∧ I j < 18446744073709551616) (hF : ∀ j, j < m → ∀ i, i < 8 → F (l + 16 * j + i) = be8 (cbits (lf (R j))) i ∧ F (l + 16 * j + 8 + i) = be8 (cbits (lf (I j))) i) :
    Calls Try.prog 21 #[.pointer (some ⟨Bw, 0, none⟩), .slice (some ⟨Lb, 0, none⟩) m cl] w fun e w' => (∃ u, e = .returned u) ∧ ∃ v', WB w' base Bw F (l + 16 * m) v' ∧ WK w w' Bw v v' := by
  have H := hide h
  clear h
  go_enter Try.func21, Try.ntmps21
  go_wp2_with fail
  go_loopw [8] (fun i wr => ∃ j : Nat, j ≤ m ∧ i = .int .i64 j ∧ ∃ v', WB wr base Bw F (l + 16 * j) v' ∧ WK w wr Bw v v')
    (fun i _ => m - (intOf i).toNat)
  case atStart => exact ⟨0, Nat.zero_le _, rfl, v, unhide H, WK.refl _ _ _⟩
  case round =>
    obtain ⟨j, hj, rfl, v', hB, hK⟩ := hrel
    by_cases hjm : j < m
    · have hjm' : (j : Int) < (m : Int) := by omega
      obtain ⟨c1, c2, c3⟩ := hc j hjm
      have hLr : wr.cell? ⟨Lb, j, none⟩ = some (.complex .f64 (R j) (I j)) := hK.1.cell c1 (by rintro (e | e); exact hLB e; exact hLv e)
      have Hw := hide (wfloat_any base Bw (l + 16 * j) (R j) F v' wr hB c2 (by omega) (fun i hi => (hF j hjm i hi).1))
      have HF := hide hF
      have HC := hide hc
      have HB := hide (And.intro hB hK)
      clear hB hK c1 hF hc
      go_wp2_with fail
      refine (unhide Hw).mono ?_
      rintro e w2 ⟨⟨u, rfl⟩, v2, hB2, hK2⟩
      have Hw2 := hide (wfloat_any base Bw (l + 16 * j + 8) (I j) F v2 w2 hB2 c3 (by omega) (fun i hi => (unhide HF j hjm i hi).2))
      have HB2 := hide (And.intro hB2 hK2)
      clear hB2 hK2 Hw
      go_wp2_with fail
      refine (unhide Hw2).mono ?_
      rintro e w3 ⟨⟨u, rfl⟩, v3, hB3, hK3⟩
      have HB3 := hide (And.intro hB3 hK3)
      clear hB3 hK3 Hw2
      go_wp2
      go_roundw
      case rel => exact ⟨j + 1, by omega, by go_num, v3, by rw [show l + 16 * (j + 1) = l + 16 * j + 8 + 8 by omega]; exact (unhide HB3).1, ((unhide HB).2.trans (unhide HB2).2).trans (unhide HB3).2⟩
      case measure => simp [intOf]; omega
    · have : j = m := by omega
      subst this
      have HK9 := hide (And.intro hB hK)
      clear hB hK
      go_wp2
      go_end0
      exact ⟨⟨_, rfl⟩, v', unhide HK9⟩
end Go.Proofs.Ytnfgdhnoidpncaa
