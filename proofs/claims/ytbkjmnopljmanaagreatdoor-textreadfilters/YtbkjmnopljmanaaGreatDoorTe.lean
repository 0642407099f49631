/- Hexadecimal digits written: internal/strconv.formatBits at base 16, strconv.AppendUint. -/
import Derived.Test.YtbkjmnopljmanaaGreatDoorTa
import Derived.Lib.AppendStr
import Derived.Laws.OwnMore
namespace Go.Proofs.YtbkjmnopljmanaaGreatDoor
open Go.RowKit

/-- A row of bytes of the call's own. -/
def Ow (B : Nat) (w : World) (v : Value) (l : List UInt8) : Prop := w.ownsRow B 5 1 v l.length (Lib.byteCells l)
theorem Ow.low {B : Nat} {w w' : World} {v : Value} {l : List UInt8} (h : Ow B w v l) (hb : Below w.heap.size w w') : Ow B w' v l :=
  ⟨h.1, h.2.imp id fun ⟨g, cap, cur, h1, h2, h3, h4⟩ => ⟨g, cap, cur, h1, h2, by rw [hb.block g (Array.getElem?_eq_some_iff.1 h3).1]; exact h3, h4⟩⟩
theorem Ow.none (B : Nat) (w : World) : Ow B w (.slice none 0 0) [] := World.ownsRow_nil _ _ _ _
theorem info_u8 : (Tryz.prog.info? 5).map (fun i => (i.zero, i.size, i.bytes)) = some (some (.int .u8 0), 1, 1) := by kernel_rfl
theorem Ow.app_str {B : Nat} {w : World} {ops : Array Oper} {rest : List Oper} {o : Oper} {a : Act} {Q : Exit → Act → World → Prop} (hgd : o.guard = Option.none) (sl x : Operand)
    (ho : o.op = .call { callee := .builtin .append, args := #[sl, x], argTypes := #[45, 9] }) (v : Value) (l : List UInt8) (hs : a.eval sl = v) (hown : Ow B w v l) (s : ByteArray) (hx : a.eval x = .string s)
    (hl : l.length ≤ 1000000) (hz : s.size ≤ 1000000) (hB : B ≤ w.heap.size)
    (h : ∀ v' w', Ow B w' v' (l ++ s.data.toList) → Below B w w' → wpList Tryz.prog ops Q rest (a.put o.dst v') w') : wpList Tryz.prog ops Q (o :: rest) a w := by
  obtain ⟨i0, hi, hz0, hz1, hz2⟩ := info_parts info_u8
  refine Lib.wpList_append_own_string w hgd sl x 45 9 ho B 5 i0 Tryz.underlying45 Tryz.underlying9 hi hz0 hz1 hz2 v _ _ hs hown s hx (by unfold maxLen; omega) (by omega) hB fun v' w' h2 h3 _ => ?_
  refine h v' w' ?_ ((Below.refl B w).grown h3 hB (fun k hk => (hown.lt k hk).1))
  have e1 : (l ++ s.data.toList).length = l.length + s.size := by rw [List.length_append]; rfl
  have e2 : Lib.byteCells (l ++ s.data.toList) = Lib.byteCells l ++ Lib.strCells s := by simp [Lib.byteCells, Lib.strCells]
  show w'.ownsRow _ _ _ _ _ _
  rw [e1, e2]; exact h2
theorem Ow.app_row {B : Nat} {w : World} {ops : Array Oper} {rest : List Oper} {o : Oper} {a : Act} {Q : Exit → Act → World → Prop} (hgd : o.guard = Option.none) (sl x : Operand)
    (ho : o.op = .call { callee := .builtin .append, args := #[sl, x], argTypes := #[45, 45] }) (v : Value) (l : List UInt8) (hs : a.eval sl = v) (hown : Ow B w v l) (A off m c : Nat) (l2 : List UInt8) (hx : a.eval x = .slice (some ⟨A, off, Option.none⟩) m c)
    (hm : l2.length = m) (hc : ∀ j (hj : j < l2.length), w.cell? ⟨A, off + j, Option.none⟩ = some (.int .u8 (l2[j]'hj).toNat))
    (hl : l.length ≤ 1000000) (hz : m ≤ 1000000) (hB : B ≤ w.heap.size)
    (h : ∀ v' w', Ow B w' v' (l ++ l2) → Below B w w' → wpList Tryz.prog ops Q rest (a.put o.dst v') w') : wpList Tryz.prog ops Q (o :: rest) a w := by
  obtain ⟨i0, hi, hz0, hz1, hz2⟩ := info_parts info_u8
  refine wpList_append_own w hgd sl x 45 ho B 5 i0 (.int .u8 0) 1 1 Tryz.underlying45 hi hz0 hz1 hz2 rfl (by decide) v _ _ hs hown ⟨A, off, Option.none⟩ m c (Lib.byteCells l2) hx (by simp [Lib.byteCells, hm]) ?_ ?_ (by unfold maxLen; omega) (by omega) hB fun v' w' h2 h3 _ => ?_
  · intro j u hj
    have hj' : j < l2.length := by
      apply Nat.lt_of_not_le; intro hn
      rw [List.getElem?_eq_none (by simpa [Lib.byteCells] using hn)] at hj; cases hj
    have := hc j hj'
    simp [Lib.byteCells, hj'] at hj
    subst hj
    by_cases h0 : j = 0
    · subst h0; simp [Addr.add]
    · simp only [Addr.add, h0, if_false]; exact this
  · intro u hu
    simp [Lib.byteCells] at hu
    obtain ⟨b, _, rfl⟩ := hu
    rfl
  refine h v' w' ?_ ((Below.refl B w).grown h3 hB (fun k hk => (hown.lt k hk).1))
  have e1 : (l ++ l2).length = l.length + m := by rw [List.length_append, hm]
  have e2 : Lib.byteCells (l ++ l2) = Lib.byteCells l ++ Lib.byteCells l2 := by simp [Lib.byteCells]
  show w'.ownsRow _ _ _ _ _ _
  rw [e1, e2]; exact h2

/-- A digit's letter. -/
def dgc (d : Nat) : UInt8 := if d < 10 then UInt8.ofNat (48 + d) else UInt8.ofNat (87 + d)
/-- A number's digits to the base sixteen. -/
def hexL (n : Nat) : List UInt8 := if _h : n < 16 then [dgc n] else hexL (n / 16) ++ [dgc (n % 16)]
termination_by n
decreasing_by omega
theorem hexL_small {n : Nat} (h : n < 16) : hexL n = [dgc n] := by rw [hexL, dif_pos h]
theorem hexL_step {n : Nat} (h : ¬ n < 16) : hexL n = hexL (n / 16) ++ [dgc (n % 16)] := by rw [hexL, dif_neg h]

theorem pow2_16 (w : World) : Calls Tryz.prog 108 #[.int .i64 16] w fun e w' => e = .returned (.bool true) ∧ w' = w := by
  have hb : bits .and .i64 16 15 = 0 := by decide
  go_enter Tryz.func108, Tryz.ntmps108
  go_wp2
  go_ret
  exact ⟨rfl, rfl⟩

theorem tz_16 (w : World) (hT : TabAt (Tryz.lays29_ren.g 1) Lib.deBruijn64tab w) : Calls Tryz.prog 109 #[.int .u64 16] w fun e w' => e = .returned (.int .i64 4) ∧ w' = w :=
  Tryz.bits_TrailingZeros 16 (by decide) w hT

theorem slice65 (A k : Nat) (hk : k < 65) (W : World) : (Instr.sliceAt 147 (.pointer (some ⟨A, 0, none⟩)) (some (.int .i64 (k : Nat))) none none).run Tryz.prog W = .ok (.slice (some ⟨A, k, none⟩) (65 - k) (65 - k)) W := by
  have hal : Tryz.prog.arrayLen 147 = 65 := by simp [Program.arrayLen, Tryz.underlying147]
  have hel : Tryz.prog.elem 147 = 5 := by simp [Program.elem, Tryz.underlying147]
  have hsz : (sizeOf 5).run Tryz.prog W = .ok 1 W := by kernel_rfl
  rw [run_sliceAt_array_l W 147 ⟨A, 0, none⟩ (by simp [Program.arrayLen, Program.elem, Tryz.underlying147]) .i64 (k : Int) (by omega) (by rw [hal]; omega), hel, hsz, hal]
  have h65 : ¬ 65 = k := by omega
  by_cases h0 : k = 0
  · subst h0; simp [slicedAt, Addr.add, Result.andThen]
  · simp [slicedAt, Addr.add, Result.andThen, h65, h0]
/-- So stand the digits at the end of a row of 65. -/
structure HexRow (w wr : World) (u0 u : Nat) (ds : List UInt8) : Prop where
  row : ∃ cs : Array Value, wr.heap[w.heap.size]? = some (.cells cs 147 (0, 0)) ∧ cs.size = 65 ∧ ∀ j (hj : j < ds.length), cs[65 - ds.length + j]? = some (.int .u8 (ds[j]'hj).toNat)
  below : Below w.heap.size w wr
  num : hexL u0 = hexL u ++ ds
  few : u < 16 ^ (16 - ds.length)
  len : ds.length ≤ 15
theorem dig_at (d : Nat) (hd : d < 16) (h : d < (ByteArray.mk #[48, 49, 50, 51, 52, 53, 54, 55, 56, 57, 97, 98, 99, 100, 101, 102, 103, 104, 105, 106, 107, 108, 109, 110, 111, 112, 113, 114, 115, 116, 117, 118, 119, 120, 121, 122]).size) :
    ((ByteArray.mk #[48, 49, 50, 51, 52, 53, 54, 55, 56, 57, 97, 98, 99, 100, 101, 102, 103, 104, 105, 106, 107, 108, 109, 110, 111, 112, 113, 114, 115, 116, 117, 118, 119, 120, 121, 122])[d]'h).toNat = (dgc d).toNat := by
  rcases (by omega : d = 0 ∨ d = 1 ∨ d = 2 ∨ d = 3 ∨ d = 4 ∨ d = 5 ∨ d = 6 ∨ d = 7 ∨ d = 8 ∨ d = 9 ∨ d = 10 ∨ d = 11 ∨ d = 12 ∨ d = 13 ∨ d = 14 ∨ d = 15) with rfl | rfl | rfl | rfl | rfl | rfl | rfl | rfl | rfl | rfl | rfl | rfl | rfl | rfl | rfl | rfl <;> rfl
theorem HexRow.cell {w wr : World} {u0 u : Nat} {ds : List UInt8} (h : HexRow w wr u0 u ds) (i : Nat) (hi : i < 65) : (∃ v, wr.cell? ⟨w.heap.size, i, none⟩ = some v) ∧ wr.frozen? ⟨w.heap.size, i, none⟩ = false := by
  obtain ⟨cs, h1, h2, _⟩ := h.row
  exact ⟨⟨cs[i]'(by omega), Blk.cell (b := w.heap.size) h1 i (by simp [h2, hi])⟩, Blk.unfrozen h1 i⟩
theorem HexRow.put {w wr : World} {u0 u : Nat} {ds : List UInt8} (h : HexRow w wr u0 u ds) (d : UInt8) (u' : Nat) (hn : hexL u0 = hexL u' ++ (d :: ds)) (hf : u' < 16 ^ (16 - (ds.length + 1))) (hl : ds.length + 1 ≤ 15) :
    HexRow w (wr.setCell ⟨w.heap.size, 65 - (ds.length + 1), none⟩ (.int .u8 (d.toNat : Nat))) u0 u' (d :: ds) := by
  obtain ⟨cs, h1, h2, h3⟩ := h.row
  have hb := h.below
  refine ⟨⟨_, Blk.put (w := wr) h1 (65 - (ds.length + 1)) (.int .u8 (d.toNat : Nat)), by simpa using h2, ?_⟩, ?_, hn, by simpa using hf, by simpa using hl⟩
  · intro j hj
    have hj' : j < ds.length + 1 := by simpa using hj
    cases j with
    | zero =>
      have e : 65 - (d :: ds).length + 0 = 65 - (ds.length + 1) := by simp
      rw [e, Array.getElem?_setIfInBounds_self_of_lt (by rw [h2]; omega)]; rfl
    | succ j =>
      have := h3 j (by omega)
      rw [Array.getElem?_setIfInBounds_ne (by simp only [List.length_cons]; omega)]
      simp only [List.length_cons, List.getElem_cons_succ]
      rw [← this]; congr 1; omega
  · exact ⟨hb.os, hb.tape, hb.output, by simpa [World.setCell] using hb.size, fun k hk => by
      rw [Below.heap_setCell _ _ _ _ (by show k ≠ w.heap.size; omega)]; exact hb.block k hk⟩

theorem HexRow.last {w wr : World} {u0 u : Nat} {ds : List UInt8} (h : HexRow w wr u0 u ds) (hu : u < 16) :
    hexL u0 = dgc u :: ds ∧ (∀ j (hj : j < (dgc u :: ds).length), (wr.setCell ⟨w.heap.size, 65 - (ds.length + 1), none⟩ (.int .u8 ((dgc u).toNat : Nat))).cell? ⟨w.heap.size, 65 - (ds.length + 1) + j, none⟩ = some (.int .u8 ((dgc u :: ds)[j]'hj).toNat)) ∧
      Below w.heap.size w (wr.setCell ⟨w.heap.size, 65 - (ds.length + 1), none⟩ (.int .u8 ((dgc u).toNat : Nat))) := by
  obtain ⟨cs, h1, h2, h3⟩ := h.row
  have hb := h.below
  have hl := h.len
  refine ⟨by rw [h.num, hexL_small hu]; rfl, fun j hj => ?_, ?_⟩
  · refine Blk.cell (Blk.put (w := wr) h1 (65 - (ds.length + 1)) (.int .u8 ((dgc u).toNat : Nat))) _ ?_
    have hj' : j < ds.length + 1 := by simpa using hj
    cases j with
    | zero =>
      show (cs.setIfInBounds (65 - (ds.length + 1)) _)[65 - (ds.length + 1)]? = _
      rw [Array.getElem?_setIfInBounds_self_of_lt (by rw [h2]; omega)]; rfl
    | succ j =>
      have := h3 j (by omega)
      rw [Array.getElem?_setIfInBounds_ne (by omega)]
      simp only [List.getElem_cons_succ]
      rw [← this]; congr 1; omega
  · exact ⟨hb.os, hb.tape, hb.output, by simpa [World.setCell] using hb.size, fun k hk => by
      rw [Below.heap_setCell _ _ _ _ (by show k ≠ w.heap.size; omega)]; exact hb.block k hk⟩

set_option maxHeartbeats 6400000 in
set_option maxRecDepth 100000 in
theorem format16 (B : Nat) (u0 : Nat) (hu0 : u0 < 18446744073709551616) (sv : Value) (l : List UInt8) (w : World) (hown : Ow B w sv l) (hBw : B ≤ w.heap.size) (hlim : l.length ≤ 1000000)
    (hT : TabAt (Tryz.lays29_ren.g 1) Lib.deBruijn64tab w) (hg : Tryz.lays29_ren.g 1 < w.heap.size) :
    Calls Tryz.prog 95 #[sv, .int .u64 (u0 : Nat), .int .i64 16, .bool false, .bool true] w fun e w' => ∃ v', e = .returned (.tuple #[v', .string ⟨#[]⟩]) ∧
      Ow B w' v' (l ++ hexL u0) ∧ Below B w w' := by
  have HO := hide hown
  have HT : Hid (∀ w', Below w.heap.size w w' → TabAt (Tryz.lays29_ren.g 1) Lib.deBruijn64tab w') := fun w' hb j hj => by rw [hb.cell hg]; exact hT j hj
  have H0 : Hid (HexRow w (w.alloc (Obj.cells Tryz.zeroCells147 147)) u0 u0 []) := ⟨⟨_, Blk.alloc, by kernel_rfl, fun j hj => by simp at hj⟩, (Below.refl _ _).alloc (Nat.le_refl _) _, by simp, by simpa using hu0, by simp⟩
  clear hown hT hg
  go_enter Tryz.func95, Tryz.ntmps95
  go_wp2_with (first
    | (go_at_call 108; refine (pow2_16 _).mono ?_; rintro e w' ⟨rfl, rfl⟩)
    | (go_at_call 109; refine (tz_16 _ (unhide HT _ ((Below.refl _ _).alloc (Nat.le_refl _) _))).mono ?_; rintro e w' ⟨rfl, rfl⟩))
  go_loopw [1, 13] (fun vu vi wr => ∃ (u : Nat) (ds : List UInt8) (i : Int), vu = .int .u64 (u : Nat) ∧ vi = .int .i64 i ∧ Hid (i = 65 - (ds.length : Int)) ∧ HexRow w wr u0 u ds)
    (fun vu _ _ => (intOf vu).toNat)
  case atStart => exact ⟨u0, [], 65, rfl, rfl, rfl, unhide H0⟩
  case round =>
    obtain ⟨u, ds, i, rfl, rfl, hi, hr⟩ := hrel
    have h1 := hr.len
    have h2 := hr.few
    have h3 := hr.num
    by_cases hu : u < 16
    · obtain ⟨⟨v0, hc⟩, hf⟩ := hr.cell (65 - (ds.length + 1)) (by omega)
      obtain ⟨k, hk⟩ : ∃ k, k = 65 - (ds.length + 1) := ⟨_, rfl⟩
      have HP := hide (hr.last hu)
      rw [← hk] at hc hf HP
      have hik : i - 1 = (k : Int) := by have := unhide hi; omega
      have hk65 : (k : Int) < 65 := by omega
      have i16 : ¬ (16 : Int) ≤ (u : Int) := by omega
      have i36 : (u : Int) < 36 := by omega
      have HI := hide hk
      have hsl := slice65 w.heap.size k (by omega)
      have hdu := dig_at u hu
      have hlen : (dgc u :: ds).length = 65 - k := by rw [List.length_cons]; omega
      clear hk hr h2 h3
      go_wp2_with (at_builtin; (refine Ow.app_row rfl _ _ rfl sv l rfl ((unhide HO).low (unhide HP).2.2) w.heap.size k (65 - k) (65 - k) (dgc u :: ds) rfl hlen (unhide HP).2.1 hlim (by omega) (Nat.le_trans hBw (unhide HP).2.2.size) ?_); intro v' w' ho hb; have HO' := hide ho; have HB' := hide hb; clear ho hb)
      go_ret2
      refine ⟨_, rfl, ?_, ((unhide HP).2.2.mono hBw).trans (unhide HB')⟩
      rw [(unhide HP).1]; exact unhide HO'
    · have hl : ds.length ≤ 14 := by
        apply Nat.le_of_not_lt
        intro h
        have : 16 - ds.length = 1 := by omega
        rw [this] at h2; omega
      have hub : u < 18446744073709551616 := Nat.lt_of_lt_of_le h2 (Nat.le_trans (Nat.pow_le_pow_right (by decide) (show 16 - ds.length ≤ 16 by omega)) (by decide))
      obtain ⟨d, hd⟩ : ∃ d, d = u % 16 := ⟨_, rfl⟩
      obtain ⟨q, hq⟩ : ∃ q, q = u / 16 := ⟨_, rfl⟩
      have hd16 : d < 16 := by omega
      have hand : bits .and .u64 (u : Int) 15 = (d : Int) := by
        have := bits_and_u64_nat u 15 hub (by decide)
        rw [hd, show u % 16 = u &&& 15 from (Nat.and_two_pow_sub_one_eq_mod u 4).symm]
        exact_mod_cast this
      have hsh : (u : Int) / 16 = (q : Int) := by omega
      obtain ⟨⟨v0, hc⟩, hf⟩ := hr.cell (65 - (ds.length + 1)) (by omega)
      have HP := hide (hr.put (dgc d) q (by rw [h3, hexL_step hu, ← hd, ← hq, List.append_assoc]; rfl) (by
        have e : 16 - ds.length = (16 - (ds.length + 1)) + 1 := by omega
        rw [e, Nat.pow_succ] at h2; omega) (by omega))
      have HR := hide hr
      obtain ⟨k, hk⟩ : ∃ k, k = 65 - (ds.length + 1) := ⟨_, rfl⟩
      rw [← hk] at hc hf HP
      have hik : i - 1 = (k : Int) := by have := unhide hi; omega
      have hk65 : (k : Int) < 65 := by omega
      have i16 : (16 : Int) ≤ (u : Int) := by omega
      have HI := hide hk
      have i36 : (d : Int) < 36 := by omega
      have Hq := hide hq
      clear hk hr h1 h2 h3 hd hq hub
      go_wp2_with fail
      rw [dig_at d hd16]
      exact ⟨⟨q, dgc d :: ds, k, rfl, rfl, (by have := unhide HI; show (k : Int) = _; rw [List.length_cons]; omega), unhide HP⟩, by have := unhide Hq; simp only [intOf]; omega⟩

theorem appendUint16 (B : Nat) (u0 : Nat) (hu0 : u0 < 18446744073709551616) (sv : Value) (l : List UInt8) (w : World) (hown : Ow B w sv l) (hBw : B ≤ w.heap.size) (hlim : l.length ≤ 1000000)
    (hT : TabAt (Tryz.lays29_ren.g 1) Lib.deBruijn64tab w) (hg : Tryz.lays29_ren.g 1 < w.heap.size) :
    Calls Tryz.prog 63 #[sv, .int .u64 (u0 : Nat), .int .i64 16] w fun e w' => ∃ v', e = .returned v' ∧ Ow B w' v' (l ++ hexL u0) ∧ Below B w w' := by
  have HF := hide (format16 B u0 hu0 sv l w hown hBw hlim hT hg)
  clear hown hT hg
  have HI : Hid (Calls Tryz.prog 76 #[sv, .int .u64 (u0 : Nat), .int .i64 16] w fun e w' => ∃ v', e = .returned v' ∧ Ow B w' v' (l ++ hexL u0) ∧ Below B w w') := by
    refine hide ?_
    go_enter Tryz.func76, Tryz.ntmps76
    go_wp2_with (go_at_call 95; refine (unhide HF).mono ?_; rintro e w' ⟨v', rfl, h1, h2⟩; have H1 := hide h1; have H2 := hide h2; clear h1 h2)
    go_ret
    exact ⟨_, rfl, unhide H1, unhide H2⟩
  go_enter Tryz.func63, Tryz.ntmps63
  go_wp2_with (go_at_call 76; refine (unhide HI).mono ?_; rintro e w' ⟨v', rfl, h1, h2⟩; have H1 := hide h1; have H2 := hide h2; clear h1 h2)
  go_ret
  exact ⟨_, rfl, unhide H1, unhide H2⟩
end Go.Proofs.YtbkjmnopljmanaaGreatDoor
