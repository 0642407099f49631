/- Za, Zb, Zc, Zd, Ze, Zf, Zg, Zh, Zi, Zj, Zk, Zl, one behind the other. -/
import Derived.Test.YtbkjmnopljmanaaGreatDoorVi
import Derived.Test.YtbkjmnopljmanaaGreatDoorYabc
/- Finite numbers: package cplx's and the reference's Finite; numbers.Finite of one; finite of a text's reader. -/
namespace Go.Proofs.YtbkjmnopljmanaaGreatDoor
open Go.RowKit

set_option maxRecDepth 100000 in
set_option maxHeartbeats 1000000 in
theorem cof_any (a b : Nat) (ha : a < 18446744073709551616) (hb : b < 18446744073709551616) (w : World) :
    Calls Tryz.prog 66 #[.complex .f64 a b] w fun e w' => e = .returned (.int .i64 (max (cls a) (cls b))) ∧ w' = w := by
  have Ha := hide (of_any a ha)
  have Hb := hide (of_any b hb)
  clear ha hb
  go_enter Tryz.func66, Tryz.ntmps66
  go_wp2_with fail
  refine (unhide Ha _).mono ?_
  rintro e w' ⟨rfl, rfl⟩
  go_wp2_with fail
  refine (unhide Hb _).mono ?_
  rintro e w' ⟨rfl, rfl⟩
  go_wp2
  all_goals go_ret
  all_goals refine ⟨?_, rfl⟩
  all_goals first | rfl | (rw [Int.max_eq_right (by omega)]; rfl) | (rw [Int.max_eq_left (by omega)]; rfl)
set_option maxRecDepth 100000 in
set_option maxHeartbeats 1000000 in
theorem finite_any (a b : Nat) (ha : a < 18446744073709551616) (hb : b < 18446744073709551616) (w : World) :
    Calls Tryz.prog 53 #[.complex .f64 a b] w fun e w' => e = .returned (.bool (decide (max (cls a) (cls b) < 3))) ∧ w' = w := by
  have Ha := hide (cof_any a b ha hb)
  clear ha hb
  go_enter Tryz.func53, Tryz.ntmps53
  go_wp2_with fail
  refine (unhide Ha _).mono ?_
  rintro e w' ⟨rfl, rfl⟩
  go_wp2
  go_ret
  exact ⟨rfl, rfl⟩

theorem cls_pw (b : Nat) : cls b < 3 ↔ pw b ≠ 2047 := by
  have := pw_le b
  unfold cls
  split
  · omega
  · split
    · omega
    · split
      · omega
      · split <;> omega
/-- Both parts are numbers. -/
def fin (x y : Nat) : Bool := decide (max (cls x) (cls y) < 3)
theorem fin_pw {x y : Nat} (h : fin x y = true) : pw x ≠ 2047 ∧ pw y ≠ 2047 := by
  have := of_decide_eq_true h
  exact ⟨(cls_pw x).1 (by omega), (cls_pw y).1 (by omega)⟩
set_option maxRecDepth 100000 in
theorem nfin1_any (A x y : Nat) (hx : x < 18446744073709551616) (hy : y < 18446744073709551616) (w : World) (hc : w.cell? ⟨A, 0, none⟩ = some (.complex .f64 x y)) :
    Calls Tryz.prog 35 #[.slice (some ⟨A, 0, none⟩) 1 1] w fun e w' => e = .returned (.bool (fin x y)) ∧ w' = w := by
  have H := hide (finite_any x y hx hy)
  obtain ⟨z, hz⟩ : ∃ z, z = fin x y := ⟨_, rfl⟩
  change Hid (∀ w, Calls Tryz.prog 53 #[.complex .f64 x y] w fun e w' => e = .returned (.bool (fin x y)) ∧ w' = w) at H
  rw [← hz] at H ⊢
  clear hz hx hy
  go_enter Tryz.func35, Tryz.ntmps35
  go_wp2_with fail
  go_loopw [7] (fun i wr => ∃ k : Nat, k ≤ 1 ∧ i = .int .i64 k ∧ wr = w ∧ (k = 1 → z = true)) (fun i _ => 1 - (intOf i).toNat)
  case atStart => exact ⟨0, Nat.zero_le _, rfl, rfl, fun h => by cases h⟩
  case round =>
    obtain ⟨k, hk, rfl, hw, hz⟩ := hrel
    obtain rfl := hw.symm
    by_cases hkm : k < 1
    · obtain rfl : k = 0 := by omega
      cases z with
      | true =>
        go_wp2_with (go_at_call 53; refine (unhide H _).mono ?_; rintro e w' ⟨rfl, hw'⟩; obtain rfl := hw'.symm)
        exact ⟨⟨1, Nat.le_refl _, rfl, trivial, fun _ => trivial⟩, by decide⟩
      | false =>
        go_wp2_with (go_at_call 53; refine (unhide H _).mono ?_; rintro e w' ⟨rfl, hw'⟩; obtain rfl := hw'.symm)
        go_ret
        exact ⟨rfl, rfl⟩
    · obtain rfl : k = 1 := by omega
      obtain rfl := hz rfl
      go_wp2
      go_ret
      exact ⟨rfl, rfl⟩
/-! The program's reader: finite, at any place. -/
theorem finite_no {B b : Nat} {s : ByteArray} {p x y p2 : Nat} (hx : x < 18446744073709551616) (hy : y < 18446744073709551616) (hf : fin x y = false) (h : NumberTo B b s p (.ok (.complex .f64 x y) p2)) (w : World) (hr : RdAt w b s p) (hG : Gl B w) :
    Calls Tryz.prog 44 #[.pointer (some ⟨b, 0, none⟩)] w fun e w' => e = .panicked (pan p 5) ∧ But (fun k => k = b) w w' := by
  have c1 := hr.1.cell 1 (v := .int .i64 (p : Int)) rfl
  have HN := hide (h w hr hG)
  have HF : Hid (∀ w1 : World, Calls Tryz.prog 35 #[.slice (some ⟨w1.heap.size, 0, none⟩) 1 1] (w1.alloc (.cells #[.complex .f64 x y] 23)) fun e w' => e = .returned (.bool false) ∧ w' = w1.alloc (.cells #[.complex .f64 x y] 23)) := fun w1 => by
    have := nfin1_any w1.heap.size x y hx hy (w1.alloc (.cells #[.complex .f64 x y] 23)) (Blk.alloc.cell 0 rfl)
    rwa [hf] at this
  clear h hr hG hx hy hf
  go_enter Tryz.func44, Tryz.ntmps44
  go_wp2_with (first
    | (go_at_call 38; refine (unhide HN).mono ?_; rintro e w1 ⟨rfl, hr, hb⟩; have B1 := hide hb; clear hr hb)
    | (go_at_call 35; refine (unhide HF _).mono ?_; rintro e w' ⟨rfl, hw'⟩; obtain rfl := hw'.symm)
    | (go_at_call 51; refine (giveUp_any _ p 5 _).mono ?_; rintro e w5 ⟨rfl, hw'⟩; obtain rfl := hw'.symm))
  exact ⟨rfl, rfl, (unhide B1).trans (But.low ((Below.refl _ _).alloc (Nat.le_refl _) _))⟩
theorem finite_ok {B b : Nat} {s : ByteArray} {p x y p2 : Nat} (hx : x < 18446744073709551616) (hy : y < 18446744073709551616) (hf : fin x y = true) (h : NumberTo B b s p (.ok (.complex .f64 x y) p2)) (w : World) (hr : RdAt w b s p) (hG : Gl B w) :
    Calls Tryz.prog 44 #[.pointer (some ⟨b, 0, none⟩)] w fun e w' => e = .returned (.complex .f64 x y) ∧ RdAt w' b s p2 ∧ But (fun k => k = b) w w' := by
  have c1 := hr.1.cell 1 (v := .int .i64 (p : Int)) rfl
  have HN := hide (h w hr hG)
  have HF : Hid (∀ w1 : World, Calls Tryz.prog 35 #[.slice (some ⟨w1.heap.size, 0, none⟩) 1 1] (w1.alloc (.cells #[.complex .f64 x y] 23)) fun e w' => e = .returned (.bool true) ∧ w' = w1.alloc (.cells #[.complex .f64 x y] 23)) := fun w1 => by
    have := nfin1_any w1.heap.size x y hx hy (w1.alloc (.cells #[.complex .f64 x y] 23)) (Blk.alloc.cell 0 rfl)
    rwa [hf] at this
  clear h hr hG hx hy hf
  go_enter Tryz.func44, Tryz.ntmps44
  go_wp2_with (first
    | (go_at_call 38; refine (unhide HN).mono ?_; rintro e w1 ⟨rfl, hr, hb⟩; have R1 := hide hr; have B1 := hide hb; clear hr hb)
    | (go_at_call 35; refine (unhide HF _).mono ?_; rintro e w' ⟨rfl, hw'⟩; obtain rfl := hw'.symm))
  go_ret
  have hbl := (Below.refl w1.heap.size w1).alloc (Nat.le_refl _) (Obj.cells #[.complex .f64 x y] 23)
  exact ⟨rfl, (unhide R1).low hbl, (unhide B1).trans (But.low hbl)⟩

/-! The reference's Finite. -/
theorem cls_rg (b : Nat) : cls b = if rg b = 0 then 0 else if rg b < 4503599627370496 then 1 else if rg b < 9218868437227405312 then 2 else if rg b = 9218868437227405312 then 3 else 4 := by
  have h1 := rg_eq b
  have h2 := fr_lt b
  have h3 := pw_le b
  unfold cls
  rw [h1]
  generalize pw b = P at *
  generalize fr b = F at *
  (repeat' split) <;> omega
theorem bits03_any (b : Nat) (w : World) : Calls Tryz.prog 91 #[.float .f64 b] w fun e w' => e = .returned (.int .u64 (rg b : Nat)) ∧ w' = w := by
  have hx := run_bits
  have hr : (b : Int).tmod 9223372036854775808 = ((rg b : Nat) : Int) := by rw [Int.tmod_eq_emod_of_nonneg (by omega)]; rfl
  go_enter Tryz.func91, Tryz.ntmps91
  go_wp2
  go_ret
  exact ⟨rfl, rfl⟩
set_option maxRecDepth 100000 in
theorem class_at (b : Nat) (R : Int) (c : Int) (hb : ∀ w, Calls Tryz.prog 91 #[.float .f64 b] w fun e w' => e = .returned (.int .u64 R) ∧ w' = w)
    (h : ((R == 0) = true ∧ c = 0) ∨ ((R == 0) = false ∧ R < 4503599627370496 ∧ c = 1) ∨ ((R == 0) = false ∧ ¬ R < 4503599627370496 ∧ R < 9218868437227405312 ∧ c = 2) ∨ ((R == 0) = false ∧ ¬ R < 4503599627370496 ∧ ¬ R < 9218868437227405312 ∧ (R == 9218868437227405312) = true ∧ c = 3) ∨ ((R == 0) = false ∧ ¬ R < 4503599627370496 ∧ ¬ R < 9218868437227405312 ∧ (R == 9218868437227405312) = false ∧ c = 4)) (w : World) :
    Calls Tryz.prog 72 #[.float .f64 b] w fun e w' => e = .returned (.int .i64 c) ∧ w' = w := by
  have Hb := hide hb
  clear hb
  rcases h with ⟨n0, rfl⟩ | ⟨n0, n1, rfl⟩ | ⟨n0, n1, n2, rfl⟩ | ⟨n0, n1, n2, n3, rfl⟩ | ⟨n0, n1, n2, n3, rfl⟩
  · go_enter Tryz.func72, Tryz.ntmps72
    go_wp2_with (go_at_call 91; refine (unhide Hb _).mono ?_; rintro e w' ⟨rfl, hw'⟩; obtain rfl := hw'.symm)
    go_ret
    exact ⟨rfl, rfl⟩
  · go_enter Tryz.func72, Tryz.ntmps72
    go_wp2_with (go_at_call 91; refine (unhide Hb _).mono ?_; rintro e w' ⟨rfl, hw'⟩; obtain rfl := hw'.symm)
    go_ret
    exact ⟨rfl, rfl⟩
  · go_enter Tryz.func72, Tryz.ntmps72
    go_wp2_with (go_at_call 91; refine (unhide Hb _).mono ?_; rintro e w' ⟨rfl, hw'⟩; obtain rfl := hw'.symm)
    go_ret
    exact ⟨rfl, rfl⟩
  · go_enter Tryz.func72, Tryz.ntmps72
    go_wp2_with (go_at_call 91; refine (unhide Hb _).mono ?_; rintro e w' ⟨rfl, hw'⟩; obtain rfl := hw'.symm)
    go_ret
    exact ⟨rfl, rfl⟩
  · go_enter Tryz.func72, Tryz.ntmps72
    go_wp2_with (go_at_call 91; refine (unhide Hb _).mono ?_; rintro e w' ⟨rfl, hw'⟩; obtain rfl := hw'.symm)
    go_ret
    exact ⟨rfl, rfl⟩
theorem class_any (b : Nat) (w : World) : Calls Tryz.prog 72 #[.float .f64 b] w fun e w' => e = .returned (.int .i64 (cls b)) ∧ w' = w := by
  refine class_at b (rg b : Nat) (cls b) (bits03_any b) ?_ w
  have := cls_rg b
  generalize rg b = r at *
  rw [this]
  by_cases r0 : r = 0
  · subst r0; exact .inl ⟨rfl, by rw [if_pos rfl]⟩
  have n0 : ((r : Int) == 0) = false := by rw [beq_eq_false_iff_ne]; omega
  rw [if_neg r0]
  by_cases r1 : r < 4503599627370496
  · rw [if_pos r1]; exact .inr (.inl ⟨n0, by omega, rfl⟩)
  rw [if_neg r1]
  by_cases r2 : r < 9218868437227405312
  · rw [if_pos r2]; exact .inr (.inr (.inl ⟨n0, by omega, by omega, rfl⟩))
  rw [if_neg r2]
  by_cases r3 : r = 9218868437227405312
  · rw [if_pos r3]; exact .inr (.inr (.inr (.inl ⟨n0, by omega, by omega, by rw [r3]; rfl, rfl⟩)))
  · rw [if_neg r3]; exact .inr (.inr (.inr (.inr ⟨n0, by omega, by omega, by rw [beq_eq_false_iff_ne]; omega, rfl⟩)))
set_option maxRecDepth 100000 in
theorem rclass_any (a b : Nat) (w : World) : Calls Tryz.prog 57 #[.complex .f64 a b] w fun e w' => e = .returned (.int .i64 (max (cls a) (cls b))) ∧ w' = w := by
  have Ha := hide (class_any a)
  have Hb := hide (class_any b)
  go_enter Tryz.func57, Tryz.ntmps57
  go_wp2_with fail
  refine (unhide Ha _).mono ?_
  rintro e w' ⟨rfl, rfl⟩
  go_wp2_with fail
  refine (unhide Hb _).mono ?_
  rintro e w' ⟨rfl, rfl⟩
  go_wp2
  all_goals go_ret
  all_goals refine ⟨?_, rfl⟩
  all_goals first | rfl | (rw [Int.max_eq_right (by omega)]; rfl) | (rw [Int.max_eq_left (by omega)]; rfl)
set_option maxRecDepth 100000 in
theorem rfin_any (a b : Nat) (w : World) : Calls Tryz.prog 48 #[.complex .f64 a b] w fun e w' => e = .returned (.bool (fin a b)) ∧ w' = w := by
  have Ha := hide (rclass_any a b)
  unfold fin
  go_enter Tryz.func48, Tryz.ntmps48
  go_wp2_with (go_at_call 57; refine (unhide Ha _).mono ?_; rintro e w' ⟨rfl, hw'⟩; obtain rfl := hw'.symm)
  go_ret
  exact ⟨rfl, rfl⟩
end Go.Proofs.YtbkjmnopljmanaaGreatDoor

/- A number that must be finite, at any place of a text: both readers alike. -/
namespace Go.Proofs.YtbkjmnopljmanaaGreatDoor
open Go.RowKit

set_option maxHeartbeats 1000000 in
set_option maxRecDepth 100000 in
theorem rdfloat_deadE {w : World} {b : Nat} {s : ByteArray} {a pl er : Nat} (he : er ≠ 0) (h : QdAt w b s a er pl) :
    Calls Tryz.prog 56 #[.pointer (some ⟨b, 0, none⟩)] w fun x w' => x = .returned (.tuple #[.float .f64 0, .bool false]) ∧ QdAt w' b s a er pl ∧ But (fun k => k = b) w w' := by
  obtain ⟨c0, c1, c2, c3⟩ := h.cells
  have H := hide h
  have HE := hide he
  have hz : ((er : Int) == 0) = false := by rw [beq_eq_false_iff_ne]; omega
  have hz2 : ((er : Int) != 0) = true := by rw [bne, hz]; rfl
  have HI : Hid (∀ n c, Calls Tryz.prog 32 #[.pointer (some ⟨b, 0, none⟩), c] (w.drewN n) fun x w' => x = .returned (.bool false) ∧ ∃ m, w' = (w.drewN n).drewN m) := fun n c => is_dead c he (h.drew n)
  have HW : Hid (∀ n t, t.size ≤ 100 → Calls Tryz.prog 21 #[.pointer (some ⟨b, 0, none⟩), .string t] (w.drewN n) fun x w' => x = .returned (.tuple #[]) ∧ w' = w.drewN n) := fun n t ht => want_dead he ht (h.drew n)
  have HR : Hid (∀ n u v, Calls Tryz.prog 70 #[.pointer (some ⟨b, 0, none⟩), u, v] (w.drewN n) fun x w' => x = .returned (.string ⟨#[]⟩) ∧ w' = w.drewN n) := fun n u v => run_dead u v he (h.drew n)
  clear h he
  go_enter Tryz.func56, Tryz.ntmps56
  go_wp2_with (first
    | (go_at_call 32; first | (refine (is_dead _ (unhide HE) (unhide H)).mono ?_; rintro e w1 ⟨rfl, m, rfl⟩) | (refine (unhide HI _ _).mono ?_; rintro e w1 ⟨rfl, m, rfl⟩))
    | (go_at_call 21; refine (unhide HW _ _ (by decide)).mono ?_; rintro e w1 ⟨rfl, hw'⟩; obtain rfl := hw'.symm)
    | (go_at_call 70; refine (unhide HR _ _ _).mono ?_; rintro e w1 ⟨rfl, hw'⟩; obtain rfl := hw'.symm))
  go_ret2
  exact ⟨rfl, (unhide H).drew _, But.still (still_drewN _ _)⟩
set_option maxRecDepth 100000 in
theorem part_deadF {w : World} {b : Nat} {s : ByteArray} {a e0 pl q er : Nat} {c : Nat} (he : er ≠ 0) (h : QdAt w b s a e0 pl)
    (HF : Calls Tryz.prog 56 #[.pointer (some ⟨b, 0, none⟩)] w fun e w' => ∃ x ok a', e = .returned (.tuple #[.float .f64 x, .bool ok]) ∧ QdAt w' b s a' er q ∧ But (fun k => k = b) w w') :
    Calls Tryz.prog 47 #[.pointer (some ⟨b, 0, none⟩), .int .u8 (c : Nat)] w fun e w' => ∃ x a', e = .returned (.float .f64 x) ∧ QdAt w' b s a' er q ∧ But (fun k => k = b) w w' := by
  obtain ⟨c0, c1, c2, c3⟩ := h.cells
  have KF := hide HF
  have HE := hide he
  clear h HF he
  go_enter Tryz.func47, Tryz.ntmps47
  go_wp2_with (go_at_call 56; refine (unhide KF).mono ?_; rintro e w1 ⟨x, ok, a', rfl, hr, hb⟩; have R1 := hide hr; have B1 := hide hb; clear hr hb; refine Hid.out ?_)
  refine hide ?_
  obtain ⟨d0, d1, d2, d3⟩ := (unhide R1).cells
  have hz : ((er : Int) == 0) = false := by rw [beq_eq_false_iff_ne]; have := unhide HE; omega
  cases ok
  all_goals
    go_wp2_with (first
      | (go_at_call 32; refine (is_dead _ (unhide HE) (unhide R1)).mono ?_; rintro e w2 ⟨rfl, m, rfl⟩)
      | (go_at_call 33; refine (fail_dead _ _ (unhide HE) ((unhide R1).drew _)).mono ?_; rintro e w3 ⟨rfl, hw'⟩; obtain rfl := hw'.symm))
    go_ret
    exact ⟨_, _, rfl, (unhide R1).drew _, (unhide B1).trans (But.still (still_drewN _ _))⟩
theorem part_afterE {w : World} {b : Nat} {s : ByteArray} {a pl c er : Nat} (he : er ≠ 0) (h : QdAt w b s a er pl) :
    Calls Tryz.prog 47 #[.pointer (some ⟨b, 0, none⟩), .int .u8 (c : Nat)] w fun e w' => ∃ x a', e = .returned (.float .f64 x) ∧ QdAt w' b s a' er pl ∧ But (fun k => k = b) w w' := part_deadF he h ((rdfloat_deadE he h).mono fun _ _ ⟨h1, h2, h3⟩ => ⟨_, _, _, h1, h2, h3⟩)
set_option maxRecDepth 100000 in
theorem rnum_dead {b : Nat} {s : ByteArray} {a q er : Nat} (m : Bool) (he : er ≠ 0) (w : World) (h : QdAt w b s a er q) :
    Calls Tryz.prog 22 #[.pointer (some ⟨b, 0, none⟩), .bool m] w fun e w' => ∃ x y a', e = .returned (.complex .f64 x y) ∧ QdAt w' b s a' er q ∧ But (fun k => k = b) w w' := by
  have c1 := h.cells.2.1
  have R0 := hide h
  have HE := hide he
  have hz : ((er : Int) == 0) = false := by rw [beq_eq_false_iff_ne]; omega
  clear h he
  go_enter Tryz.func22, Tryz.ntmps22
  go_wp2_with (go_at_call 21; refine (want_dead (unhide HE) (by decide) (unhide R0)).mono ?_; rintro e w1 ⟨rfl, hw'⟩; obtain rfl := hw'.symm; refine Hid.out ?_)
  refine hide ?_
  go_wp2_with (go_at_call 47; refine (part_afterE (unhide HE) (unhide R0)).mono ?_; rintro e w2 ⟨x, a1, rfl, hr, hb⟩; have R2 := hide hr; have B2 := hide hb; clear hr hb; refine Hid.out ?_)
  refine hide ?_
  go_wp2_with (go_at_call 47; refine (part_afterE (unhide HE) (unhide R2)).mono ?_; rintro e w3 ⟨y, a2, rfl, hr, hb⟩; have c2 := hr.cells.2.2.1; have R3 := hide hr; have B3 := hide ((unhide B2).trans hb); clear hr hb)
  go_ret
  exact ⟨_, _, _, rfl, unhide R3, unhide B3⟩
set_option maxRecDepth 100000 in
theorem rnumT_bad0 {b : Nat} {s : ByteArray} {a q : Nat} (h1 : bt s a ≠ 40) (hq : q = a) (w : World) (h : QdAt w b s a 0 0) :
    Calls Tryz.prog 22 #[.pointer (some ⟨b, 0, none⟩), .bool true] w fun e w' => ∃ x y a', e = .returned (.complex .f64 x y) ∧ QdAt w' b s a' 12 q ∧ But (fun k => k = b) w w' := by
  have c1 := h.cells.2.1
  have R0 := hide h
  have HQ := hide hq
  clear h hq
  go_enter Tryz.func22, Tryz.ntmps22
  go_wp2_with (go_at_call 21; refine (want_bad (t := ⟨#[40]⟩) (unhide R0) (by decide) 0 (by decide) (fun _ _ h => absurd h (Nat.not_lt_zero _)) h1).mono ?_; rintro e w1 ⟨rfl, hr, hb⟩; have R1 := hide hr; have B1 := hide hb; clear hr hb; refine Hid.out ?_)
  refine hide ?_
  rw [Nat.add_zero, ← unhide HQ] at R1
  go_wp2_with (go_at_call 47; refine (part_after (unhide R1)).mono ?_; rintro e w2 ⟨rfl, hr, hb⟩; have R2 := hide hr; have B2 := hide ((unhide B1).trans hb); clear hr hb; refine Hid.out ?_)
  refine hide ?_
  go_wp2_with (go_at_call 47; refine (part_after (unhide R2)).mono ?_; rintro e w3 ⟨rfl, hr, hb⟩; have c2 := hr.cells.2.2.1; have R3 := hide hr; have B3 := hide ((unhide B2).trans hb); clear hr hb)
  go_ret
  exact ⟨_, _, _, rfl, unhide R3, unhide B3⟩
set_option maxRecDepth 100000 in
theorem rnumT_bad1 {b : Nat} {s : ByteArray} {a q : Nat} (h1 : bt s a = 40) (hP : PartBad b s (a + 1) 44 q) (w : World) (h : QdAt w b s a 0 0) :
    Calls Tryz.prog 22 #[.pointer (some ⟨b, 0, none⟩), .bool true] w fun e w' => ∃ x y a', e = .returned (.complex .f64 x y) ∧ QdAt w' b s a' 12 q ∧ But (fun k => k = b) w w' := by
  have c1 := h.cells.2.1
  have R0 := hide h
  have HS : Hid (Stand s a ⟨#[40]⟩ (ByteArray.mk #[40]).size) := by
    intro i hi _
    obtain rfl : i = 0 := by change i < 1 at hi; omega
    exact h1
  have KP := hide hP
  clear h hP
  go_enter Tryz.func22, Tryz.ntmps22
  go_wp2_with (go_at_call 21; refine (want_ok (t := ⟨#[40]⟩) (unhide R0) (by decide) (unhide HS)).mono ?_; rintro e w1 ⟨rfl, hr, hb⟩; have R1 := hide hr; have B1 := hide hb; clear hr hb; refine Hid.out ?_)
  refine hide ?_
  go_wp2_with (go_at_call 47; refine (unhide KP _ (unhide R1)).mono ?_; rintro e w2 ⟨x, a1, rfl, hr, hb⟩; have R2 := hide hr; have B2 := hide ((unhide B1).trans hb); clear hr hb; refine Hid.out ?_)
  refine hide ?_
  go_wp2_with (go_at_call 47; refine (part_after (unhide R2)).mono ?_; rintro e w3 ⟨rfl, hr, hb⟩; have c2 := hr.cells.2.2.1; have R3 := hide hr; have B3 := hide ((unhide B2).trans hb); clear hr hb)
  go_ret
  exact ⟨_, _, _, rfl, unhide R3, unhide B3⟩
set_option maxRecDepth 100000 in
theorem rnumT_bad2 {b : Nat} {s : ByteArray} {a q x a1 : Nat} (h1 : bt s a = 40) (hP : PartTo b s (a + 1) 44 x a1 0 0) (hQ : PartBad b s a1 41 q) (w : World) (h : QdAt w b s a 0 0) :
    Calls Tryz.prog 22 #[.pointer (some ⟨b, 0, none⟩), .bool true] w fun e w' => ∃ x y a', e = .returned (.complex .f64 x y) ∧ QdAt w' b s a' 12 q ∧ But (fun k => k = b) w w' := by
  have c1 := h.cells.2.1
  have R0 := hide h
  have HS : Hid (Stand s a ⟨#[40]⟩ (ByteArray.mk #[40]).size) := by
    intro i hi _
    obtain rfl : i = 0 := by change i < 1 at hi; omega
    exact h1
  have KP := hide hP
  have KQ := hide hQ
  clear h hP hQ
  go_enter Tryz.func22, Tryz.ntmps22
  go_wp2_with (go_at_call 21; refine (want_ok (t := ⟨#[40]⟩) (unhide R0) (by decide) (unhide HS)).mono ?_; rintro e w1 ⟨rfl, hr, hb⟩; have R1 := hide hr; have B1 := hide hb; clear hr hb; refine Hid.out ?_)
  refine hide ?_
  go_wp2_with (go_at_call 47; refine (unhide KP _ (unhide R1)).mono ?_; rintro e w2 ⟨rfl, hr, hb⟩; have R2 := hide hr; have B2 := hide ((unhide B1).trans hb); clear hr hb; refine Hid.out ?_)
  refine hide ?_
  go_wp2_with (go_at_call 47; refine (unhide KQ _ (unhide R2)).mono ?_; rintro e w3 ⟨y, a2, rfl, hr, hb⟩; have c2 := hr.cells.2.2.1; have R3 := hide hr; have B3 := hide ((unhide B2).trans hb); clear hr hb)
  go_ret
  exact ⟨_, _, _, rfl, unhide R3, unhide B3⟩

set_option maxRecDepth 100000 in
theorem rnumT_ok {b : Nat} {s : ByteArray} {a x y a1 a2 : Nat} (h1 : bt s a = 40) (hP : PartTo b s (a + 1) 44 x a1 0 0) (hQ : PartTo b s a1 41 y a2 0 0) (hf : fin x y = true) (w : World) (h : QdAt w b s a 0 0) :
    Calls Tryz.prog 22 #[.pointer (some ⟨b, 0, none⟩), .bool true] w fun e w' => e = .returned (.complex .f64 x y) ∧ QdAt w' b s a2 0 0 ∧ But (fun k => k = b) w w' := by
  have c1 := h.cells.2.1
  have R0 := hide h
  have KP := hide hP
  have KQ := hide hQ
  have HS : Hid (Stand s a ⟨#[40]⟩ (ByteArray.mk #[40]).size) := by
    intro i hi _
    obtain rfl : i = 0 := by change i < 1 at hi; omega
    exact h1
  have HF : Hid (∀ w, Calls Tryz.prog 48 #[.complex .f64 x y] w fun e w' => e = .returned (.bool true) ∧ w' = w) := fun w => by have := rfin_any x y w; rwa [hf] at this
  clear h hP hQ hf
  go_enter Tryz.func22, Tryz.ntmps22
  go_wp2_with (go_at_call 21; refine (want_ok (t := ⟨#[40]⟩) (unhide R0) (by decide) (unhide HS)).mono ?_; rintro e w1 ⟨rfl, hr, hb⟩; have R1 := hide hr; have B1 := hide hb; clear hr hb; refine Hid.out ?_)
  refine hide ?_
  go_wp2_with (go_at_call 47; refine (unhide KP _ (unhide R1)).mono ?_; rintro e w2 ⟨rfl, hr, hb⟩; have R2 := hide hr; have B2 := hide ((unhide B1).trans hb); clear hr hb; refine Hid.out ?_)
  refine hide ?_
  go_wp2_with (first | (go_at_call 48; refine (unhide HF _).mono ?_; rintro e w' ⟨rfl, hw'⟩; obtain rfl := hw'.symm) | (go_at_call 47; refine (unhide KQ _ (unhide R2)).mono ?_; rintro e w3 ⟨rfl, hr, hb⟩; have c2 := hr.cells.2.2.1; have R3 := hide hr; have B3 := hide ((unhide B2).trans hb); clear hr hb))
  go_ret
  exact ⟨rfl, unhide R3, unhide B3⟩
set_option maxRecDepth 100000 in
theorem rnumT_nf {b : Nat} {s : ByteArray} {a x y a1 a2 : Nat} (h1 : bt s a = 40) (hP : PartTo b s (a + 1) 44 x a1 0 0) (hQ : PartTo b s a1 41 y a2 0 0) (hf : fin x y = false) (w : World) (h : QdAt w b s a 0 0) :
    Calls Tryz.prog 22 #[.pointer (some ⟨b, 0, none⟩), .bool true] w fun e w' => ∃ x y a', e = .returned (.complex .f64 x y) ∧ QdAt w' b s a' 5 a ∧ But (fun k => k = b) w w' := by
  have c1 := h.cells.2.1
  have R0 := hide h
  have KP := hide hP
  have KQ := hide hQ
  have HS : Hid (Stand s a ⟨#[40]⟩ (ByteArray.mk #[40]).size) := by
    intro i hi _
    obtain rfl : i = 0 := by change i < 1 at hi; omega
    exact h1
  have HF : Hid (∀ w, Calls Tryz.prog 48 #[.complex .f64 x y] w fun e w' => e = .returned (.bool false) ∧ w' = w) := fun w => by have := rfin_any x y w; rwa [hf] at this
  clear h hP hQ hf
  go_enter Tryz.func22, Tryz.ntmps22
  go_wp2_with (go_at_call 21; refine (want_ok (t := ⟨#[40]⟩) (unhide R0) (by decide) (unhide HS)).mono ?_; rintro e w1 ⟨rfl, hr, hb⟩; have R1 := hide hr; have B1 := hide hb; clear hr hb; refine Hid.out ?_)
  refine hide ?_
  go_wp2_with (go_at_call 47; refine (unhide KP _ (unhide R1)).mono ?_; rintro e w2 ⟨rfl, hr, hb⟩; have R2 := hide hr; have B2 := hide ((unhide B1).trans hb); clear hr hb; refine Hid.out ?_)
  refine hide ?_
  go_wp2_with (first | (go_at_call 48; refine (unhide HF _).mono ?_; rintro e w' ⟨rfl, hw'⟩; obtain rfl := hw'.symm) | (go_at_call 47; refine (unhide KQ _ (unhide R2)).mono ?_; rintro e w3 ⟨rfl, hr, hb⟩; have c2 := hr.cells.2.2.1; have R3 := hide hr; have B3 := hide ((unhide B2).trans hb); clear hr hb) | (go_at_call 33; refine (fail_any 5 a (unhide R3)).mono ?_; rintro e w4 ⟨rfl, hr, hb⟩; have R4 := hide hr; have B4 := hide ((unhide B3).trans hb); clear hr hb))
  go_ret
  exact ⟨_, _, _, rfl, unhide R4, unhide B4⟩

/-- How the reading of a finite number ends. -/
inductive NOut where
  | bad (er q : Nat)
  | ok (x y p2 : Nat)
def PNum (B b : Nat) (s : ByteArray) (p : Nat) : NOut → Prop
  | .bad er q => ∀ w, RdAt w b s p → Gl B w → Calls Tryz.prog 44 #[.pointer (some ⟨b, 0, none⟩)] w fun e w' => e = .panicked (pan q er) ∧ But (fun k => k = b) w w'
  | .ok x y p2 => ∀ w, RdAt w b s p → Gl B w → Calls Tryz.prog 44 #[.pointer (some ⟨b, 0, none⟩)] w fun e w' => e = .returned (.complex .f64 x y) ∧ RdAt w' b s p2 ∧ But (fun k => k = b) w w'
def QNum (b : Nat) (s : ByteArray) (p : Nat) : NOut → Prop
  | .bad er q => ∀ w, QdAt w b s p 0 0 → Calls Tryz.prog 22 #[.pointer (some ⟨b, 0, none⟩), .bool true] w fun e w' => ∃ x y a', e = .returned (.complex .f64 x y) ∧ QdAt w' b s a' er q ∧ But (fun k => k = b) w w'
  | .ok x y p2 => ∀ w, QdAt w b s p 0 0 → Calls Tryz.prog 22 #[.pointer (some ⟨b, 0, none⟩), .bool true] w fun e w' => e = .returned (.complex .f64 x y) ∧ QdAt w' b s p2 0 0 ∧ But (fun k => k = b) w w'
def NTold (s : ByteArray) (p : Nat) : NOut → Prop
  | .bad er _ => er = 12 ∨ er = 5
  | .ok x y p2 => x < 18446744073709551616 ∧ y < 18446744073709551616 ∧ fin x y = true ∧ bt s p = 40 ∧ p < p2 ∧ p2 ≤ s.size ∧ numL x y = (s.extract p p2).toList
structure NumAt (s : ByteArray) (p : Nat) (o : NOut) : Prop where
  prog : ∀ B b, B ≤ b → PNum B b s p o
  ref : ∀ rb, QNum rb s p o
  told : NTold s p o
theorem num_any {s : ByteArray} (hs : s.size ≤ 65536) (p : Nat) : ∃ o, NumAt s p o := by
  by_cases h0 : bt s p = 40
  · rcases both_part 44 (both_any hs (p + 1)) with ⟨q, h1, h2⟩ | ⟨x, p1, e1, l1, hx, f1, h1, h2⟩
    · exact ⟨.bad 12 q, fun B b hB w hr hG => finite_bad (number_bad1 hB h0 (h1 B b hB)) w hr hG, fun rb w hr => rnumT_bad1 h0 (h2 rb) w hr, .inl rfl⟩
    · rcases both_part 41 (both_any hs (p1 + 1)) with ⟨q, h3, h4⟩ | ⟨y, p2, e2, l2, hy, f2, h3, h4⟩
      · exact ⟨.bad 12 q, fun B b hB w hr hG => finite_bad (number_bad2 hB h0 (h1 B b hB) (h3 B b hB)) w hr hG, fun rb w hr => rnumT_bad2 h0 (h2 rb) (h4 rb) w hr, .inl rfl⟩
      · cases hf : fin x y with
        | true =>
          refine ⟨.ok x y (p2 + 1), fun B b hB w hr hG => finite_ok hx hy hf (number_ok hB h0 (h1 B b hB) (h3 B b hB)) w hr hG, fun rb w hr => rnumT_ok h0 (h2 rb) (h4 rb) hf w hr, hx, hy, hf, h0, by omega, ?_, ?_⟩
          · have : p2 < s.size := bt_lt.1 (by rw [e2]; decide)
            omega
          · rw [ex_cat s (show p ≤ p + 1 by omega) (show p + 1 ≤ p2 + 1 by omega), ex_one 40 h0, ex_cat s (show p + 1 ≤ p1 by omega) (show p1 ≤ p2 + 1 by omega), ← f1,
              ex_cat s (show p1 ≤ p1 + 1 by omega) (show p1 + 1 ≤ p2 + 1 by omega), ex_one 44 e1, ex_cat s (show p1 + 1 ≤ p2 by omega) (show p2 ≤ p2 + 1 by omega), ← f2, ex_one 41 e2]
            simp [numL]
        | false => exact ⟨.bad 5 p, fun B b hB w hr hG => finite_no hx hy hf (number_ok hB h0 (h1 B b hB) (h3 B b hB)) w hr hG, fun rb w hr => rnumT_nf h0 (h2 rb) (h4 rb) hf w hr, .inr rfl⟩
  · exact ⟨.bad 12 p, fun B b hB w hr hG => finite_bad (number_bad0 h0) w hr hG, fun rb w hr => rnumT_bad0 h0 rfl w hr, .inl rfl⟩
end Go.Proofs.YtbkjmnopljmanaaGreatDoor

/- Rows of complex numbers of a call's own; root of a text's reader. -/
namespace Go.Proofs.YtbkjmnopljmanaaGreatDoor
open Go.RowKit

/-- Numbers as cells. -/
def cxL (l : List (Nat × Nat)) : List Value := l.map fun p => .complex .f64 p.1 p.2
theorem cxL_len (l : List (Nat × Nat)) : (cxL l).length = l.length := by unfold cxL; simp
theorem cxL_app (l m : List (Nat × Nat)) : cxL (l ++ m) = cxL l ++ cxL m := by unfold cxL; simp
def OwC (B : Nat) (w : World) (v : Value) (l : List (Nat × Nat)) : Prop := w.ownsRow B 23 1 v l.length (cxL l)
theorem OwC.none (B : Nat) (w : World) : OwC B w (.slice none 0 0) [] := World.ownsRow_nil _ _ _ _
theorem OwC.but {B : Nat} {w w' : World} {v : Value} {l : List (Nat × Nat)} {O : Nat → Prop} (h : OwC B w v l) (hb : But O w w') (hO : ∀ k, B ≤ k → ¬ O k) : OwC B w' v l :=
  ⟨h.1, h.2.imp id fun ⟨g, cap, cur, h1, h2, h3, h4⟩ => ⟨g, cap, cur, h1, h2, by rw [hb.block g (Array.getElem?_eq_some_iff.1 h3).1 (hO g h2)]; exact h3, h4⟩⟩
theorem OwC.shape {B : Nat} {w : World} {v : Value} {l : List (Nat × Nat)} (h : OwC B w v l) : ∃ ad cap, v = .slice ad l.length cap := by
  rcases h.2 with ⟨rfl, h0⟩ | ⟨g, cap, cur, rfl, _⟩
  · exact ⟨Option.none, 0, by rw [h0]⟩
  · exact ⟨_, _, rfl⟩
theorem info_c128 : (Tryz.prog.info? 23).map (fun i => (i.zero, i.size, i.bytes)) = some (some (.complex .f64 0 0), 1, 16) := by kernel_rfl
theorem OwC.app {B : Nat} {w : World} {ops : Array Oper} {rest : List Oper} {o : Oper} {a : Act} {Q : Exit → Act → World → Prop} (hgd : o.guard = Option.none) (sl x : Operand)
    (ho : o.op = .call { callee := .builtin .append, args := #[sl, x], argTypes := #[22, 22] }) (v : Value) (l : List (Nat × Nat)) (hs : a.eval sl = v) (hown : OwC B w v l) (A re im : Nat) (hx : a.eval x = .slice (some ⟨A, 0, Option.none⟩) 1 1)
    (hc : w.cell? ⟨A, 0, Option.none⟩ = some (.complex .f64 re im)) (hl : l.length ≤ 100) (hB : B ≤ w.heap.size)
    (h : ∀ v' w', OwC B w' v' (l ++ [(re, im)]) → But (fun k => B ≤ k) w w' → wpList Tryz.prog ops Q rest (a.put o.dst v') w') : wpList Tryz.prog ops Q (o :: rest) a w := by
  obtain ⟨i0, hi, hz0, hz1, hz2⟩ := info_parts info_c128
  refine wpList_append_own w hgd sl x 22 ho B 23 i0 (.complex .f64 0 0) 1 16 Tryz.underlying22 hi hz0 hz1 hz2 rfl (by decide) v _ _ hs hown ⟨A, 0, Option.none⟩ 1 1 [.complex .f64 re im] hx rfl ?_ ?_ (by unfold maxLen; omega) (by omega) hB fun v' w' h2 h3 _ => ?_
  · intro j u hj
    have hj0 : j = 0 := by
      have := (List.getElem?_eq_some_iff.1 hj).1
      simpa using this
    subst hj0
    obtain rfl := Option.some.inj hj
    rw [Addr.add_lit]; exact hc
  · intro u hu
    rw [List.mem_singleton] at hu
    rw [hu]; rfl
  · refine h v' w' ?_ ⟨h3.os, h3.tape, h3.output, h3.size, fun k hk hn => h3.block k hk (fun e => hn (hown.lt k e.symm).1)⟩
    show w'.ownsRow _ _ _ _ _ _
    rw [cxL_app, List.length_append]; exact h2
theorem But.fresh2 {O O' : Nat → Prop} {a b c : World} (h : But O a b) (k : But O' b c) (hO : ∀ k, k < a.heap.size → O' k → O k) : But O a c :=
  ⟨k.os.trans h.os, k.tape.trans h.tape, k.output.trans h.output, Nat.le_trans h.size k.size, fun i hi hn => (k.block i (Nat.lt_of_lt_of_le hi h.size) (fun e => hn (hO i hi e))).trans (h.block i hi hn)⟩

set_option maxRecDepth 100000 in
theorem root_long {b p : Nat} {s : ByteArray} {v : Value} (ad : Option Addr) (cap : Nat) (hv : v = .slice ad 24 cap) (h40 : bt s p = 40) (w : World) (hr : RdAt w b s p) :
    Calls Tryz.prog 46 #[.pointer (some ⟨b, 0, none⟩), v] w fun e w' => e = .panicked (pan p 2) ∧ But (fun k => k = b) w w' := by
  subst hv
  have c1 := hr.1.cell 1 (v := .int .i64 (p : Int)) rfl
  have HS := sees_any (t := ⟨#[40]⟩) hr
  rw [yes1 (c := 40) h40] at HS
  have HS := hide HS
  have HG := hide (fun n : Nat => giveUp_any (.pointer (some ⟨b, 0, none⟩)) p 2 (w.drewN n))
  clear hr h40
  go_enter Tryz.func46, Tryz.ntmps46
  go_wp2_with (first
    | (go_at_call 50; refine (unhide HS).mono ?_; rintro e w1 ⟨rfl, m, rfl⟩)
    | (go_at_call 51; refine (unhide HG _).mono ?_; rintro e w2 ⟨rfl, hw'⟩; obtain rfl := hw'.symm))
  exact ⟨rfl, rfl, But.still (still_drewN _ _)⟩
/-- What is asked of root's other ways: it does not stand at the 25th number. -/
def Room (s : ByteArray) (p n : Nat) : Prop := n ≠ 24 ∨ bt s p ≠ 40
theorem root_sees {b p n : Nat} {s : ByteArray} {w : World} (hr : RdAt w b s p) (hR : Room s p n) (hn : n = 24) : Calls Tryz.prog 50 #[.pointer (some ⟨b, 0, none⟩), .string ⟨#[40]⟩] w fun e w' => e = .returned (.bool false) ∧ ∃ m, w' = w.drewN m := by
  have HS := sees_any (t := ⟨#[40]⟩) hr
  rwa [no1 (c := 40) (by rcases hR with h | h; exact absurd hn h; exact h)] at HS
set_option maxRecDepth 100000 in
theorem root_bad {B b p er q : Nat} {s : ByteArray} {v : Value} (n cap : Nat) (ad : Option Addr) (hv : v = .slice ad n cap) (hR : Room s p n) (hN : PNum B b s p (.bad er q)) (w : World) (hr : RdAt w b s p) (hG : Gl B w) :
    Calls Tryz.prog 46 #[.pointer (some ⟨b, 0, none⟩), v] w fun e w' => e = .panicked (pan q er) ∧ But (fun k => k = b) w w' := by
  subst hv
  by_cases hn : n = 24
  · have HS := hide (root_sees hr hR hn)
    have HN := hide (fun m : Nat => hN (w.drewN m) hr (hG.on ((still_drewN w m) _)))
    clear hr hG hR hN
    subst hn
    go_enter Tryz.func46, Tryz.ntmps46
    go_wp2_with (first
      | (go_at_call 50; refine (unhide HS).mono ?_; rintro e w1 ⟨rfl, m, rfl⟩)
      | (go_at_call 44; refine (unhide HN _).mono ?_; rintro e w2 ⟨rfl, hb⟩; have B2 := hide hb; clear hb))
    exact ⟨rfl, rfl, (But.still (still_drewN _ _)).trans (unhide B2)⟩
  · have n1 : ((n : Int) == 24) = false := by rw [beq_eq_false_iff_ne]; omega
    have HN := hide (hN w hr hG)
    clear hr hG hR hN
    go_enter Tryz.func46, Tryz.ntmps46
    go_wp2_with (go_at_call 44; refine (unhide HN).mono ?_; rintro e w2 ⟨rfl, hb⟩; have B2 := hide hb; clear hb)
    exact ⟨rfl, rfl, unhide B2⟩
set_option maxRecDepth 100000 in
theorem root_ok {B b p x y p2 Bz : Nat} {s : ByteArray} {v : Value} {l : List (Nat × Nat)} {w : World} (hown : OwC Bz w v l) (hbz : b < Bz) (hBw : Bz ≤ w.heap.size) (hl : l.length ≤ 24) (hn : l.length ≠ 24) (hN : PNum B b s p (.ok x y p2)) (hr : RdAt w b s p) (hG : Gl B w) :
    Calls Tryz.prog 46 #[.pointer (some ⟨b, 0, none⟩), v] w fun e w' => ∃ v', e = .returned v' ∧ RdAt w' b s p2 ∧ OwC Bz w' v' (l ++ [(x, y)]) ∧ But (fun k => k = b ∨ Bz ≤ k) w w' := by
  obtain ⟨ad, cap, hv⟩ := hown.shape
  have n1 : ((l.length : Int) == 24) = false := by rw [beq_eq_false_iff_ne]; omega
  have HN := hide (hN w hr hG)
  have HO := hide hown
  rw [hv] at HO
  subst hv
  clear hr hG hN hown
  go_enter Tryz.func46, Tryz.ntmps46
  go_wp2_with (first
    | (go_at_call 44; refine (unhide HN).mono ?_; rintro e w2 ⟨rfl, hr, hb⟩; have R2 := hide hr; have B2 := hide hb; have O2 := hide (((unhide HO).but hb (fun k h1 h2 => by omega)).but (But.low (O := fun _ => False) ((Below.refl _ w2).alloc (Nat.le_refl _) (.cells #[.complex .f64 x y] 23))) (fun _ _ h => h)); clear hr hb)
    | (at_builtin; refine OwC.app rfl _ _ rfl _ l rfl (unhide O2) w2.heap.size x y rfl (Blk.alloc.cell 0 rfl) (by omega) (by rw [alloc_size]; have := (unhide B2).size; omega) ?_; intro v' w' h1 h2; have O3 := hide h1; have B3 := hide h2; clear h1 h2))
  go_ret
  have hal : Below w2.heap.size w2 (w2.alloc (.cells #[.complex .f64 x y] 23)) := (Below.refl _ w2).alloc (Nat.le_refl _) _
  refine ⟨_, rfl, ⟨(unhide R2).1.below hal (unhide R2).1.lt |>.but (unhide B3) (by omega), (unhide R2).2⟩, unhide O3, ?_⟩
  exact (((unhide B2).mono (fun k e => Or.inl e)).trans (But.low hal)).trans ((unhide B3).mono fun k e => .inr e)
end Go.Proofs.YtbkjmnopljmanaaGreatDoor

/- How the reading of zeros and of poles ends, as mathematics. -/
namespace Go.Proofs.YtbkjmnopljmanaaGreatDoor
open Go.RowKit

inductive ZEnd where
  | bad (er q : Nat)
  | ok (l : List (Nat × Nat)) (p : Nat)
/-- Zeros, from behind a blank on. -/
inductive Zr (s : ByteArray) : Nat → List (Nat × Nat) → ZEnd → Prop
  | bar {c : Nat} {l : List (Nat × Nat)} (h : bt s c = 124) : Zr s c l (.ok l (c + 1))
  | long {c : Nat} {l : List (Nat × Nat)} (h : bt s c = 40) (h24 : l.length = 24) : Zr s c l (.bad 2 c)
  | num {c : Nat} {l : List (Nat × Nat)} {er q : Nat} (h : bt s c ≠ 124) (hR : Room s c l.length) (hN : NumAt s c (.bad er q)) : Zr s c l (.bad er q)
  | blank {c : Nat} {l : List (Nat × Nat)} {x y p2 : Nat} (h : bt s c ≠ 124) (hR : Room s c l.length) (hN : NumAt s c (.ok x y p2)) (hb : bt s p2 ≠ 32) : Zr s c l (.bad 12 p2)
  | step {c : Nat} {l : List (Nat × Nat)} {x y p2 : Nat} {o : ZEnd} (h : bt s c ≠ 124) (hR : Room s c l.length) (hN : NumAt s c (.ok x y p2)) (hb : bt s p2 = 32) (k : Zr s (p2 + 1) (l ++ [(x, y)]) o) : Zr s c l o
/-- Poles. -/
inductive Pl (s : ByteArray) : Nat → List (Nat × Nat) → ZEnd → Prop
  | done {a : Nat} {l : List (Nat × Nat)} (h : a = s.size) : Pl s a l (.ok l a)
  | blank {a : Nat} {l : List (Nat × Nat)} (h : a < s.size) (hb : bt s a ≠ 32) : Pl s a l (.bad 12 a)
  | long {a : Nat} {l : List (Nat × Nat)} (h : bt s a = 32) (h40 : bt s (a + 1) = 40) (h24 : l.length = 24) : Pl s a l (.bad 2 (a + 1))
  | num {a : Nat} {l : List (Nat × Nat)} {er q : Nat} (h : bt s a = 32) (hR : Room s (a + 1) l.length) (hN : NumAt s (a + 1) (.bad er q)) : Pl s a l (.bad er q)
  | step {a : Nat} {l : List (Nat × Nat)} {x y p2 : Nat} {o : ZEnd} (h : bt s a = 32) (hR : Room s (a + 1) l.length) (hN : NumAt s (a + 1) (.ok x y p2)) (k : Pl s p2 (l ++ [(x, y)]) o) : Pl s a l o
theorem room_or (s : ByteArray) (c n : Nat) : (bt s c = 40 ∧ n = 24) ∨ Room s c n := by
  by_cases h1 : bt s c = 40
  · by_cases h2 : n = 24
    · exact .inl ⟨h1, h2⟩
    · exact .inr (.inl h2)
  · exact .inr (.inr h1)
theorem zr_any {s : ByteArray} (hs : s.size ≤ 65536) : ∀ (n c : Nat) (l : List (Nat × Nat)), s.size + 1 - c ≤ n → ∃ o, Zr s c l o
  | 0, c, l, h => by
    obtain ⟨o, hN⟩ := num_any hs c
    have h1 : bt s c = 256 := bt_end (by omega)
    cases o with
    | bad er q => exact ⟨_, .num (by omega) (.inr (by omega)) hN⟩
    | ok x y p2 => have := hN.told; exact absurd this.2.2.2.1 (by omega)
  | n + 1, c, l, h => by
    by_cases h1 : bt s c = 124
    · exact ⟨_, .bar h1⟩
    rcases room_or s c l.length with ⟨h2, h3⟩ | hR
    · exact ⟨_, .long h2 h3⟩
    obtain ⟨o, hN⟩ := num_any hs c
    cases o with
    | bad er q => exact ⟨_, .num h1 hR hN⟩
    | ok x y p2 =>
      have ht := hN.told.2.2.2.2
      by_cases hb : bt s p2 = 32
      · obtain ⟨o, k⟩ := zr_any hs n (p2 + 1) (l ++ [(x, y)]) (by omega)
        exact ⟨o, .step h1 hR hN hb k⟩
      · exact ⟨_, .blank h1 hR hN hb⟩
theorem pl_any {s : ByteArray} (hs : s.size ≤ 65536) : ∀ (n a : Nat) (l : List (Nat × Nat)), a ≤ s.size → s.size - a ≤ n → ∃ o, Pl s a l o
  | 0, a, l, ha, h => ⟨_, .done (by omega)⟩
  | n + 1, a, l, ha, h => by
    by_cases h0 : a = s.size
    · exact ⟨_, .done h0⟩
    by_cases hb : bt s a = 32
    · rcases room_or s (a + 1) l.length with ⟨h2, h3⟩ | hR
      · exact ⟨_, .long hb h2 h3⟩
      obtain ⟨o, hN⟩ := num_any hs (a + 1)
      cases o with
      | bad er q => exact ⟨_, .num hb hR hN⟩
      | ok x y p2 =>
        have ht := hN.told.2.2.2.2
        obtain ⟨o, k⟩ := pl_any hs n p2 (l ++ [(x, y)]) (by omega) (by omega)
        exact ⟨o, .step hb hR hN k⟩
    · exact ⟨_, .blank (by omega) hb⟩
/-- A fault has a number. -/
def ZEnd.good : ZEnd → Prop
  | .bad er _ => er = 12 ∨ er = 5 ∨ er = 2
  | .ok _ _ => True
theorem Zr.good {s : ByteArray} {c : Nat} {l : List (Nat × Nat)} {o : ZEnd} (h : Zr s c l o) : o.good := by
  induction h with
  | bar _ => trivial
  | long _ _ => exact .inr (.inr rfl)
  | num _ _ hN => rcases hN.told with h | h; exact .inl h; exact .inr (.inl h)
  | blank _ _ _ _ => exact .inl rfl
  | step _ _ _ _ _ ih => exact ih
theorem Pl.good {s : ByteArray} {c : Nat} {l : List (Nat × Nat)} {o : ZEnd} (h : Pl s c l o) : o.good := by
  induction h with
  | done _ => trivial
  | blank _ _ => exact .inl rfl
  | long _ _ _ => exact .inr (.inr rfl)
  | num _ _ hN => rcases hN.told with h | h; exact .inl h; exact .inr (.inl h)
  | step _ _ _ _ ih => exact ih
/-- A list of numbers of the form, and its text, a blank behind each. -/
def FinL (l : List (Nat × Nat)) : Prop := ∀ p ∈ l, p.1 < 18446744073709551616 ∧ p.2 < 18446744073709551616 ∧ fin p.1 p.2 = true
def backT (l : List (Nat × Nat)) : List UInt8 := l.flatMap fun p => numL p.1 p.2 ++ [32]
def frontT (l : List (Nat × Nat)) : List UInt8 := l.flatMap fun p => 32 :: numL p.1 p.2
theorem front_back (l : List (Nat × Nat)) : 32 :: backT l = frontT l ++ [32] := by
  induction l with
  | nil => rfl
  | cons p l ih =>
    show 32 :: ((numL p.1 p.2 ++ [32]) ++ backT l) = (32 :: numL p.1 p.2) ++ frontT l ++ [32]
    simp only [List.append_assoc, List.cons_append, List.nil_append]
    rw [← ih]
structure ZTold (s : ByteArray) (c : Nat) (l lz : List (Nat × Nat)) (p : Nat) (t : List (Nat × Nat) → List UInt8) : Prop where
  ex : ∃ m, lz = l ++ m ∧ FinL m ∧ (s.extract c p).toList = t m
  le : c ≤ p
  ps : p ≤ s.size
  len : l.length ≤ 24 → lz.length ≤ 24
theorem Zr.told {s : ByteArray} {c : Nat} {l : List (Nat × Nat)} {o : ZEnd} (h : Zr s c l o) : ∀ lz p, o = .ok lz p → ZTold s c l lz p (fun m => backT m ++ [124]) := by
  induction h with
  | @bar c l h =>
    intro lz p e
    injection e with e1 e2
    subst e1 e2
    have : c < s.size := bt_lt.1 (by omega)
    exact ⟨⟨[], by simp, (fun _ h => by cases h), ex_one 124 h⟩, by omega, by omega, fun h => h⟩
  | long _ _ => intro lz p e; cases e
  | num _ _ _ => intro lz p e; cases e
  | blank _ _ _ _ => intro lz p e; cases e
  | @step c l x y p2 o h hR hN hb k ih =>
    intro lz p e
    obtain ⟨⟨m, e1, e2, e3⟩, h1, h2, h3⟩ := ih lz p e
    obtain ⟨t1, t2, t3, t4, t5, t6, t7⟩ := hN.told
    refine ⟨⟨(x, y) :: m, by rw [e1]; simp, ?_, ?_⟩, by omega, h2, fun hl => h3 ?_⟩
    · intro q hq
      rcases List.mem_cons.1 hq with rfl | hq
      · exact ⟨t1, t2, t3⟩
      · exact e2 q hq
    · rw [ex_cat s (show c ≤ p2 by omega) (show p2 ≤ p by omega), ← t7, ex_cat s (show p2 ≤ p2 + 1 by omega) (show p2 + 1 ≤ p by omega), ex_one 32 hb, e3]
      show _ = ((numL x y ++ [32]) ++ backT m) ++ [124]
      simp
    · rw [List.length_append]
      have : l.length ≠ 24 := by rcases hR with h | h; exact h; exact absurd t4 h
      show l.length + 1 ≤ 24
      omega
theorem Pl.told {s : ByteArray} {c : Nat} {l : List (Nat × Nat)} {o : ZEnd} (h : Pl s c l o) : ∀ lz p, o = .ok lz p → ZTold s c l lz p frontT ∧ p = s.size := by
  induction h with
  | @done a l h =>
    intro lz p e
    injection e with e1 e2
    subst e1 e2
    refine ⟨⟨⟨[], by simp, (fun _ h => by cases h), ?_⟩, by omega, by omega, fun h => h⟩, h⟩
    rw [ex_list]; simp [frontT]
  | blank _ _ => intro lz p e; cases e
  | long _ _ _ => intro lz p e; cases e
  | num _ _ _ => intro lz p e; cases e
  | @step a l x y p2 o h hR hN k ih =>
    intro lz p e
    obtain ⟨⟨⟨m, e1, e2, e3⟩, h1, h2, h3⟩, h4⟩ := ih lz p e
    obtain ⟨t1, t2, t3, t4, t5, t6, t7⟩ := hN.told
    refine ⟨⟨⟨(x, y) :: m, by rw [e1]; simp, ?_, ?_⟩, by omega, h2, fun hl => h3 ?_⟩, h4⟩
    · intro q hq
      rcases List.mem_cons.1 hq with rfl | hq
      · exact ⟨t1, t2, t3⟩
      · exact e2 q hq
    · rw [ex_cat s (show a ≤ a + 1 by omega) (show a + 1 ≤ p by omega), ex_one 32 h, ex_cat s (show a + 1 ≤ p2 by omega) (show p2 ≤ p by omega), ← t7, e3]
      show _ = (32 :: numL x y) ++ frontT m
      simp
    · rw [List.length_append]
      have : l.length ≠ 24 := by rcases hR with h | h; exact h; exact absurd t4 h
      show l.length + 1 ≤ 24
      omega
end Go.Proofs.YtbkjmnopljmanaaGreatDoor

/- zpk of a text's reader. -/
namespace Go.Proofs.YtbkjmnopljmanaaGreatDoor
open Go.RowKit

def ZPost (w : World) (b : Nat) (s : ByteArray) (gx gy : Nat) : ZEnd → ZEnd → Ending → World → Prop
  | .bad er q, _, e, w' => e = .panicked (pan q er) ∧ But (fun k => k = b) w w'
  | .ok _ _, .bad er q, e, w' => e = .panicked (pan q er) ∧ But (fun k => k = b) w w'
  | .ok lz _, .ok lp c2, e, w' => ∃ vz vp, e = .returned (.agg #[vz, vp, .complex .f64 gx gy]) ∧ RdAt w' b s c2 ∧ OwC w.heap.size w' vz lz ∧ OwC w.heap.size w' vp lp ∧ But (fun k => k = b) w w'
theorem RdAt.setOff {w : World} {b p F i : Nat} {s : ByteArray} {v : Value} (h : RdAt w b s p) (hne : b ≠ F) : RdAt (w.setCell ⟨F, i, none⟩ v) b s p :=
  ⟨(Below.heap_setCell _ _ _ _ hne).trans h.1, h.2⟩
theorem Blk.setOff {w : World} {b F i : Nat} {cs : Array Value} {t : TypeId} {v : Value} (h : Blk w b cs t) (hne : b ≠ F) : Blk (w.setCell ⟨F, i, none⟩ v) b cs t :=
  (Below.heap_setCell _ _ _ _ hne).trans h
theorem zpk_alloc (w : World) : ∀ W, W = (w.alloc (.cells #[.slice none 0 0, .slice none 0 0, .complex .f64 0 0] 25)).alloc (.cells #[.slice none 0 0, .slice none 0 0, .complex .f64 0 0] 25) →
    Below w.heap.size w W ∧ Blk W w.heap.size #[.slice none 0 0, .slice none 0 0, .complex .f64 0 0] 25 ∧ Blk W (w.heap.size + 1) #[.slice none 0 0, .slice none 0 0, .complex .f64 0 0] 25 ∧ W.heap.size = w.heap.size + 1 + 1 := by
  rintro W rfl
  have h1 := alloc_size w (.cells #[.slice none 0 0, .slice none 0 0, .complex .f64 0 0] 25)
  refine ⟨((Below.refl _ _).alloc (Nat.le_refl _) _).alloc (by omega) _, Blk.alloc.below ((Below.refl _ _).alloc (Nat.le_refl _) _) (by omega), ?_, by rw [alloc_size, h1]⟩
  rw [← h1]; exact Blk.alloc
set_option maxRecDepth 100000 in
theorem zpk_num {B b er q : Nat} {s : ByteArray} (hB : B ≤ b) (hS : Stand s 0 ⟨#[122, 112, 107, 32]⟩ (ByteArray.mk #[122, 112, 107, 32]).size) (h : PNum B b s 4 (.bad er q)) (w : World) (hr : RdAt w b s 0) (hG : Gl B w) :
    Calls Tryz.prog 20 #[.pointer (some ⟨b, 0, none⟩)] w fun e w' => e = .panicked (pan q er) ∧ But (fun k => k = b) w w' := by
  obtain ⟨W, hW⟩ : ∃ W, W = (w.alloc (.cells #[.slice none 0 0, .slice none 0 0, .complex .f64 0 0] 25)).alloc (.cells #[.slice none 0 0, .slice none 0 0, .complex .f64 0 0] 25) := ⟨_, rfl⟩
  obtain ⟨hb, _, _, _⟩ := zpk_alloc w W hW
  have hlt := hr.1.lt
  have HM := hide (must_ok (t := ⟨#[122, 112, 107, 32]⟩) (hr.low hb) (by decide) hS)
  have HG := hide (hG.on (hb.mono (by omega)))
  have HR := hide (hr.low hb)
  have HB := hide hb
  have EW := hide hW
  have HN := hide h
  clear hW hb hr hS hG h
  go_enter Tryz.func20, Tryz.ntmps20
  go_wp2_with (go_at_call 43; rw [← unhide EW]; refine (unhide HM).mono ?_; rintro e w1 ⟨rfl, hr, hb⟩; have R1 := hide hr; have G1 := hide ((unhide HG).but (unhide HR) hB hb); have B1 := hide hb; clear hb hr; refine Hid.out ?_)
  refine hide ?_
  go_wp2_with (go_at_call 44; refine (unhide HN _ (unhide R1) (unhide G1)).mono ?_; rintro e w2 ⟨rfl, hb⟩; have B2 := hide ((unhide B1).trans hb); clear hb)
  exact ⟨rfl, rfl, (But.low (O := fun k => k = b) (unhide HB)).trans (unhide B2)⟩
theorem OwC.lower {B B' : Nat} {w : World} {v : Value} {l : List (Nat × Nat)} (h : OwC B w v l) (hB : B' ≤ B) : OwC B' w v l :=
  ⟨h.1, h.2.imp id fun ⟨g, cap, cur, h1, h2, h3⟩ => ⟨g, cap, cur, h1, Nat.le_trans hB h2, h3⟩⟩
theorem run_results_z {w : World} {tmps : Array Value} {b : Nat} {c0 c1 c2 : Value} (h2 : tmps.getD 2 undef = .pointer (some ⟨b, 0, none⟩)) (hr : Blk w b #[c0, c1, c2] 25) :
    (results Tryz.f20 tmps).run Tryz.prog w = .ok (.agg #[c0, c1, c2]) w := by
  have hl := run_loadVar_mid (P := Tryz.prog) w b 0 25 [c0, c1, c2] _ hr.range Tryz.underlying25 rfl infoZpk
  rw [Array.getD_eq_getD_getElem?] at h2
  simp [results, h2, asAddr, hl]
set_option maxRecDepth 100000 in
set_option maxHeartbeats 4000000 in
theorem zpk_run {B b gx gy p1 : Nat} {s : ByteArray} {oz op : ZEnd} (hB : B ≤ b) (hS : Stand s 0 ⟨#[122, 112, 107, 32]⟩ (ByteArray.mk #[122, 112, 107, 32]).size) (hN : PNum B b s 4 (.ok gx gy p1))
    (hS2 : Stand s p1 ⟨#[32, 124, 32]⟩ (ByteArray.mk #[32, 124, 32]).size) (hZ : Zr s (p1 + 3) [] oz) (hP : ∀ lz c1, oz = .ok lz c1 → Pl s c1 [] op) (w : World) (hr : RdAt w b s 0) (hG : Gl B w) :
    Calls Tryz.prog 20 #[.pointer (some ⟨b, 0, none⟩)] w (ZPost w b s gx gy oz op) := by
  obtain ⟨W, hW⟩ : ∃ W, W = (w.alloc (.cells #[.slice none 0 0, .slice none 0 0, .complex .f64 0 0] 25)).alloc (.cells #[.slice none 0 0, .slice none 0 0, .complex .f64 0 0] 25) := ⟨_, rfl⟩
  obtain ⟨hb, hR0, hF0, hsz0⟩ := zpk_alloc w W hW
  have hlt := hr.1.lt
  have HM := hide (must_ok (t := ⟨#[122, 112, 107, 32]⟩) (hr.low hb) (by decide) hS)
  have HG := hide (hG.on (hb.mono (by omega)))
  have HR := hide (hr.low hb)
  have HB := hide hb
  have EW := hide hW
  have HN := hide hN
  have HS2 := hide hS2
  have HZ := hide hZ
  have HP := hide hP
  have K0 := hide (And.intro hR0 (And.intro hF0 hsz0))
  have hsc := run_store_c
  clear hW hb hr hS hG hN hS2 hZ hP hR0 hF0 hsz0
  go_enter Tryz.func20, Tryz.ntmps20
  go_wp2_with (go_at_call 43; rw [← unhide EW]; refine (unhide HM).mono ?_; rintro e w1 ⟨rfl, hr, hb⟩; have R1 := hide hr; have G1 := hide ((unhide HG).but (unhide HR) hB hb); have B1 := hide hb; clear hb hr; refine Hid.out ?_)
  refine hide ?_
  go_wp2_with (go_at_call 44; refine (unhide HN _ (unhide R1) (unhide G1)).mono ?_; rintro e w2 ⟨rfl, hr, hb⟩; have R2 := hide hr; have G2 := hide ((unhide G1).but (unhide R1) hB hb); have B2 := hide ((unhide B1).trans hb); clear hb hr; refine Hid.out ?_)
  refine hide ?_
  have hF2 := (unhide K0).2.1.but (unhide B2) (by omega)
  have cF := hF2.cell 2 (v := .complex .f64 0 0) rfl
  have fF := hF2.unfrozen 2
  have R2' := hide ((unhide R2).setOff (F := w.heap.size + 1) (i := 2) (v := .complex .f64 gx gy) (by omega))
  have HF2 := hide (hF2.put 2 (.complex .f64 gx gy))
  have hR2 := (unhide K0).1.but (unhide B2) (by omega)
  have HR2 := hide (hR2.setOff (F := w.heap.size + 1) (i := 2) (v := .complex .f64 gx gy) (by omega))
  have B2' := hide ((unhide B2).mono (O' := fun k => k = b ∨ k = w.heap.size + 1) (fun k e => .inl e) |>.trans (But.setCell (fun k => k = b ∨ k = w.heap.size + 1) w2 ⟨w.heap.size + 1, 2, none⟩ (.complex .f64 gx gy) (.inr rfl)))
  have hsW := (unhide K0).2.2
  have G2' : Hid (Gl B (w2.setCell ⟨w.heap.size + 1, 2, none⟩ (.complex .f64 gx gy))) := (unhide G2).on ((But.setCell (fun k => k = w.heap.size + 1) w2 ⟨w.heap.size + 1, 2, none⟩ (.complex .f64 gx gy) rfl).below (Below.refl B w2) (by have := (unhide B2).size; omega) (fun k e => by omega))
  clear hF2 hR2
  go_wp2_with (go_at_call 43; refine (must_ok (t := ⟨#[32, 124, 32]⟩) (unhide R2') (by decide) (unhide HS2)).mono ?_; rintro e w3 ⟨rfl, hr, hb⟩; have R3 := hide hr; have G3 := hide ((unhide G2').but (unhide R2') hB hb); have F3 := hide ((unhide HF2).but hb (by omega)); have Q3 := hide ((unhide HR2).but hb (by omega)); have B3 := hide ((unhide B2').trans (hb.mono fun k e => .inl e)); clear hb hr; refine Hid.out ?_)
  refine hide ?_
  have hb3 := (unhide R3).1.lt
  have hs3 := (unhide B3).size
  have hB2s := (unhide B2).size
  have F3' : Hid (Blk w3 (w.heap.size + 1) #[.slice none 0 0, .slice none 0 0, .complex .f64 gx gy] 25) := unhide F3
  have hF3 := (unhide F3').lt
  have HW3 : Hid (∀ wr, But (fun k => k = b ∨ k = w.heap.size + 1) w3 wr → But (fun k => k = b) w wr) := fun wr h =>
    ((But.low (O := fun k => k = b) (unhide HB)).fresh2 (((unhide B3)).trans h) (fun k hk e => by rcases e with e | e; exact e; omega))
  have R3' : Hid (RdAt w3 b s (p1 + 3)) := unhide R3
  clear F3 R3 R2 R2' HF2 B1 B2 B2' cF fF HM HR EW HS2 HR2 G1 G2 G2' HN R1
  go_wp2_with fail
  go_loopw [12] (fun _ wr => ∃ (c : Nat) (l : List (Nat × Nat)) (vz : Value), RdAt wr b s c ∧ Gl B wr ∧ Blk wr (w.heap.size + 1) #[vz, .slice none 0 0, .complex .f64 gx gy] 25 ∧ OwC w3.heap.size wr vz l ∧ l.length ≤ 24 ∧ Zr s c l oz ∧ But (fun k => k = b ∨ k = w.heap.size + 1) w3 wr)
    (fun _ wr => s.size + 1 - (intOf ((wr.cell? ⟨b, 1, none⟩).getD undef)).toNat)
  case atStart => exact ⟨p1 + 3, [], _, unhide R3', unhide G3, unhide F3', OwC.none _ _, by decide, unhide HZ, But.refl _ _⟩
  case round =>
    obtain ⟨c, l, vz, hr, hg, hf, ho, hl, hz, hb⟩ := hrel
    obtain ⟨ad, cap, rfl⟩ := ho.shape
    have Hr := hide hr
    have Hg := hide hg
    have Hf := hide hf
    have Ho := hide ho
    have Hb := hide hb
    have hszr := hb.size
    have hc1 := hr.1.cell 1 (v := .int .i64 (c : Int)) rfl
    clear hr hg hf ho hb
    cases hz with
    | bar h =>
      have hPl := unhide HP l (c + 1) rfl
      go_wp2_with (go_at_call 45; refine (may_yes (t := ⟨#[124]⟩) (unhide Hr) (yes1 (c := 124) h)).mono ?_; rintro e w4 ⟨rfl, hr, hb⟩; have R4 := hide hr; have G4 := hide ((unhide Hg).but (unhide Hr) hB hb); have F4 := hide ((unhide Hf).but hb (by omega)); have O4 := hide ((unhide Ho).but hb (fun k h1 h2 => by omega)); have B4 := hide ((unhide Hb).trans (hb.mono fun k e => .inl e)); clear hr hb; refine Hid.out ?_)
      refine hide ?_
      have hs4 := (unhide B4).size
      obtain ⟨n1, hn1⟩ : ∃ n1, n1 = l.length := ⟨_, rfl⟩
      rw [← hn1] at F4 O4
      have HPl := hide hPl
      clear hn1 hPl Hr Hg Hf Ho Hb hc1 hszr
      have HW4 : Hid (∀ wr, But (fun k => k = b ∨ k = w.heap.size + 1) w4 wr → But (fun k => k = b) w wr) := fun wr h => unhide HW3 _ ((unhide B4).trans h)
      go_wp2_with fail
      go_loopw [22] (fun _ wr => ∃ (a : Nat) (l2 : List (Nat × Nat)) (vp : Value), RdAt wr b s a ∧ Gl B wr ∧ Blk wr (w.heap.size + 1) #[.slice ad n1 cap, vp, .complex .f64 gx gy] 25 ∧ OwC w4.heap.size wr vp l2 ∧ l2.length ≤ 24 ∧ Pl s a l2 op ∧ But (fun k => k = b ∨ k = w.heap.size + 1) w4 wr)
        (fun _ wr => s.size - (intOf ((wr.cell? ⟨b, 1, none⟩).getD undef)).toNat)
      case atStart => exact ⟨c + 1, [], _, unhide R4, unhide G4, unhide F4, OwC.none _ _, by decide, unhide HPl, But.refl _ _⟩
      case round =>
        obtain ⟨a, l2, vp, hr, hg, hf, ho, hl2, hz, hb⟩ := hrel
        obtain ⟨ad2, cap2, rfl⟩ := ho.shape
        have Hr := hide hr
        have Hg := hide hg
        have Hf := hide hf
        have Ho := hide ho
        have Hb := hide hb
        have hc1 := hr.1.cell 1 (v := .int .i64 (a : Int)) rfl
        have HE := ended_any hr
        clear hr hg hf ho hb
        cases hz with
        | done h =>
          rw [decide_eq_true h] at HE
          have HE := hide HE
          have q0 := (unhide Hf).cell 0 (v := .slice ad n1 cap) rfl
          have q1 := (unhide Hf).cell 1 (v := .slice ad2 l2.length cap2) rfl
          have q2 := (unhide Hf).cell 2 (v := .complex .f64 gx gy) rfl
          have hRr := ((unhide Q3).but (unhide B4) (by omega)).but (unhide Hb) (by omega)
          have r0 := hRr.cell 0 (v := .slice none 0 0) rfl
          have r1 := hRr.cell 1 (v := .slice none 0 0) rfl
          have r2 := hRr.cell 2 (v := .complex .f64 0 0) rfl
          have u0 := hRr.unfrozen 0
          have u1 := hRr.unfrozen 1
          have u2 := hRr.unfrozen 2
          have HRr := hide hRr
          clear hRr
          go_wp2_with (go_at_call 41; refine (unhide HE).mono ?_; rintro e w5 ⟨rfl, m, rfl⟩)
          have hD : Blk (wr.drewN m) w.heap.size #[.slice none 0 0, .slice none 0 0, .complex .f64 0 0] 25 := unhide HRr
          have hN2 := ((hD.put 0 (.slice ad n1 cap)).put 1 (.slice ad2 l2.length cap2)).put 2 (.complex .f64 gx gy)
          have hset := ((But.setCell (fun k => k = w.heap.size) (wr.drewN m) ⟨w.heap.size, 0, none⟩ (.slice ad n1 cap) rfl).trans (But.setCell (fun k => k = w.heap.size) _ ⟨w.heap.size, 1, none⟩ (.slice ad2 l2.length cap2) rfl)).trans (But.setCell (fun k => k = w.heap.size) _ ⟨w.heap.size, 2, none⟩ (.complex .f64 gx gy) rfl)
          have hRd : RdAt (wr.drewN m) b s a := unhide Hr
          have hOz0 : OwC w3.heap.size wr (.slice ad n1 cap) l := OwC.but (unhide O4) (unhide Hb) (fun k h1 h2 => by omega)
          have hOz : OwC w3.heap.size (wr.drewN m) (.slice ad n1 cap) l := hOz0
          have hOp : OwC w4.heap.size (wr.drewN m) (.slice ad2 l2.length cap2) l2 := unhide Ho
          refine bodyPost_ret (run_results_z rfl hN2) rfl ?_
          refine ⟨_, _, rfl, ⟨hRd.1.but hset (by omega), hRd.2⟩, (hOz.but hset (fun k h1 h2 => by omega)).lower (by omega), (hOp.but hset (fun k h1 h2 => by omega)).lower (by omega), ?_⟩
          exact ((unhide HW4 _ (unhide Hb)).trans (But.still (still_drewN _ m))).fresh2 hset (fun k hk e => by omega)
        | blank h hb32 =>
          rw [decide_eq_false (by omega)] at HE
          have HE := hide HE
          go_wp2_with (first | (go_at_call 41; refine (unhide HE).mono ?_; rintro e w5 ⟨rfl, m, rfl⟩) | (go_at_call 43; refine (must1_bad (w := wr.drewN m) 32 (unhide Hr) hb32).mono ?_; rintro e w7 ⟨rfl, hb⟩; have B7 := hide (((unhide Hb).trans (But.still (still_drewN _ m))).trans (hb.mono fun k e => .inl e)); clear hb))
          exact ⟨rfl, rfl, unhide HW4 _ (unhide B7)⟩
        | long h h40 h24 =>
          rw [h24] at Hf
          have ha : a < s.size := bt_lt.1 (by omega)
          rw [decide_eq_false (by omega)] at HE
          have HE := hide HE
          go_wp2_with (first | (go_at_call 41; refine (unhide HE).mono ?_; rintro e w5 ⟨rfl, m, rfl⟩) | (go_at_call 43; refine (must1_ok (w := wr.drewN m) 32 (unhide Hr) h).mono ?_; rintro e w6 ⟨rfl, hr, hb⟩; have R6 := hide hr; have G6 := hide (Gl.but (w := wr.drewN m) ((unhide Hg).on ((still_drewN wr m) B)) (unhide Hr) hB hb); have F6 := hide (Blk.but (w := wr.drewN m) (unhide Hf) hb (by omega)); have O6 := hide (OwC.but (w := wr.drewN m) (unhide Ho) hb (fun k h1 h2 => by omega)); have B6 := hide (((unhide Hb).trans (But.still (still_drewN _ m))).trans (hb.mono fun k e => .inl e)); clear hr hb; refine Hid.out ?_))
          refine hide ?_
          have c6 := (unhide F6).cell 1 (v := .slice ad2 24 cap2) rfl
          go_wp2_with (go_at_call 46; refine (root_long ad2 cap2 rfl h40 _ (unhide R6)).mono ?_; rintro e w7 ⟨rfl, hb⟩; have B7 := hide ((unhide B6).trans (hb.mono fun k e => .inl e)); clear hb)
          exact ⟨rfl, rfl, unhide HW4 _ (unhide B7)⟩
        | num h hR hN =>
          have KN := hide (hN.prog B b hB)
          have ha : a < s.size := bt_lt.1 (by omega)
          rw [decide_eq_false (by omega)] at HE
          have HE := hide HE
          go_wp2_with (first | (go_at_call 41; refine (unhide HE).mono ?_; rintro e w5 ⟨rfl, m, rfl⟩) | (go_at_call 43; refine (must1_ok (w := wr.drewN m) 32 (unhide Hr) h).mono ?_; rintro e w6 ⟨rfl, hr, hb⟩; have R6 := hide hr; have G6 := hide (Gl.but (w := wr.drewN m) ((unhide Hg).on ((still_drewN wr m) B)) (unhide Hr) hB hb); have F6 := hide (Blk.but (w := wr.drewN m) (unhide Hf) hb (by omega)); have O6 := hide (OwC.but (w := wr.drewN m) (unhide Ho) hb (fun k h1 h2 => by omega)); have B6 := hide (((unhide Hb).trans (But.still (still_drewN _ m))).trans (hb.mono fun k e => .inl e)); clear hr hb; refine Hid.out ?_))
          refine hide ?_
          have c6 := (unhide F6).cell 1 (v := .slice ad2 l2.length cap2) rfl
          go_wp2_with (go_at_call 46; refine (root_bad l2.length cap2 ad2 rfl hR (unhide KN) _ (unhide R6) (unhide G6)).mono ?_; rintro e w7 ⟨rfl, hb⟩; have B7 := hide ((unhide B6).trans (hb.mono fun k e => .inl e)); clear hb)
          exact ⟨rfl, rfl, unhide HW4 _ (unhide B7)⟩
        | @step _ _ x y p2 _ h hR hN k =>
          have KN := hide (hN.prog B b hB)
          have ht := hN.told
          have hn : l2.length ≠ 24 := by rcases hR with g | g; exact g; exact absurd ht.2.2.2.1 g
          have hlt2 := ht.2.2.2.2.1
          have hle2 := ht.2.2.2.2.2.1
          clear ht
          have ha : a < s.size := bt_lt.1 (by omega)
          rw [decide_eq_false (by omega)] at HE
          have HE := hide HE
          go_wp2_with (first | (go_at_call 41; refine (unhide HE).mono ?_; rintro e w5 ⟨rfl, m, rfl⟩) | (go_at_call 43; refine (must1_ok (w := wr.drewN m) 32 (unhide Hr) h).mono ?_; rintro e w6 ⟨rfl, hr, hb⟩; have R6 := hide hr; have G6 := hide (Gl.but (w := wr.drewN m) ((unhide Hg).on ((still_drewN wr m) B)) (unhide Hr) hB hb); have F6 := hide (Blk.but (w := wr.drewN m) (unhide Hf) hb (by omega)); have O6 := hide (OwC.but (w := wr.drewN m) (unhide Ho) hb (fun k h1 h2 => by omega)); have B6 := hide (((unhide Hb).trans (But.still (still_drewN _ m))).trans (hb.mono fun k e => .inl e)); clear hr hb; refine Hid.out ?_))
          refine hide ?_
          have c6 := (unhide F6).cell 1 (v := .slice ad2 l2.length cap2) rfl
          go_wp2_with (go_at_call 46; refine (root_ok (unhide O6) (by omega) (unhide B6).size hl2 hn (unhide KN) (unhide R6) (unhide G6)).mono ?_; rintro e w7 ⟨v7, rfl, hr, ho, hb⟩; have R7 := hide hr; have G7 := hide ((unhide G6).on (hb.below (Below.refl B w6) (by have := (unhide R6).1.lt; omega) (fun k e => by rcases e with e | e <;> omega))); have F7 := hide ((unhide F6).but hb (by omega)); have O7 := hide ho; have B7 := hide ((unhide B6).fresh2 hb (fun k hk e => by rcases e with e | e; exact .inl e; omega)); clear hr ho hb; refine Hid.out ?_)
          refine hide ?_
          obtain ⟨ad7, cap7, e7⟩ := (unhide O7).shape
          obtain ⟨n7, hn7⟩ : ∃ n7, n7 = (l2 ++ [(x, y)]).length := ⟨_, rfl⟩
          rw [← hn7] at e7
          subst e7
          clear hn7
          have c7 := (unhide F7).cell 1 (v := .slice ad2 l2.length cap2) rfl
          have f7 := (unhide F7).unfrozen 1
          go_wp2_with fail
          have hset := But.setCell (fun k => k = w.heap.size + 1) w7 ⟨w.heap.size + 1, 1, none⟩ (.slice ad7 n7 cap7) rfl
          refine ⟨⟨p2, l2 ++ [(x, y)], .slice ad7 n7 cap7, (unhide R7).setOff (by omega), (unhide G7).on (hset.below (Below.refl B w7) (by have := (unhide R7).1.lt; omega) (fun k e => by omega)), (unhide F7).put 1 (.slice ad7 n7 cap7), (unhide O7).but hset (fun k h1 h2 => by omega), ?_, k, (unhide B7).trans (hset.mono fun k e => .inr e)⟩, ?_⟩
          · rw [List.length_append]; show l2.length + 1 ≤ 24; omega
          · rw [hc1, ((unhide R7).setOff (F := w.heap.size + 1) (i := 1) (v := .slice ad7 n7 cap7) (by omega)).1.cell 1 (v := .int .i64 (p2 : Int)) rfl]
            simp only [Option.getD_some, intOf]
            omega
    | long h h24 =>
      rw [h24] at Hf
      go_wp2_with (go_at_call 45; refine (may_no (t := ⟨#[124]⟩) (unhide Hr) (no1 (c := 124) (by rw [h]; decide))).mono ?_; rintro e w4 ⟨rfl, hr, hb⟩; have R4 := hide hr; have F4 := hide ((unhide Hf).but hb (by omega)); have B4 := hide ((unhide Hb).trans (hb.mono fun k e => .inl e)); clear hr hb; refine Hid.out ?_)
      refine hide ?_
      have c4 := (unhide F4).cell 0 (v := .slice ad 24 cap) rfl
      go_wp2_with (go_at_call 46; refine (root_long ad cap rfl h _ (unhide R4)).mono ?_; rintro e w5 ⟨rfl, hb⟩; have B5 := hide ((unhide B4).trans (hb.mono fun k e => .inl e)); clear hb)
      exact ⟨rfl, rfl, unhide HW3 _ (unhide B5)⟩
    | num h hR hN =>
      have KN := hide (hN.prog B b hB)
      go_wp2_with (go_at_call 45; refine (may_no (t := ⟨#[124]⟩) (unhide Hr) (no1 (c := 124) h)).mono ?_; rintro e w4 ⟨rfl, hr, hb⟩; have R4 := hide hr; have G4 := hide ((unhide Hg).but (unhide Hr) hB hb); have F4 := hide ((unhide Hf).but hb (by omega)); have B4 := hide ((unhide Hb).trans (hb.mono fun k e => .inl e)); clear hr hb; refine Hid.out ?_)
      refine hide ?_
      have c4 := (unhide F4).cell 0 (v := .slice ad l.length cap) rfl
      go_wp2_with (go_at_call 46; refine (root_bad l.length cap ad rfl hR (unhide KN) _ (unhide R4) (unhide G4)).mono ?_; rintro e w5 ⟨rfl, hb⟩; have B5 := hide ((unhide B4).trans (hb.mono fun k e => .inl e)); clear hb)
      exact ⟨rfl, rfl, unhide HW3 _ (unhide B5)⟩
    | @blank _ _ x y p2 h hR hN hb32 =>
      have KN := hide (hN.prog B b hB)
      have ht := hN.told
      have hn : l.length ≠ 24 := by rcases hR with g | g; exact g; exact absurd ht.2.2.2.1 g
      have hlt2 := ht.2.2.2.2.1
      have hle2 := ht.2.2.2.2.2.1
      clear ht
      go_wp2_with (go_at_call 45; refine (may_no (t := ⟨#[124]⟩) (unhide Hr) (no1 (c := 124) h)).mono ?_; rintro e w4 ⟨rfl, hr, hb⟩; have R4 := hide hr; have G4 := hide ((unhide Hg).but (unhide Hr) hB hb); have F4 := hide ((unhide Hf).but hb (by omega)); have O4 := hide ((unhide Ho).but hb (fun k h1 h2 => by omega)); have B4 := hide ((unhide Hb).trans (hb.mono fun k e => .inl e)); clear hr hb; refine Hid.out ?_)
      refine hide ?_
      have c4 := (unhide F4).cell 0 (v := .slice ad l.length cap) rfl
      go_wp2_with (go_at_call 46; refine (root_ok (unhide O4) hb3 (unhide B4).size hl hn (unhide KN) (unhide R4) (unhide G4)).mono ?_; rintro e w5 ⟨v5, rfl, hr, ho, hb⟩; have R5 := hide hr; have G5 := hide ((unhide G4).on (hb.below (Below.refl B w4) (by have := (unhide R4).1.lt; omega) (fun k e => by rcases e with e | e <;> omega))); have F5 := hide ((unhide F4).but hb (by omega)); have O5 := hide ho; have B5 := hide ((unhide B4).fresh2 hb (fun k hk e => by rcases e with e | e; exact .inl e; omega)); clear hr ho hb; refine Hid.out ?_)
      refine hide ?_
      obtain ⟨ad5, cap5, e5⟩ := (unhide O5).shape
      obtain ⟨n5, hn5⟩ : ∃ n5, n5 = (l ++ [(x, y)]).length := ⟨_, rfl⟩
      rw [← hn5] at e5
      subst e5
      clear hn5
      have c5 := (unhide F5).cell 0 (v := .slice ad l.length cap) rfl
      have f5 := (unhide F5).unfrozen 0
      have R6 := hide ((unhide R5).setOff (F := w.heap.size + 1) (i := 0) (v := .slice ad5 n5 cap5) (by omega))
      have F6 := hide ((unhide F5).put 0 (.slice ad5 n5 cap5))
      go_wp2_with (go_at_call 43; refine (must1_bad 32 (unhide R6) hb32).mono ?_; rintro e w7 ⟨rfl, hb⟩; have B7 := hide (((unhide B5).trans (But.setCell (fun k => k = b ∨ k = w.heap.size + 1) w5 ⟨w.heap.size + 1, 0, none⟩ (.slice ad5 n5 cap5) (.inr rfl))).trans (hb.mono fun k e => .inl e)); clear hb)
      exact ⟨rfl, rfl, unhide HW3 _ (unhide B7)⟩
    | @step _ _ x y p2 _ h hR hN hb32 k =>
      have KN := hide (hN.prog B b hB)
      have ht := hN.told
      have hn : l.length ≠ 24 := by rcases hR with g | g; exact g; exact absurd ht.2.2.2.1 g
      have hlt2 := ht.2.2.2.2.1
      have hle2 := ht.2.2.2.2.2.1
      clear ht
      go_wp2_with (go_at_call 45; refine (may_no (t := ⟨#[124]⟩) (unhide Hr) (no1 (c := 124) h)).mono ?_; rintro e w4 ⟨rfl, hr, hb⟩; have R4 := hide hr; have G4 := hide ((unhide Hg).but (unhide Hr) hB hb); have F4 := hide ((unhide Hf).but hb (by omega)); have O4 := hide ((unhide Ho).but hb (fun k h1 h2 => by omega)); have B4 := hide ((unhide Hb).trans (hb.mono fun k e => .inl e)); clear hr hb; refine Hid.out ?_)
      refine hide ?_
      have c4 := (unhide F4).cell 0 (v := .slice ad l.length cap) rfl
      go_wp2_with (go_at_call 46; refine (root_ok (unhide O4) hb3 (unhide B4).size hl hn (unhide KN) (unhide R4) (unhide G4)).mono ?_; rintro e w5 ⟨v5, rfl, hr, ho, hb⟩; have R5 := hide hr; have G5 := hide ((unhide G4).on (hb.below (Below.refl B w4) (by have := (unhide R4).1.lt; omega) (fun k e => by rcases e with e | e <;> omega))); have F5 := hide ((unhide F4).but hb (by omega)); have O5 := hide ho; have B5 := hide ((unhide B4).fresh2 hb (fun k hk e => by rcases e with e | e; exact .inl e; omega)); clear hr ho hb; refine Hid.out ?_)
      refine hide ?_
      obtain ⟨ad5, cap5, e5⟩ := (unhide O5).shape
      obtain ⟨n5, hn5⟩ : ∃ n5, n5 = (l ++ [(x, y)]).length := ⟨_, rfl⟩
      rw [← hn5] at e5
      subst e5
      clear hn5
      have c5 := (unhide F5).cell 0 (v := .slice ad l.length cap) rfl
      have f5 := (unhide F5).unfrozen 0
      have R6 := hide ((unhide R5).setOff (F := w.heap.size + 1) (i := 0) (v := .slice ad5 n5 cap5) (by omega))
      have F6 := hide ((unhide F5).put 0 (.slice ad5 n5 cap5))
      have G6 : Hid (Gl B (w5.setCell ⟨w.heap.size + 1, 0, none⟩ (.slice ad5 n5 cap5))) := (unhide G5).on ((But.setCell (fun k => k = w.heap.size + 1) w5 ⟨w.heap.size + 1, 0, none⟩ (.slice ad5 n5 cap5) rfl).below (Below.refl B w5) (by have := (unhide R5).1.lt; omega) (fun k e => by omega))
      have O6 := hide ((unhide O5).but (But.setCell (fun k => k = w.heap.size + 1) w5 ⟨w.heap.size + 1, 0, none⟩ (.slice ad5 n5 cap5) rfl) (fun k h1 h2 => by omega))
      have B6 := hide ((unhide B5).trans (But.setCell (fun k => k = b ∨ k = w.heap.size + 1) w5 ⟨w.heap.size + 1, 0, none⟩ (.slice ad5 n5 cap5) (.inr rfl)))
      go_wp2_with (go_at_call 43; refine (must1_ok 32 (unhide R6) hb32).mono ?_; rintro e w7 ⟨rfl, hr, hb⟩; have R7 := hide hr; have G7 := hide ((unhide G6).but (unhide R6) hB hb); have F7 := hide ((unhide F6).but hb (by omega)); have O7 := hide ((unhide O6).but hb (fun k h1 h2 => by omega)); have B7 := hide ((unhide B6).trans (hb.mono fun k e => .inl e)); clear hr hb)
      refine ⟨⟨p2 + 1, l ++ [(x, y)], _, unhide R7, unhide G7, unhide F7, unhide O7, ?_, k, unhide B7⟩, ?_⟩
      · rw [List.length_append]; show l.length + 1 ≤ 24; omega
      · rw [hc1, (unhide R7).1.cell 1 (v := .int .i64 ((p2 + 1 : Nat) : Int)) rfl]
        simp only [Option.getD_some, intOf]
        omega
end Go.Proofs.YtbkjmnopljmanaaGreatDoor

/- ReadZpk where a filter is read. -/
namespace Go.Proofs.YtbkjmnopljmanaaGreatDoor
open Go.RowKit

set_option maxRecDepth 100000 in
theorem rule_okZpk {b A0 gx gy : Nat} {s : ByteArray} {lz lp : List (Nat × Nat)} {c1 : Nat} (hne : A0 ≠ b) (w : World) (hA : Blk w A0 #[.slice none 0 0, .slice none 0 0, .complex .f64 0 0] 25)
    (H : Calls Tryz.prog 20 #[.pointer (some ⟨b, 0, none⟩)] w (ZPost w b s gx gy (.ok lz c1) (.ok lp s.size))) :
    Calls Tryz.prog 19 #[.pointer (some ⟨b, 0, none⟩), .pointer (some ⟨A0, 0, none⟩)] w fun e w' => ∃ vz vp, e = .returned (.tuple #[]) ∧ RdAt w' b s s.size ∧ Blk w' A0 #[vz, vp, .complex .f64 gx gy] 25 ∧ OwC w.heap.size w' vz lz ∧ OwC w.heap.size w' vp lp ∧ But (fun k => k = b ∨ k = A0) w w' := by
  have HN := hide H
  have HA := hide hA
  have hlA := hA.lt
  have hsc := run_store_c
  clear H hA
  go_enter Tryz.func19, Tryz.ntmps19
  go_wp2_with (go_at_call 20; refine (unhide HN).mono ?_; rintro e w1 ⟨vz, vp, rfl, hr, hz, hp, hb⟩; obtain ⟨ad1, cap1, rfl⟩ := hz.shape; obtain ⟨ad2, cap2, rfl⟩ := hp.shape; have R1 := hide hr; have B1 := hide hb; have OZ := hide hz; have OP := hide hp; have hA1 := (unhide HA).but hb hne; have m0 := hA1.cell 0 (v := .slice none 0 0) rfl; have m1 := hA1.cell 1 (v := .slice none 0 0) rfl; have m2 := hA1.cell 2 (v := .complex .f64 0 0) rfl; have f0 := hA1.unfrozen 0; have f1 := hA1.unfrozen 1; have f2 := hA1.unfrozen 2; have HA1 := hide hA1; clear hr hb hA1 hz hp)
  go_end0
  have hN2 := (((unhide HA1).put 0 (.slice ad1 lz.length cap1)).put 1 (.slice ad2 lp.length cap2)).put 2 (.complex .f64 gx gy)
  have hset := ((But.setCell (fun k => k = A0) w1 ⟨A0, 0, none⟩ (.slice ad1 lz.length cap1) rfl).trans (But.setCell (fun k => k = A0) _ ⟨A0, 1, none⟩ (.slice ad2 lp.length cap2) rfl)).trans (But.setCell (fun k => k = A0) _ ⟨A0, 2, none⟩ (.complex .f64 gx gy) rfl)
  refine ⟨_, _, rfl, ⟨(unhide R1).1.but hset (fun e => hne e.symm), (unhide R1).2⟩, hN2, (unhide OZ).but hset (fun k h1 h2 => by omega), (unhide OP).but hset (fun k h1 h2 => by omega), ?_⟩
  exact ((unhide B1).mono fun k e => .inl e).trans (hset.mono fun k e => .inr e)
set_option maxRecDepth 100000 in
set_option maxHeartbeats 2000000 in
theorem whole_okZpk {B b A0 gx gy : Nat} {s : ByteArray} {lz lp : List (Nat × Nat)} (w : World) (hr : RdAt w b s 0) (hG : Gl B w) (hB : B ≤ b) (hA : Blk w A0 #[.slice none 0 0, .slice none 0 0, .complex .f64 0 0] 25)
    (h : ∀ W, RdAt W b s 0 → Gl B W → Blk W A0 #[.slice none 0 0, .slice none 0 0, .complex .f64 0 0] 25 → Calls Tryz.prog 19 #[.pointer (some ⟨b, 0, none⟩), .pointer (some ⟨A0, 0, none⟩)] W fun e w' => ∃ vz vp, e = .returned (.tuple #[]) ∧ RdAt w' b s s.size ∧ Blk w' A0 #[vz, vp, .complex .f64 gx gy] 25 ∧ OwC W.heap.size w' vz lz ∧ OwC W.heap.size w' vp lp ∧ But (fun k => k = b ∨ k = A0) W w') :
    Calls Tryz.prog 18 #[.pointer (some ⟨b, 0, none⟩), .func (.func 19) #[] #[.pointer (some ⟨b, 0, none⟩), .pointer (some ⟨A0, 0, none⟩)]] w fun e w' => ∃ vz vp, e = .returned (.tuple #[.int .i64 0, .int .i64 0]) ∧ Blk w' A0 #[vz, vp, .complex .f64 gx gy] 25 ∧ OwC w.heap.size w' vz lz ∧ OwC w.heap.size w' vp lp ∧ But (fun k => k = b ∨ k = A0) w w' := by
  have hmf := makeFunc_run
  have hlt := hr.1.lt
  have hlA := hA.lt
  have h9 : ¬ (65536 : Int) < (s.size : Int) := by have := hr.2.2; omega
  have c0 := hr.1.cell 0 (v := .string s) rfl
  obtain ⟨hWb, hP, hQ⟩ := two_alloc w
  have hszW := hQ.lt
  have HR := hide (h _ (hr.low hWb) (hG.on (hWb.mono (by omega))) (hA.below hWb hlA))
  have K := hide (And.intro hWb (And.intro hP hQ))
  clear hWb hP hQ h hr hG hA
  go_enter_defers Tryz.func18, Tryz.ntmps18
  go_wp2_with (first
    | (go_at_call 19; refine (unhide HR).mono ?_; rintro e w1 ⟨vz, vp, rfl, hr, hA, hz, hp, hb⟩; have OZ := hide hz; have OP := hide hp; have HA1 := hide hA; have B1 := hide hb; have HE := hide (ended_any hr); rw [decide_eq_true rfl] at HE; have hP1 := (unhide K).2.1.but hb (by omega); have hQ1 := (unhide K).2.2.but hb (by omega); have e1 := hP1.cell 0 (v := .int .i64 0) rfl; have e2 := hQ1.cell 0 (v := .int .i64 0) rfl; have f1 := hP1.unfrozen 0; have f2 := hQ1.unfrozen 0; have HP1 := hide hP1; have HQ1 := hide hQ1; clear hr hA hb hP1 hQ1 hz hp)
    | (go_at_call 41; refine (unhide HE).mono ?_; rintro e w2 ⟨rfl, m, rfl⟩))
  obtain ⟨T1, T2, T3⟩ := two_put0 (W := w1.drewN m) (.int .i64 0) (.int .i64 0) (show w.heap.size ≠ w.heap.size + 1 by omega) (unhide HP1) (unhide HQ1)
  have hB1 := (((But.low (O := fun k => k = b ∨ k = A0) (unhide K).1).trans (unhide B1)).trans (But.still (still_drewN _ m))).fresh T3 (fun k e => by omega)
  have hA9 := Blk.but (w := w1.drewN m) (unhide HA1) T3 (by omega)
  have hZ9 := OwC.but (w := w1.drewN m) (unhide OZ) T3 (fun k h1 h2 => by omega)
  have hP9 := OwC.but (w := w1.drewN m) (unhide OP) T3 (fun k h1 h2 => by omega)
  generalize ((w1.drewN m).setCell ⟨w.heap.size, 0, none⟩ (.int .i64 0)).setCell ⟨w.heap.size + 1, 0, none⟩ (.int .i64 0) = W9 at *
  have hsz9 := (unhide K).1.size
  clear HR B1 HE e1 e2 f1 f2 OZ OP
  refine leaves_cons (f := 40) (args := #[.pointer (some ⟨w.heap.size, 0, none⟩), .pointer (some ⟨w.heap.size + 1, 0, none⟩)]) (by simp) (by simp [go_sem]) ?_
  refine (catch_idle _ _ W9).mono ?_
  rintro e u' w2 ⟨rfl, rfl, hw2⟩
  have hbl : Below W9.heap.size W9 w2 := by rw [hw2]; exact (Below.refl _ _).alloc (Nat.le_refl _) _
  clear hw2
  have d1 := (T1.below hbl T1.lt).cell 0 (v := .int .i64 0) rfl
  have d2 := (T2.below hbl T2.lt).cell 0 (v := .int .i64 0) rfl
  have R1 := hA9.below hbl hA9.lt
  have R2 := hB1.trans (But.low hbl)
  have R3 := (hZ9.but (But.low (O := fun _ => False) hbl) (fun _ _ h => h)).lower hsz9
  have R4 := (hP9.but (But.low (O := fun _ => False) hbl) (fun _ _ h => h)).lower hsz9
  simp [Leaves, settle, results, Tryz.results18, go_sem, d1, d2]
  exact ⟨vz, vp, R1, R3, R4, R2⟩
set_option maxRecDepth 100000 in
set_option maxHeartbeats 1000000 in
theorem read_fineZpk {s : ByteArray} {gx gy : Nat} {lz lp : List (Nat × Nat)} (w : World)
    (H : ∀ W, Below w.heap.size w W → Blk W (w.heap.size + 1) #[.slice none 0 0, .slice none 0 0, .complex .f64 0 0] 25 → Blk W (w.heap.size + 1 + 1) #[.string s, .int .i64 0] 53 →
      Calls Tryz.prog 18 #[.pointer (some ⟨w.heap.size + 1 + 1, 0, none⟩), .func (.func 19) #[] #[.pointer (some ⟨w.heap.size + 1 + 1, 0, none⟩), .pointer (some ⟨w.heap.size + 1, 0, none⟩)]] W fun x w' => ∃ vz vp, x = .returned (.tuple #[.int .i64 0, .int .i64 0]) ∧ Blk w' (w.heap.size + 1) #[vz, vp, .complex .f64 gx gy] 25 ∧ OwC W.heap.size w' vz lz ∧ OwC W.heap.size w' vp lp ∧ But (fun k => k = w.heap.size + 1 + 1 ∨ k = w.heap.size + 1) W w') :
    Calls Tryz.prog 6 #[.string s] w fun x w' => ∃ vz vp, x = .returned (.tuple #[.agg #[vz, vp, .complex .f64 gx gy], .int .i64 0, .int .i64 0]) ∧ OwC w.heap.size w' vz lz ∧ OwC w.heap.size w' vp lp ∧ Below w.heap.size w w' := by
  have hmf := makeFunc_run
  have hsc := run_store_c
  obtain ⟨W, hW⟩ : ∃ W, W = ((w.alloc (.cells #[.slice none 0 0, .slice none 0 0, .complex .f64 0 0] 25)).alloc (.cells #[.slice none 0 0, .slice none 0 0, .complex .f64 0 0] 25)).alloc (.cells #[.string s, .int .i64 0] 53) := ⟨_, rfl⟩
  obtain ⟨h1, h2, h3, h4⟩ := alloc3Zpk w s W hW
  have hsW := h4.lt
  have HW := hide (H _ h1 h3 h4)
  have H1 := hide h1
  have H2 := hide h2
  have EW := hide hW
  clear H h1 h2 h3 h4 hW
  go_enter Tryz.func6, Tryz.ntmps6
  go_wp2_with (go_at_call 18; rw [← unhide EW]; refine (unhide HW).mono ?_; rintro x w1 ⟨vz, vp, rfl, hA, hz, hp, hb⟩; have B1 := hide hb; have A1 := hide hA; have OZ := hide hz; have OP := hide hp; clear hb hA hz hp; refine Hid.out ?_)
  refine hide ?_
  obtain ⟨ad1, cap1, rfl⟩ := (unhide OZ).shape
  obtain ⟨ad2, cap2, rfl⟩ := (unhide OP).shape
  have hN := (unhide H2).but (unhide B1) (by omega)
  have c0 := hN.cell 0 (v := .slice none 0 0) rfl
  have c1 := hN.cell 1 (v := .slice none 0 0) rfl
  have c2 := hN.cell 2 (v := .complex .f64 0 0) rfl
  have f0 := hN.unfrozen 0
  have f1 := hN.unfrozen 1
  have f2 := hN.unfrozen 2
  have a0 := (unhide A1).cell 0 (v := .slice ad1 lz.length cap1) rfl
  have a1 := (unhide A1).cell 1 (v := .slice ad2 lp.length cap2) rfl
  have a2 := (unhide A1).cell 2 (v := .complex .f64 gx gy) rfl
  have HN := hide hN
  clear hN
  go_wp2_with fail
  have hN2 := (((unhide HN).put 0 (.slice ad1 lz.length cap1)).put 1 (.slice ad2 lp.length cap2)).put 2 (.complex .f64 gx gy)
  have hset := ((But.setCell (fun k => k = w.heap.size) w1 ⟨w.heap.size, 0, none⟩ (.slice ad1 lz.length cap1) rfl).trans (But.setCell (fun k => k = w.heap.size) _ ⟨w.heap.size, 1, none⟩ (.slice ad2 lp.length cap2) rfl)).trans (But.setCell (fun k => k = w.heap.size) _ ⟨w.heap.size, 2, none⟩ (.complex .f64 gx gy) rfl)
  refine bodyPost_ret (run_resultsZpk rfl rfl rfl hN2) rfl ?_
  have hs1 := (unhide H1).size
  refine ⟨_, _, rfl, ((unhide OZ).but hset (fun k h1 h2 => by omega)).lower hs1, ((unhide OP).but hset (fun k h1 h2 => by omega)).lower hs1, ?_⟩
  exact (((unhide B1).mono (O' := fun k => k = w.heap.size + 1 + 1 ∨ k = w.heap.size + 1 ∨ k = w.heap.size) (fun k e => by omega)).trans (hset.mono fun k e => .inr (.inr e))).below (unhide H1) (unhide H1).size (fun k e => by omega)
end Go.Proofs.YtbkjmnopljmanaaGreatDoor

/- The reference's reader: all. -/
namespace Go.Proofs.YtbkjmnopljmanaaGreatDoor
open Go.RowKit

/-- Zeros as the reference reads them, from ahead of the blank on. -/
def RZ (s : ByteArray) (a : Nat) (l : List (Nat × Nat)) (o : ZEnd) : Prop := (bt s a = 32 ∧ Zr s (a + 1) l o) ∨ (bt s a ≠ 32 ∧ o = .bad 12 a)
/-- How all ends. -/
def APost (w : World) (b : Nat) (s : ByteArray) : ZEnd → Ending → World → Prop
  | .bad er q, e, w' => ∃ v l a', e = .returned v ∧ OwC w.heap.size w' v l ∧ QdAt w' b s a' er q ∧ But (fun k => k = b) w w'
  | .ok l p, e, w' => ∃ v, e = .returned v ∧ OwC w.heap.size w' v l ∧ QdAt w' b s p 0 0 ∧ But (fun k => k = b) w w'
set_option maxRecDepth 100000 in
theorem all_dead {b a er q : Nat} {s : ByteArray} (bar : Bool) (he : er ≠ 0) (w : World) (h : QdAt w b s a er q) :
    Calls Tryz.prog 23 #[.pointer (some ⟨b, 0, none⟩), .bool bar] w fun e w' => e = .returned (.slice none 0 0) ∧ ∃ m, w' = w.drewN m := by
  obtain ⟨c0, c1, c2, c3⟩ := h.cells
  have hz : ((er : Int) == 0) = false := by rw [beq_eq_false_iff_ne]; omega
  clear h he
  go_enter Tryz.func23, Tryz.ntmps23
  go_wp2_with fail
  go_loopw [5] (fun v wr => v = .slice none 0 0 ∧ wr = w) (fun _ _ => 0)
  case atStart => exact ⟨rfl, rfl⟩
  case round =>
    obtain ⟨rfl, hw⟩ := hrel
    obtain rfl := hw.symm
    go_wp2_with fail
    go_quiet (fail)
    go_wp2
    go_ret
    exact ⟨rfl, _, rfl⟩
theorem QdAt.but8 {w w' : World} {b : Nat} {s : ByteArray} {a e pl : Nat} {O : Nat → Prop} (h : QdAt w b s a e pl) (hb : But O w w') (hO : ¬ O b) : QdAt w' b s a e pl := ⟨h.1.but hb hO, h.2⟩
/-- Live, or behind a fault. -/
def ALive (s : ByteArray) (b : Nat) (T : Nat → List (Nat × Nat) → ZEnd → Prop) (o : ZEnd) (wr : World) (l : List (Nat × Nat)) : Prop :=
  (∃ a, QdAt wr b s a 0 0 ∧ l.length ≤ 24 ∧ T a l o) ∨ (∃ a' er q, er ≠ 0 ∧ QdAt wr b s a' er q ∧ o = .bad er q)
def aMeas (s : ByteArray) (b : Nat) (wr : World) : Nat := if intOf ((wr.cell? ⟨b, 2, none⟩).getD undef) = 0 then s.size + 2 - (intOf ((wr.cell? ⟨b, 1, none⟩).getD undef)).toNat else 0
theorem aMeas_live {s : ByteArray} {b a : Nat} {wr : World} (h : QdAt wr b s a 0 0) : aMeas s b wr = s.size + 2 - a := by
  obtain ⟨c0, c1, c2, c3⟩ := h.cells
  unfold aMeas
  rw [c1, c2]
  simp [intOf]
theorem aMeas_dead {s : ByteArray} {b a er q : Nat} {wr : World} (he : er ≠ 0) (h : QdAt wr b s a er q) : aMeas s b wr = 0 := by
  obtain ⟨c0, c1, c2, c3⟩ := h.cells
  unfold aMeas
  rw [c2]
  simp [intOf, he]
theorem QdAt.of_still {w W : World} {b : Nat} {s : ByteArray} {a e pl : Nat} (h : QdAt w b s a e pl) (hs : Still w W) : QdAt W b s a e pl := ⟨h.1.but (But.still (O := fun _ => False) hs) (fun e => e), h.2⟩
theorem OwC.still {B : Nat} {w W : World} {v : Value} {l : List (Nat × Nat)} (h : OwC B w v l) (hs : Still w W) : OwC B W v l := h.but (But.still (O := fun _ => False) hs) (fun _ _ e => e)
/-- A number read behind a fault, laid behind the row. -/
theorem dead_app {w w2 : World} {b a er q : Nat} {s : ByteArray} {v : Value} {l : List (Nat × Nat)} (he : er ≠ 0) (hbw : b < w.heap.size) (hr : QdAt w2 b s a er q) (ho : OwC w.heap.size w2 v l) (hb : But (fun k => k = b) w w2) (W : World) (hs : Still w2 W) :
    Calls Tryz.prog 22 #[.pointer (some ⟨b, 0, none⟩), .bool true] W fun e wn => ∃ x y a', e = .returned (.complex .f64 x y) ∧ QdAt wn b s a' er q ∧ OwC w.heap.size (wn.alloc (.cells #[.complex .f64 x y] 23)) v l ∧ But (fun k => k = b) w wn :=
  (rnum_dead true he W (hr.of_still hs)).mono fun e wn ⟨x, y, a', h1, h2, h3⟩ => ⟨x, y, a', h1, h2, ((ho.still hs).but h3 (fun k h1 h2 => by omega)).but (But.low (O := fun _ => False) ((Below.refl _ wn).alloc (Nat.le_refl _) _)) (fun _ _ h => h), (hb.trans (But.still hs)).trans h3⟩
set_option maxRecDepth 100000 in
set_option maxHeartbeats 4000000 in
theorem all_zr {b a0 : Nat} {s : ByteArray} {oz : ZEnd} (hZ : RZ s a0 [] oz) (w : World) (h : QdAt w b s a0 0 0) :
    Calls Tryz.prog 23 #[.pointer (some ⟨b, 0, none⟩), .bool true] w (APost w b s oz) := by
  have hbw := h.1.lt
  have H0 := hide h
  have HZ := hide hZ
  clear h hZ
  go_enter Tryz.func23, Tryz.ntmps23
  go_wp2_with fail
  go_loopw [5] (fun v wr => ∃ l, OwC w.heap.size wr v l ∧ l.length ≤ 25 ∧ But (fun k => k = b) w wr ∧ ALive s b (RZ s) oz wr l) (fun _ wr => aMeas s b wr)
  case atStart => exact ⟨[], OwC.none _ _, by decide, But.refl _ _, .inl ⟨a0, unhide H0, by decide, unhide HZ⟩⟩
  case round =>
    obtain ⟨l, ho, hl25, hb, hal⟩ := hrel
    obtain ⟨ad, cap, rfl⟩ := ho.shape
    have Ho := hide ho
    have Hb := hide hb
    have hszr := hb.size
    clear ho hb
    rcases hal with ⟨a, hr, hl, hz⟩ | ⟨a', er, q, he, hr, rfl⟩
    rotate_left
    · have Hr := hide hr
      have hz : ((er : Int) == 0) = false := by rw [beq_eq_false_iff_ne]; omega
      obtain ⟨c0, c1, c2, c3⟩ := hr.cells
      clear hr
      go_wp2_with fail
      go_quiet (fail)
      go_wp2
      go_ret
      exact ⟨_, l, a', rfl, unhide Ho, (unhide Hr).drew _, (unhide Hb).trans (But.still (still_drewN _ _))⟩
    have Hr := hide hr
    have hm := aMeas_live hr
    obtain ⟨c0, c1, c2, c3⟩ := hr.cells
    have FIN : Hid (∀ (v' : Value) (l' : List (Nat × Nat)) (w' : World) (a' er q : Nat), OwC w.heap.size w' v' l' → But (fun k => k = b) w w' → QdAt w' b s a' er q → er ≠ 0 → l'.length ≤ 25 → oz = .bad er q → a ≤ s.size →
        (∃ l, OwC w.heap.size w' v' l ∧ l.length ≤ 25 ∧ But (fun k => k = b) w w' ∧ ALive s b (RZ s) oz w' l) ∧ aMeas s b w' < aMeas s b wr) := fun v' l' w' a' er q h1 h2 h3 h4 h5 h6 h7 =>
      ⟨⟨l', h1, h5, h2, .inr ⟨a', er, q, h4, h3, h6⟩⟩, by rw [aMeas_dead h4 h3, hm]; omega⟩
    have has : a ≤ s.size := hr.2.1
    have ht : ((true : Bool) = true) := rfl
    clear hr
    go_wp2_with fail
    go_quiet (fail)
    rcases hz with ⟨h32, hz⟩ | ⟨h32, rfl⟩
    ·
      go_wp2_with (go_at_call 21; refine (want_ok (t := ⟨#[32]⟩) (w := wr.drewN nq) ((unhide Hr).drew nq) (by decide) (stand1 h32)).mono ?_; rintro e w2 ⟨rfl, hr, hb⟩; have R2 : Hid (QdAt w2 b s (a + 1) 0 0) := hr; have O2 := hide (OwC.but (w := wr.drewN nq) (unhide Ho) hb (fun k h1 h2 => by omega)); have B2 := hide (((unhide Hb).trans (But.still (still_drewN _ nq))).trans hb); clear hr hb; refine Hid.out ?_)
      refine hide ?_
      cases hz with
      | bar h =>
        go_wp2_with (go_at_call 32; refine (is_yes (c := 124) (by decide) (unhide R2) h).mono ?_; rintro e w3 ⟨rfl, hr, hb⟩; have R3 := hide hr; have O3 := hide ((unhide O2).but hb (fun k h1 h2 => by omega)); have B3 := hide ((unhide B2).trans hb); clear hr hb; refine Hid.out ?_)
        refine hide ?_
        have hlt : a + 1 < s.size := bt_lt.1 (by omega)
        obtain ⟨d0, d1, d2, d3⟩ := (unhide R3).cells
        have f1 := (unhide R3).1.unfrozen 1
        obtain ⟨a1, ha1⟩ : ∃ a1, a1 = a + 1 := ⟨_, rfl⟩
        rw [← ha1] at d1 R3 hlt
        have hw1 : IntKind.i64.wrap ((a1 : Int) + 1) = (a1 : Int) + 1 := by simp [IntKind.wrap_i64]; have := (unhide R3).2.2; omega
        have R4 := hide ((unhide R3).step hlt)
        have HA1 := hide ha1
        clear ha1
        go_wp2_with fail
        go_ret
        rw [← unhide HA1]
        exact ⟨_, rfl, (unhide O3).but (But.setCell (fun k => k = b) w3 ⟨b, 1, none⟩ (.int .i64 ((a1 : Int) + 1)) rfl) (fun k h1 h2 => by omega), unhide R4, (unhide B3).trans (But.setCell (fun k => k = b) w3 ⟨b, 1, none⟩ (.int .i64 ((a1 : Int) + 1)) rfl)⟩
      | long h h24 =>
        rw [h24] at O2
        go_wp2_with (go_at_call 32; refine (is_no (c := 124) (by decide) (unhide R2) (by rw [h]; decide)).mono ?_; rintro e w3 ⟨rfl, hr, hb⟩; have R3 := hide hr; have O3 := hide ((unhide O2).but hb (fun k h1 h2 => by omega)); have B3 := hide ((unhide B2).trans hb); clear hr hb; refine Hid.out ?_)
        refine hide ?_
        go_wp2_with (go_at_call 32; refine (is_yes (c := 40) (by decide) (unhide R3) h).mono ?_; rintro e w4 ⟨rfl, hr, hb⟩; have R4 := hide hr; have O4 := hide ((unhide O3).but hb (fun k h1 h2 => by omega)); have B4 := hide ((unhide B3).trans hb); clear hr hb; refine Hid.out ?_)
        refine hide ?_
        obtain ⟨d0, d1, d2, d3⟩ := (unhide R4).cells
        go_wp2_with (go_at_call 33; refine (fail_any 2 (a + 1) (unhide R4)).mono ?_; rintro e w5 ⟨rfl, hr, hb⟩; have RD := hide hr; have OD := hide ((unhide O4).but hb (fun k h1 h2 => by omega)); have BD := hide ((unhide B4).trans hb); clear hr hb; refine Hid.out ?_)
        refine hide ?_
        go_wp2_with (first | (go_at_call 22; refine (dead_app (by decide) hbw (unhide RD) (unhide OD) (unhide BD) _ (by first | exact Still.refl _ | exact still_drewN _ _ | exact (still_drewN _ _).trans (still_drewN _ _))).mono ?_; rintro e wn ⟨x9, y9, a9, rfl, hr, ho, hb⟩; have RN := hide hr; have ON := hide ho; have BN := hide hb; clear hr ho hb) | (at_builtin; refine OwC.app rfl _ _ rfl _ l rfl (unhide ON) wn.heap.size x9 y9 rfl (Blk.alloc.cell 0 rfl) (by omega) (by rw [alloc_size]; have := (unhide BN).size; omega) ?_; intro v8 w8 h1 h2; have O8 := hide h1; have R8 := hide (QdAt.but8 ((unhide RN).low ((Below.refl _ wn).alloc (Nat.le_refl _) (.cells #[.complex .f64 x9 y9] 23))) h2 (by omega)); have B8 := hide (((unhide BN).trans (But.low ((Below.refl _ wn).alloc (Nat.le_refl _) (.cells #[.complex .f64 x9 y9] 23)))).fresh2 h2 (fun k hk e => by omega)); clear h1 h2))
        exact unhide FIN _ _ _ _ _ _ (unhide O8) (unhide B8) (unhide R8) (by decide) (by rw [List.length_append]; show l.length + 1 ≤ 25; omega) rfl has
      | @num _ _ er q h hR hN =>
        have her : er ≠ 0 := by rcases hN.told with g | g <;> rw [g] <;> decide
        have KN := hide (hN.ref b)
        by_cases h40 : bt s (a + 1) = 40
        · have hn : l.length ≠ 24 := by rcases hR with g | g; exact g; exact absurd h40 g
          have n24 : ((l.length : Int) == 24) = false := by rw [beq_eq_false_iff_ne]; omega
          go_wp2_with (go_at_call 32; refine (is_no (c := 124) (by decide) (unhide R2) h).mono ?_; rintro e w3 ⟨rfl, hr, hb⟩; have R3 := hide hr; have O3 := hide ((unhide O2).but hb (fun k h1 h2 => by omega)); have B3 := hide ((unhide B2).trans hb); clear hr hb; refine Hid.out ?_)
          refine hide ?_
          go_wp2_with (go_at_call 32; refine (is_yes (c := 40) (by decide) (unhide R3) h40).mono ?_; rintro e w4 ⟨rfl, hr, hb⟩; have R4 := hide hr; have O4 := hide ((unhide O3).but hb (fun k h1 h2 => by omega)); have B4 := hide ((unhide B3).trans hb); clear hr hb; refine Hid.out ?_)
          refine hide ?_
          go_wp2_with (first | (go_at_call 22; refine (unhide KN _ (unhide R4)).mono ?_; rintro e wn ⟨x9, y9, a9, rfl, hr, hb⟩; have RN := hide hr; have ON := hide (((unhide O4).but hb (fun k h1 h2 => by omega)).but (But.low (O := fun _ => False) ((Below.refl _ wn).alloc (Nat.le_refl _) (.cells #[.complex .f64 x9 y9] 23))) (fun _ _ h => h)); have BN := hide ((unhide B4).trans hb); clear hr hb) | (at_builtin; refine OwC.app rfl _ _ rfl _ l rfl (unhide ON) wn.heap.size x9 y9 rfl (Blk.alloc.cell 0 rfl) (by omega) (by rw [alloc_size]; have := (unhide BN).size; omega) ?_; intro v8 w8 h1 h2; have O8 := hide h1; have R8 := hide (QdAt.but8 ((unhide RN).low ((Below.refl _ wn).alloc (Nat.le_refl _) (.cells #[.complex .f64 x9 y9] 23))) h2 (by omega)); have B8 := hide (((unhide BN).trans (But.low ((Below.refl _ wn).alloc (Nat.le_refl _) (.cells #[.complex .f64 x9 y9] 23)))).fresh2 h2 (fun k hk e => by omega)); clear h1 h2))
          exact unhide FIN _ _ _ _ _ _ (unhide O8) (unhide B8) (unhide R8) her (by rw [List.length_append]; show l.length + 1 ≤ 25; omega) rfl has
        ·
          go_wp2_with (go_at_call 32; refine (is_no (c := 124) (by decide) (unhide R2) h).mono ?_; rintro e w3 ⟨rfl, hr, hb⟩; have R3 := hide hr; have O3 := hide ((unhide O2).but hb (fun k h1 h2 => by omega)); have B3 := hide ((unhide B2).trans hb); clear hr hb; refine Hid.out ?_)
          refine hide ?_
          go_wp2_with (go_at_call 32; refine (is_no (c := 40) (by decide) (unhide R3) h40).mono ?_; rintro e w4 ⟨rfl, hr, hb⟩; have R4 := hide hr; have O4 := hide ((unhide O3).but hb (fun k h1 h2 => by omega)); have B4 := hide ((unhide B3).trans hb); clear hr hb; refine Hid.out ?_)
          refine hide ?_
          go_wp2_with (first | (go_at_call 22; refine (unhide KN _ (unhide R4)).mono ?_; rintro e wn ⟨x9, y9, a9, rfl, hr, hb⟩; have RN := hide hr; have ON := hide (((unhide O4).but hb (fun k h1 h2 => by omega)).but (But.low (O := fun _ => False) ((Below.refl _ wn).alloc (Nat.le_refl _) (.cells #[.complex .f64 x9 y9] 23))) (fun _ _ h => h)); have BN := hide ((unhide B4).trans hb); clear hr hb) | (at_builtin; refine OwC.app rfl _ _ rfl _ l rfl (unhide ON) wn.heap.size x9 y9 rfl (Blk.alloc.cell 0 rfl) (by omega) (by rw [alloc_size]; have := (unhide BN).size; omega) ?_; intro v8 w8 h1 h2; have O8 := hide h1; have R8 := hide (QdAt.but8 ((unhide RN).low ((Below.refl _ wn).alloc (Nat.le_refl _) (.cells #[.complex .f64 x9 y9] 23))) h2 (by omega)); have B8 := hide (((unhide BN).trans (But.low ((Below.refl _ wn).alloc (Nat.le_refl _) (.cells #[.complex .f64 x9 y9] 23)))).fresh2 h2 (fun k hk e => by omega)); clear h1 h2))
          exact unhide FIN _ _ _ _ _ _ (unhide O8) (unhide B8) (unhide R8) her (by rw [List.length_append]; show l.length + 1 ≤ 25; omega) rfl has
      | @blank _ _ x9 y9 p2 h hR hN hb32 =>
        have ht := hN.told
        have h40 := ht.2.2.2.1
        have hn : l.length ≠ 24 := by rcases hR with g | g; exact g; exact absurd h40 g
        have n24 : ((l.length : Int) == 24) = false := by rw [beq_eq_false_iff_ne]; omega
        have hlt2 := ht.2.2.2.2.1
        have hle2 := ht.2.2.2.2.2.1
        clear ht
        have KN := hide (hN.ref b)
        go_wp2_with (go_at_call 32; refine (is_no (c := 124) (by decide) (unhide R2) h).mono ?_; rintro e w3 ⟨rfl, hr, hb⟩; have R3 := hide hr; have O3 := hide ((unhide O2).but hb (fun k h1 h2 => by omega)); have B3 := hide ((unhide B2).trans hb); clear hr hb; refine Hid.out ?_)
        refine hide ?_
        go_wp2_with (go_at_call 32; refine (is_yes (c := 40) (by decide) (unhide R3) h40).mono ?_; rintro e w4 ⟨rfl, hr, hb⟩; have R4 := hide hr; have O4 := hide ((unhide O3).but hb (fun k h1 h2 => by omega)); have B4 := hide ((unhide B3).trans hb); clear hr hb; refine Hid.out ?_)
        refine hide ?_
        go_wp2_with (first | (go_at_call 22; refine (unhide KN _ (unhide R4)).mono ?_; rintro e wn ⟨rfl, hr, hb⟩; have RN := hide hr; have ON := hide (((unhide O4).but hb (fun k h1 h2 => by omega)).but (But.low (O := fun _ => False) ((Below.refl _ wn).alloc (Nat.le_refl _) (.cells #[.complex .f64 x9 y9] 23))) (fun _ _ h => h)); have BN := hide ((unhide B4).trans hb); clear hr hb) | (at_builtin; refine OwC.app rfl _ _ rfl _ l rfl (unhide ON) wn.heap.size x9 y9 rfl (Blk.alloc.cell 0 rfl) (by omega) (by rw [alloc_size]; have := (unhide BN).size; omega) ?_; intro v8 w8 h1 h2; have O8 := hide h1; have R8 := hide (QdAt.but8 ((unhide RN).low ((Below.refl _ wn).alloc (Nat.le_refl _) (.cells #[.complex .f64 x9 y9] 23))) h2 (by omega)); have B8 := hide (((unhide BN).trans (But.low ((Below.refl _ wn).alloc (Nat.le_refl _) (.cells #[.complex .f64 x9 y9] 23)))).fresh2 h2 (fun k hk e => by omega)); clear h1 h2))
        refine ⟨⟨l ++ [(x9, y9)], unhide O8, (by rw [List.length_append]; show l.length + 1 ≤ 25; omega), unhide B8, .inl ⟨p2, unhide R8, by rw [List.length_append]; show l.length + 1 ≤ 24; omega, .inr ⟨hb32, rfl⟩⟩⟩, ?_⟩
        rw [aMeas_live (unhide R8), hm]
        omega
      | @step _ _ x9 y9 p2 _ h hR hN hb32 k =>
        have ht := hN.told
        have h40 := ht.2.2.2.1
        have hn : l.length ≠ 24 := by rcases hR with g | g; exact g; exact absurd h40 g
        have n24 : ((l.length : Int) == 24) = false := by rw [beq_eq_false_iff_ne]; omega
        have hlt2 := ht.2.2.2.2.1
        have hle2 := ht.2.2.2.2.2.1
        clear ht
        have KN := hide (hN.ref b)
        go_wp2_with (go_at_call 32; refine (is_no (c := 124) (by decide) (unhide R2) h).mono ?_; rintro e w3 ⟨rfl, hr, hb⟩; have R3 := hide hr; have O3 := hide ((unhide O2).but hb (fun k h1 h2 => by omega)); have B3 := hide ((unhide B2).trans hb); clear hr hb; refine Hid.out ?_)
        refine hide ?_
        go_wp2_with (go_at_call 32; refine (is_yes (c := 40) (by decide) (unhide R3) h40).mono ?_; rintro e w4 ⟨rfl, hr, hb⟩; have R4 := hide hr; have O4 := hide ((unhide O3).but hb (fun k h1 h2 => by omega)); have B4 := hide ((unhide B3).trans hb); clear hr hb; refine Hid.out ?_)
        refine hide ?_
        go_wp2_with (first | (go_at_call 22; refine (unhide KN _ (unhide R4)).mono ?_; rintro e wn ⟨rfl, hr, hb⟩; have RN := hide hr; have ON := hide (((unhide O4).but hb (fun k h1 h2 => by omega)).but (But.low (O := fun _ => False) ((Below.refl _ wn).alloc (Nat.le_refl _) (.cells #[.complex .f64 x9 y9] 23))) (fun _ _ h => h)); have BN := hide ((unhide B4).trans hb); clear hr hb) | (at_builtin; refine OwC.app rfl _ _ rfl _ l rfl (unhide ON) wn.heap.size x9 y9 rfl (Blk.alloc.cell 0 rfl) (by omega) (by rw [alloc_size]; have := (unhide BN).size; omega) ?_; intro v8 w8 h1 h2; have O8 := hide h1; have R8 := hide (QdAt.but8 ((unhide RN).low ((Below.refl _ wn).alloc (Nat.le_refl _) (.cells #[.complex .f64 x9 y9] 23))) h2 (by omega)); have B8 := hide (((unhide BN).trans (But.low ((Below.refl _ wn).alloc (Nat.le_refl _) (.cells #[.complex .f64 x9 y9] 23)))).fresh2 h2 (fun k hk e => by omega)); clear h1 h2))
        refine ⟨⟨l ++ [(x9, y9)], unhide O8, (by rw [List.length_append]; show l.length + 1 ≤ 25; omega), unhide B8, .inl ⟨p2, unhide R8, by rw [List.length_append]; show l.length + 1 ≤ 24; omega, .inl ⟨hb32, k⟩⟩⟩, ?_⟩
        rw [aMeas_live (unhide R8), hm]
        omega
    · go_wp2_with (go_at_call 21; refine (want_bad (t := ⟨#[32]⟩) (w := wr.drewN nq) ((unhide Hr).drew nq) (by decide) 0 (by decide) (stand0 _ _ _) h32).mono ?_; rintro e w2 ⟨rfl, hr, hb⟩; have RD := hide hr; have OD := hide (OwC.but (w := wr.drewN nq) (unhide Ho) hb (fun k h1 h2 => by omega)); have BD := hide (((unhide Hb).trans (But.still (still_drewN _ nq))).trans hb); clear hr hb; refine Hid.out ?_)
      refine hide ?_
      go_wp2_with (first | (go_at_call 32; refine (is_dead _ (by decide) ((unhide RD).of_still (by first | exact Still.refl _ | exact still_drewN _ _ | exact (still_drewN _ _).trans (still_drewN _ _)))).mono ?_; rintro e w' ⟨rfl, m9, rfl⟩) | (go_at_call 22; refine (dead_app (by decide) hbw (unhide RD) (unhide OD) (unhide BD) _ (by first | exact Still.refl _ | exact still_drewN _ _ | exact (still_drewN _ _).trans (still_drewN _ _))).mono ?_; rintro e wn ⟨x9, y9, a9, rfl, hr, ho, hb⟩; have RN := hide hr; have ON := hide ho; have BN := hide hb; clear hr ho hb) | (at_builtin; refine OwC.app rfl _ _ rfl _ l rfl (unhide ON) wn.heap.size x9 y9 rfl (Blk.alloc.cell 0 rfl) (by omega) (by rw [alloc_size]; have := (unhide BN).size; omega) ?_; intro v8 w8 h1 h2; have O8 := hide h1; have R8 := hide (QdAt.but8 ((unhide RN).low ((Below.refl _ wn).alloc (Nat.le_refl _) (.cells #[.complex .f64 x9 y9] 23))) h2 (by omega)); have B8 := hide (((unhide BN).trans (But.low ((Below.refl _ wn).alloc (Nat.le_refl _) (.cells #[.complex .f64 x9 y9] 23)))).fresh2 h2 (fun k hk e => by omega)); clear h1 h2))
      exact unhide FIN _ _ _ _ _ _ (unhide O8) (unhide B8) (unhide R8) (by decide) (by rw [List.length_append]; show l.length + 1 ≤ 25; omega) rfl has
end Go.Proofs.YtbkjmnopljmanaaGreatDoor

/- The reference's reader: all, for poles. -/
namespace Go.Proofs.YtbkjmnopljmanaaGreatDoor
open Go.RowKit

set_option maxRecDepth 100000 in
set_option maxHeartbeats 4000000 in
theorem all_pl {b a0 : Nat} {s : ByteArray} {oz : ZEnd} (hZ : Pl s a0 [] oz) (w : World) (h : QdAt w b s a0 0 0) :
    Calls Tryz.prog 23 #[.pointer (some ⟨b, 0, none⟩), .bool false] w (APost w b s oz) := by
  have hbw := h.1.lt
  have H0 := hide h
  have HZ := hide hZ
  clear h hZ
  go_enter Tryz.func23, Tryz.ntmps23
  go_wp2_with fail
  go_loopw [5] (fun v wr => ∃ l, OwC w.heap.size wr v l ∧ l.length ≤ 25 ∧ But (fun k => k = b) w wr ∧ ALive s b (Pl s) oz wr l) (fun _ wr => aMeas s b wr)
  case atStart => exact ⟨[], OwC.none _ _, by decide, But.refl _ _, .inl ⟨a0, unhide H0, by decide, unhide HZ⟩⟩
  case round =>
    obtain ⟨l, ho, hl25, hb, hal⟩ := hrel
    obtain ⟨ad, cap, rfl⟩ := ho.shape
    have Ho := hide ho
    have Hb := hide hb
    have hszr := hb.size
    clear ho hb
    rcases hal with ⟨a, hr, hl, hz⟩ | ⟨a', er, q, he, hr, rfl⟩
    rotate_left
    · have Hr := hide hr
      have hz : ((er : Int) == 0) = false := by rw [beq_eq_false_iff_ne]; omega
      obtain ⟨c0, c1, c2, c3⟩ := hr.cells
      clear hr
      go_wp2_with fail
      go_quiet (fail)
      go_wp2
      go_ret
      exact ⟨_, l, a', rfl, unhide Ho, (unhide Hr).drew _, (unhide Hb).trans (But.still (still_drewN _ _))⟩
    have Hr := hide hr
    have hm := aMeas_live hr
    obtain ⟨c0, c1, c2, c3⟩ := hr.cells
    have FIN : Hid (∀ (v' : Value) (l' : List (Nat × Nat)) (w' : World) (a' er q : Nat), OwC w.heap.size w' v' l' → But (fun k => k = b) w w' → QdAt w' b s a' er q → er ≠ 0 → l'.length ≤ 25 → oz = .bad er q → a ≤ s.size →
        (∃ l, OwC w.heap.size w' v' l ∧ l.length ≤ 25 ∧ But (fun k => k = b) w w' ∧ ALive s b (Pl s) oz w' l) ∧ aMeas s b w' < aMeas s b wr) := fun v' l' w' a' er q h1 h2 h3 h4 h5 h6 h7 =>
      ⟨⟨l', h1, h5, h2, .inr ⟨a', er, q, h4, h3, h6⟩⟩, by rw [aMeas_dead h4 h3, hm]; omega⟩
    have has : a ≤ s.size := hr.2.1
    clear hr
    cases hz with
    | done h =>
      have i1 : ¬ (a : Int) < (s.size : Int) := by omega
      go_wp2_with fail
      go_quiet (fail)
      go_wp2
      go_ret
      exact ⟨_, rfl, unhide Ho, (unhide Hr).drew _, (unhide Hb).trans (But.still (still_drewN _ _))⟩
    | blank hlt h32 =>
      have i1 : (a : Int) < (s.size : Int) := by omega
      go_wp2_with fail
      go_quiet (fail)
      go_wp2_with (go_at_call 21; refine (want_bad (t := ⟨#[32]⟩) (w := wr.drewN nq) ((unhide Hr).drew nq) (by decide) 0 (by decide) (stand0 _ _ _) h32).mono ?_; rintro e w2 ⟨rfl, hr, hb⟩; have RD := hide hr; have OD := hide (OwC.but (w := wr.drewN nq) (unhide Ho) hb (fun k h1 h2 => by omega)); have BD := hide (((unhide Hb).trans (But.still (still_drewN _ nq))).trans hb); clear hr hb; refine Hid.out ?_)
      refine hide ?_
      go_wp2_with (first | (go_at_call 32; refine (is_dead _ (by decide) ((unhide RD).of_still (by first | exact Still.refl _ | exact still_drewN _ _ | exact (still_drewN _ _).trans (still_drewN _ _)))).mono ?_; rintro e w' ⟨rfl, m9, rfl⟩) | (go_at_call 22; refine (dead_app (by decide) hbw (unhide RD) (unhide OD) (unhide BD) _ (by first | exact Still.refl _ | exact still_drewN _ _ | exact (still_drewN _ _).trans (still_drewN _ _))).mono ?_; rintro e wn ⟨x9, y9, a9, rfl, hr, ho, hb⟩; have RN := hide hr; have ON := hide ho; have BN := hide hb; clear hr ho hb) | (at_builtin; refine OwC.app rfl _ _ rfl _ l rfl (unhide ON) wn.heap.size x9 y9 rfl (Blk.alloc.cell 0 rfl) (by omega) (by rw [alloc_size]; have := (unhide BN).size; omega) ?_; intro v8 w8 h1 h2; have O8 := hide h1; have R8 := hide (QdAt.but8 ((unhide RN).low ((Below.refl _ wn).alloc (Nat.le_refl _) (.cells #[.complex .f64 x9 y9] 23))) h2 (by omega)); have B8 := hide (((unhide BN).trans (But.low ((Below.refl _ wn).alloc (Nat.le_refl _) (.cells #[.complex .f64 x9 y9] 23)))).fresh2 h2 (fun k hk e => by omega)); clear h1 h2))
      exact unhide FIN _ _ _ _ _ _ (unhide O8) (unhide B8) (unhide R8) (by decide) (by rw [List.length_append]; show l.length + 1 ≤ 25; omega) rfl has
    | long h h40 h24 =>
      have hlt : a < s.size := bt_lt.1 (by omega)
      have i1 : (a : Int) < (s.size : Int) := by omega
      go_wp2_with fail
      go_quiet (fail)
      go_wp2_with (go_at_call 21; refine (want_ok (t := ⟨#[32]⟩) (w := wr.drewN nq) ((unhide Hr).drew nq) (by decide) (stand1 h)).mono ?_; rintro e w2 ⟨rfl, hr, hb⟩; have R2 : Hid (QdAt w2 b s (a + 1) 0 0) := hr; have O2 := hide (OwC.but (w := wr.drewN nq) (unhide Ho) hb (fun k h1 h2 => by omega)); have B2 := hide (((unhide Hb).trans (But.still (still_drewN _ nq))).trans hb); clear hr hb; refine Hid.out ?_)
      refine hide ?_
      rw [h24] at O2
      go_wp2_with (go_at_call 32; refine (is_yes (c := 40) (by decide) (unhide R2) h40).mono ?_; rintro e w4 ⟨rfl, hr, hb⟩; have R4 := hide hr; have O4 := hide ((unhide O2).but hb (fun k h1 h2 => by omega)); have B4 := hide ((unhide B2).trans hb); clear hr hb; refine Hid.out ?_)
      refine hide ?_
      obtain ⟨d0, d1, d2, d3⟩ := (unhide R4).cells
      go_wp2_with (go_at_call 33; refine (fail_any 2 (a + 1) (unhide R4)).mono ?_; rintro e w5 ⟨rfl, hr, hb⟩; have RD := hide hr; have OD := hide ((unhide O4).but hb (fun k h1 h2 => by omega)); have BD := hide ((unhide B4).trans hb); clear hr hb; refine Hid.out ?_)
      refine hide ?_
      go_wp2_with (first | (go_at_call 32; refine (is_dead _ (by decide) ((unhide RD).of_still (by first | exact Still.refl _ | exact still_drewN _ _ | exact (still_drewN _ _).trans (still_drewN _ _)))).mono ?_; rintro e w' ⟨rfl, m9, rfl⟩) | (go_at_call 22; refine (dead_app (by decide) hbw (unhide RD) (unhide OD) (unhide BD) _ (by first | exact Still.refl _ | exact still_drewN _ _ | exact (still_drewN _ _).trans (still_drewN _ _))).mono ?_; rintro e wn ⟨x9, y9, a9, rfl, hr, ho, hb⟩; have RN := hide hr; have ON := hide ho; have BN := hide hb; clear hr ho hb) | (at_builtin; refine OwC.app rfl _ _ rfl _ l rfl (unhide ON) wn.heap.size x9 y9 rfl (Blk.alloc.cell 0 rfl) (by omega) (by rw [alloc_size]; have := (unhide BN).size; omega) ?_; intro v8 w8 h1 h2; have O8 := hide h1; have R8 := hide (QdAt.but8 ((unhide RN).low ((Below.refl _ wn).alloc (Nat.le_refl _) (.cells #[.complex .f64 x9 y9] 23))) h2 (by omega)); have B8 := hide (((unhide BN).trans (But.low ((Below.refl _ wn).alloc (Nat.le_refl _) (.cells #[.complex .f64 x9 y9] 23)))).fresh2 h2 (fun k hk e => by omega)); clear h1 h2))
      exact unhide FIN _ _ _ _ _ _ (unhide O8) (unhide B8) (unhide R8) (by decide) (by rw [List.length_append]; show l.length + 1 ≤ 25; omega) rfl has
    | @num _ _ er q h hR hN =>
      have her : er ≠ 0 := by rcases hN.told with g | g <;> rw [g] <;> decide
      have KN := hide (hN.ref b)
      have hlt : a < s.size := bt_lt.1 (by omega)
      have i1 : (a : Int) < (s.size : Int) := by omega
      go_wp2_with fail
      go_quiet (fail)
      go_wp2_with (go_at_call 21; refine (want_ok (t := ⟨#[32]⟩) (w := wr.drewN nq) ((unhide Hr).drew nq) (by decide) (stand1 h)).mono ?_; rintro e w2 ⟨rfl, hr, hb⟩; have R2 : Hid (QdAt w2 b s (a + 1) 0 0) := hr; have O2 := hide (OwC.but (w := wr.drewN nq) (unhide Ho) hb (fun k h1 h2 => by omega)); have B2 := hide (((unhide Hb).trans (But.still (still_drewN _ nq))).trans hb); clear hr hb; refine Hid.out ?_)
      refine hide ?_
      by_cases h40 : bt s (a + 1) = 40
      · have hn : l.length ≠ 24 := by rcases hR with g | g; exact g; exact absurd h40 g
        have n24 : ((l.length : Int) == 24) = false := by rw [beq_eq_false_iff_ne]; omega
        go_wp2_with (go_at_call 32; refine (is_yes (c := 40) (by decide) (unhide R2) h40).mono ?_; rintro e w4 ⟨rfl, hr, hb⟩; have R4 := hide hr; have O4 := hide ((unhide O2).but hb (fun k h1 h2 => by omega)); have B4 := hide ((unhide B2).trans hb); clear hr hb; refine Hid.out ?_)
        refine hide ?_
        go_wp2_with (first | (go_at_call 22; refine (unhide KN _ (unhide R4)).mono ?_; rintro e wn ⟨x9, y9, a9, rfl, hr, hb⟩; have RN := hide hr; have ON := hide (((unhide O4).but hb (fun k h1 h2 => by omega)).but (But.low (O := fun _ => False) ((Below.refl _ wn).alloc (Nat.le_refl _) (.cells #[.complex .f64 x9 y9] 23))) (fun _ _ h => h)); have BN := hide ((unhide B4).trans hb); clear hr hb) | (at_builtin; refine OwC.app rfl _ _ rfl _ l rfl (unhide ON) wn.heap.size x9 y9 rfl (Blk.alloc.cell 0 rfl) (by omega) (by rw [alloc_size]; have := (unhide BN).size; omega) ?_; intro v8 w8 h1 h2; have O8 := hide h1; have R8 := hide (QdAt.but8 ((unhide RN).low ((Below.refl _ wn).alloc (Nat.le_refl _) (.cells #[.complex .f64 x9 y9] 23))) h2 (by omega)); have B8 := hide (((unhide BN).trans (But.low ((Below.refl _ wn).alloc (Nat.le_refl _) (.cells #[.complex .f64 x9 y9] 23)))).fresh2 h2 (fun k hk e => by omega)); clear h1 h2))
        exact unhide FIN _ _ _ _ _ _ (unhide O8) (unhide B8) (unhide R8) her (by rw [List.length_append]; show l.length + 1 ≤ 25; omega) rfl has
      ·
        go_wp2_with (go_at_call 32; refine (is_no (c := 40) (by decide) (unhide R2) h40).mono ?_; rintro e w4 ⟨rfl, hr, hb⟩; have R4 := hide hr; have O4 := hide ((unhide O2).but hb (fun k h1 h2 => by omega)); have B4 := hide ((unhide B2).trans hb); clear hr hb; refine Hid.out ?_)
        refine hide ?_
        go_wp2_with (first | (go_at_call 22; refine (unhide KN _ (unhide R4)).mono ?_; rintro e wn ⟨x9, y9, a9, rfl, hr, hb⟩; have RN := hide hr; have ON := hide (((unhide O4).but hb (fun k h1 h2 => by omega)).but (But.low (O := fun _ => False) ((Below.refl _ wn).alloc (Nat.le_refl _) (.cells #[.complex .f64 x9 y9] 23))) (fun _ _ h => h)); have BN := hide ((unhide B4).trans hb); clear hr hb) | (at_builtin; refine OwC.app rfl _ _ rfl _ l rfl (unhide ON) wn.heap.size x9 y9 rfl (Blk.alloc.cell 0 rfl) (by omega) (by rw [alloc_size]; have := (unhide BN).size; omega) ?_; intro v8 w8 h1 h2; have O8 := hide h1; have R8 := hide (QdAt.but8 ((unhide RN).low ((Below.refl _ wn).alloc (Nat.le_refl _) (.cells #[.complex .f64 x9 y9] 23))) h2 (by omega)); have B8 := hide (((unhide BN).trans (But.low ((Below.refl _ wn).alloc (Nat.le_refl _) (.cells #[.complex .f64 x9 y9] 23)))).fresh2 h2 (fun k hk e => by omega)); clear h1 h2))
        exact unhide FIN _ _ _ _ _ _ (unhide O8) (unhide B8) (unhide R8) her (by rw [List.length_append]; show l.length + 1 ≤ 25; omega) rfl has
    | @step _ _ x9 y9 p2 _ h hR hN k =>
      have ht := hN.told
      have h40 := ht.2.2.2.1
      have hn : l.length ≠ 24 := by rcases hR with g | g; exact g; exact absurd h40 g
      have n24 : ((l.length : Int) == 24) = false := by rw [beq_eq_false_iff_ne]; omega
      have hlt2 := ht.2.2.2.2.1
      have hle2 := ht.2.2.2.2.2.1
      clear ht
      have KN := hide (hN.ref b)
      have hlt : a < s.size := bt_lt.1 (by omega)
      have i1 : (a : Int) < (s.size : Int) := by omega
      go_wp2_with fail
      go_quiet (fail)
      go_wp2_with (go_at_call 21; refine (want_ok (t := ⟨#[32]⟩) (w := wr.drewN nq) ((unhide Hr).drew nq) (by decide) (stand1 h)).mono ?_; rintro e w2 ⟨rfl, hr, hb⟩; have R2 : Hid (QdAt w2 b s (a + 1) 0 0) := hr; have O2 := hide (OwC.but (w := wr.drewN nq) (unhide Ho) hb (fun k h1 h2 => by omega)); have B2 := hide (((unhide Hb).trans (But.still (still_drewN _ nq))).trans hb); clear hr hb; refine Hid.out ?_)
      refine hide ?_
      go_wp2_with (go_at_call 32; refine (is_yes (c := 40) (by decide) (unhide R2) h40).mono ?_; rintro e w4 ⟨rfl, hr, hb⟩; have R4 := hide hr; have O4 := hide ((unhide O2).but hb (fun k h1 h2 => by omega)); have B4 := hide ((unhide B2).trans hb); clear hr hb; refine Hid.out ?_)
      refine hide ?_
      go_wp2_with (first | (go_at_call 22; refine (unhide KN _ (unhide R4)).mono ?_; rintro e wn ⟨rfl, hr, hb⟩; have RN := hide hr; have ON := hide (((unhide O4).but hb (fun k h1 h2 => by omega)).but (But.low (O := fun _ => False) ((Below.refl _ wn).alloc (Nat.le_refl _) (.cells #[.complex .f64 x9 y9] 23))) (fun _ _ h => h)); have BN := hide ((unhide B4).trans hb); clear hr hb) | (at_builtin; refine OwC.app rfl _ _ rfl _ l rfl (unhide ON) wn.heap.size x9 y9 rfl (Blk.alloc.cell 0 rfl) (by omega) (by rw [alloc_size]; have := (unhide BN).size; omega) ?_; intro v8 w8 h1 h2; have O8 := hide h1; have R8 := hide (QdAt.but8 ((unhide RN).low ((Below.refl _ wn).alloc (Nat.le_refl _) (.cells #[.complex .f64 x9 y9] 23))) h2 (by omega)); have B8 := hide (((unhide BN).trans (But.low ((Below.refl _ wn).alloc (Nat.le_refl _) (.cells #[.complex .f64 x9 y9] 23)))).fresh2 h2 (fun k hk e => by omega)); clear h1 h2))
      refine ⟨⟨l ++ [(x9, y9)], unhide O8, (by rw [List.length_append]; show l.length + 1 ≤ 25; omega), unhide B8, .inl ⟨p2, unhide R8, by rw [List.length_append]; show l.length + 1 ≤ 24; omega, k⟩⟩, ?_⟩
      rw [aMeas_live (unhide R8), hm]
      omega
end Go.Proofs.YtbkjmnopljmanaaGreatDoor

/- DocReadZpk of the reference, given what its reader's steps do. -/
namespace Go.Proofs.YtbkjmnopljmanaaGreatDoor
open Go.RowKit

theorem run_resultsD {w : World} {tmps : Array Value} {y o : Value} {b : Nat} {c0 c1 c2 : Value} (h2 : tmps.getD 2 undef = .pointer (some ⟨b, 0, none⟩)) (h3 : tmps.getD 3 undef = y) (h4 : tmps.getD 4 undef = o) (hr : Blk w b #[c0, c1, c2] 25) :
    (results Tryz.f7 tmps).run Tryz.prog w = .ok (.tuple #[.agg #[c0, c1, c2], y, o]) w := by
  have hl := run_loadVar_mid (P := Tryz.prog) w b 0 25 [c0, c1, c2] _ hr.range Tryz.underlying25 rfl infoZpk
  rw [Array.getD_eq_getD_getElem?] at h2 h3 h4
  simp [results, h2, h3, h4, asAddr, hl]
theorem docz_alloc (w : World) (s : ByteArray) : ∀ W, W = (w.alloc (.cells #[.slice none 0 0, .slice none 0 0, .complex .f64 0 0] 25)).alloc (.cells #[.string s, .int .i64 0, .int .i64 0, .int .i64 0] 59) →
    Below w.heap.size w W ∧ Blk W w.heap.size #[.slice none 0 0, .slice none 0 0, .complex .f64 0 0] 25 ∧ Blk W (w.heap.size + 1) #[.string s, .int .i64 0, .int .i64 0, .int .i64 0] 59 := by
  rintro W rfl
  have h1 := alloc_size w (.cells #[.slice none 0 0, .slice none 0 0, .complex .f64 0 0] 25)
  refine ⟨((Below.refl _ _).alloc (Nat.le_refl _) _).alloc (by omega) _, Blk.alloc.below ((Below.refl _ _).alloc (Nat.le_refl _) _) (by omega), ?_⟩
  rw [← h1]; exact Blk.alloc
set_option maxRecDepth 100000 in
theorem doczpk_long {s : ByteArray} (hs : 65536 < s.size) (w : World) :
    Calls Tryz.prog 7 #[.string s] w fun x w' => x = .returned (.tuple #[.agg #[.slice none 0 0, .slice none 0 0, .complex .f64 0 0], .int .i64 0, .int .i64 2]) ∧ Below w.heap.size w w' := by
  have h9 : (65536 : Int) < (s.size : Int) := by omega
  have hsc := run_store_c
  go_enter Tryz.func7, Tryz.ntmps7
  go_wp2_with fail
  have hA : Blk (w.alloc (.cells #[.slice none 0 0, .slice none 0 0, .complex .f64 0 0] 25)) w.heap.size #[.slice none 0 0, .slice none 0 0, .complex .f64 0 0] 25 := Blk.alloc
  refine bodyPost_ret (run_resultsD rfl rfl rfl hA) rfl ?_
  exact ⟨rfl, (Below.refl _ _).alloc (Nat.le_refl _) _⟩
set_option maxRecDepth 100000 in
set_option maxHeartbeats 2000000 in
theorem doczpk_err {s : ByteArray} {q er : Nat} (hs : s.size ≤ 65536) (her : er ≠ 0) (c0 c1 c2 c3 c4 c5 : Nat → Nat → Nat → Prop) (h0 : c0 0 0 0)
    (H1 : ∀ (b : Nat) (W : World) (a e pl : Nat), QdAt W b s a e pl → c0 a e pl → Calls Tryz.prog 21 #[.pointer (some ⟨b, 0, none⟩), .string ⟨#[122, 112, 107, 32]⟩] W fun r w' => r = .returned (.tuple #[]) ∧ (∃ a' e' pl', QdAt w' b s a' e' pl' ∧ c1 a' e' pl') ∧ But (fun k => k = b) W w')
    (H2 : ∀ (b : Nat) (W : World) (a e pl : Nat), QdAt W b s a e pl → c1 a e pl → Calls Tryz.prog 22 #[.pointer (some ⟨b, 0, none⟩), .bool true] W fun r w' => ∃ x y, r = .returned (.complex .f64 x y) ∧ (∃ a' e' pl', QdAt w' b s a' e' pl' ∧ c2 a' e' pl') ∧ But (fun k => k = b) W w')
    (H3 : ∀ (b : Nat) (W : World) (a e pl : Nat), QdAt W b s a e pl → c2 a e pl → Calls Tryz.prog 21 #[.pointer (some ⟨b, 0, none⟩), .string ⟨#[32, 124]⟩] W fun r w' => r = .returned (.tuple #[]) ∧ (∃ a' e' pl', QdAt w' b s a' e' pl' ∧ c3 a' e' pl') ∧ But (fun k => k = b) W w')
    (H4 : ∀ (b : Nat) (W : World) (a e pl : Nat), QdAt W b s a e pl → c3 a e pl → Calls Tryz.prog 23 #[.pointer (some ⟨b, 0, none⟩), .bool true] W fun r w' => ∃ v l, r = .returned v ∧ OwC W.heap.size w' v l ∧ (∃ a' e' pl', QdAt w' b s a' e' pl' ∧ c4 a' e' pl') ∧ But (fun k => k = b) W w')
    (H5 : ∀ (b : Nat) (W : World) (a e pl : Nat), QdAt W b s a e pl → c4 a e pl → Calls Tryz.prog 23 #[.pointer (some ⟨b, 0, none⟩), .bool false] W fun r w' => ∃ v l, r = .returned v ∧ OwC W.heap.size w' v l ∧ (∃ a' e' pl', QdAt w' b s a' e' pl' ∧ c5 a' e' pl') ∧ But (fun k => k = b) W w')
    (H6 : ∀ (b : Nat) (W : World) (a e pl : Nat), QdAt W b s a e pl → c5 a e pl → Calls Tryz.prog 24 #[.pointer (some ⟨b, 0, none⟩)] W fun r w' => r = .returned (.tuple #[.int .i64 (q : Nat), .int .i64 (er : Nat)]) ∧ But (fun k => k = b) W w') (w : World) :
    Calls Tryz.prog 7 #[.string s] w fun x w' => x = .returned (.tuple #[.agg #[.slice none 0 0, .slice none 0 0, .complex .f64 0 0], .int .i64 (q : Nat), .int .i64 (er : Nat)]) ∧ Below w.heap.size w w' := by
  have h9 : ¬ (65536 : Int) < (s.size : Int) := by omega
  have hsc := run_store_c
  obtain ⟨W, hW⟩ : ∃ W, W = (w.alloc (.cells #[.slice none 0 0, .slice none 0 0, .complex .f64 0 0] 25)).alloc (.cells #[.string s, .int .i64 0, .int .i64 0, .int .i64 0] 59) := ⟨_, rfl⟩
  obtain ⟨hb, hR0, hq⟩ := docz_alloc w s W hW
  have hqd : QdAt W (w.heap.size + 1) s 0 0 0 := ⟨hq, Nat.zero_le _, hs⟩
  have hltW := hq.lt
  have K1 := hide (H1 (w.heap.size + 1) W 0 0 0 hqd h0)
  have K2 := hide (H2 (w.heap.size + 1))
  have K3 := hide (H3 (w.heap.size + 1))
  have K4 := hide (H4 (w.heap.size + 1))
  have K5 := hide (H5 (w.heap.size + 1))
  have K6 := hide (H6 (w.heap.size + 1))
  have HB := hide hb
  have HR0 := hide hR0
  have EW := hide hW
  clear H1 H2 H3 H4 H5 H6 hb hR0 hq hqd hW
  go_enter Tryz.func7, Tryz.ntmps7
  go_wp2_with (go_at_call 21; rw [← unhide EW]; refine (unhide K1).mono ?_; rintro e w1 ⟨rfl, ⟨a1, e1, p1, hr, hc⟩, hb⟩; have R1 := hide hr; have C1 := hide hc; have B1 := hide hb; clear hr hc hb; refine Hid.out ?_)
  refine hide ?_
  go_wp2_with (go_at_call 22; refine (unhide K2 _ _ _ _ (unhide R1) (unhide C1)).mono ?_; rintro e w2 ⟨x, y, rfl, ⟨a2, e2, p2, hr, hc⟩, hb⟩; have R2 := hide hr; have C2 := hide hc; have B2 := hide ((unhide B1).trans hb); clear hr hc hb; refine Hid.out ?_)
  refine hide ?_
  have hal : Below w2.heap.size w2 (w2.alloc (.cells #[.slice none 0 0, .slice none 0 0, .complex .f64 x y] 25)) := (Below.refl _ _).alloc (Nat.le_refl _) _
  have R2' := hide ((unhide R2).low hal)
  have F2 : Hid (Blk (w2.alloc (.cells #[.slice none 0 0, .slice none 0 0, .complex .f64 x y] 25)) w2.heap.size #[.slice none 0 0, .slice none 0 0, .complex .f64 x y] 25) := Blk.alloc
  have B2' := hide ((unhide B2).trans (But.low (O := fun k => k = w.heap.size + 1) hal))
  have hs2 := (unhide B2).size
  clear hal
  go_wp2_with (go_at_call 21; refine (unhide K3 _ _ _ _ (unhide R2') (unhide C2)).mono ?_; rintro e w3 ⟨rfl, ⟨a3, e3, p3, hr, hc⟩, hb⟩; have R3 := hide hr; have C3 := hide hc; have F3 := hide ((unhide F2).but hb (by omega)); have B3 := hide ((unhide B2').trans hb); clear hr hc hb; refine Hid.out ?_)
  refine hide ?_
  have hs3 := (unhide F3).lt
  go_wp2_with (go_at_call 23; refine (unhide K4 _ _ _ _ (unhide R3) (unhide C3)).mono ?_; rintro e w4 ⟨v4, l4, rfl, ho, ⟨a4, e4, p4, hr, hc⟩, hb⟩; have R4 := hide hr; have C4 := hide hc; have O4 := hide ho; have F4 := hide ((unhide F3).but hb (by omega)); have B4 := hide ((unhide B3).trans hb); have hs4 := hb.size; clear hr hc hb ho; refine Hid.out ?_)
  refine hide ?_
  obtain ⟨ad4, cap4, rfl⟩ := (unhide O4).shape
  have g0 := (unhide F4).cell 0 (v := .slice none 0 0) rfl
  have k0 := (unhide F4).unfrozen 0
  have R4' := hide ((unhide R4).but8 (But.setCell (fun k => k = w2.heap.size) w4 ⟨w2.heap.size, 0, none⟩ (.slice ad4 l4.length cap4) rfl) (by omega))
  have F4' := hide ((unhide F4).put 0 (.slice ad4 l4.length cap4))
  have O4' := hide ((unhide O4).but (But.setCell (fun k => k = w2.heap.size) w4 ⟨w2.heap.size, 0, none⟩ (.slice ad4 l4.length cap4) rfl) (fun k h1 h2 => by omega))
  have B4' := hide ((unhide B4).mono (O' := fun k => k = w.heap.size + 1 ∨ k = w2.heap.size) (fun k e => .inl e) |>.trans (But.setCell (fun k => k = w.heap.size + 1 ∨ k = w2.heap.size) w4 ⟨w2.heap.size, 0, none⟩ (.slice ad4 l4.length cap4) (.inr rfl)))
  go_wp2_with (go_at_call 23; refine (unhide K5 _ _ _ _ (unhide R4') (unhide C4)).mono ?_; rintro e w5 ⟨v5, l5, rfl, ho, ⟨a5, e5, p5, hr, hc⟩, hb⟩; have R5 := hide hr; have C5 := hide hc; have O5 := hide ho; have O45 := hide ((unhide O4').but hb (fun k h1 h2 => by omega)); have F5 := hide ((unhide F4').but hb (by omega)); have B5 := hide ((unhide B4').trans (hb.mono fun k e => .inl e)); have hs5 := hb.size; clear hr hc hb ho; refine Hid.out ?_)
  refine hide ?_
  obtain ⟨ad5, cap5, rfl⟩ := (unhide O5).shape
  have g1 := (unhide F5).cell 1 (v := .slice none 0 0) rfl
  have k1 := (unhide F5).unfrozen 1
  have hsz4 : (w4.setCell ⟨w2.heap.size, 0, none⟩ (.slice ad4 l4.length cap4)).heap.size ≥ w4.heap.size := (But.setCell (fun _ => True) w4 ⟨w2.heap.size, 0, none⟩ (.slice ad4 l4.length cap4) trivial).size
  have R5' := hide ((unhide R5).but8 (But.setCell (fun k => k = w2.heap.size) w5 ⟨w2.heap.size, 1, none⟩ (.slice ad5 l5.length cap5) rfl) (by omega))
  have F5' := hide ((unhide F5).put 1 (.slice ad5 l5.length cap5))
  have P5' := hide ((unhide O5).but (But.setCell (fun k => k = w2.heap.size) w5 ⟨w2.heap.size, 1, none⟩ (.slice ad5 l5.length cap5) rfl) (fun k h1 h2 => by omega))
  have Q5' := hide ((unhide O45).but (But.setCell (fun k => k = w2.heap.size) w5 ⟨w2.heap.size, 1, none⟩ (.slice ad5 l5.length cap5) rfl) (fun k h1 h2 => by omega))
  have B5' := hide ((unhide B5).trans (But.setCell (fun k => k = w.heap.size + 1 ∨ k = w2.heap.size) w5 ⟨w2.heap.size, 1, none⟩ (.slice ad5 l5.length cap5) (.inr rfl)))
  go_wp2_with (go_at_call 24; refine (unhide K6 _ _ _ _ (unhide R5') (unhide C5)).mono ?_; rintro e w6 ⟨rfl, hb⟩; have F6 := hide ((unhide F5').but hb (by omega)); have P6 := hide ((unhide P5').but hb (fun k h1 h2 => by omega)); have Q6 := hide ((unhide Q5').but hb (fun k h1 h2 => by omega)); have B6 := hide ((unhide B5').trans (hb.mono fun k e => .inl e)); clear hb; refine Hid.out ?_)
  refine hide ?_
  have hN := (unhide HR0).but (unhide B6) (by omega)
  have c0 := hN.cell 0 (v := .slice none 0 0) rfl
  have c1 := hN.cell 1 (v := .slice none 0 0) rfl
  have c2 := hN.cell 2 (v := .complex .f64 0 0) rfl
  have f0 := hN.unfrozen 0
  have f1 := hN.unfrozen 1
  have f2 := hN.unfrozen 2
  have HN := hide hN
  clear hN
  have hz : ((er : Int) == 0) = false := by rw [beq_eq_false_iff_ne]; omega
  go_wp2_with fail
  have hN2 := (((unhide HN).put 0 (.slice none 0 0)).put 1 (.slice none 0 0)).put 2 (.complex .f64 0 0)
  have hset := ((But.setCell (fun k => k = w.heap.size) w6 ⟨w.heap.size, 0, none⟩ (.slice none 0 0) rfl).trans (But.setCell (fun k => k = w.heap.size) _ ⟨w.heap.size, 1, none⟩ (.slice none 0 0) rfl)).trans (But.setCell (fun k => k = w.heap.size) _ ⟨w.heap.size, 2, none⟩ (.complex .f64 0 0) rfl)
  refine bodyPost_ret (run_resultsD rfl rfl rfl hN2) rfl ?_
  refine ⟨rfl, ?_⟩
  exact (((unhide B6).mono (O' := fun k => k = w.heap.size + 1 ∨ k = w2.heap.size ∨ k = w.heap.size) (fun k e => by omega)).trans (hset.mono fun k e => .inr (.inr e))).below (unhide HB) (unhide HB).size (fun k e => by have := (unhide HB).size; omega)
set_option maxRecDepth 100000 in
set_option maxHeartbeats 2000000 in
theorem doczpk_ok {s : ByteArray} {gx gy : Nat} {lz lp : List (Nat × Nat)} (hs : s.size ≤ 65536) (c0 c1 c2 c3 c4 c5 : Nat → Nat → Nat → Prop) (h0 : c0 0 0 0)
    (H1 : ∀ (b : Nat) (W : World) (a e pl : Nat), QdAt W b s a e pl → c0 a e pl → Calls Tryz.prog 21 #[.pointer (some ⟨b, 0, none⟩), .string ⟨#[122, 112, 107, 32]⟩] W fun r w' => r = .returned (.tuple #[]) ∧ (∃ a' e' pl', QdAt w' b s a' e' pl' ∧ c1 a' e' pl') ∧ But (fun k => k = b) W w')
    (H2 : ∀ (b : Nat) (W : World) (a e pl : Nat), QdAt W b s a e pl → c1 a e pl → Calls Tryz.prog 22 #[.pointer (some ⟨b, 0, none⟩), .bool true] W fun r w' => r = .returned (.complex .f64 gx gy) ∧ (∃ a' e' pl', QdAt w' b s a' e' pl' ∧ c2 a' e' pl') ∧ But (fun k => k = b) W w')
    (H3 : ∀ (b : Nat) (W : World) (a e pl : Nat), QdAt W b s a e pl → c2 a e pl → Calls Tryz.prog 21 #[.pointer (some ⟨b, 0, none⟩), .string ⟨#[32, 124]⟩] W fun r w' => r = .returned (.tuple #[]) ∧ (∃ a' e' pl', QdAt w' b s a' e' pl' ∧ c3 a' e' pl') ∧ But (fun k => k = b) W w')
    (H4 : ∀ (b : Nat) (W : World) (a e pl : Nat), QdAt W b s a e pl → c3 a e pl → Calls Tryz.prog 23 #[.pointer (some ⟨b, 0, none⟩), .bool true] W fun r w' => ∃ v, r = .returned v ∧ OwC W.heap.size w' v lz ∧ (∃ a' e' pl', QdAt w' b s a' e' pl' ∧ c4 a' e' pl') ∧ But (fun k => k = b) W w')
    (H5 : ∀ (b : Nat) (W : World) (a e pl : Nat), QdAt W b s a e pl → c4 a e pl → Calls Tryz.prog 23 #[.pointer (some ⟨b, 0, none⟩), .bool false] W fun r w' => ∃ v, r = .returned v ∧ OwC W.heap.size w' v lp ∧ (∃ a' e' pl', QdAt w' b s a' e' pl' ∧ c5 a' e' pl') ∧ But (fun k => k = b) W w')
    (H6 : ∀ (b : Nat) (W : World) (a e pl : Nat), QdAt W b s a e pl → c5 a e pl → Calls Tryz.prog 24 #[.pointer (some ⟨b, 0, none⟩)] W fun r w' => r = .returned (.tuple #[.int .i64 0, .int .i64 0]) ∧ But (fun k => k = b) W w') (w : World) :
    Calls Tryz.prog 7 #[.string s] w fun x w' => ∃ vz vp, x = .returned (.tuple #[.agg #[vz, vp, .complex .f64 gx gy], .int .i64 0, .int .i64 0]) ∧ OwC w.heap.size w' vz lz ∧ OwC w.heap.size w' vp lp ∧ Below w.heap.size w w' := by
  have h9 : ¬ (65536 : Int) < (s.size : Int) := by omega
  have hsc := run_store_c
  obtain ⟨W, hW⟩ : ∃ W, W = (w.alloc (.cells #[.slice none 0 0, .slice none 0 0, .complex .f64 0 0] 25)).alloc (.cells #[.string s, .int .i64 0, .int .i64 0, .int .i64 0] 59) := ⟨_, rfl⟩
  obtain ⟨hb, hR0, hq⟩ := docz_alloc w s W hW
  have hqd : QdAt W (w.heap.size + 1) s 0 0 0 := ⟨hq, Nat.zero_le _, hs⟩
  have hltW := hq.lt
  have K1 := hide (H1 (w.heap.size + 1) W 0 0 0 hqd h0)
  have K2 := hide (H2 (w.heap.size + 1))
  have K3 := hide (H3 (w.heap.size + 1))
  have K4 := hide (H4 (w.heap.size + 1))
  have K5 := hide (H5 (w.heap.size + 1))
  have K6 := hide (H6 (w.heap.size + 1))
  have HB := hide hb
  have HR0 := hide hR0
  have EW := hide hW
  clear H1 H2 H3 H4 H5 H6 hb hR0 hq hqd hW
  go_enter Tryz.func7, Tryz.ntmps7
  go_wp2_with (go_at_call 21; rw [← unhide EW]; refine (unhide K1).mono ?_; rintro e w1 ⟨rfl, ⟨a1, e1, p1, hr, hc⟩, hb⟩; have R1 := hide hr; have C1 := hide hc; have B1 := hide hb; clear hr hc hb; refine Hid.out ?_)
  refine hide ?_
  go_wp2_with (go_at_call 22; refine (unhide K2 _ _ _ _ (unhide R1) (unhide C1)).mono ?_; rintro e w2 ⟨rfl, ⟨a2, e2, p2, hr, hc⟩, hb⟩; have R2 := hide hr; have C2 := hide hc; have B2 := hide ((unhide B1).trans hb); clear hr hc hb; refine Hid.out ?_)
  refine hide ?_
  have hal : Below w2.heap.size w2 (w2.alloc (.cells #[.slice none 0 0, .slice none 0 0, .complex .f64 gx gy] 25)) := (Below.refl _ _).alloc (Nat.le_refl _) _
  have R2' := hide ((unhide R2).low hal)
  have F2 : Hid (Blk (w2.alloc (.cells #[.slice none 0 0, .slice none 0 0, .complex .f64 gx gy] 25)) w2.heap.size #[.slice none 0 0, .slice none 0 0, .complex .f64 gx gy] 25) := Blk.alloc
  have B2' := hide ((unhide B2).trans (But.low (O := fun k => k = w.heap.size + 1) hal))
  have hs2 := (unhide B2).size
  clear hal
  go_wp2_with (go_at_call 21; refine (unhide K3 _ _ _ _ (unhide R2') (unhide C2)).mono ?_; rintro e w3 ⟨rfl, ⟨a3, e3, p3, hr, hc⟩, hb⟩; have R3 := hide hr; have C3 := hide hc; have F3 := hide ((unhide F2).but hb (by omega)); have B3 := hide ((unhide B2').trans hb); clear hr hc hb; refine Hid.out ?_)
  refine hide ?_
  have hs3 := (unhide F3).lt
  go_wp2_with (go_at_call 23; refine (unhide K4 _ _ _ _ (unhide R3) (unhide C3)).mono ?_; rintro e w4 ⟨v4, rfl, ho, ⟨a4, e4, p4, hr, hc⟩, hb⟩; have R4 := hide hr; have C4 := hide hc; have O4 := hide ho; have F4 := hide ((unhide F3).but hb (by omega)); have B4 := hide ((unhide B3).trans hb); have hs4 := hb.size; clear hr hc hb ho; refine Hid.out ?_)
  refine hide ?_
  obtain ⟨ad4, cap4, rfl⟩ := (unhide O4).shape
  have g0 := (unhide F4).cell 0 (v := .slice none 0 0) rfl
  have k0 := (unhide F4).unfrozen 0
  have R4' := hide ((unhide R4).but8 (But.setCell (fun k => k = w2.heap.size) w4 ⟨w2.heap.size, 0, none⟩ (.slice ad4 lz.length cap4) rfl) (by omega))
  have F4' := hide ((unhide F4).put 0 (.slice ad4 lz.length cap4))
  have O4' := hide ((unhide O4).but (But.setCell (fun k => k = w2.heap.size) w4 ⟨w2.heap.size, 0, none⟩ (.slice ad4 lz.length cap4) rfl) (fun k h1 h2 => by omega))
  have B4' := hide ((unhide B4).mono (O' := fun k => k = w.heap.size + 1 ∨ k = w2.heap.size) (fun k e => .inl e) |>.trans (But.setCell (fun k => k = w.heap.size + 1 ∨ k = w2.heap.size) w4 ⟨w2.heap.size, 0, none⟩ (.slice ad4 lz.length cap4) (.inr rfl)))
  go_wp2_with (go_at_call 23; refine (unhide K5 _ _ _ _ (unhide R4') (unhide C4)).mono ?_; rintro e w5 ⟨v5, rfl, ho, ⟨a5, e5, p5, hr, hc⟩, hb⟩; have R5 := hide hr; have C5 := hide hc; have O5 := hide ho; have O45 := hide ((unhide O4').but hb (fun k h1 h2 => by omega)); have F5 := hide ((unhide F4').but hb (by omega)); have B5 := hide ((unhide B4').trans (hb.mono fun k e => .inl e)); have hs5 := hb.size; clear hr hc hb ho; refine Hid.out ?_)
  refine hide ?_
  obtain ⟨ad5, cap5, rfl⟩ := (unhide O5).shape
  have g1 := (unhide F5).cell 1 (v := .slice none 0 0) rfl
  have k1 := (unhide F5).unfrozen 1
  have hsz4 : (w4.setCell ⟨w2.heap.size, 0, none⟩ (.slice ad4 lz.length cap4)).heap.size ≥ w4.heap.size := (But.setCell (fun _ => True) w4 ⟨w2.heap.size, 0, none⟩ (.slice ad4 lz.length cap4) trivial).size
  have R5' := hide ((unhide R5).but8 (But.setCell (fun k => k = w2.heap.size) w5 ⟨w2.heap.size, 1, none⟩ (.slice ad5 lp.length cap5) rfl) (by omega))
  have F5' := hide ((unhide F5).put 1 (.slice ad5 lp.length cap5))
  have P5' := hide ((unhide O5).but (But.setCell (fun k => k = w2.heap.size) w5 ⟨w2.heap.size, 1, none⟩ (.slice ad5 lp.length cap5) rfl) (fun k h1 h2 => by omega))
  have Q5' := hide ((unhide O45).but (But.setCell (fun k => k = w2.heap.size) w5 ⟨w2.heap.size, 1, none⟩ (.slice ad5 lp.length cap5) rfl) (fun k h1 h2 => by omega))
  have B5' := hide ((unhide B5).trans (But.setCell (fun k => k = w.heap.size + 1 ∨ k = w2.heap.size) w5 ⟨w2.heap.size, 1, none⟩ (.slice ad5 lp.length cap5) (.inr rfl)))
  go_wp2_with (go_at_call 24; refine (unhide K6 _ _ _ _ (unhide R5') (unhide C5)).mono ?_; rintro e w6 ⟨rfl, hb⟩; have F6 := hide ((unhide F5').but hb (by omega)); have P6 := hide ((unhide P5').but hb (fun k h1 h2 => by omega)); have Q6 := hide ((unhide Q5').but hb (fun k h1 h2 => by omega)); have B6 := hide ((unhide B5').trans (hb.mono fun k e => .inl e)); clear hb; refine Hid.out ?_)
  refine hide ?_
  have hN := (unhide HR0).but (unhide B6) (by omega)
  have c0 := hN.cell 0 (v := .slice none 0 0) rfl
  have c1 := hN.cell 1 (v := .slice none 0 0) rfl
  have c2 := hN.cell 2 (v := .complex .f64 0 0) rfl
  have f0 := hN.unfrozen 0
  have f1 := hN.unfrozen 1
  have f2 := hN.unfrozen 2
  have HN := hide hN
  clear hN
  have a0 := (unhide F6).cell 0 (v := .slice ad4 lz.length cap4) rfl
  have a1 := (unhide F6).cell 1 (v := .slice ad5 lp.length cap5) rfl
  have a2 := (unhide F6).cell 2 (v := .complex .f64 gx gy) rfl
  go_wp2_with fail
  have hN2 := (((unhide HN).put 0 (.slice ad4 lz.length cap4)).put 1 (.slice ad5 lp.length cap5)).put 2 (.complex .f64 gx gy)
  have hset := ((But.setCell (fun k => k = w.heap.size) w6 ⟨w.heap.size, 0, none⟩ (.slice ad4 lz.length cap4) rfl).trans (But.setCell (fun k => k = w.heap.size) _ ⟨w.heap.size, 1, none⟩ (.slice ad5 lp.length cap5) rfl)).trans (But.setCell (fun k => k = w.heap.size) _ ⟨w.heap.size, 2, none⟩ (.complex .f64 gx gy) rfl)
  refine bodyPost_ret (run_resultsD rfl rfl rfl hN2) rfl ?_
  have hsB := (unhide HB).size
  refine ⟨_, _, rfl, ((unhide Q6).but hset (fun k h1 h2 => by omega)).lower (by omega), ((unhide P6).but hset (fun k h1 h2 => by omega)).lower (by omega), ?_⟩
  exact (((unhide B6).mono (O' := fun k => k = w.heap.size + 1 ∨ k = w2.heap.size ∨ k = w.heap.size) (fun k e => by omega)).trans (hset.mono fun k e => .inr (.inr e))).below (unhide HB) (unhide HB).size (fun k e => by omega)
end Go.Proofs.YtbkjmnopljmanaaGreatDoor

/- ReadZpk and the reference's DocReadZpk answer alike, for every text. -/
namespace Go.Proofs.YtbkjmnopljmanaaGreatDoor
open Go.RowKit

set_option maxRecDepth 100000 in
theorem rend_badE {w : World} {b : Nat} {s : ByteArray} {a q er : Nat} (he : er ≠ 0) (h : QdAt w b s a er q) :
    Calls Tryz.prog 24 #[.pointer (some ⟨b, 0, none⟩)] w fun e w' => e = .returned (.tuple #[.int .i64 (q : Nat), .int .i64 (er : Nat)]) ∧ But (fun k => k = b) w w' := by
  obtain ⟨c0, c1, c2, c3⟩ := h.cells
  clear h
  go_enter Tryz.func24, Tryz.ntmps24
  go_wp2_with fail
  go_quiet (fail)
  revert nq
  intro n1
  go_wp2_with fail
  go_quiet (fail)
  go_wp2
  go_ret2
  exact ⟨rfl, (But.still (still_drewN _ n1)).trans (But.still (still_drewN _ nq))⟩
set_option maxRecDepth 100000 in
set_option maxHeartbeats 4000000 in
theorem zpk_bar {B b gx gy p1 j : Nat} {s : ByteArray} (hB : B ≤ b) (hS : Stand s 0 ⟨#[122, 112, 107, 32]⟩ (ByteArray.mk #[122, 112, 107, 32]).size) (hN : PNum B b s 4 (.ok gx gy p1))
    (hj : j < (ByteArray.mk #[32, 124, 32]).size) (hS2 : Stand s p1 ⟨#[32, 124, 32]⟩ j) (hE2 : bt s (p1 + j) ≠ ((ByteArray.mk #[32, 124, 32])[j]'hj).toNat) (w : World) (hr : RdAt w b s 0) (hG : Gl B w) :
    Calls Tryz.prog 20 #[.pointer (some ⟨b, 0, none⟩)] w fun e w' => e = .panicked (pan (p1 + j) 12) ∧ But (fun k => k = b) w w' := by
  obtain ⟨W, hW⟩ : ∃ W, W = (w.alloc (.cells #[.slice none 0 0, .slice none 0 0, .complex .f64 0 0] 25)).alloc (.cells #[.slice none 0 0, .slice none 0 0, .complex .f64 0 0] 25) := ⟨_, rfl⟩
  obtain ⟨hb, hR0, hF0, hsz0⟩ := zpk_alloc w W hW
  have hlt := hr.1.lt
  have HM := hide (must_ok (t := ⟨#[122, 112, 107, 32]⟩) (hr.low hb) (by decide) hS)
  have HG := hide (hG.on (hb.mono (by omega)))
  have HR := hide (hr.low hb)
  have HB := hide hb
  have EW := hide hW
  have HN := hide hN
  have HS2 := hide hS2
  have HE2 := hide hE2
  have K0 := hide (And.intro hR0 (And.intro hF0 hsz0))
  have hsc := run_store_c
  clear hW hb hr hS hG hN hS2 hE2 hR0 hF0 hsz0
  go_enter Tryz.func20, Tryz.ntmps20
  go_wp2_with (go_at_call 43; rw [← unhide EW]; refine (unhide HM).mono ?_; rintro e w1 ⟨rfl, hr, hb⟩; have R1 := hide hr; have G1 := hide ((unhide HG).but (unhide HR) hB hb); have B1 := hide hb; clear hb hr; refine Hid.out ?_)
  refine hide ?_
  go_wp2_with (go_at_call 44; refine (unhide HN _ (unhide R1) (unhide G1)).mono ?_; rintro e w2 ⟨rfl, hr, hb⟩; have R2 := hide hr; have G2 := hide ((unhide G1).but (unhide R1) hB hb); have B2 := hide ((unhide B1).trans hb); clear hb hr; refine Hid.out ?_)
  refine hide ?_
  have hF2 := (unhide K0).2.1.but (unhide B2) (by omega)
  have cF := hF2.cell 2 (v := .complex .f64 0 0) rfl
  have fF := hF2.unfrozen 2
  have R2' := hide ((unhide R2).setOff (F := w.heap.size + 1) (i := 2) (v := .complex .f64 gx gy) (by omega))
  have HF2 := hide (hF2.put 2 (.complex .f64 gx gy))
  have hR2 := (unhide K0).1.but (unhide B2) (by omega)
  have HR2 := hide (hR2.setOff (F := w.heap.size + 1) (i := 2) (v := .complex .f64 gx gy) (by omega))
  have B2' := hide ((unhide B2).mono (O' := fun k => k = b ∨ k = w.heap.size + 1) (fun k e => .inl e) |>.trans (But.setCell (fun k => k = b ∨ k = w.heap.size + 1) w2 ⟨w.heap.size + 1, 2, none⟩ (.complex .f64 gx gy) (.inr rfl)))
  have hsW := (unhide K0).2.2
  have G2' : Hid (Gl B (w2.setCell ⟨w.heap.size + 1, 2, none⟩ (.complex .f64 gx gy))) := (unhide G2).on ((But.setCell (fun k => k = w.heap.size + 1) w2 ⟨w.heap.size + 1, 2, none⟩ (.complex .f64 gx gy) rfl).below (Below.refl B w2) (by have := (unhide B2).size; omega) (fun k e => by omega))
  clear hF2 hR2
  go_wp2_with (go_at_call 43; refine (must_bad (t := ⟨#[32, 124, 32]⟩) (unhide R2') (by decide) j hj (unhide HS2) (unhide HE2)).mono ?_; rintro e w3 ⟨rfl, hb⟩; have B3 := hide ((unhide B2').trans (hb.mono fun k e => .inl e)); clear hb)
  exact ⟨rfl, rfl, ((But.low (O := fun k => k = b) (unhide HB)).fresh2 (unhide B3) (fun k hk e => by rcases e with e | e; exact e; omega))⟩

/-- A reader behind a fault, for doczpk_err. -/
def dd (er q : Nat) : Nat → Nat → Nat → Prop := fun _ e pl => e = er ∧ pl = q
def lv (p : Nat) : Nat → Nat → Nat → Prop := fun a e pl => a = p ∧ e = 0 ∧ pl = 0
theorem d_want {b er q : Nat} {s t : ByteArray} (he : er ≠ 0) (ht : t.size ≤ 100) (W : World) (a e pl : Nat) (h : QdAt W b s a e pl) (hd : dd er q a e pl) :
    Calls Tryz.prog 21 #[.pointer (some ⟨b, 0, none⟩), .string t] W fun r w' => r = .returned (.tuple #[]) ∧ (∃ a' e' pl', QdAt w' b s a' e' pl' ∧ dd er q a' e' pl') ∧ But (fun k => k = b) W w' := by
  obtain ⟨rfl, rfl⟩ := hd
  exact (want_dead he ht h).mono fun r w' ⟨h1, h2⟩ => ⟨h1, ⟨a, _, _, by rw [h2]; exact h, rfl, rfl⟩, by rw [h2]; exact But.refl _ _⟩
theorem d_num {b er q : Nat} {s : ByteArray} (he : er ≠ 0) (W : World) (a e pl : Nat) (h : QdAt W b s a e pl) (hd : dd er q a e pl) :
    Calls Tryz.prog 22 #[.pointer (some ⟨b, 0, none⟩), .bool true] W fun r w' => ∃ x y, r = .returned (.complex .f64 x y) ∧ (∃ a' e' pl', QdAt w' b s a' e' pl' ∧ dd er q a' e' pl') ∧ But (fun k => k = b) W w' := by
  obtain ⟨rfl, rfl⟩ := hd
  exact (rnum_dead true he W h).mono fun r w' ⟨x, y, a', h1, h2, h3⟩ => ⟨x, y, h1, ⟨_, _, _, h2, rfl, rfl⟩, h3⟩
theorem d_all {b er q : Nat} {s : ByteArray} (bar : Bool) (he : er ≠ 0) (W : World) (a e pl : Nat) (h : QdAt W b s a e pl) (hd : dd er q a e pl) :
    Calls Tryz.prog 23 #[.pointer (some ⟨b, 0, none⟩), .bool bar] W fun r w' => ∃ v l, r = .returned v ∧ OwC W.heap.size w' v l ∧ (∃ a' e' pl', QdAt w' b s a' e' pl' ∧ dd er q a' e' pl') ∧ But (fun k => k = b) W w' := by
  obtain ⟨rfl, rfl⟩ := hd
  exact (all_dead bar he W h).mono fun r w' ⟨h1, m, h2⟩ => ⟨_, [], h1, OwC.none _ _, ⟨a, _, _, by rw [h2]; exact h.drew m, rfl, rfl⟩, by rw [h2]; exact But.still (still_drewN _ m)⟩
theorem d_end {b er q : Nat} {s : ByteArray} (he : er ≠ 0) (W : World) (a e pl : Nat) (h : QdAt W b s a e pl) (hd : dd er q a e pl) :
    Calls Tryz.prog 24 #[.pointer (some ⟨b, 0, none⟩)] W fun r w' => r = .returned (.tuple #[.int .i64 (q : Nat), .int .i64 (er : Nat)]) ∧ But (fun k => k = b) W w' := by
  obtain ⟨rfl, rfl⟩ := hd
  exact rend_badE he h
theorem l_want {b p : Nat} {s t : ByteArray} (ht : t.size ≤ 100) (hS : Stand s p t t.size) (W : World) (a e pl : Nat) (h : QdAt W b s a e pl) (hd : lv p a e pl) :
    Calls Tryz.prog 21 #[.pointer (some ⟨b, 0, none⟩), .string t] W fun r w' => r = .returned (.tuple #[]) ∧ (∃ a' e' pl', QdAt w' b s a' e' pl' ∧ lv (p + t.size) a' e' pl') ∧ But (fun k => k = b) W w' := by
  obtain ⟨rfl, rfl, rfl⟩ := hd
  exact (want_ok h ht hS).mono fun r w' ⟨h1, h2, h3⟩ => ⟨h1, ⟨_, _, _, h2, rfl, rfl, rfl⟩, h3⟩
theorem l_wantbad {b p j : Nat} {s t : ByteArray} (ht : t.size ≤ 100) (hj : j < t.size) (hS : Stand s p t j) (hE : bt s (p + j) ≠ (t[j]'hj).toNat) (W : World) (a e pl : Nat) (h : QdAt W b s a e pl) (hd : lv p a e pl) :
    Calls Tryz.prog 21 #[.pointer (some ⟨b, 0, none⟩), .string t] W fun r w' => r = .returned (.tuple #[]) ∧ (∃ a' e' pl', QdAt w' b s a' e' pl' ∧ dd 12 (p + j) a' e' pl') ∧ But (fun k => k = b) W w' := by
  obtain ⟨rfl, rfl, rfl⟩ := hd
  exact (want_bad h ht j hj hS hE).mono fun r w' ⟨h1, h2, h3⟩ => ⟨h1, ⟨_, _, _, h2, rfl, rfl⟩, h3⟩
theorem l_numbad {b p er q : Nat} {s : ByteArray} (hN : NumAt s p (.bad er q)) (W : World) (a e pl : Nat) (h : QdAt W b s a e pl) (hd : lv p a e pl) :
    Calls Tryz.prog 22 #[.pointer (some ⟨b, 0, none⟩), .bool true] W fun r w' => ∃ x y, r = .returned (.complex .f64 x y) ∧ (∃ a' e' pl', QdAt w' b s a' e' pl' ∧ dd er q a' e' pl') ∧ But (fun k => k = b) W w' := by
  obtain ⟨rfl, rfl, rfl⟩ := hd
  exact (hN.ref b W h).mono fun r w' ⟨x, y, a', h1, h2, h3⟩ => ⟨x, y, h1, ⟨_, _, _, h2, rfl, rfl⟩, h3⟩
theorem l_num {b p gx gy p1 : Nat} {s : ByteArray} (hN : NumAt s p (.ok gx gy p1)) (W : World) (a e pl : Nat) (h : QdAt W b s a e pl) (hd : lv p a e pl) :
    Calls Tryz.prog 22 #[.pointer (some ⟨b, 0, none⟩), .bool true] W fun r w' => r = .returned (.complex .f64 gx gy) ∧ (∃ a' e' pl', QdAt w' b s a' e' pl' ∧ lv p1 a' e' pl') ∧ But (fun k => k = b) W w' := by
  obtain ⟨rfl, rfl, rfl⟩ := hd
  exact (hN.ref b W h).mono fun r w' ⟨h1, h2, h3⟩ => ⟨h1, ⟨_, _, _, h2, rfl, rfl, rfl⟩, h3⟩
theorem l_numE {b p gx gy p1 : Nat} {s : ByteArray} (hN : NumAt s p (.ok gx gy p1)) (W : World) (a e pl : Nat) (h : QdAt W b s a e pl) (hd : lv p a e pl) :
    Calls Tryz.prog 22 #[.pointer (some ⟨b, 0, none⟩), .bool true] W fun r w' => ∃ x y, r = .returned (.complex .f64 x y) ∧ (∃ a' e' pl', QdAt w' b s a' e' pl' ∧ lv p1 a' e' pl') ∧ But (fun k => k = b) W w' :=
  (l_num hN W a e pl h hd).mono fun _ _ h => ⟨_, _, h⟩
theorem l_zr {b p : Nat} {s : ByteArray} {l : List (Nat × Nat)} {c : Nat} (hZ : RZ s p [] (.ok l c)) (W : World) (a e pl : Nat) (h : QdAt W b s a e pl) (hd : lv p a e pl) :
    Calls Tryz.prog 23 #[.pointer (some ⟨b, 0, none⟩), .bool true] W fun r w' => ∃ v, r = .returned v ∧ OwC W.heap.size w' v l ∧ (∃ a' e' pl', QdAt w' b s a' e' pl' ∧ lv c a' e' pl') ∧ But (fun k => k = b) W w' := by
  obtain ⟨rfl, rfl, rfl⟩ := hd
  exact (all_zr hZ W h).mono fun r w' ⟨v, h1, h2, h3, h4⟩ => ⟨v, h1, h2, ⟨_, _, _, h3, rfl, rfl, rfl⟩, h4⟩
theorem l_zrbad {b p er q : Nat} {s : ByteArray} (hZ : RZ s p [] (.bad er q)) (W : World) (a e pl : Nat) (h : QdAt W b s a e pl) (hd : lv p a e pl) :
    Calls Tryz.prog 23 #[.pointer (some ⟨b, 0, none⟩), .bool true] W fun r w' => ∃ v l, r = .returned v ∧ OwC W.heap.size w' v l ∧ (∃ a' e' pl', QdAt w' b s a' e' pl' ∧ dd er q a' e' pl') ∧ But (fun k => k = b) W w' := by
  obtain ⟨rfl, rfl, rfl⟩ := hd
  exact (all_zr hZ W h).mono fun r w' ⟨v, l, a', h1, h2, h3, h4⟩ => ⟨v, l, h1, h2, ⟨_, _, _, h3, rfl, rfl⟩, h4⟩
theorem l_pl {b p : Nat} {s : ByteArray} {l : List (Nat × Nat)} {c : Nat} (hZ : Pl s p [] (.ok l c)) (W : World) (a e pl : Nat) (h : QdAt W b s a e pl) (hd : lv p a e pl) :
    Calls Tryz.prog 23 #[.pointer (some ⟨b, 0, none⟩), .bool false] W fun r w' => ∃ v, r = .returned v ∧ OwC W.heap.size w' v l ∧ (∃ a' e' pl', QdAt w' b s a' e' pl' ∧ lv c a' e' pl') ∧ But (fun k => k = b) W w' := by
  obtain ⟨rfl, rfl, rfl⟩ := hd
  exact (all_pl hZ W h).mono fun r w' ⟨v, h1, h2, h3, h4⟩ => ⟨v, h1, h2, ⟨_, _, _, h3, rfl, rfl, rfl⟩, h4⟩
theorem l_plbad {b p er q : Nat} {s : ByteArray} (hZ : Pl s p [] (.bad er q)) (W : World) (a e pl : Nat) (h : QdAt W b s a e pl) (hd : lv p a e pl) :
    Calls Tryz.prog 23 #[.pointer (some ⟨b, 0, none⟩), .bool false] W fun r w' => ∃ v l, r = .returned v ∧ OwC W.heap.size w' v l ∧ (∃ a' e' pl', QdAt w' b s a' e' pl' ∧ dd er q a' e' pl') ∧ But (fun k => k = b) W w' := by
  obtain ⟨rfl, rfl, rfl⟩ := hd
  exact (all_pl hZ W h).mono fun r w' ⟨v, l, a', h1, h2, h3, h4⟩ => ⟨v, l, h1, h2, ⟨_, _, _, h3, rfl, rfl⟩, h4⟩
theorem l_end {b : Nat} {s : ByteArray} (W : World) (a e pl : Nat) (h : QdAt W b s a e pl) (hd : lv s.size a e pl) :
    Calls Tryz.prog 24 #[.pointer (some ⟨b, 0, none⟩)] W fun r w' => r = .returned (.tuple #[.int .i64 0, .int .i64 0]) ∧ But (fun k => k = b) W w' := by
  obtain ⟨rfl, rfl, rfl⟩ := hd
  exact rend_ok h

/-- Both answer the fault er at q. -/
structure ZBad (s : ByteArray) (q er : Nat) : Prop where
  ne : er ≠ 0
  prog : ∀ w, Gl w.heap.size w → Calls Tryz.prog 6 #[.string s] w fun x w' => x = .returned (.tuple #[.agg #[.slice none 0 0, .slice none 0 0, .complex .f64 0 0], .int .i64 (q : Nat), .int .i64 (er : Nat)]) ∧ Below w.heap.size w w'
  doc : ∀ w, Calls Tryz.prog 7 #[.string s] w fun x w' => x = .returned (.tuple #[.agg #[.slice none 0 0, .slice none 0 0, .complex .f64 0 0], .int .i64 (q : Nat), .int .i64 (er : Nat)]) ∧ Below w.heap.size w w'
/-- Both answer this filter. -/
structure ZFine (s : ByteArray) (gx gy : Nat) (lz lp : List (Nat × Nat)) : Prop where
  gain : FinL [(gx, gy)]
  fz : FinL lz
  fp : FinL lp
  nz : lz.length ≤ 24
  np : lp.length ≤ 24
  told : [122, 112, 107, 32] ++ numL gx gy ++ [32, 124] ++ frontT lz ++ [32, 124] ++ frontT lp = s.toList
  size : s.size ≤ 65536
  prog : ∀ w, Gl w.heap.size w → Calls Tryz.prog 6 #[.string s] w fun x w' => ∃ vz vp, x = .returned (.tuple #[.agg #[vz, vp, .complex .f64 gx gy], .int .i64 0, .int .i64 0]) ∧ OwC w.heap.size w' vz lz ∧ OwC w.heap.size w' vp lp ∧ Below w.heap.size w w'
  doc : ∀ w, Calls Tryz.prog 7 #[.string s] w fun x w' => ∃ vz vp, x = .returned (.tuple #[.agg #[vz, vp, .complex .f64 gx gy], .int .i64 0, .int .i64 0]) ∧ OwC w.heap.size w' vz lz ∧ OwC w.heap.size w' vp lp ∧ Below w.heap.size w w'
theorem stand_ex {s t : ByteArray} {p : Nat} (h : Stand s p t t.size) : ∀ k, k ≤ t.size → (s.extract p (p + k)).toList = t.toList.take k
  | 0, _ => by rw [ex_list]; simp
  | k + 1, hk => by
    have hk' : k < t.size := by omega
    rw [ex_cat s (show p ≤ p + k by omega) (show p + k ≤ p + (k + 1) by omega), stand_ex h k (by omega)]
    have e1 := ex_one (t[k]'hk') (h k hk' (by omega))
    obtain ⟨c, h1, h2⟩ := take_bt hk'
    rw [show p + (k + 1) = p + k + 1 by omega, e1, h1]
    rw [bt_of hk'] at h2
    rw [UInt8.toNat_inj.1 h2]
theorem zpk_both (s : ByteArray) : (∃ q er, ZBad s q er) ∨ (∃ gx gy lz lp, ZFine s gx gy lz lp) := by
  by_cases hs : s.size ≤ 65536
  rotate_left
  · exact .inl ⟨0, 2, by decide, fun w _ => read_longZpk (by omega) w, fun w => doczpk_long (by omega) w⟩
  rcases stand_cases s 0 ⟨#[122, 112, 107, 32]⟩ 4 (by decide) with hS | ⟨j, hj, _, h1, h2⟩
  rotate_left
  · refine .inl ⟨j, 12, by decide, fun w hG => read_badZpk hs (by decide) w hG fun w0 hr0 hG0 => zpk_bad1 hj h1 h2 w0 hr0 hG0, ?_⟩
    have H1 := fun (b : Nat) => l_wantbad (b := b) (p := 0) (t := ⟨#[122, 112, 107, 32]⟩) (by decide) hj h1 h2
    rw [Nat.zero_add] at H1
    exact fun w => doczpk_err hs (by decide) (lv 0) (dd 12 j) (dd 12 j) (dd 12 j) (dd 12 j) (dd 12 j) ⟨rfl, rfl, rfl⟩ H1 (fun b => d_num (by decide)) (fun b => d_want (by decide) (by decide)) (fun b => d_all true (by decide)) (fun b => d_all false (by decide)) (fun b => d_end (by decide)) w
  have W1 : ∀ b, _ := fun (b : Nat) => l_want (b := b) (s := s) (p := 0) (t := ⟨#[122, 112, 107, 32]⟩) (by decide) hS
  obtain ⟨o, hN⟩ := num_any hs 4
  cases o with
  | bad er q =>
    have her : er ≠ 0 := by rcases hN.told with g | g <;> rw [g] <;> decide
    refine .inl ⟨q, er, her, fun w hG => read_badZpk hs her w hG fun w0 hr0 hG0 => zpk_num (B := w.heap.size) (by omega) hS (hN.prog _ _ (by omega)) w0 hr0 hG0, ?_⟩
    exact fun w => doczpk_err hs her (lv 0) (lv 4) (dd er q) (dd er q) (dd er q) (dd er q) ⟨rfl, rfl, rfl⟩ W1 (fun b => l_numbad hN) (fun b => d_want her (by decide)) (fun b => d_all true her) (fun b => d_all false her) (fun b => d_end her) w
  | ok gx gy p1 =>
    obtain ⟨t1, t2, t3, t4, t5, t6, t7⟩ := hN.told
    rcases stand_cases s p1 ⟨#[32, 124, 32]⟩ 3 (by decide) with hS2 | ⟨j, hj, hj3, h1, h2⟩
    rotate_left
    · have P : ∀ w, Gl w.heap.size w → _ := fun w hG => read_badZpk (q := p1 + j) (er := 12) hs (by decide) w hG fun w0 hr0 hG0 => zpk_bar (B := w.heap.size) (by omega) hS (hN.prog _ _ (by omega)) hj h1 h2 w0 hr0 hG0
      refine .inl ⟨p1 + j, 12, by decide, P, ?_⟩
      by_cases hj2 : j < 2
      · have hS' : Stand s p1 ⟨#[32, 124]⟩ j := fun i hi hij => by
          have := h1 i (by change i < 3; change i < 2 at hi; omega) hij
          rw [this]
          rcases (by change i < 2 at hi; omega : i = 0 ∨ i = 1) with rfl | rfl <;> rfl
        have hE' : bt s (p1 + j) ≠ ((ByteArray.mk #[32, 124])[j]'hj2).toNat := fun e => h2 (by
          rw [e]
          rcases (by omega : j = 0 ∨ j = 1) with rfl | rfl <;> rfl)
        exact fun w => doczpk_err hs (by decide) (lv 0) (lv 4) (lv p1) (dd 12 (p1 + j)) (dd 12 (p1 + j)) (dd 12 (p1 + j)) ⟨rfl, rfl, rfl⟩ W1 (fun b => l_numE hN) (fun b => l_wantbad (t := ⟨#[32, 124]⟩) (by decide) hj2 hS' hE') (fun b => d_all true (by decide)) (fun b => d_all false (by decide)) (fun b => d_end (by decide)) w
      · obtain rfl : j = 2 := by omega
        have hS' : Stand s p1 ⟨#[32, 124]⟩ (ByteArray.mk #[32, 124]).size := fun i hi hij => by
          have := h1 i (by change i < 3; change i < 2 at hi; omega) (by change i < 2 at hi; omega)
          rw [this]
          rcases (by change i < 2 at hi; omega : i = 0 ∨ i = 1) with rfl | rfl <;> rfl
        exact fun w => doczpk_err hs (by decide) (lv 0) (lv 4) (lv p1) (lv (p1 + 2)) (dd 12 (p1 + 2)) (dd 12 (p1 + 2)) ⟨rfl, rfl, rfl⟩ W1 (fun b => l_numE hN) (fun b => l_want (t := ⟨#[32, 124]⟩) (by decide) hS') (fun b => l_zrbad (.inr ⟨h2, rfl⟩)) (fun b => d_all false (by decide)) (fun b => d_end (by decide)) w
    have hS' : Stand s p1 ⟨#[32, 124]⟩ (ByteArray.mk #[32, 124]).size := fun i hi hij => by
      have := hS2 i (by change i < 3; change i < 2 at hi; omega) (by change i < 3; change i < 2 at hi; omega)
      rw [this]
      rcases (by change i < 2 at hi; omega : i = 0 ∨ i = 1) with rfl | rfl <;> rfl
    have h32 : bt s (p1 + 2) = 32 := hS2 2 (by decide) (by decide)
    obtain ⟨oz, hZ⟩ := zr_any hs (s.size + 1) (p1 + 3) [] (by omega)
    have hRZ : RZ s (p1 + 2) [] oz := .inl ⟨h32, hZ⟩
    cases oz with
    | bad er q =>
      have her : er ≠ 0 := by rcases hZ.good with g | g | g <;> rw [g] <;> decide
      refine .inl ⟨q, er, her, fun w hG => read_badZpk hs her w hG fun w0 hr0 hG0 => (zpk_run (B := w.heap.size) (op := .bad 0 0) (by omega) hS (hN.prog _ _ (by omega)) hS2 hZ (fun _ _ e => by cases e) w0 hr0 hG0).mono fun _ _ h => h, ?_⟩
      exact fun w => doczpk_err hs her (lv 0) (lv 4) (lv p1) (lv (p1 + 2)) (dd er q) (dd er q) ⟨rfl, rfl, rfl⟩ W1 (fun b => l_numE hN) (fun b => l_want (t := ⟨#[32, 124]⟩) (by decide) hS') (fun b => l_zrbad hRZ) (fun b => d_all false her) (fun b => d_end her) w
    | ok lz c1 =>
      obtain ⟨⟨mz, z1, z2, z3⟩, z4, z5, z6⟩ := hZ.told lz c1 rfl
      rw [List.nil_append] at z1
      subst z1
      obtain ⟨op, hP⟩ := pl_any hs s.size c1 [] z5 (by omega)
      have H4 : ∀ b, _ := fun (b : Nat) => l_zr (b := b) hRZ
      cases op with
      | bad er q =>
        have her : er ≠ 0 := by rcases hP.good with g | g | g <;> rw [g] <;> decide
        refine .inl ⟨q, er, her, fun w hG => read_badZpk hs her w hG fun w0 hr0 hG0 => (zpk_run (B := w.heap.size) (op := .bad er q) (by omega) hS (hN.prog _ _ (by omega)) hS2 hZ (fun _ _ e => by injection e with e1 e2; subst e2; exact hP) w0 hr0 hG0).mono fun _ _ h => h, ?_⟩
        exact fun w => doczpk_err hs her (lv 0) (lv 4) (lv p1) (lv (p1 + 2)) (lv c1) (dd er q) ⟨rfl, rfl, rfl⟩ W1 (fun b => l_numE hN) (fun b => l_want (t := ⟨#[32, 124]⟩) (by decide) hS') (fun b W a e pl h hd => (H4 b W a e pl h hd).mono fun _ _ ⟨v, h1, h2, h3, h4⟩ => ⟨v, _, h1, h2, h3, h4⟩) (fun b => l_plbad hP) (fun b => d_end her) w
      | ok lp c2 =>
        obtain ⟨⟨⟨mp, y1, y2, y3⟩, y4, y5, y6⟩, y7⟩ := hP.told lp c2 rfl
        rw [List.nil_append] at y1
        subst y1 y7
        refine .inr ⟨gx, gy, lz, lp, ?_, z2, y2, z6 (by decide), y6 (by decide), ?_, hs, fun w hG => ?_, fun w => ?_⟩
        · intro p hp
          rw [List.mem_singleton] at hp
          rw [hp]; exact ⟨t1, t2, t3⟩
        · rw [← ex_all s, ex_cat s (show 0 ≤ 4 by omega) (show 4 ≤ s.size by omega), ex_cat s (show 4 ≤ p1 by omega) (show p1 ≤ s.size by omega), ← t7, ex_cat s (show p1 ≤ p1 + 3 by omega) (show p1 + 3 ≤ s.size by omega), ex_cat s (show p1 + 3 ≤ c1 by omega) (show c1 ≤ s.size by omega), z3, y3]
          have q1 := stand_ex hS 4 (by decide)
          have q2 := stand_ex hS2 3 (by decide)
          rw [Nat.zero_add] at q1
          rw [q1, q2, bl_mk, bl_mk]
          have q3 := front_back lz
          show _ = [122, 112, 107, 32] ++ (numL gx gy ++ ([32, 124, 32] ++ ((backT lz ++ [124]) ++ frontT lp)))
          rw [show ([32, 124, 32] ++ ((backT lz ++ [124]) ++ frontT lp) : List UInt8) = [32, 124] ++ ((32 :: backT lz) ++ ([124] ++ frontT lp)) by simp, q3]
          simp
        · exact read_fineZpk w fun W h1 h2 h3 => whole_okZpk (B := w.heap.size) W ⟨h3, Nat.zero_le _, hs⟩ (hG.on h1) (by omega) h2 fun W2 hr2 hG2 hA2 => rule_okZpk (by omega) W2 hA2 (zpk_run (B := w.heap.size) (by omega) hS (hN.prog _ _ (by omega)) hS2 hZ (fun _ _ e => by injection e with e1 e2; subst e2; exact hP) W2 hr2 hG2)
        · exact doczpk_ok hs (lv 0) (lv 4) (lv p1) (lv (p1 + 2)) (lv c1) (lv s.size) ⟨rfl, rfl, rfl⟩ W1 (fun b => l_num hN) (fun b => l_want (t := ⟨#[32, 124]⟩) (by decide) hS') H4 (fun b => l_pl hP) (fun b => l_end) w
end Go.Proofs.YtbkjmnopljmanaaGreatDoor

/- Filters compared and written: SameZpk, zpk.Check, list, Zpk. -/
namespace Go.Proofs.YtbkjmnopljmanaaGreatDoor
open Go.RowKit

/-- A list of numbers that can be read. -/
def CxAt (w : World) (v : Value) (l : List (Nat × Nat)) : Prop := ∃ ad cap, v = .slice ad l.length cap ∧ ∀ j (hj : j < l.length), ∃ g, ad = some ⟨g, 0, none⟩ ∧ g < w.heap.size ∧ w.cell? ⟨g, j, none⟩ = some (.complex .f64 (l[j]'hj).1 (l[j]'hj).2)
theorem OwC.at {B : Nat} {w : World} {v : Value} {l : List (Nat × Nat)} (h : OwC B w v l) : CxAt w v l := by
  rcases h.2 with ⟨rfl, h0⟩ | ⟨g, cap, cur, rfl, h1, h2, _⟩
  · exact ⟨Option.none, 0, by rw [h0], fun j hj => by omega⟩
  · refine ⟨_, _, rfl, fun j hj => ⟨g, rfl, (Array.getElem?_eq_some_iff.1 h2).1, ?_⟩⟩
    have := World.ownsRow.cells h (g := g) rfl j (.complex .f64 (l[j]'hj).1 (l[j]'hj).2) (by simp [cxL, hj])
    rwa [Addr.add_lit, Nat.zero_add] at this
theorem CxAt.low {w w' : World} {v : Value} {l : List (Nat × Nat)} (h : CxAt w v l) (hb : Below w.heap.size w w') : CxAt w' v l := by
  obtain ⟨ad, cap, h1, h2⟩ := h
  exact ⟨ad, cap, h1, fun j hj => by obtain ⟨g, k1, k2, k3⟩ := h2 j hj; exact ⟨g, k1, Nat.lt_of_lt_of_le k2 hb.size, by rw [hb.cell k2]; exact k3⟩⟩
theorem CxAt.still {w w' : World} {v : Value} {l : List (Nat × Nat)} (h : CxAt w v l) (hb : Still w w') : CxAt w' v l := h.low (hb _)
set_option maxRecDepth 100000 in
theorem sameAll_any {l : List (Nat × Nat)} {v1 v2 : Value} {w : World} (h1 : CxAt w v1 l) (h2 : CxAt w v2 l) (hl : l.length ≤ 1000) :
    Calls Tryz.prog 26 #[v1, v2] w fun e w' => e = .returned (.bool true) ∧ Still w w' := by
  obtain ⟨ad1, cap1, rfl, k1⟩ := h1
  obtain ⟨ad2, cap2, rfl, k2⟩ := h2
  have K1 := hide k1
  have K2 := hide k2
  clear k1 k2
  have n1 : ((l.length : Int) != (l.length : Int)) = false := by simp
  go_enter Tryz.func26, Tryz.ntmps26
  go_wp2_with fail
  go_loopw [13] (fun i wr => ∃ k : Nat, k ≤ l.length ∧ i = .int .i64 k ∧ Hid (Still w wr)) (fun i _ => l.length - (intOf i).toNat)
  case atStart => exact ⟨0, Nat.zero_le _, rfl, Still.refl w⟩
  case round =>
    obtain ⟨k, hk, rfl, hs⟩ := hrel
    by_cases hkm : k < l.length
    · have i1 : (k : Int) < (l.length : Int) := by omega
      have i2 : ¬ (k : Int) < 0 := by omega
      obtain ⟨g1, rfl, _, c1⟩ := unhide K1 k hkm
      obtain ⟨g2, rfl, _, c2⟩ := unhide K2 k hkm
      rw [← hs.out.cell] at c1 c2
      have HS := hide (fun n : Nat => same2_any (l[k]'hkm).1 (l[k]'hkm).2 (wr.drewN n))
      generalize (l[k]'hkm).1 = x at *
      generalize (l[k]'hkm).2 = y at *
      go_wp2_with fail
      go_quiet ((go_at_call 17; exact Calls.quiet_of_same (unhide HS _)))
      go_wp2_with fail
      refine ⟨⟨k + 1, by omega, rfl, hs.out.trans (still_drewN _ _)⟩, ?_⟩
      simp only [intOf]
      omega
    · obtain rfl : k = l.length := by omega
      have i1 : ¬ (l.length : Int) < (l.length : Int) := by omega
      go_wp2
      go_ret
      exact ⟨rfl, hs.out⟩
set_option maxRecDepth 100000 in
theorem nfinL_any {l : List (Nat × Nat)} {v : Value} {w : World} (h : CxAt w v l) (hf : FinL l) (hl : l.length ≤ 1000) :
    Calls Tryz.prog 35 #[v] w fun e w' => e = .returned (.bool true) ∧ w' = w := by
  obtain ⟨ad, cap, rfl, k⟩ := h
  have K := hide k
  have HF := hide hf
  clear k hf
  go_enter Tryz.func35, Tryz.ntmps35
  go_wp2_with fail
  go_loopw [7] (fun i wr => ∃ k : Nat, k ≤ l.length ∧ i = .int .i64 k ∧ wr = w) (fun i _ => l.length - (intOf i).toNat)
  case atStart => exact ⟨0, Nat.zero_le _, rfl, rfl⟩
  case round =>
    obtain ⟨k, hk, rfl, hw⟩ := hrel
    obtain rfl := hw.symm
    by_cases hkm : k < l.length
    · have i1 : (k : Int) < (l.length : Int) := by omega
      have i2 : ¬ (k : Int) < 0 := by omega
      obtain ⟨g, rfl, _, c⟩ := unhide K k hkm
      have hp := unhide HF (l[k]'hkm) (List.getElem_mem hkm)
      have HS : Hid (∀ w, Calls Tryz.prog 53 #[.complex .f64 (l[k]'hkm).1 (l[k]'hkm).2] w fun e w' => e = .returned (.bool true) ∧ w' = w) := fun w => by
        have := finite_any (l[k]'hkm).1 (l[k]'hkm).2 hp.1 hp.2.1 w
        rwa [show decide (max (cls (l[k]'hkm).1) (cls (l[k]'hkm).2) < 3) = true from hp.2.2] at this
      clear hp
      generalize (l[k]'hkm).1 = x at *
      generalize (l[k]'hkm).2 = y at *
      go_wp2_with (go_at_call 53; refine (unhide HS _).mono ?_; rintro e w' ⟨rfl, hw'⟩; obtain rfl := hw'.symm)
      refine ⟨⟨k + 1, by omega, rfl, trivial⟩, ?_⟩
      simp only [intOf]
      omega
    · obtain rfl : k = l.length := by omega
      have i1 : ¬ (l.length : Int) < (l.length : Int) := by omega
      go_wp2
      go_ret
      exact ⟨rfl, rfl⟩
set_option maxRecDepth 100000 in
theorem number_lies (B : Nat) (x y : Nat) (hx : x < 18446744073709551616) (hy : y < 18446744073709551616) (sv : Value) (l : List UInt8) (w : World) (hown : Lies B w sv l) (hBw : B ≤ w.heap.size) (hlim : l.length ≤ 90000) (hG : Gl B w) :
    Calls Tryz.prog 28 #[sv, .complex .f64 x y] w fun e w' => ∃ v', e = .returned v' ∧ Ow B w' v' (l ++ numL x y) ∧ Below B w w' := by
  have hx1 := flt_len x
  have hy1 := flt_len y
  have HO := hide hown
  have HG := hide hG
  clear hown hG
  go_enter Tryz.func28, Tryz.ntmps28
  go_wp2_with (at_builtin; refine Lies.app_row rfl _ _ rfl sv _ rfl ((unhide HO).low ((Below.refl _ _).alloc (Nat.le_refl _) _)) w.heap.size 1 1 [40] rfl rfl (by decide) (fun j hj => by have := alloc_one w 40 j hj; rwa [Nat.zero_add] at this) (by omega) (by decide) (Nat.le_trans hBw ((Below.refl w.heap.size w).alloc (Nat.le_refl _) _).size) ?_; intro v0 w0 ho hb; have HO0 := hide ho; have HB0 := hide (((Below.refl B w).alloc hBw _).trans hb); clear ho hb; refine Hid.out ?_)
  refine hide ?_
  have G0 := hide ((unhide HG).on (unhide HB0))
  have S0 : B ≤ w0.heap.size := Nat.le_trans hBw (unhide HB0).size
  have L0 : (l ++ [40]).length ≤ 90001 := by simp; omega
  go_wp2_with (go_at_call 49; refine (flt_any B x hx v0 _ w0 (unhide HO0) S0 (by omega) (unhide G0)).mono ?_; rintro e w1 ⟨v1, rfl, ho, hb⟩; have HO1 := hide ho; have HB1 := hide hb; clear ho hb; refine Hid.out ?_)
  refine hide ?_
  have G1 := hide ((unhide G0).on (unhide HB1))
  have S1 : B ≤ w1.heap.size := Nat.le_trans S0 (unhide HB1).size
  have L1 : (l ++ [40] ++ flt x).length ≤ 90101 := by simp; omega
  go_wp2_with (at_builtin; refine Ow.app_row rfl _ _ rfl v1 _ rfl ((unhide HO1).low ((Below.refl _ _).alloc (Nat.le_refl _) _)) w1.heap.size 0 1 1 [44] rfl rfl (alloc_one w1 44) (by omega) (by decide) (Nat.le_trans S1 ((Below.refl w1.heap.size w1).alloc (Nat.le_refl _) _).size) ?_; intro v2 w2 ho hb; have HO2 := hide ho; have HB2 := hide (((Below.refl B w1).alloc S1 _).trans hb); clear ho hb; refine Hid.out ?_)
  refine hide ?_
  have G2 := hide ((unhide G1).on (unhide HB2))
  have S2 : B ≤ w2.heap.size := Nat.le_trans S1 (unhide HB2).size
  have L2 : (l ++ [40] ++ flt x ++ [44]).length ≤ 90102 := by simp; omega
  go_wp2_with (go_at_call 49; refine (flt_any B y hy v2 _ w2 (unhide HO2) S2 (by omega) (unhide G2)).mono ?_; rintro e w3 ⟨v3, rfl, ho, hb⟩; have HO3 := hide ho; have HB3 := hide hb; clear ho hb; refine Hid.out ?_)
  refine hide ?_
  have S3 : B ≤ w3.heap.size := Nat.le_trans S2 (unhide HB3).size
  have L3 : (l ++ [40] ++ flt x ++ [44] ++ flt y).length ≤ 90202 := by simp; omega
  go_wp2_with (at_builtin; refine Ow.app_row rfl _ _ rfl v3 _ rfl ((unhide HO3).low ((Below.refl _ _).alloc (Nat.le_refl _) _)) w3.heap.size 0 1 1 [41] rfl rfl (alloc_one w3 41) (by omega) (by decide) (Nat.le_trans S3 ((Below.refl w3.heap.size w3).alloc (Nat.le_refl _) _).size) ?_; intro v4 w4 ho hb; have HO4 := hide ho; have HB4 := hide (((Below.refl B w3).alloc S3 _).trans hb); clear ho hb)
  go_ret
  refine ⟨_, rfl, ?_, (unhide HB0).trans ((unhide HB1).trans ((unhide HB2).trans ((unhide HB3).trans (unhide HB4))))⟩
  have e : l ++ numL x y = l ++ [40] ++ flt x ++ [44] ++ flt y ++ [41] := by simp [numL]
  rw [e]
  exact unhide HO4


theorem front_len (l : List (Nat × Nat)) : (frontT l).length ≤ 210 * l.length := by
  induction l with
  | nil => exact Nat.le_refl 0
  | cons p l ih =>
    show ((32 :: numL p.1 p.2) ++ frontT l).length ≤ 210 * (l.length + 1)
    have h1 := flt_len p.1
    have h2 := flt_len p.2
    have h3 : (numL p.1 p.2).length ≤ 203 := by unfold numL; simp; omega
    rw [List.length_append, List.length_cons]
    omega
theorem front_take {l : List (Nat × Nat)} {k : Nat} (hk : k < l.length) : frontT (l.take (k + 1)) = frontT (l.take k) ++ [32] ++ numL (l[k]'hk).1 (l[k]'hk).2 := by
  rw [List.take_succ_eq_append_getElem hk]
  unfold frontT
  rw [List.flatMap_append]
  simp
set_option maxRecDepth 100000 in
set_option maxHeartbeats 1000000 in
theorem list_any {w0 w : World} {l : List (Nat × Nat)} {v sv : Value} {t : List UInt8} (h : CxAt w0 v l) (hf : FinL l) (hl : l.length ≤ 24) (hb : Below w0.heap.size w0 w) (hown : Ow w0.heap.size w sv t) (hlim : t.length ≤ 70000) (hG : Gl w0.heap.size w) :
    Calls Tryz.prog 29 #[sv, v] w fun e w' => ∃ v', e = .returned v' ∧ Ow w0.heap.size w' v' (t ++ frontT l) ∧ Below w0.heap.size w w' := by
  obtain ⟨ad, cap, rfl, k⟩ := h
  have K := hide k
  have HF := hide hf
  have HB := hide hb
  have HO := hide hown
  have HG := hide hG
  have hsz := hb.size
  clear k hf hb hown hG
  go_enter Tryz.func29, Tryz.ntmps29
  go_wp2_with fail
  go_loopw [0, 9] (fun vb i wr => ∃ k : Nat, k ≤ l.length ∧ i = .int .i64 k ∧ Hid (Ow w0.heap.size wr vb (t ++ frontT (l.take k))) ∧ Hid (Below w0.heap.size w wr)) (fun _ i _ => l.length - (intOf i).toNat)
  case atStart => exact ⟨0, Nat.zero_le _, rfl, by show Ow _ _ _ _; rw [List.take_zero]; exact (by simpa [frontT] using unhide HO), Below.refl _ _⟩
  case round =>
    obtain ⟨k, hk, rfl, ho, hbw⟩ := hrel
    by_cases hkm : k < l.length
    · have i1 : (k : Int) < (l.length : Int) := by omega
      have i2 : ¬ (k : Int) < 0 := by omega
      obtain ⟨g, rfl, hg, c⟩ := unhide K k hkm
      have hp := unhide HF (l[k]'hkm) (List.getElem_mem hkm)
      rw [← ((unhide HB).trans hbw.out).cell hg] at c
      have hszr := hbw.out.size
      have hfl := front_len (l.take k)
      have hft := front_take hkm
      have hlk : (l.take k).length = k := by rw [List.length_take]; omega
      rw [hlk] at hfl
      have HT := hide hft
      have HP := hide hp
      clear hft hp hlk
      generalize (l[k]'hkm).1 = x at *
      generalize (l[k]'hkm).2 = y at *
      have hal : Below wr.heap.size wr (wr.alloc (Obj.cells #[Value.int IntKind.u8 32] 5)) := (Below.refl _ _).alloc (Nat.le_refl _) _
      have O2 := hide (ho.out.low hal)
      have B2 := hide (hbw.out.trans (hal.mono (by omega)))
      have L2 : (t ++ frontT (l.take k)).length ≤ 80000 := by rw [List.length_append]; omega
      have L3 : (t ++ frontT (l.take k) ++ [32]).length ≤ 80001 := by rw [List.length_append]; show _ + 1 ≤ _; omega
      clear hal ho
      go_wp2_with (first
        | (at_builtin; refine Ow.app_row rfl _ _ rfl _ _ rfl (unhide O2) wr.heap.size 0 1 1 [32] rfl rfl (alloc_one wr 32) (by omega) (by decide) (by rw [alloc_size]; omega) ?_; intro v3 w3 h1 h2; have O3 := hide h1; have B3 := hide ((unhide B2).trans h2); clear h1 h2)
        | (go_at_call 28; refine (number_any w0.heap.size x y (unhide HP).1 (unhide HP).2.1 v3 _ w3 (unhide O3) (by have := (unhide B3).size; omega) (by omega) ((unhide HG).on (unhide B3))).mono ?_; rintro e w4 ⟨v4, rfl, h1, h2⟩; have O4 := hide h1; have B4 := hide ((unhide B3).trans h2); clear h1 h2))
      refine ⟨⟨k + 1, by omega, rfl, ?_, unhide B4⟩, ?_⟩
      · show Ow _ _ _ _
        rw [unhide HT]
        have e : t ++ (frontT (l.take k) ++ [32] ++ numL x y) = t ++ frontT (l.take k) ++ [32] ++ numL x y := by simp
        rw [e]; exact unhide O4
      · simp only [intOf]
        omega
    · obtain rfl : k = l.length := by omega
      have i1 : ¬ (l.length : Int) < (l.length : Int) := by omega
      have ho2 := ho.out
      rw [List.take_length] at ho2
      have HO2 := hide ho2
      clear ho2 ho
      go_wp2
      go_ret
      exact ⟨_, rfl, unhide HO2, hbw.out⟩
theorem box_at {w : World} {cs : Array Value} {t : TypeId} : Below w.heap.size w (w.alloc (.cells cs t)) ∧ Blk (w.alloc (.cells cs t)) w.heap.size cs t := ⟨(Below.refl _ _).alloc (Nat.le_refl _) _, Blk.alloc⟩
set_option maxRecDepth 100000 in
theorem check_any {w : World} {lz lp : List (Nat × Nat)} {vz vp : Value} {gx gy : Nat} (hz : CxAt w vz lz) (hp : CxAt w vp lp) (fz : FinL lz) (fp : FinL lp) (fg : FinL [(gx, gy)]) (nz : lz.length ≤ 24) (np : lp.length ≤ 24) :
    Calls Tryz.prog 27 #[.agg #[vz, vp, .complex .f64 gx gy]] w fun e w' => e = .returned (.int .i64 0) ∧ Below w.heap.size w w' := by
  obtain ⟨ad1, cap1, rfl, k1⟩ := id hz
  obtain ⟨ad2, cap2, rfl, k2⟩ := id hp
  have hg := fg (gx, gy) (by simp)
  obtain ⟨hb, hB⟩ := box_at (w := w) (cs := #[.slice ad1 lz.length cap1, .slice ad2 lp.length cap2, .complex .f64 gx gy]) (t := 25)
  have HFz := hide (nfinL_any (hz.low hb) fz (by omega))
  have HFp := hide (nfinL_any (hp.low hb) fp (by omega))
  have HG : Hid (∀ w1 : World, Calls Tryz.prog 35 #[.slice (some ⟨w1.heap.size, 0, none⟩) 1 1] (w1.alloc (.cells #[.complex .f64 gx gy] 23)) fun e w' => e = .returned (.bool true) ∧ w' = w1.alloc (.cells #[.complex .f64 gx gy] 23)) := fun w1 => by
    have := nfin1_any w1.heap.size gx gy hg.1 hg.2.1 (w1.alloc (.cells #[.complex .f64 gx gy] 23)) (Blk.alloc.cell 0 rfl)
    rwa [hg.2.2] at this
  have c0 := hB.cell 0 (v := .slice ad1 lz.length cap1) rfl
  have c1 := hB.cell 1 (v := .slice ad2 lp.length cap2) rfl
  have c2 := hB.cell 2 (v := .complex .f64 gx gy) rfl
  have i1 : ¬ (24 : Int) < (lz.length : Int) := by omega
  have i2 : ¬ (24 : Int) < (lp.length : Int) := by omega
  have HB := hide hb
  clear hz hp fz fp fg hg hb hB k1 k2
  obtain ⟨W, hW⟩ : ∃ W, W = w.alloc (.cells #[.slice ad1 lz.length cap1, .slice ad2 lp.length cap2, .complex .f64 gx gy] 25) := ⟨_, rfl⟩
  rw [← hW] at HB c0 c1 c2 HFz HFp
  have EW := hide hW
  clear hW
  go_enter Tryz.func27, Tryz.ntmps27
  go_upto_region 1 with fail
  rw [← unhide EW]
  go_wp2_with (go_at_call 35; refine (unhide HFz).mono ?_; rintro e w' ⟨rfl, hw'⟩; obtain rfl := hw'.symm; refine Hid.out ?_)
  refine hide ?_
  go_wp2_with (go_at_call 35; refine (unhide HFp).mono ?_; rintro e w' ⟨rfl, hw'⟩; obtain rfl := hw'.symm; refine Hid.out ?_)
  refine hide ?_
  go_wp2_with (go_at_call 35; refine (unhide HG _).mono ?_; rintro e w' ⟨rfl, hw'⟩; obtain rfl := hw'.symm)
  go_ret
  exact ⟨rfl, below_next (unhide HB) ((Below.refl _ _).alloc (Nat.le_refl _) _)⟩
set_option maxRecDepth 100000 in
theorem sameZpk_any {w : World} {lz lp : List (Nat × Nat)} {vz vp uz up : Value} {gx gy : Nat} (hz : CxAt w vz lz) (hp : CxAt w vp lp) (jz : CxAt w uz lz) (jp : CxAt w up lp) (nz : lz.length ≤ 24) (np : lp.length ≤ 24) :
    Calls Tryz.prog 9 #[.agg #[vz, vp, .complex .f64 gx gy], .agg #[uz, up, .complex .f64 gx gy]] w fun e w' => e = .returned (.bool true) ∧ Below w.heap.size w w' := by
  obtain ⟨ad1, cap1, rfl, k1⟩ := id hz
  obtain ⟨ad2, cap2, rfl, k2⟩ := id hp
  obtain ⟨ad3, cap3, rfl, k3⟩ := id jz
  obtain ⟨ad4, cap4, rfl, k4⟩ := id jp
  obtain ⟨W, hW⟩ : ∃ W, W = (w.alloc (.cells #[.slice ad1 lz.length cap1, .slice ad2 lp.length cap2, .complex .f64 gx gy] 25)).alloc (.cells #[.slice ad3 lz.length cap3, .slice ad4 lp.length cap4, .complex .f64 gx gy] 25) := ⟨_, rfl⟩
  have h1 := alloc_size w (.cells #[.slice ad1 lz.length cap1, .slice ad2 lp.length cap2, .complex .f64 gx gy] 25)
  have hb : Below w.heap.size w W := by rw [hW]; exact ((Below.refl _ _).alloc (Nat.le_refl _) _).alloc (by omega) _
  have hA : Blk W w.heap.size #[.slice ad1 lz.length cap1, .slice ad2 lp.length cap2, .complex .f64 gx gy] 25 := by rw [hW]; exact Blk.alloc.below ((Below.refl _ _).alloc (Nat.le_refl _) _) (by omega)
  have hB : Blk W (w.heap.size + 1) #[.slice ad3 lz.length cap3, .slice ad4 lp.length cap4, .complex .f64 gx gy] 25 := by rw [hW, ← h1]; exact Blk.alloc
  have HSz := hide (sameAll_any (hz.low hb) (jz.low hb) (by omega))
  have HSp : Hid (∀ W', Still W W' → Calls Tryz.prog 26 #[.slice ad2 lp.length cap2, .slice ad4 lp.length cap4] W' fun e w' => e = .returned (.bool true) ∧ Still W' w') := fun W' hs => sameAll_any ((hp.low hb).still hs) ((jp.low hb).still hs) (by omega)
  have HB := hide hb
  have HA := hide hA
  have HC := hide hB
  have EW := hide hW
  have c0 := hA.cell 0 (v := .slice ad1 lz.length cap1) rfl
  have c1 := hA.cell 1 (v := .slice ad2 lp.length cap2) rfl
  have c2 := hA.cell 2 (v := .complex .f64 gx gy) rfl
  have d0 := hB.cell 0 (v := .slice ad3 lz.length cap3) rfl
  have d1 := hB.cell 1 (v := .slice ad4 lp.length cap4) rfl
  have d2 := hB.cell 2 (v := .complex .f64 gx gy) rfl
  clear hz hp jz jp k1 k2 k3 k4 hb hA hB hW h1
  go_enter Tryz.func9, Tryz.ntmps9
  go_upto_region 1 with fail
  rw [← unhide EW]
  go_wp2_with (go_at_call 26; refine (unhide HSz).mono ?_; rintro e w1 ⟨rfl, hs⟩; have S1 := hide hs; rw [← hs.cell] at c1 c2 d1 d2; clear hs; refine Hid.out ?_)
  refine hide ?_
  go_wp2_with (go_at_call 26; refine (unhide HSp _ (unhide S1)).mono ?_; rintro e w2 ⟨rfl, hs⟩; have S2 := hide ((unhide S1).trans hs); rw [← hs.cell] at c2 d2; clear hs; refine Hid.out ?_)
  refine hide ?_
  go_wp2_with (go_at_call 17; refine (same2_any _ _ _).mono ?_; rintro e w' ⟨rfl, hw'⟩; obtain rfl := hw'.symm)
  go_ret
  exact ⟨rfl, (unhide HB).trans ((unhide S2) _)⟩
/-- A filter's text. -/
def zpkT (gx gy : Nat) (lz lp : List (Nat × Nat)) : List UInt8 := [122, 112, 107, 32] ++ numL gx gy ++ [32, 124] ++ frontT lz ++ [32, 124] ++ frontT lp
set_option maxRecDepth 100000 in
set_option maxHeartbeats 2000000 in
theorem zpkW_any {w : World} {lz lp : List (Nat × Nat)} {vz vp : Value} {gx gy : Nat} (hz : CxAt w vz lz) (hp : CxAt w vp lp) (fz : FinL lz) (fp : FinL lp) (fg : FinL [(gx, gy)]) (nz : lz.length ≤ 24) (np : lp.length ≤ 24) (hG : Gl w.heap.size w) :
    Calls Tryz.prog 10 #[.agg #[vz, vp, .complex .f64 gx gy]] w fun e w' => e = .returned (.tuple #[.string ⟨(zpkT gx gy lz lp).toArray⟩, .int .i64 0]) ∧ Below w.heap.size w w' := by
  obtain ⟨ad1, cap1, rfl, k1⟩ := id hz
  obtain ⟨ad2, cap2, rfl, k2⟩ := id hp
  have hg := fg (gx, gy) (by simp)
  obtain ⟨W, hW⟩ : ∃ W, W = w.alloc (.cells #[.slice ad1 lz.length cap1, .slice ad2 lp.length cap2, .complex .f64 gx gy] 25) := ⟨_, rfl⟩
  obtain ⟨hb, hB⟩ := box_at (w := w) (cs := #[.slice ad1 lz.length cap1, .slice ad2 lp.length cap2, .complex .f64 gx gy]) (t := 25)
  rw [← hW] at hb hB
  have HK := hide (check_any (hz.low hb) (hp.low hb) fz fp fg nz np)
  have hltF := hB.lt
  have c0 := hB.cell 0 (v := .slice ad1 lz.length cap1) rfl
  have c1 := hB.cell 1 (v := .slice ad2 lp.length cap2) rfl
  have c2 := hB.cell 2 (v := .complex .f64 gx gy) rfl
  have HB := hide hb
  have HBk := hide hB
  have HZ := hide (hz.low hb)
  have HP := hide (hp.low hb)
  have HFz := hide fz
  have HFp := hide fp
  have Hgg := hide hg
  have HG := hide ((hG.on hb).up hb.size)
  have EW := hide hW
  clear hz hp fz fp fg k1 k2 hb hB hW hg hG
  go_enter Tryz.func10, Tryz.ntmps10
  go_upto_region 1 with fail
  rw [← unhide EW]
  go_wp2_with (go_at_call 27; refine (unhide HK).mono ?_; rintro e w1 ⟨rfl, hb⟩; have B1 := hide hb; clear hb; refine Hid.out ?_)
  refine hide ?_
  have hF1 := (unhide HBk).below (unhide B1) hltF
  have q2 := hF1.cell 2 (v := .complex .f64 gx gy) rfl
  have hs1 := (unhide B1).size
  have hcv := Go.Lib.run_convert_bytes_const (P := Tryz.prog) w1 45 5 #[.int .u8 122, .int .u8 112, .int .u8 107, .int .u8 32] 4 4 Tryz.underlying45 Tryz.underlying5
  have hal : Below w1.heap.size w1 (w1.alloc (.cells #[.int .u8 122, .int .u8 112, .int .u8 107, .int .u8 32] 5 (4, 5))) := (Below.refl _ _).alloc (Nat.le_refl _) _
  have q2' := (hal.cell (p := ⟨w.heap.size, 2, none⟩) (by show w.heap.size < _; omega)).trans q2
  have X1 := hide ((unhide B1).trans (hal.mono hs1))
  have LI : Hid (Lies W.heap.size (w1.alloc (.cells #[.int .u8 122, .int .u8 112, .int .u8 107, .int .u8 32] 5 (4, 5))) (.slice (some ⟨w1.heap.size, 0, none⟩) 4 4) [122, 112, 107, 32]) := by
    refine ⟨w1.heap.size, rfl, hs1, by rw [alloc_size]; omega, fun j hj => ?_⟩
    rw [cell_of_row _ w1.heap.size _ _ _ _ (heap_alloc_new _ _)]
    have hj4 : j < 4 := hj
    rcases (by omega : j = 0 ∨ j = 1 ∨ j = 2 ∨ j = 3) with rfl | rfl | rfl | rfl <;> rfl
  clear hal hF1
  go_wp2_with (go_at_call 28; refine (number_lies W.heap.size gx gy (unhide Hgg).1 (unhide Hgg).2.1 _ _ _ (unhide LI) (Nat.le_trans hs1 (by rw [alloc_size]; omega)) (by decide) ((unhide HG).on (unhide X1))).mono ?_; rintro e w2 ⟨v2, rfl, h1, h2⟩; have Y2 := hide h1; have X2 := hide ((unhide X1).trans h2); clear h1 h2; refine Hid.out ?_)
  refine hide ?_
  have hgl : (numL gx gy).length ≤ 203 := by have h1 := flt_len gx; have h2 := flt_len gy; unfold numL; simp; omega
  have hlz := front_len lz
  have hlp := front_len lp
  go_wp2_with fail
  have hs2 := (unhide X2).size
  have m2 := ((unhide X2).cell (p := ⟨w.heap.size, 0, none⟩) hltF).trans c0
  have LL2 : ([122, 112, 107, 32] ++ numL gx gy).length ≤ 60000 := by rw [List.length_append]; show 4 + _ ≤ _; omega
  go_cut [5] (fun v wx => Hid (Ow W.heap.size wx v ([122, 112, 107, 32] ++ numL gx gy ++ [32, 124] ++ frontT lz)) ∧ Hid (Below W.heap.size W wx))
  case first =>
    go_region_law (first
      | (refine Ow.step_str (B := W.heap.size) rfl _ _ rfl _ ([122, 112, 107, 32] ++ numL gx gy) rfl (unhide Y2) ⟨#[32, 124]⟩ rfl (by omega) (by decide) hs2 ?_; intro v8 w8 h1 h2; have O8 : Hid (Ow W.heap.size w8 v8 ([122, 112, 107, 32] ++ numL gx gy ++ [32, 124])) := h1; have B8 : Hid (Below W.heap.size W w8) := ((unhide X2).trans ((still_drew w2) _)).trans h2; have m8 := ((unhide B8).cell (p := ⟨w.heap.size, 0, none⟩) hltF).trans c0; clear h1 h2)
      | (go_simp; go_at_call 29; refine (list_any (w0 := W) (unhide HZ) (unhide HFz) (by omega) (unhide B8) (unhide O8) (by rw [List.length_append]; show _ + 2 ≤ _; omega) ((unhide HG).on (unhide B8))).mono ?_; rintro e w9 ⟨v9, rfl, h1, h2⟩; have O9 := hide h1; have B9 := hide ((unhide B8).trans h2); clear h1 h2; dsimp only))
    all_goals go_wp2_with fail
    all_goals go_meet
    all_goals exact ⟨unhide O9, unhide B9⟩
  case rest =>
  obtain ⟨hY, hX⟩ := hcut
  have Yc := hY
  have Xc := hX
  clear hY hX
  go_wp2_with fail
  have hsc := (unhide Xc).size
  have mc := ((unhide Xc).cell (p := ⟨w.heap.size, 1, none⟩) hltF).trans c1
  have LLc : ([122, 112, 107, 32] ++ numL gx gy ++ [32, 124] ++ frontT lz).length ≤ 60000 := by rw [List.length_append, List.length_append]; show _ + 2 + _ ≤ _; rw [List.length_append]; show 4 + _ + 2 + _ ≤ _; omega
  go_cut [5] (fun v wx => Hid (Ow W.heap.size wx v ([122, 112, 107, 32] ++ numL gx gy ++ [32, 124] ++ frontT lz ++ [32, 124] ++ frontT lp)) ∧ Hid (Below W.heap.size W wx))
  case first =>
    go_region_law (first
      | (refine Ow.step_str (B := W.heap.size) rfl _ _ rfl _ ([122, 112, 107, 32] ++ numL gx gy ++ [32, 124] ++ frontT lz) rfl (unhide Yc) ⟨#[32, 124]⟩ rfl (by omega) (by decide) hsc ?_; intro v8 w8 h1 h2; have O8 : Hid (Ow W.heap.size w8 v8 ([122, 112, 107, 32] ++ numL gx gy ++ [32, 124] ++ frontT lz ++ [32, 124])) := h1; have B8 : Hid (Below W.heap.size W w8) := ((unhide Xc).trans ((still_drew wc) _)).trans h2; have m8 := ((unhide B8).cell (p := ⟨w.heap.size, 1, none⟩) hltF).trans c1; clear h1 h2)
      | (go_simp; go_at_call 29; refine (list_any (w0 := W) (unhide HP) (unhide HFp) (by omega) (unhide B8) (unhide O8) (by rw [List.length_append]; show _ + 2 ≤ _; omega) ((unhide HG).on (unhide B8))).mono ?_; rintro e w9 ⟨v9, rfl, h1, h2⟩; have O9 := hide h1; have B9 := hide ((unhide B8).trans h2); clear h1 h2; dsimp only))
    all_goals go_wp2_with fail
    all_goals go_meet
    all_goals exact ⟨unhide O9, unhide B9⟩
  case rest =>
  obtain ⟨hY, hX⟩ := hcut
  have Yd := hY
  have Xd := hX
  clear hY hX
  have hcv2 := Ow.str (unhide Yd) (by intro e; have := congrArg List.length e; simp at this)
  have XD := hide ((unhide HB).trans ((unhide Xd).mono (unhide HB).size))
  clear Yd
  obtain ⟨T, hT⟩ : ∃ T : ByteArray, T = ⟨(zpkT gx gy lz lp).toArray⟩ := ⟨_, rfl⟩
  change _ = Result.ok (Value.string ⟨(zpkT gx gy lz lp).toArray⟩) _ at hcv2
  rw [← hT] at hcv2
  have HT := hide hT
  clear hT
  go_wp2_with fail
  go_ret2
  refine ⟨?_, unhide XD⟩
  rw [← unhide HT]
  rfl
end Go.Proofs.YtbkjmnopljmanaaGreatDoor

/- TextReadZpks' walk. -/
namespace Go.Proofs.YtbkjmnopljmanaaGreatDoor
open Go.RowKit

theorem CxAt.nil (w : World) : CxAt w (.slice none 0 0) [] := ⟨none, 0, rfl, fun _ hj => absurd hj (Nat.not_lt_zero _)⟩
set_option maxRecDepth 100000 in
set_option maxHeartbeats 2000000 in
theorem readZpks_any (s : ByteArray) (w : World) (hG : Gl w.heap.size w) : Calls Tryz.prog 3 #[.string s] w fun e w' => e = .returned (.bool true) ∧ Below w.heap.size w w' := by
  have G0 := hide hG
  clear hG
  rcases zpk_both s with ⟨q, er, Z⟩ | ⟨gx, gy, lz, lp, Z⟩
  · have HR := hide Z.prog
    have HD := hide Z.doc
    have hne := Z.ne
    have n1 : ((q : Int) != (q : Int)) = false := by simp
    have n2 : ((er : Int) != (er : Int)) = false := by simp
    have n3 : ((er : Int) == 0) = false := by rw [beq_eq_false_iff_ne]; omega
    clear Z hne
    have hsc := run_store_c
    go_enter Tryz.func3, Tryz.ntmps3
    go_wp2_with (go_at_call 6; refine (unhide HR _ (unhide G0)).mono ?_; rintro e w1 ⟨rfl, hb⟩; have B1 := hide hb; have G1 := hide ((unhide G0).next hb); clear hb; refine Hid.out ?_)
    refine hide ?_
    have al1 : Below w1.heap.size w1 (w1.alloc (.cells #[.slice none 0 0, .slice none 0 0, .complex .f64 0 0] 25)) := (Below.refl _ _).alloc (Nat.le_refl _) _
    have bk1 : Blk (w1.alloc (.cells #[.slice none 0 0, .slice none 0 0, .complex .f64 0 0] 25)) w1.heap.size #[.slice none 0 0, .slice none 0 0, .complex .f64 0 0] 25 := Blk.alloc
    have AL1 := hide al1
    have BK1 := hide bk1
    clear al1 bk1
    go_wp2_with (go_at_call 7; refine (unhide HD _).mono ?_; rintro e w2 ⟨rfl, hb⟩; have B2 := hide (below_next (unhide AL1) hb); have BK2 := hide ((unhide BK1).below hb (unhide BK1).lt); clear hb; refine Hid.out ?_)
    refine hide ?_
    have al2 : Below w2.heap.size w2 (w2.alloc (.cells #[.slice none 0 0, .slice none 0 0, .complex .f64 0 0] 25)) := (Below.refl _ _).alloc (Nat.le_refl _) _
    have bk2 : Blk (w2.alloc (.cells #[.slice none 0 0, .slice none 0 0, .complex .f64 0 0] 25)) w2.heap.size #[.slice none 0 0, .slice none 0 0, .complex .f64 0 0] 25 := Blk.alloc
    have AL2 := hide al2
    have BL2 := hide bk2
    have G2 := hide (((unhide G1).next (unhide B2)).next al2)
    have BK3 := hide ((unhide BK2).below al2 (unhide BK2).lt)
    clear al2 bk2
    go_wp2_with (go_at_call 8; refine (awake_any _ (unhide G2)).mono ?_; rintro e w3 ⟨rfl, hb⟩; have B3 := hide (below_next (unhide AL2) hb); have G3 := hide ((unhide G2).next hb); have BK4 := hide ((unhide BK3).below hb (unhide BK3).lt); have BL4 := hide ((unhide BL2).below hb (unhide BL2).lt); clear hb; refine Hid.out ?_)
    refine hide ?_
    have c0 := (unhide BK4).cell 0 (v := .slice none 0 0) rfl
    have c1 := (unhide BK4).cell 1 (v := .slice none 0 0) rfl
    have c2 := (unhide BK4).cell 2 (v := .complex .f64 0 0) rfl
    have d0 := (unhide BL4).cell 0 (v := .slice none 0 0) rfl
    have d1 := (unhide BL4).cell 1 (v := .slice none 0 0) rfl
    have d2 := (unhide BL4).cell 2 (v := .complex .f64 0 0) rfl
    have W13 := hide (below_next (unhide B2) (unhide B3))
    go_wp2_with (go_at_call 9; refine (sameZpk_any (lz := []) (lp := []) ((CxAt.nil w1).low (unhide W13)) ((CxAt.nil w1).low (unhide W13)) ((CxAt.nil w2).low (unhide B3)) ((CxAt.nil w2).low (unhide B3)) (by first | omega | decide) (by first | omega | decide)).mono ?_; rintro e w4 ⟨rfl, hb⟩; have B4 := hide (below_next (unhide W13) hb); have G4 := hide ((unhide G3).next hb); have BK5 := hide ((unhide BK4).below hb (unhide BK4).lt); clear hb; refine Hid.out ?_)
    refine hide ?_
    go_wp2_with fail
    go_ret
    exact ⟨rfl, below_next (unhide B1) (unhide B4)⟩
  · have HR := hide Z.prog
    have HD := hide Z.doc
    have nz := Z.nz
    have np := Z.np
    have HF := hide Z
    have hq : (zpkT gx gy lz lp == s.toList) = true := by
      have := Z.told
      unfold zpkT
      rw [this]; simp
    clear Z
    have hsc := run_store_c
    go_enter Tryz.func3, Tryz.ntmps3
    go_wp2_with (go_at_call 6; refine (unhide HR _ (unhide G0)).mono ?_; rintro e w1 ⟨vz, vp, rfl, oz, op, hb⟩; obtain ⟨ad1, cap1, rfl, _⟩ := id oz.at; obtain ⟨ad2, cap2, rfl, _⟩ := id op.at; have Z1 := hide oz.at; have P1 := hide op.at; clear oz op; have B1 := hide hb; have G1 := hide ((unhide G0).next hb); clear hb; refine Hid.out ?_)
    refine hide ?_
    have al1 : Below w1.heap.size w1 (w1.alloc (.cells #[.slice ad1 lz.length cap1, .slice ad2 lp.length cap2, .complex .f64 gx gy] 25)) := (Below.refl _ _).alloc (Nat.le_refl _) _
    have bk1 : Blk (w1.alloc (.cells #[.slice ad1 lz.length cap1, .slice ad2 lp.length cap2, .complex .f64 gx gy] 25)) w1.heap.size #[.slice ad1 lz.length cap1, .slice ad2 lp.length cap2, .complex .f64 gx gy] 25 := Blk.alloc
    have AL1 := hide al1
    have BK1 := hide bk1
    clear al1 bk1
    go_wp2_with (go_at_call 7; refine (unhide HD _).mono ?_; rintro e w2 ⟨uz, up, rfl, oz, op, hb⟩; obtain ⟨ad3, cap3, rfl, _⟩ := id oz.at; obtain ⟨ad4, cap4, rfl, _⟩ := id op.at; have U2 := hide oz.at; have V2 := hide op.at; clear oz op; have B2 := hide (below_next (unhide AL1) hb); have BK2 := hide ((unhide BK1).below hb (unhide BK1).lt); clear hb; refine Hid.out ?_)
    refine hide ?_
    have al2 : Below w2.heap.size w2 (w2.alloc (.cells #[.slice ad3 lz.length cap3, .slice ad4 lp.length cap4, .complex .f64 gx gy] 25)) := (Below.refl _ _).alloc (Nat.le_refl _) _
    have bk2 : Blk (w2.alloc (.cells #[.slice ad3 lz.length cap3, .slice ad4 lp.length cap4, .complex .f64 gx gy] 25)) w2.heap.size #[.slice ad3 lz.length cap3, .slice ad4 lp.length cap4, .complex .f64 gx gy] 25 := Blk.alloc
    have AL2 := hide al2
    have BL2 := hide bk2
    have G2 := hide (((unhide G1).next (unhide B2)).next al2)
    have BK3 := hide ((unhide BK2).below al2 (unhide BK2).lt)
    clear al2 bk2
    go_wp2_with (go_at_call 8; refine (awake_any _ (unhide G2)).mono ?_; rintro e w3 ⟨rfl, hb⟩; have B3 := hide (below_next (unhide AL2) hb); have G3 := hide ((unhide G2).next hb); have BK4 := hide ((unhide BK3).below hb (unhide BK3).lt); have BL4 := hide ((unhide BL2).below hb (unhide BL2).lt); clear hb; refine Hid.out ?_)
    refine hide ?_
    have c0 := (unhide BK4).cell 0 (v := .slice ad1 lz.length cap1) rfl
    have c1 := (unhide BK4).cell 1 (v := .slice ad2 lp.length cap2) rfl
    have c2 := (unhide BK4).cell 2 (v := .complex .f64 gx gy) rfl
    have d0 := (unhide BL4).cell 0 (v := .slice ad3 lz.length cap3) rfl
    have d1 := (unhide BL4).cell 1 (v := .slice ad4 lp.length cap4) rfl
    have d2 := (unhide BL4).cell 2 (v := .complex .f64 gx gy) rfl
    have W13 := hide (below_next (unhide B2) (unhide B3))
    go_wp2_with (go_at_call 9; refine (sameZpk_any (lz := lz) (lp := lp) ((unhide Z1).low (unhide W13)) ((unhide P1).low (unhide W13)) ((unhide U2).low (unhide B3)) ((unhide V2).low (unhide B3)) (by first | omega | decide) (by first | omega | decide)).mono ?_; rintro e w4 ⟨rfl, hb⟩; have B4 := hide (below_next (unhide W13) hb); have G4 := hide ((unhide G3).next hb); have BK5 := hide ((unhide BK4).below hb (unhide BK4).lt); clear hb; refine Hid.out ?_)
    refine hide ?_
    have e0 := (unhide BK5).cell 0 (v := .slice ad1 lz.length cap1) rfl
    have e1 := (unhide BK5).cell 1 (v := .slice ad2 lp.length cap2) rfl
    have e2 := (unhide BK5).cell 2 (v := .complex .f64 gx gy) rfl
    go_wp2_with (go_at_call 10; refine (zpkW_any ((unhide Z1).low (unhide B4)) ((unhide P1).low (unhide B4)) (unhide HF).fz (unhide HF).fp (unhide HF).gain (by omega) (by omega) (unhide G4)).mono ?_; rintro e w5 ⟨rfl, hb⟩; have B5 := hide (below_next (unhide B4) hb); clear hb)
    go_ret
    exact ⟨rfl, below_next (unhide B1) (unhide B5)⟩
end Go.Proofs.YtbkjmnopljmanaaGreatDoor
