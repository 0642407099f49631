/- What is refused, what nil answers, and the numbers of the document's examples, for layer 19. -/
import Derived.Test.YthafffnebaaeiaaDoorG19b
namespace Go.Proofs.YthafffnebaaeiaaDoor
open Go.RowKit

set_option maxHeartbeats 1000000 in
theorem inf_pos (w : World) : Calls Tryd.prog 5 #[.int .i64 1] w fun e w' => e = .returned (.float .f64 9218868437227405312) ∧ w' = w := by
  have hy := run_frombits
  go_enter Tryd.func5, Tryd.ntmps5
  go_wp2
  go_ret
  exact ⟨rfl, rfl⟩
set_option maxHeartbeats 1000000 in
theorem nan_any (w : World) : Calls Tryd.prog 6 #[] w fun e w' => e = .returned (.float .f64 9221120237041090561) ∧ w' = w := by
  have hy := run_frombits
  go_enter Tryd.func6, Tryd.ntmps6
  go_wp2
  go_ret
  exact ⟨rfl, rfl⟩
set_option maxHeartbeats 1000000 in
theorem abs_any (b : Nat) (hb : b < 18446744073709551616) (w : World) :
    Calls Tryd.prog 31 #[.float .f64 b] w fun e w' => e = .returned (.float .f64 (b % 9223372036854775808)) ∧ w' = w := by
  have hx := run_bits
  have hy := run_frombits
  have Hk : Hid ((bits .andNot .u64 (b : Int) 9223372036854775808).toNat = b % 9223372036854775808) := by
    show _ = _
    rw [u64_andNot _ _ (by omega) (by omega) (by omega) (by omega)]
    rw [show 18446744073709551615 - (9223372036854775808 : Int).toNat = 2 ^ 63 - 1 by decide, Int.toNat_natCast, Nat.and_two_pow_sub_one_eq_mod]
    rfl
  clear hb
  go_enter Tryd.func31, Tryd.ntmps31
  go_wp2
  go_ret
  rw [← unhide Hk]
  exact ⟨rfl, rfl⟩
theorem isnan_run (b : Nat) (hb : b < 18446744073709551616) (w : World) : Calls Tryd.prog 18 #[.float .f64 b] w fun e w' => e = .returned (.bool (isnan b)) ∧ w' = w := by
  have Hk := hide (neq_self b hb)
  clear hb
  go_enter Tryd.func18, Tryd.ntmps18
  go_wp2
  go_ret
  rw [← unhide Hk]
  exact ⟨rfl, rfl⟩
set_option maxHeartbeats 1000000 in
theorem isinf_1 (w : World) : Calls Tryd.prog 19 #[.float .f64 9218868437227405312, .int .i64 1] w fun e w' => e = .returned (.bool true) ∧ w' = w := by
  have h : (FloatKind.f64.format.order 9218868437227405312 9218868437227405311 == some .gt) = true := by kernel_rfl
  go_enter Tryd.func19, Tryd.ntmps19
  go_wp2
  go_ret
  exact ⟨rfl, rfl⟩
set_option maxHeartbeats 1000000 in
theorem isinf_one0 (w : World) : Calls Tryd.prog 19 #[.float .f64 4607182418800017408, .int .i64 0] w fun e w' => e = .returned (.bool false) ∧ w' = w := by
  have h : (FloatKind.f64.format.order 4607182418800017408 9218868437227405311 == some .gt) = false := by kernel_rfl
  have Ha := hide (abs_any 4607182418800017408 (by omega))
  go_enter Tryd.func19, Tryd.ntmps19
  go_wp2_with fail
  refine (unhide Ha _).mono ?_
  rintro e w' ⟨rfl, rfl⟩
  go_wp2
  go_ret
  exact ⟨rfl, rfl⟩
set_option maxHeartbeats 1000000 in
theorem normal_one (w : World) : Calls Tryd.prog 34 #[.float .f64 4607182418800017408] w fun e w' => e = .returned (.tuple #[.float .f64 4607182418800017408, .int .i64 0]) ∧ w' = w := by
  have h : (FloatKind.f64.format.order 4607182418800017408 4503599627370496 == some .lt) = false := by kernel_rfl
  have Ha := hide (abs_any 4607182418800017408 (by omega))
  go_enter Tryd.func34, Tryd.ntmps34
  go_wp2_with fail
  refine (unhide Ha _).mono ?_
  rintro e w' ⟨rfl, rfl⟩
  go_wp2
  go_ret2
  exact ⟨rfl, rfl⟩
set_option maxRecDepth 100000 in
set_option maxHeartbeats 1000000 in
theorem ldexp_in (w : World) : Calls Tryd.prog 23 #[.float .f64 4607182418800017408, .int .i64 (-1030)] w fun e w' => e = .returned (.float .f64 17592186044416) ∧ w' = w := by
  have hx := run_bits
  have hy := run_frombits
  have h0 : (FloatKind.f64.format.order 4607182418800017408 0 == some .eq) = false := by kernel_rfl
  have hn := isnan_run 4607182418800017408 (by omega)
  rw [show isnan 4607182418800017408 = false by decide] at hn
  have Hn := hide hn
  clear hn
  have q1 : bits .and .i64 1023 2047 = 1023 := by decide
  have q2 : bits .andNot .u64 4607182418800017408 9218868437227405312 = 0 := by decide
  have q3 : bits .or .u64 0 207165582859042816 = 207165582859042816 := by decide
  have hm : ∀ w, (binOp .mul 23 (.float .f64 4368491638549381120) (.float .f64 207165582859042816)).run Tryd.prog w = .ok (.float .f64 17592186044416) w := fun w => run_fl (by kernel_rfl) w
  go_enter Tryd.func23, Tryd.ntmps23
  go_wp2_with fail
  refine (isinf_one0 _).mono ?_
  rintro e w' ⟨rfl, rfl⟩
  go_wp2_with fail
  refine (unhide Hn _).mono ?_
  rintro e w' ⟨rfl, rfl⟩
  go_wp2_with fail
  refine (normal_one _).mono ?_
  rintro e w' ⟨rfl, rfl⟩
  go_wp2
  go_ret
  exact ⟨rfl, rfl⟩
set_option maxHeartbeats 1000000 in
theorem ldexp_run (w : World) : Calls Tryd.prog 8 #[.float .f64 4607182418800017408, .int .i64 (-1030)] w fun e w' => e = .returned (.float .f64 17592186044416) ∧ w' = w := by
  go_enter Tryd.func8, Tryd.ntmps8
  go_wp2_with fail
  refine (ldexp_in _).mono ?_
  rintro e w' ⟨rfl, rfl⟩
  go_wp2
  go_ret
  exact ⟨rfl, rfl⟩

/-! What is refused. -/
/-- A number that is not finite. -/
def NotFin (u : Value) : Prop := ∃ r i, u = .complex .f64 r i ∧ r < 18446744073709551616 ∧ i < 18446744073709551616 ∧ ¬ max (cls r) (cls i) < 3
theorem finite_no (a b : Nat) (ha : a < 18446744073709551616) (hb : b < 18446744073709551616) (h : ¬ max (cls a) (cls b) < 3) (w : World) :
    Calls Tryd.prog 42 #[.complex .f64 a b] w fun e w' => e = .returned (.bool false) ∧ w' = w := by
  have := finite_any a b ha hb w
  rw [decide_eq_false h] at this
  exact this
set_option maxRecDepth 100000 in
set_option maxHeartbeats 1000000 in
theorem nfinite_no (A m c k0 : Nat) (hm : m ≤ 1000) (hk0 : k0 < m) (w : World) (h : ∀ j, j < k0 → ∃ u, w.cell? ⟨A, j, none⟩ = some u ∧ FinV u) (hbad : ∃ u, w.cell? ⟨A, k0, none⟩ = some u ∧ NotFin u) :
    Calls Tryd.prog 40 #[.slice (some ⟨A, 0, none⟩) m c] w fun e w' => e = .returned (.bool false) ∧ w' = w := by
  have H := hide h
  have HB := hide hbad
  clear h hbad
  go_enter Tryd.func40, Tryd.ntmps40
  go_wp2_with fail
  go_loopw [7] (fun i wr => ∃ k : Nat, k ≤ k0 ∧ i = .int .i64 k ∧ wr = w) (fun i _ => m - (intOf i).toNat)
  case atStart => exact ⟨0, Nat.zero_le _, rfl, rfl⟩
  case round =>
    obtain ⟨k, hk, rfl, rfl⟩ := hrel
    have hkm' : (k : Int) < (m : Int) := by omega
    by_cases hkk : k < k0
    · obtain ⟨u, hu, r, i, rfl, hr, hi, hf⟩ := unhide H k hkk
      have Hf := hide (finite_yes r i hr hi hf)
      clear hr hi hf
      go_wp2_with fail
      refine (unhide Hf _).mono ?_
      rintro e w' ⟨rfl, rfl⟩
      go_wp2
      go_roundw
      case rel => exact ⟨k + 1, by omega, by go_num, trivial⟩
      case measure => simp [intOf]; omega
    · have : k = k0 := by omega
      subst this
      obtain ⟨u, hu, r, i, rfl, hr, hi, hf⟩ := unhide HB
      have Hf := hide (finite_no r i hr hi hf)
      clear hr hi hf
      go_wp2_with fail
      refine (unhide Hf _).mono ?_
      rintro e w' ⟨rfl, rfl⟩
      go_wp2
      go_ret
      exact ⟨rfl, rfl⟩
set_option maxRecDepth 100000 in
set_option maxHeartbeats 1000000 in
theorem cfinite_gain (g g' : Nat) (w : World) (hg : NotFin (.complex .f64 g g')) :
    Calls Tryd.prog 35 #[.agg #[.complex .f64 g g', .slice none 0 0]] w fun e w' => e = .returned (.bool false) ∧ Below w.heap.size w w' := by
  have Hg := hide hg
  clear hg
  go_enter Tryd.func35, Tryd.ntmps35
  go_wp2_with fail
  obtain ⟨W, hW⟩ : ∃ W, W = w.alloc (Obj.cells #[.complex .f64 g g', .slice none 0 0] 40) := ⟨_, rfl⟩
  rw [← hW]
  have hbw : Below w.heap.size w W := by rw [hW]; exact (Below.refl _ _).alloc (Nat.le_refl _) _
  have hcw : W.cell? ⟨w.heap.size, 0, none⟩ = some (.complex .f64 g g') := by rw [hW]; go_simp
  clear hW
  go_loopw [8] (fun i wr => i = .int .i64 0 ∧ wr = W) (fun i _ => 0)
  case atStart => exact ⟨rfl, rfl⟩
  case round =>
    obtain ⟨rfl, rfl⟩ := hrel
    go_wp2_with fail
    refine (nfinite_no wr.heap.size 1 1 0 (by omega) (by omega) _ ?_ ?_).mono ?_
    · intro j hj
      omega
    · refine ⟨_, ?_, unhide Hg⟩
      go_simp
    rintro e w3 ⟨rfl, rfl⟩
    go_wp2
    go_ret
    exact ⟨rfl, hbw.alloc hbw.size _⟩
set_option maxRecDepth 100000 in
set_option maxHeartbeats 1000000 in
theorem cfinite_sec (g g' n c b k0 : Nat) (w : World) (hk0 : k0 < n) (hn : n ≤ 16) (hb : b < w.heap.size)
    (hs : ∀ i, i < k0 → ∃ u0 u1 u2 u3 u4, w.rangeAt b (i * 5) [u0, u1, u2, u3, u4] ∧ FinV u0 ∧ FinV u1 ∧ FinV u2 ∧ FinV u3 ∧ FinV u4)
    (hbad : ∃ u0 u1 u2 u3 u4, w.rangeAt b (k0 * 5) [u0, u1, u2, u3, u4] ∧ FinV u0 ∧ FinV u1 ∧ FinV u2 ∧ NotFin u3 ∧ FinV u4) :
    Calls Tryd.prog 35 #[.agg #[.complex .f64 g g', .slice (some ⟨b, 0, none⟩) n c]] w fun e w' => e = .returned (.bool false) ∧ Below w.heap.size w w' := by
  have H := hide hs
  have HB := hide hbad
  clear hs hbad
  go_enter Tryd.func35, Tryd.ntmps35
  go_wp2_with fail
  obtain ⟨W, hW⟩ : ∃ W, W = w.alloc (Obj.cells #[.complex .f64 g g', .slice (some ⟨b, 0, none⟩) n c] 40) := ⟨_, rfl⟩
  rw [← hW]
  have hbw : Below w.heap.size w W := by rw [hW]; exact (Below.refl _ _).alloc (Nat.le_refl _) _
  have hsz : W.heap.size = w.heap.size + 1 := by rw [hW]; simp
  clear hW
  go_loopw [8] (fun i wr => ∃ k : Nat, k ≤ k0 ∧ i = .int .i64 k ∧ Below (w.heap.size + 1) W wr) (fun i _ => n - (intOf i).toNat)
  case atStart => exact ⟨0, Nat.zero_le _, rfl, Below.refl _ _⟩
  case round =>
    obtain ⟨k, hk, rfl, hbl⟩ := hrel
    have hkn' : (k : Int) < (n : Int) := by omega
    have hws : w.heap.size + 1 ≤ wr.heap.size := by have := hbl.size; omega
    obtain ⟨v0, v1, v2, v3, v4, hra, f0, f1, f2, f3, f4⟩ : ∃ u0 u1 u2 u3 u4, w.rangeAt b (k * 5) [u0, u1, u2, u3, u4] ∧ FinV u0 ∧ FinV u1 ∧ FinV u2 ∧ (k < k0 → FinV u3) ∧ FinV u4 := by
      by_cases hkk : k < k0
      · obtain ⟨u0, u1, u2, u3, u4, h1, h2, h3, h4, h5, h6⟩ := unhide H k hkk
        exact ⟨u0, u1, u2, u3, u4, h1, h2, h3, h4, fun _ => h5, h6⟩
      · obtain rfl : k = k0 := by omega
        obtain ⟨u0, u1, u2, u3, u4, h1, h2, h3, h4, h5, h6⟩ := unhide HB
        exact ⟨u0, u1, u2, u3, u4, h1, h2, h3, h4, fun h => by omega, h6⟩
    have f3' : k = k0 → NotFin v3 := fun e => by
      subst e
      obtain ⟨u0, u1, u2, u3, u4, h1, h2, h3, h4, h5, h6⟩ := unhide HB
      have e1 := hra 3 _ rfl
      have e2 := h1 3 _ rfl
      rw [e1] at e2
      rw [Option.some.inj e2]
      exact h5
    obtain ⟨b0, b0', rfl, _⟩ := id f0
    obtain ⟨b1, b1', rfl, _⟩ := id f1
    obtain ⟨b2, b2', rfl, _⟩ := id f2
    obtain ⟨a1, a1', rfl⟩ : ∃ a a', v3 = .complex .f64 a a' := by
      by_cases hkk : k < k0
      · obtain ⟨a, a', e, _⟩ := f3 hkk
        exact ⟨a, a', e⟩
      · obtain ⟨a, a', e, _⟩ := f3' (by omega)
        exact ⟨a, a', e⟩
    obtain ⟨a2, a2', rfl, _⟩ := id f4
    have hc : ∀ j x, [Value.complex .f64 b0 b0', .complex .f64 b1 b1', .complex .f64 b2 b2', .complex .f64 a1 a1', .complex .f64 a2 a2'][j]? = some x → wr.cell? ⟨b, k * 5 + j, none⟩ = some x := fun j x hx => by
      have h1 := hra j x hx
      rw [hbl.cell (by show b < _; omega), hbw.cell (by exact hb)]
      exact h1
    have l0 : wr.cell? ⟨b, k * 5, none⟩ = some (.complex .f64 b0 b0') := hc 0 _ rfl
    have l1 : wr.cell? ⟨b, k * 5 + 1, none⟩ = some (.complex .f64 b1 b1') := hc 1 _ rfl
    have l2 : wr.cell? ⟨b, k * 5 + 2, none⟩ = some (.complex .f64 b2 b2') := hc 2 _ rfl
    have l3 : wr.cell? ⟨b, k * 5 + 3, none⟩ = some (.complex .f64 a1 a1') := hc 3 _ rfl
    have l4 : wr.cell? ⟨b, k * 5 + 4, none⟩ = some (.complex .f64 a2 a2') := hc 4 _ rfl
    have Hc := hide (coeff_any b0 b0' b1 b1' b2 b2' a1 a1' a2 a2')
    have Hf := hide (And.intro f0 (And.intro f1 (And.intro f2 (And.intro f3 (And.intro f3' f4)))))
    have Hb := hide hbl
    clear hra hc f0 f1 f2 f3 f4 f3' hbl
    have hsc := run_store_c
    go_wp2_with fail
    refine (unhide Hc _).mono ?_
    rintro e w2 ⟨A, rfl, hr2, hb2⟩
    have hb3 : Below (w.heap.size + 1) wr w2 := by
      refine Below.trans ?_ (hb2.mono ?_)
      · exact (Below.refl _ wr).alloc hws _
      · simp; omega
    have Hbb := hide ((unhide Hb).trans hb3)
    by_cases hkk : k < k0
    · have Hn := hide (nfinite_any A 0 5 5 (by omega) w2 (fun j hj => by
        obtain ⟨f0, f1, f2, f3, _, f4⟩ := unhide Hf
        rcases (by omega : j = 0 ∨ j = 1 ∨ j = 2 ∨ j = 3 ∨ j = 4) with rfl | rfl | rfl | rfl | rfl
        · exact ⟨_, hr2 0 _ rfl, f0⟩
        · exact ⟨_, hr2 1 _ rfl, f1⟩
        · exact ⟨_, hr2 2 _ rfl, f2⟩
        · exact ⟨_, hr2 3 _ rfl, f3 hkk⟩
        · exact ⟨_, hr2 4 _ rfl, f4⟩))
      clear hr2 hb2 hb3
      go_wp2_with fail
      refine (unhide Hn).mono ?_
      rintro e w3 ⟨rfl, rfl⟩
      go_wp2
      go_roundw
      case rel => exact ⟨k + 1, by omega, by go_num, unhide Hbb⟩
      case measure => simp [intOf]; omega
    · obtain rfl : k = k0 := by omega
      have Hn := hide (nfinite_no A 5 5 3 (by omega) (by omega) w2 (fun j hj => by
        obtain ⟨f0, f1, f2, f3, _, f4⟩ := unhide Hf
        have hz : ∀ j, (⟨A, 0 + j, none⟩ : Addr) = ⟨A, j, none⟩ := fun j => by rw [Nat.zero_add]
        rcases (by omega : j = 0 ∨ j = 1 ∨ j = 2) with rfl | rfl | rfl
        · exact ⟨_, hr2 0 _ rfl, f0⟩
        · exact ⟨_, hr2 1 _ rfl, f1⟩
        · exact ⟨_, hr2 2 _ rfl, f2⟩) ⟨_, hr2 3 _ rfl, (unhide Hf).2.2.2.2.1 rfl⟩)
      clear hr2 hb2 hb3
      go_wp2_with fail
      refine (unhide Hn).mono ?_
      rintro e w3 ⟨rfl, rfl⟩
      go_wp2
      go_ret
      exact ⟨rfl, hbw.trans ((unhide Hbb).mono (by omega))⟩

set_option maxRecDepth 100000 in
set_option maxHeartbeats 1000000 in
theorem cnew_long (g g' n c : Nat) (ad : Option Addr) (w : World) (hn : 16 < n) : Calls Tryd.prog 26 #[.agg #[.complex .f64 g g', .slice ad n c]] w fun e w' => e = .returned (.tuple #[.pointer none, .int .i64 2]) ∧ Below w.heap.size w w' := by
  have hn' : (16 : Int) < (n : Int) := by omega
  go_enter Tryd.func26, Tryd.ntmps26
  go_wp2
  go_ret2
  exact ⟨rfl, (Below.refl _ w).alloc (Nat.le_refl _) _⟩
set_option maxRecDepth 100000 in
set_option maxHeartbeats 1000000 in
theorem cnew_nan (g g' n c : Nat) (ad : Option Addr) (w : World) (hn : n ≤ 16) (hf : ∀ w', Below w.heap.size w w' → Calls Tryd.prog 35 #[.agg #[.complex .f64 g g', .slice ad n c]] w' fun e w'' => e = .returned (.bool false) ∧ Below w'.heap.size w' w'') :
    Calls Tryd.prog 26 #[.agg #[.complex .f64 g g', .slice ad n c]] w fun e w' => e = .returned (.tuple #[.pointer none, .int .i64 5]) ∧ Below w.heap.size w w' := by
  have hn' : ¬ ((16 : Int) < (n : Int)) := by omega
  have Hf := hide (hf _ ((Below.refl _ w).alloc (Nat.le_refl _) (Obj.cells #[.complex .f64 g g', .slice ad n c] 40)))
  clear hf
  go_enter Tryd.func26, Tryd.ntmps26
  go_wp2_with fail
  refine (unhide Hf).mono ?_
  rintro e w1 ⟨rfl, hb1⟩
  have Hb := hide (((Below.refl _ w).alloc (Nat.le_refl _) (Obj.cells #[.complex .f64 g g', .slice ad n c] 40)).trans (hb1.mono (by simp)))
  clear hb1
  go_wp2
  go_ret2
  exact ⟨rfl, unhide Hb⟩
set_option maxRecDepth 100000 in
set_option maxHeartbeats 1000000 in
theorem gnew_err (g g' n c : Nat) (ad : Option Addr) (fl cp mu : Bool) (e0 : Int) (w : World) (he : e0 = 2 ∨ e0 = 5) (hf : ∀ w', Below w.heap.size w w' → Calls Tryd.prog 26 #[.agg #[.complex .f64 g g', .slice ad n c]] w' fun e w'' => e = .returned (.tuple #[.pointer none, .int .i64 e0]) ∧ Below w'.heap.size w' w'') :
    Calls Tryd.prog 11 #[.agg #[.complex .f64 g g', .slice ad n c], .agg #[.bool fl, .bool cp, .bool mu]] w fun e w' => e = .returned (.tuple #[.pointer none, .int .i64 e0]) ∧ Below w.heap.size w w' := by
  have hb0 : Below w.heap.size w ((w.alloc (Obj.cells #[.complex .f64 g g', .slice ad n c] 40)).alloc (Obj.cells #[.bool fl, .bool cp, .bool mu] 30)) := ((Below.refl _ w).alloc (Nat.le_refl _) _).alloc (by simp) _
  have Hf := hide (hf _ hb0)
  have Hb0 := hide hb0
  have hq : (e0 != 0) = true := by rcases he with rfl | rfl <;> rfl
  clear hf hb0
  go_enter Tryd.func11, Tryd.ntmps11
  go_wp2_with fail
  refine (unhide Hf).mono ?_
  rintro e w1 ⟨rfl, hb1⟩
  have Hb := hide ((unhide Hb0).trans (hb1.mono (unhide Hb0).size))
  clear hb1
  go_wp2
  go_ret2
  exact ⟨rfl, unhide Hb⟩
set_option maxHeartbeats 1000000 in
theorem run_nil (v : Value) (w : World) : Calls Tryd.prog 13 #[.pointer none, v] w fun e w' => e = .returned (.slice none 0 0) ∧ w' = w := by
  go_enter Tryd.func13, Tryd.ntmps13
  go_wp2
  go_ret
  exact ⟨rfl, rfl⟩
set_option maxHeartbeats 1000000 in
theorem changed_nil (w : World) : Calls Tryd.prog 15 #[.pointer none] w fun e w' => e = .returned (.int .u64 0) ∧ w' = w := by
  go_enter Tryd.func15, Tryd.ntmps15
  go_wp2
  go_ret
  exact ⟨rfl, rfl⟩
set_option maxHeartbeats 1000000 in
theorem states_nil (w : World) : Calls Tryd.prog 16 #[.pointer none] w fun e w' => e = .returned (.slice none 0 0) ∧ w' = w := by
  go_enter Tryd.func16, Tryd.ntmps16
  go_wp2
  go_ret
  exact ⟨rfl, rfl⟩
end Go.Proofs.YthafffnebaaeiaaDoor
