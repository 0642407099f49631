/- What Cycle and Step answer at QuantFixed's numbers; its walk. -/
import Derived.Test.YtlajalfdcfkmpabFb
namespace Go.Proofs.Ytlajalfdcfkmpab
open Go.RowKit

/-- What Cycle answers is one. -/
theorem CycIs.unique {f : Fx} {s : St} {n a b e a' b' e' : Int} (h : CycIs f s n a b e) (h' : CycIs f s n a' b' e') : a = a' ∧ b = b' ∧ e = e' := by
  rcases h with ⟨h0, rfl, rfl, rfl⟩ | ⟨h1, h2, h3, h⟩
  · rcases h' with ⟨_, rfl, rfl, rfl⟩ | ⟨g1, g2, g3, _⟩
    · exact ⟨rfl, rfl, rfl⟩
    · rcases h0 with h | h | h
      · omega
      · omega
      · rw [g3] at h; cases h
  · rcases h' with ⟨g0, _⟩ | ⟨_, _, _, h'⟩
    · rcases g0 with h | h | h
      · omega
      · omega
      · rw [h3] at h; cases h
    · rcases h with ⟨rfl, rfl, rfl, hn⟩ | ⟨rfl, A, C, rfl, rfl, hC, hle, hAC, hun⟩
      · rcases h' with ⟨rfl, rfl, rfl, _⟩ | ⟨rfl, A, C, rfl, rfl, hC, hle, hAC, hun⟩
        · exact ⟨rfl, rfl, rfl⟩
        · exact absurd hAC.symm (hn A (A + C) (by omega) (by omega))
      · rcases h' with ⟨rfl, rfl, rfl, hn⟩ | ⟨rfl, A', C', rfl, rfl, hC', hle', hAC', hun'⟩
        · exact absurd hAC.symm (hn A (A + C) (by omega) (by omega))
        · have e1 : A + C = A' + C' := by
            rcases Nat.lt_trichotomy (A + C) (A' + C') with h | h | h
            · exact absurd hAC.symm (hun' A (A + C) (by omega) h)
            · exact h
            · exact absurd hAC'.symm (hun A' (A' + C') (by omega) h)
          have e2 : so f (kpS s) A = so f (kpS s) A' := by rw [← hAC, ← hAC', e1]
          have e3 : A = A' := by
            rcases Nat.lt_trichotomy A A' with h | h | h
            · exact absurd e2 (hun A A' h (by omega))
            · exact h
            · exact absurd e2.symm (hun A' A h (by omega))
          subst e3
          exact ⟨rfl, by omega, rfl⟩

theorem cyc_held (w : World) : Calls Try.prog 12 #[.agg #[.int .i64 1, .int .i64 0, .int .i64 0, .int .i64 0, .int .i64 (-2), .int .i64 0], .agg #[.int .i64 0, .int .i64 0, .int .i64 7, .int .i64 0], .int .i64 2] w fun e w' => e = .returned (.tuple #[.int .i64 1, .int .i64 1, .int .i64 0]) ∧ Below w.heap.size w w' := by
  refine (cycle_any ⟨1, 0, 0, 0, -2, 0⟩ ⟨0, 0, 7, 0⟩ 2 w).mono ?_
  rintro e w' ⟨⟨a, b, c, rfl, h⟩, hb⟩
  obtain ⟨rfl, rfl, rfl⟩ := h.unique (a' := 1) (b' := 1) (e' := 0) (.inr ⟨by omega, by omega, by decide, .inr ⟨rfl, 1, 1, rfl, rfl, by omega, by omega, by decide +kernel, fun i j h1 h2 => by
    obtain ⟨rfl, rfl⟩ : i = 0 ∧ j = 1 := by omega
    decide +kernel⟩⟩)
  exact ⟨rfl, hb⟩
theorem cyc_turned (w : World) : Calls Try.prog 12 #[.agg #[.int .i64 1, .int .i64 0, .int .i64 0, .int .i64 0, .int .i64 2, .int .i64 0], .agg #[.int .i64 0, .int .i64 0, .int .i64 7, .int .i64 0], .int .i64 3] w fun e w' => e = .returned (.tuple #[.int .i64 1, .int .i64 2, .int .i64 0]) ∧ Below w.heap.size w w' := by
  refine (cycle_any ⟨1, 0, 0, 0, 2, 0⟩ ⟨0, 0, 7, 0⟩ 3 w).mono ?_
  rintro e w' ⟨⟨a, b, c, rfl, h⟩, hb⟩
  obtain ⟨rfl, rfl, rfl⟩ := h.unique (a' := 1) (b' := 2) (e' := 0) (.inr ⟨by omega, by omega, by decide, .inr ⟨rfl, 1, 2, rfl, rfl, by omega, by omega, by decide +kernel, fun i j h1 h2 => by
    rcases (by omega : (i = 0 ∧ j = 1) ∨ (i = 0 ∧ j = 2) ∨ (i = 1 ∧ j = 2)) with ⟨rfl, rfl⟩ | ⟨rfl, rfl⟩ | ⟨rfl, rfl⟩
    all_goals decide +kernel⟩⟩)
  exact ⟨rfl, hb⟩
theorem cyc_none (w : World) : Calls Try.prog 12 #[.agg #[.int .i64 1, .int .i64 0, .int .i64 0, .int .i64 0, .int .i64 2, .int .i64 0], .agg #[.int .i64 0, .int .i64 0, .int .i64 7, .int .i64 0], .int .i64 2] w fun e w' => e = .returned (.tuple #[.int .i64 0, .int .i64 0, .int .i64 10]) ∧ Below w.heap.size w w' := by
  refine (cycle_any ⟨1, 0, 0, 0, 2, 0⟩ ⟨0, 0, 7, 0⟩ 2 w).mono ?_
  rintro e w' ⟨⟨a, b, c, rfl, h⟩, hb⟩
  obtain ⟨rfl, rfl, rfl⟩ := h.unique (a' := 0) (b' := 0) (e' := 10) (.inr ⟨by omega, by omega, by decide, .inl ⟨rfl, rfl, rfl, fun i j h1 h2 => by
    rcases (by omega : (i = 0 ∧ j = 1) ∨ (i = 0 ∧ j = 2) ∨ (i = 1 ∧ j = 2)) with ⟨rfl, rfl⟩ | ⟨rfl, rfl⟩ | ⟨rfl, rfl⟩
    all_goals decide +kernel⟩⟩)
  exact ⟨rfl, hb⟩
theorem cyc_far (w : World) : Calls Try.prog 12 #[.agg #[.int .i64 1, .int .i64 0, .int .i64 0, .int .i64 0, .int .i64 0, .int .i64 0], .agg #[.int .i64 0, .int .i64 0, .int .i64 0, .int .i64 0], .int .i64 1048577] w fun e w' => e = .returned (.tuple #[.int .i64 0, .int .i64 0, .int .i64 1]) ∧ Below w.heap.size w w' := by
  refine (cycle_any ⟨1, 0, 0, 0, 0, 0⟩ ⟨0, 0, 0, 0⟩ 1048577 w).mono ?_
  rintro e w' ⟨⟨a, b, c, rfl, h⟩, hb⟩
  obtain ⟨rfl, rfl, rfl⟩ := h.unique (a' := 0) (b' := 0) (e' := 1) (.inl ⟨.inr (.inl (by omega)), rfl, rfl, rfl⟩)
  exact ⟨rfl, hb⟩
theorem cyc_bits (w : World) : Calls Try.prog 12 #[.agg #[.int .i64 0, .int .i64 0, .int .i64 0, .int .i64 0, .int .i64 0, .int .i64 0], .agg #[.int .i64 0, .int .i64 0, .int .i64 0, .int .i64 0], .int .i64 1] w fun e w' => e = .returned (.tuple #[.int .i64 0, .int .i64 0, .int .i64 1]) ∧ Below w.heap.size w w' := by
  refine (cycle_any ⟨0, 0, 0, 0, 0, 0⟩ ⟨0, 0, 0, 0⟩ 1 w).mono ?_
  rintro e w' ⟨⟨a, b, c, rfl, h⟩, hb⟩
  obtain ⟨rfl, rfl, rfl⟩ := h.unique (a' := 0) (b' := 0) (e' := 1) (.inl ⟨.inr (.inr (by decide)), rfl, rfl, rfl⟩)
  exact ⟨rfl, hb⟩
theorem step_most (w : World) : Calls Try.prog 13 #[.agg #[.int .i64 31, .int .i64 (-2147483648), .int .i64 (-2147483648), .int .i64 (-2147483648), .int .i64 2147483647, .int .i64 2147483647], .agg #[.int .i64 (-2147483648), .int .i64 (-2147483648), .int .i64 (-2147483648), .int .i64 (-2147483648)], .int .i64 (-2147483648)] w fun e w' => e = .returned (.tuple #[.int .i64 2147483647, .agg #[.int .i64 (-2147483648), .int .i64 (-2147483648), .int .i64 2147483647, .int .i64 (-2147483648)], .bool true]) ∧ Below w.heap.size w w' := by
  have h := qstep_any ⟨31, -2147483648, -2147483648, -2147483648, 2147483647, 2147483647⟩ ⟨-2147483648, -2147483648, -2147483648, -2147483648⟩ (-2147483648) w
  rw [show ans ⟨31, -2147483648, -2147483648, -2147483648, 2147483647, 2147483647⟩ ⟨-2147483648, -2147483648, -2147483648, -2147483648⟩ (-2147483648) = 2147483647 by decide +kernel, show nxt ⟨31, -2147483648, -2147483648, -2147483648, 2147483647, 2147483647⟩ ⟨-2147483648, -2147483648, -2147483648, -2147483648⟩ (-2147483648) = ⟨-2147483648, -2147483648, 2147483647, -2147483648⟩ by decide +kernel, show outs ⟨31, -2147483648, -2147483648, -2147483648, 2147483647, 2147483647⟩ ⟨-2147483648, -2147483648, -2147483648, -2147483648⟩ (-2147483648) = true by decide +kernel] at h
  exact h
theorem step_bits (w : World) : Calls Try.prog 13 #[.agg #[.int .i64 32, .int .i64 5, .int .i64 0, .int .i64 0, .int .i64 0, .int .i64 0], .agg #[.int .i64 3, .int .i64 0, .int .i64 0, .int .i64 0], .int .i64 4] w fun e w' => e = .returned (.tuple #[.int .i64 0, .agg #[.int .i64 0, .int .i64 0, .int .i64 0, .int .i64 0], .bool false]) ∧ Below w.heap.size w w' := by
  have h := qstep_any ⟨32, 5, 0, 0, 0, 0⟩ ⟨3, 0, 0, 0⟩ 4 w
  rw [show ans ⟨32, 5, 0, 0, 0, 0⟩ ⟨3, 0, 0, 0⟩ 4 = 0 by decide +kernel, show nxt ⟨32, 5, 0, 0, 0, 0⟩ ⟨3, 0, 0, 0⟩ 4 = ⟨0, 0, 0, 0⟩ by decide +kernel, show outs ⟨32, 5, 0, 0, 0, 0⟩ ⟨3, 0, 0, 0⟩ 4 = false by decide +kernel] at h
  exact h
theorem step_farther (w : World) : Calls Try.prog 13 #[.agg #[.int .i64 31, .int .i64 1099511627776, .int .i64 0, .int .i64 0, .int .i64 0, .int .i64 0], .agg #[.int .i64 0, .int .i64 0, .int .i64 0, .int .i64 0], .int .i64 2147483648] w fun e w' => e = .returned (.tuple #[.int .i64 2147483646, .agg #[.int .i64 2147483647, .int .i64 0, .int .i64 2147483646, .int .i64 0], .bool false]) ∧ Below w.heap.size w w' := by
  have h := qstep_any ⟨31, 1099511627776, 0, 0, 0, 0⟩ ⟨0, 0, 0, 0⟩ 2147483648 w
  rw [show ans ⟨31, 1099511627776, 0, 0, 0, 0⟩ ⟨0, 0, 0, 0⟩ 2147483648 = 2147483646 by decide +kernel, show nxt ⟨31, 1099511627776, 0, 0, 0, 0⟩ ⟨0, 0, 0, 0⟩ 2147483648 = ⟨2147483647, 0, 2147483646, 0⟩ by decide +kernel, show outs ⟨31, 1099511627776, 0, 0, 0, 0⟩ ⟨0, 0, 0, 0⟩ 2147483648 = false by decide +kernel] at h
  exact h
set_option maxRecDepth 100000 in
set_option maxHeartbeats 8000000 in
theorem fixed_closed (w : World) : Calls Try.prog 3 #[] w fun e w' => e = .returned (.bool true) ∧ Below w.heap.size w w' := by
  have o1 : (FloatKind.f64.format.order 4609434218613702656 4609434218613702656 == some .eq) = true := by kernel_rfl
  have o2 : (FloatKind.f64.format.order 4886405595696988160 4886405595696988160 == some .eq) = true := by kernel_rfl
  have hneg : ∀ w, (Op.unary .neg (.float .f64 4467570830351532032)).run Try.prog w = .ok (.float .f64 13690942867206307840) w := fun _ => rfl
  have o3 : (FloatKind.f64.format.order 13690942867206307840 13690942867206307840 == some .eq) = true := by kernel_rfl
  go_enter Try.func3, Try.ntmps3
  go_wp2_with fail
  refine (awake_any _).mono ?_
  rintro e w1 ⟨rfl, hb1⟩
  go_upto_region 5 with fail
  obtain ⟨R, hR⟩ : ∃ R, R = w1.heap.size := ⟨_, rfl⟩
  obtain ⟨W, hW⟩ : ∃ W, W = (w1.alloc (Obj.cells #[.float .f64 4602678819172646912, .float .f64 4604930618986332160, .float .f64 13821547256400052224, .float .f64 13828302655841107968, .float .f64 9094988921128908188, .float .f64 18318360957983683996] 23)).alloc (Obj.cells #[.int .i64 1, .int .i64 2, .int .i64 0, .int .i64 (-2), .int .i64 2147483647, .int .i64 (-2147483648)] 2) := ⟨_, rfl⟩
  rw [← hW, ← hR]
  have hBW := Joins.below_alloc2 w1 (Obj.cells #[.float .f64 4602678819172646912, .float .f64 4604930618986332160, .float .f64 13821547256400052224, .float .f64 13828302655841107968, .float .f64 9094988921128908188, .float .f64 18318360957983683996] 23) (Obj.cells #[.int .i64 1, .int .i64 2, .int .i64 0, .int .i64 (-2), .int .i64 2147483647, .int .i64 (-2147483648)] 2)
  have hB1 : Blk W R #[.float .f64 4602678819172646912, .float .f64 4604930618986332160, .float .f64 13821547256400052224, .float .f64 13828302655841107968, .float .f64 9094988921128908188, .float .f64 18318360957983683996] 23 := by rw [hW, hR]; exact Blk.alloc.below (Joins.below_alloc1 _ _) (by simp)
  have hB2 : Blk W (R + 1) #[.int .i64 1, .int .i64 2, .int .i64 0, .int .i64 (-2), .int .i64 2147483647, .int .i64 (-2147483648)] 2 := by
    have := Blk.alloc (w := w1.alloc (Obj.cells #[.float .f64 4602678819172646912, .float .f64 4604930618986332160, .float .f64 13821547256400052224, .float .f64 13828302655841107968, .float .f64 9094988921128908188, .float .f64 18318360957983683996] 23)) (cs := #[.int .i64 1, .int .i64 2, .int .i64 0, .int .i64 (-2), .int .i64 2147483647, .int .i64 (-2147483648)]) (t := 2)
    rw [hW, hR]; simpa using this
  rw [← hW] at hBW
  have HL := hide (hb1.trans (hBW.mono hb1.size))
  have HB1 := hide hB1
  have HB2 := hide hB2
  clear hb1 hBW hB1 hB2 hW hR
  go_wp2_with fail
  go_loopw [50] (fun i wr => ∃ k : Nat, i = .int .i64 k ∧ k ≤ 6 ∧ wr = W) (fun i _ => 6 - (intOf i).toNat)
  case atStart => exact ⟨0, rfl, by omega, rfl⟩
  case round =>
    obtain ⟨k, rfl, hk, hw⟩ := hrel
    obtain rfl := hw.symm
    rcases (by omega : k = 0 ∨ k = 1 ∨ k = 2 ∨ k = 3 ∨ k = 4 ∨ k = 5 ∨ k = 6) with rfl | rfl | rfl | rfl | rfl | rfl | rfl
    · have p0 : W.cell? ⟨R, 0, none⟩ = some (.float .f64 4602678819172646912) := (unhide HB1).cell 0 rfl
      have p1 : W.cell? ⟨R + 1, 0, none⟩ = some (.int .i64 1) := (unhide HB2).cell 0 rfl
      go_wp2_with fail
      refine (fix_half _).mono ?_
      rintro e w' ⟨rfl, hw'⟩
      obtain rfl := hw'.symm
      go_wp2
      go_roundw
      case rel => exact ⟨1, rfl, by omega, trivial⟩
      case measure => simp [intOf]
    · have p0 : W.cell? ⟨R, 1, none⟩ = some (.float .f64 4604930618986332160) := (unhide HB1).cell 1 rfl
      have p1 : W.cell? ⟨R + 1, 1, none⟩ = some (.int .i64 2) := (unhide HB2).cell 1 rfl
      go_wp2_with fail
      refine (fix_three _).mono ?_
      rintro e w' ⟨rfl, hw'⟩
      obtain rfl := hw'.symm
      go_wp2
      go_roundw
      case rel => exact ⟨2, rfl, by omega, trivial⟩
      case measure => simp [intOf]
    · have p0 : W.cell? ⟨R, 2, none⟩ = some (.float .f64 13821547256400052224) := (unhide HB1).cell 2 rfl
      have p1 : W.cell? ⟨R + 1, 2, none⟩ = some (.int .i64 0) := (unhide HB2).cell 2 rfl
      go_wp2_with fail
      refine (fix_mquarter _).mono ?_
      rintro e w' ⟨rfl, hw'⟩
      obtain rfl := hw'.symm
      go_wp2
      go_roundw
      case rel => exact ⟨3, rfl, by omega, trivial⟩
      case measure => simp [intOf]
    · have p0 : W.cell? ⟨R, 3, none⟩ = some (.float .f64 13828302655841107968) := (unhide HB1).cell 3 rfl
      have p1 : W.cell? ⟨R + 1, 3, none⟩ = some (.int .i64 (-2)) := (unhide HB2).cell 3 rfl
      go_wp2_with fail
      refine (fix_mthree _).mono ?_
      rintro e w' ⟨rfl, hw'⟩
      obtain rfl := hw'.symm
      go_wp2
      go_roundw
      case rel => exact ⟨4, rfl, by omega, trivial⟩
      case measure => simp [intOf]
    · have p0 : W.cell? ⟨R, 4, none⟩ = some (.float .f64 9094988921128908188) := (unhide HB1).cell 4 rfl
      have p1 : W.cell? ⟨R + 1, 4, none⟩ = some (.int .i64 2147483647) := (unhide HB2).cell 4 rfl
      go_wp2_with fail
      refine (fix_great _).mono ?_
      rintro e w' ⟨rfl, hw'⟩
      obtain rfl := hw'.symm
      go_wp2
      go_roundw
      case rel => exact ⟨5, rfl, by omega, trivial⟩
      case measure => simp [intOf]
    · have p0 : W.cell? ⟨R, 5, none⟩ = some (.float .f64 18318360957983683996) := (unhide HB1).cell 5 rfl
      have p1 : W.cell? ⟨R + 1, 5, none⟩ = some (.int .i64 (-2147483648)) := (unhide HB2).cell 5 rfl
      go_wp2_with fail
      refine (fix_mgreat _).mono ?_
      rintro e w' ⟨rfl, hw'⟩
      obtain rfl := hw'.symm
      go_wp2
      go_roundw
      case rel => exact ⟨6, rfl, by omega, trivial⟩
      case measure => simp [intOf]
    · go_wp2_with fail
      refine (fix_one31 _).mono ?_
      rintro e w' ⟨rfl, hw'⟩
      obtain rfl := hw'.symm
      go_wp2_with fail
      refine (fix_mone31 _).mono ?_
      rintro e w' ⟨rfl, hw'⟩
      obtain rfl := hw'.symm
      go_wp2_with fail
      refine (nan_any _).mono ?_
      rintro e w' ⟨rfl, hw'⟩
      obtain rfl := hw'.symm
      go_wp2_with fail
      refine (fix_out 9221120237041090561 0 (by decide) _).mono ?_
      rintro e w' ⟨rfl, hw'⟩
      obtain rfl := hw'.symm
      go_wp2_with fail
      refine (nan_any _).mono ?_
      rintro e w' ⟨rfl, hw'⟩
      obtain rfl := hw'.symm
      go_wp2_with fail
      refine (fix_none 9221120237041090561 (by decide) (by decide) 1 (by decide) _).mono ?_
      rintro e w' ⟨rfl, hw'⟩
      obtain rfl := hw'.symm
      go_wp2_with fail
      refine (fix_out 4607182418800017408 32 (by decide) _).mono ?_
      rintro e w' ⟨rfl, hw'⟩
      obtain rfl := hw'.symm
      go_wp2_with fail
      refine (back_three _).mono ?_
      rintro e w' ⟨rfl, hw'⟩
      obtain rfl := hw'.symm
      go_wp2_with fail
      refine (back_most _).mono ?_
      rintro e w' ⟨rfl, hw'⟩
      obtain rfl := hw'.symm
      go_wp2_with fail
      refine (back_least _).mono ?_
      rintro e w' ⟨rfl, hw'⟩
      obtain rfl := hw'.symm
      go_wp2_with fail
      refine (back_arg _).mono ?_
      rintro e w' ⟨rfl, hw'⟩
      obtain rfl := hw'.symm
      go_wp2_with fail
      refine (ldexp_62 _).mono ?_
      rintro e w' ⟨rfl, hw'⟩
      obtain rfl := hw'.symm
      go_wp2_with fail
      refine (ldexp_m31 _).mono ?_
      rintro e w' ⟨rfl, hw'⟩
      obtain rfl := hw'.symm
      go_wp2_with fail
      refine (copysign_0 _).mono ?_
      rintro e w' ⟨rfl, hw'⟩
      obtain rfl := hw'.symm
      go_wp2_with fail
      refine (section_ok _).mono ?_
      rintro e w2 ⟨rfl, hb2⟩
      go_upto_region 26 with fail
      obtain ⟨N, hN⟩ : ∃ N, N = w2.heap.size := ⟨_, rfl⟩
      obtain ⟨W2, hW2⟩ : ∃ W, W = w2.alloc (Obj.cells #[.int .i64 31, .int .i64 2147483647, .int .i64 0, .int .i64 0, .int .i64 2147483647, .int .i64 0] 34) := ⟨_, rfl⟩
      rw [← hW2, ← hN]
      have hBW := Joins.below_alloc1 w2 (Obj.cells #[.int .i64 31, .int .i64 2147483647, .int .i64 0, .int .i64 0, .int .i64 2147483647, .int .i64 0] 34)
      rw [← hW2] at hBW
      have BN := hide (by rw [hW2, hN]; exact Blk.alloc : Blk W2 N #[.int .i64 31, .int .i64 2147483647, .int .i64 0, .int .i64 0, .int .i64 2147483647, .int .i64 0] 34)
      have HLa := hide ((unhide HL).trans ((hb2.trans (hBW.mono hb2.size)).mono (unhide HL).size))
      clear hb2 hBW hW2 hN HL HB1 HB2
      go_wp2_with fail
      refine (section_pair _).mono ?_
      rintro e w3 ⟨rfl, hb3⟩
      go_wp2_with fail
      refine (nan_any _).mono ?_
      rintro e w' ⟨rfl, hw'⟩
      obtain rfl := hw'.symm
      go_wp2_with fail
      refine (section_nan _).mono ?_
      rintro e w4 ⟨rfl, hb4⟩
      go_wp2_with fail
      refine (section_arg _).mono ?_
      rintro e w5 ⟨rfl, hb5⟩
      have hb25 := (hb3.trans (hb4.mono hb3.size)).trans (hb5.mono (Nat.le_trans hb3.size hb4.size))
      have hBN := (unhide BN).below hb25 (unhide BN).lt
      have HL5 := hide ((unhide HLa).trans (hb25.mono (unhide HLa).size))
      have n0 := hBN.cell 0 rfl
      have n1 := hBN.cell 1 rfl
      have n2 := hBN.cell 2 rfl
      have n3 := hBN.cell 3 rfl
      have n4 := hBN.cell 4 rfl
      have n5 := hBN.cell 5 rfl
      clear hb3 hb4 hb5 hb25 hBN BN HLa
      go_wp2_with fail
      clear n0 n1 n2 n3 n4 n5
      refine (cyc_held _).mono ?_
      rintro e w6 ⟨rfl, hb⟩
      have HL6 := hide ((unhide HL5).trans (hb.mono (unhide HL5).size))
      clear hb HL5
      go_wp2_with fail
      refine (cyc_turned _).mono ?_
      rintro e w7 ⟨rfl, hb⟩
      have HL7 := hide ((unhide HL6).trans (hb.mono (unhide HL6).size))
      clear hb HL6
      go_wp2_with fail
      refine (cyc_none _).mono ?_
      rintro e w8 ⟨rfl, hb⟩
      have HL8 := hide ((unhide HL7).trans (hb.mono (unhide HL7).size))
      clear hb HL7
      go_wp2_with fail
      refine (cyc_far _).mono ?_
      rintro e w9 ⟨rfl, hb⟩
      have HL9 := hide ((unhide HL8).trans (hb.mono (unhide HL8).size))
      clear hb HL8
      go_wp2_with fail
      refine (cyc_bits _).mono ?_
      rintro e w10 ⟨rfl, hb⟩
      have HL10 := hide ((unhide HL9).trans (hb.mono (unhide HL9).size))
      clear hb HL9
      go_wp2_with fail
      refine (step_most _).mono ?_
      rintro e w11 ⟨rfl, hb11⟩
      go_upto_region 40 with fail
      obtain ⟨M1, hM1⟩ : ∃ N, N = w11.heap.size := ⟨_, rfl⟩
      obtain ⟨W11, hW11⟩ : ∃ W, W = w11.alloc (Obj.cells #[.int .i64 (-2147483648), .int .i64 (-2147483648), .int .i64 2147483647, .int .i64 (-2147483648)] 44) := ⟨_, rfl⟩
      rw [← hW11, ← hM1]
      have hBW := Joins.below_alloc1 w11 (Obj.cells #[.int .i64 (-2147483648), .int .i64 (-2147483648), .int .i64 2147483647, .int .i64 (-2147483648)] 44)
      rw [← hW11] at hBW
      have BM1 := hide (by rw [hW11, hM1]; exact Blk.alloc : Blk W11 M1 #[.int .i64 (-2147483648), .int .i64 (-2147483648), .int .i64 2147483647, .int .i64 (-2147483648)] 44)
      have HLb := hide ((unhide HL10).trans ((hb11.trans (hBW.mono hb11.size)).mono (unhide HL10).size))
      clear hb11 hBW hW11 hM1 HL10
      go_wp2_with fail
      refine (step_bits _).mono ?_
      rintro e w12 ⟨rfl, hb12⟩
      go_upto_region 41 with fail
      obtain ⟨M2, hM2⟩ : ∃ N, N = w12.heap.size := ⟨_, rfl⟩
      obtain ⟨W12, hW12⟩ : ∃ W, W = w12.alloc (Obj.cells #[.int .i64 0, .int .i64 0, .int .i64 0, .int .i64 0] 44) := ⟨_, rfl⟩
      rw [← hW12, ← hM2]
      have hBW := Joins.below_alloc1 w12 (Obj.cells #[.int .i64 0, .int .i64 0, .int .i64 0, .int .i64 0] 44)
      rw [← hW12] at hBW
      have BM2 := hide (by rw [hW12, hM2]; exact Blk.alloc : Blk W12 M2 #[.int .i64 0, .int .i64 0, .int .i64 0, .int .i64 0] 44)
      have HLc := hide ((unhide HLb).trans ((hb12.trans (hBW.mono hb12.size)).mono (unhide HLb).size))
      have BM12 := hide ((unhide BM1).below (hb12.trans (hBW.mono hb12.size)) (unhide BM1).lt)
      clear hb12 hBW hW12 hM2 HLb BM1
      go_wp2_with fail
      refine (step_farther _).mono ?_
      rintro e w13 ⟨rfl, hb13⟩
      go_upto_region 42 with fail
      obtain ⟨M3, hM3⟩ : ∃ N, N = w13.heap.size := ⟨_, rfl⟩
      obtain ⟨W13, hW13⟩ : ∃ W, W = w13.alloc (Obj.cells #[.int .i64 2147483647, .int .i64 0, .int .i64 2147483646, .int .i64 0] 44) := ⟨_, rfl⟩
      rw [← hW13, ← hM3]
      have hBW := Joins.below_alloc1 w13 (Obj.cells #[.int .i64 2147483647, .int .i64 0, .int .i64 2147483646, .int .i64 0] 44)
      rw [← hW13] at hBW
      have BM3 := hide (by rw [hW13, hM3]; exact Blk.alloc : Blk W13 M3 #[.int .i64 2147483647, .int .i64 0, .int .i64 2147483646, .int .i64 0] 44)
      have HLd := hide ((unhide HLc).trans ((hb13.trans (hBW.mono hb13.size)).mono (unhide HLc).size))
      have hb1 := hb13.trans (hBW.mono hb13.size)
      have hB1 := (unhide BM12).below hb1 (unhide BM12).lt
      have hB2 := (unhide BM2).below hb1 (unhide BM2).lt
      have m0 := hB1.cell 0 rfl
      have z0 := hB2.cell 0 rfl
      have z1 := hB2.cell 1 rfl
      have z2 := hB2.cell 2 rfl
      have z3 := hB2.cell 3 rfl
      clear hb13 hBW hW13 hM3 hb1 hB1 hB2 BM12 BM2 BM3 HLc
      go_wp2
      go_ret
      exact ⟨rfl, unhide HLd⟩
end Go.Proofs.Ytlajalfdcfkmpab
