/- The statements' own first question (calls whose answers the document fixes) is answered true. -/
import Derived.Test.YtmgdicpcljippabCX
import Derived.Test.YtmgdicpcljippabRank
import Derived.Test.YtmgdicpcljippabUnlB
namespace Go.Proofs.Ytmgdicpcljippab
open Go.RowKit

theorem mul_one (w : World) : Calls Try.prog 5 #[.complex .f64 4607182418800017408 4611686018427387904, .complex .f64 4613937818241073152 4616189618054758400] w fun e w' => e = .returned (.complex .f64 13840687554816376832 4621819117588971520) ∧ w' = w :=
  mul_calls 4607182418800017408 4611686018427387904 4613937818241073152 4616189618054758400 4613937818241073152 4620693217682128896 4616189618054758400 4618441417868443648 13840687554816376832 4621819117588971520 (by decide +kernel) (by decide +kernel) (by decide +kernel) (by decide +kernel) (by decide +kernel) (by decide +kernel) w
theorem sizes_one (w : World) : Calls Try.prog 18 #[.complex .f64 4613937818241073152 4616189618054758400] w fun e w' => e = .returned (.tuple #[.float .f64 4616189618054758400, .float .f64 4613937818241073152]) ∧ w' = w :=
  sizes_lt 4613937818241073152 4616189618054758400 (by decide) (by decide) (by decide +kernel) w
theorem abs_one (w : World) : Calls Try.prog 9 #[.complex .f64 4613937818241073152 4616189618054758400] w fun e w' => e = .returned (.float .f64 4617315517961601024) ∧ w' = w :=
  cabs_num 4613937818241073152 4616189618054758400 4616189618054758400 4613937818241073152 4604930618986332160 4603241769126068224 4609715693590413312 4608308318706860032 4617315517961601024 sizes_one (by decide +kernel) (by decide +kernel) (by decide +kernel) (by decide +kernel) (by decide +kernel) (by decide +kernel) (by decide +kernel) (by decide +kernel) (by decide +kernel) (by decide +kernel) w
theorem root_one (w : World) : Calls Try.prog 26 #[.complex .f64 4613937818241073152 4616189618054758400] w fun e w' => e = .returned (.complex .f64 4611686018427387904 4607182418800017408) ∧ w' = w :=
  root_pos 4613937818241073152 4616189618054758400 4617315517961601024 4620693217682128896 4616189618054758400 4611686018427387904 4616189618054758400 4607182418800017408 (by decide) abs_one (by decide +kernel) (by decide +kernel) (by decide +kernel) (by decide +kernel) (by decide +kernel) (by decide +kernel) w
theorem sqrt_one (w : World) : Calls Try.prog 11 #[.complex .f64 4613937818241073152 4616189618054758400] w fun e w' => e = .returned (.complex .f64 4611686018427387904 4607182418800017408) ∧ w' = w :=
  sqrt_mid 4613937818241073152 4616189618054758400 4616189618054758400 4613937818241073152 _ (by decide) (by decide) (by decide) sizes_one root_one (by decide +kernel) (by decide +kernel) (by decide +kernel) w
theorem div_one (w : World) : Calls Try.prog 7 #[.complex .f64 4616189618054758400 4611686018427387904, .complex .f64 4611686018427387904 0] w fun e w' => e = .returned (.complex .f64 4611686018427387904 4607182418800017408) ∧ w' = w :=
  div_ge 4616189618054758400 4611686018427387904 4611686018427387904 0 0 0 4611686018427387904 0 4616189618054758400 4611686018427387904 0 4611686018427387904 4607182418800017408 (by decide) (by decide) (by decide +kernel) (by decide +kernel) (by decide +kernel) (by decide +kernel) (by decide +kernel) (by decide +kernel) (by decide +kernel) (by decide +kernel) (by decide +kernel) (by decide +kernel) w
theorem cof_one (w : World) : Calls Try.prog 12 #[.complex .f64 0 9218868437227405312] w fun e w' => e = .returned (.int .i64 3) ∧ w' = w := by
  have h := cof_any 0 9218868437227405312 (by decide) (by decide) w
  rw [show max (cls 0) (cls 9218868437227405312) = 3 by decide] at h
  exact h
set_option maxRecDepth 100000 in
set_option maxHeartbeats 1000000 in
theorem inf_one (w : World) : Calls Try.prog 13 #[.int .i64 1] w fun e w' => e = .returned (.float .f64 9218868437227405312) ∧ w' = w := by
  have hy := run_frombits
  go_enter Try.func13, Try.ntmps13
  go_wp2
  go_ret
  exact ⟨rfl, rfl⟩
theorem order_zero (w : World) : Calls Try.prog 28 #[.float .f64 0, .float .f64 0] w fun e w' => e = .returned (.int .i64 0) ∧ w' = w := by
  have h := order_any 0 0 (by decide) (by decide) w
  rw [show cmpOf (rank 0) (rank 0) = 0 by decide] at h
  exact h
theorem order_one (w : World) : Calls Try.prog 28 #[.float .f64 4607182418800017408, .float .f64 4611686018427387904] w fun e w' => e = .returned (.int .i64 (-1)) ∧ w' = w := by
  have h := order_any 4607182418800017408 4611686018427387904 (by decide) (by decide) w
  rw [show cmpOf (rank 4607182418800017408) (rank 4611686018427387904) = -1 by decide] at h
  exact h
set_option maxRecDepth 100000 in
set_option maxHeartbeats 1000000 in
theorem corder_one (w : World) : Calls Try.prog 14 #[.complex .f64 0 4607182418800017408, .complex .f64 0 4611686018427387904] w fun e w' => e = .returned (.int .i64 (-1)) ∧ w' = w := by
  go_enter Try.func14, Try.ntmps14
  go_wp2_with fail
  refine (order_zero _).mono ?_
  rintro e w' ⟨rfl, rfl⟩
  go_wp2_with fail
  refine (order_one _).mono ?_
  rintro e w' ⟨rfl, rfl⟩
  go_wp2
  go_ret
  exact ⟨rfl, rfl⟩

/-- 1, 2, 1. -/
def three : List (Nat × Nat) := [(4607182418800017408, 0), (4611686018427387904, 0), (4607182418800017408, 0)]
theorem unl_three : unl three 3 = [(4607182418800017408, 0), (4611686018427387904, 0)] := by decide +kernel

set_option maxRecDepth 100000 in
set_option maxHeartbeats 1000000 in
theorem awake_any (w : World) :
    Calls Try.prog 4 #[] w fun e w' => e = .returned (.bool true) ∧ Below w.heap.size w w' := by
  have o1 : (FloatKind.f64.format.order 13840687554816376832 13840687554816376832 == some .eq) = true := (by decide +kernel)
  have o2 : (FloatKind.f64.format.order 4621819117588971520 4621819117588971520 == some .eq) = true := (by decide +kernel)
  have o3 : (FloatKind.f64.format.order 4617315517961601024 4617315517961601024 == some .eq) = true := (by decide +kernel)
  have o4 : (FloatKind.f64.format.order 4611686018427387904 4611686018427387904 == some .eq) = true := (by decide +kernel)
  have o5 : (FloatKind.f64.format.order 4607182418800017408 4607182418800017408 == some .eq) = true := (by decide +kernel)
  go_enter Try.func4, Try.ntmps4
  go_wp2_with fail
  refine (mul_one _).mono ?_
  rintro e w' ⟨rfl, rfl⟩
  go_wp2_with fail
  refine (abs_one _).mono ?_
  rintro e w' ⟨rfl, rfl⟩
  go_wp2_with fail
  refine (sqrt_one _).mono ?_
  rintro e w' ⟨rfl, rfl⟩
  go_wp2_with fail
  refine (div_one _).mono ?_
  rintro e w' ⟨rfl, rfl⟩
  go_wp2_with fail
  refine (inf_one _).mono ?_
  rintro e w' ⟨rfl, rfl⟩
  go_wp2_with fail
  refine (cof_one _).mono ?_
  rintro e w' ⟨rfl, rfl⟩
  go_wp2_with fail
  refine (corder_one _).mono ?_
  rintro e w' ⟨rfl, rfl⟩
  go_wp2_with fail
  refine (unlike_any _ 0 3 3 three _ (by decide) (by decide) ?_ ?_).mono ?_
  · simp
  · intro j hj
    match j, hj with
    | 0, _ => simp [three, cv]
    | 1, _ => simp [three, cv]
    | 2, _ => simp [three, cv]
  · rintro e w1 ⟨v, rfl, hrow, hbel⟩
    rw [unl_three] at hrow
    obtain ⟨_, h | ⟨g, cap, cur, rfl, hg, hh, _⟩⟩ := hrow
    · exact absurd h.2 (by decide)
    · clear hh
      go_wp2
      go_ret
      exact ⟨rfl, ((Below.refl _ _).alloc (Nat.le_refl _) _).trans (hbel.mono (by simp))⟩

end Go.Proofs.Ytmgdicpcljippab
