/- math.Ldexp of whole numbers, given what is multiplied last. -/
import Derived.Test.YtbkjmnopljmanaaGreatDoorVa
import Derived.Test.YtbkjmnopljmanaaGreatDoorTv
namespace Go.Proofs.YtbkjmnopljmanaaGreatDoor
open Go.RowKit

/-- A whole number's float. -/
structure NatF (F : Nat) : Prop where
  lo : 4607182418800017408 ≤ F
  hi : F < 4868391197187506176
theorem NatF.rg {F : Nat} (h : NatF F) : rg F = F := by have := h.hi; unfold Proofs.YtbkjmnopljmanaaGreatDoor.rg; omega
theorem NatF.ng {F : Nat} (h : NatF F) : ng F = false := by have := h.hi; unfold Proofs.YtbkjmnopljmanaaGreatDoor.ng; exact decide_eq_false (by omega)
theorem NatF.isnan {F : Nat} (h : NatF F) : isnan F = false := by have := h.hi; unfold Proofs.YtbkjmnopljmanaaGreatDoor.isnan; rw [h.rg]; exact decide_eq_false (by omega)
theorem NatF.key {F : Nat} (h : NatF F) : key F = F := by unfold Proofs.YtbkjmnopljmanaaGreatDoor.key; rw [h.ng, h.rg]; rfl
theorem NatF.eq0 {F : Nat} (h : NatF F) : (FloatKind.f64.format.order F 0 == some .eq) = false := by
  have := h.lo
  have := h.hi
  rw [order_eq F 0 (by omega) (by omega), h.key, show Proofs.YtbkjmnopljmanaaGreatDoor.key 0 = 0 by decide, show Proofs.YtbkjmnopljmanaaGreatDoor.isnan 0 = false by decide, h.isnan]
  simp; omega
theorem NatF.lt0 {F : Nat} (h : NatF F) : (FloatKind.f64.format.order F 0 == some .lt) = false := by
  have := h.lo
  have := h.hi
  rw [order_lt F 0 (by omega) (by omega), h.key, show Proofs.YtbkjmnopljmanaaGreatDoor.key 0 = 0 by decide, show Proofs.YtbkjmnopljmanaaGreatDoor.isnan 0 = false by decide, h.isnan]
  simp
theorem NatF.ltN {F : Nat} (h : NatF F) : (FloatKind.f64.format.order F 4503599627370496 == some .lt) = false := by
  have := h.lo
  have := h.hi
  rw [order_lt F 4503599627370496 (by omega) (by omega), h.key, show Proofs.YtbkjmnopljmanaaGreatDoor.key 4503599627370496 = 4503599627370496 by decide, show Proofs.YtbkjmnopljmanaaGreatDoor.isnan 4503599627370496 = false by decide, h.isnan]
  simp; omega
theorem normal_F (F : Nat) (h : NatF F) (w : World) : Calls Tryz.prog 117 #[.float .f64 F] w fun e w' => e = .returned (.tuple #[.float .f64 F, .int .i64 0]) ∧ w' = w := by
  have k := h.ltN
  have Ha := abs_any F (by have := h.hi; omega)
  rw [show F % 9223372036854775808 = F by have := h.hi; omega] at Ha
  have Ha := hide Ha
  clear h
  go_enter Tryz.func117, Tryz.ntmps117
  go_wp2_with (go_at_call 73; refine (unhide Ha _).mono ?_; rintro e w' ⟨rfl, rfl⟩)
  go_ret2
  exact ⟨rfl, rfl⟩
theorem csign0 (F : Nat) (h : NatF F) (w : World) : Calls Tryz.prog 80 #[.float .f64 0, .float .f64 F] w fun e w' => e = .returned (.float .f64 0) ∧ w' = w := by
  have hx := run_bits
  have hy := run_frombits
  have k1 : bits .andNot .u64 0 9223372036854775808 = 0 := by decide
  have k2 : bits .and .u64 (F : Int) 9223372036854775808 = 0 := by
    rw [and_sign F (by have := h.hi; omega), h.ng]; rfl
  have k3 : bits .or .u64 0 0 = 0 := by decide
  clear h
  go_enter Tryz.func80, Tryz.ntmps80
  go_wp2
  go_ret
  exact ⟨rfl, rfl⟩
theorem isinf_F (F : Nat) (h : NatF F) (w : World) : Calls Tryz.prog 60 #[.float .f64 F, .int .i64 0] w fun e w' => e = .returned (.bool false) ∧ w' = w := by
  have := isinf_any F (by have := h.hi; omega) h.isnan w
  rwa [decide_eq_false (by have := h.hi; unfold pw; omega)] at this
theorem isnan_F (F : Nat) (h : NatF F) (w : World) : Calls Tryz.prog 58 #[.float .f64 F] w fun e w' => e = .returned (.bool false) ∧ w' = w := by
  have := isnan_run F (by have := h.hi; omega) w
  rwa [h.isnan] at this
theorem i64_and_low (n : Nat) (h : n ≤ 2047) : bits .and .i64 (n : Int) 2047 = (n : Int) := by
  have h127 : (BitVec.ofInt 64 2047).toNat = 2 ^ 11 - 1 := by decide
  have key : (BitVec.ofInt 64 (n : Int) &&& BitVec.ofInt 64 2047).toNat = ((n : Int) % ((2 ^ 64 : Nat) : Int)).toNat % 2 ^ 11 := by
    rw [BitVec.toNat_and, BitVec.toNat_ofInt, h127, Nat.and_two_pow_sub_one_eq_mod]
  show IntKind.i64.wrap ((BitVec.ofInt 64 (n : Int) &&& BitVec.ofInt 64 2047).toNat : Nat) = (n : Int)
  rw [key, IntKind.wrap_i64]
  omega
theorem clear_power (F : Nat) (h : F < 9223372036854775808) : bits .andNot .u64 (F : Int) 9218868437227405312 = ((F % 4503599627370496 : Nat) : Int) := by
  have e : (9218868437227405312 : Int) = ((9218868437227405312 : Nat) : Int) := rfl
  rw [e, u64_andNot_nat _ _ (by omega) (by omega), show 18446744073709551615 - 9218868437227405312 = 2 ^ 63 ||| (2 ^ 52 - 1) by decide, Nat.and_or_distrib_left, Nat.and_two_pow_sub_one_eq_mod]
  have : F &&& 2 ^ 63 = 0 := by
    rw [nat_bit]
    omega
  rw [this, Nat.zero_or]
theorem put_power (lo K : Nat) (h : lo < 4503599627370496) (hK : K < 2048) : bits .or .u64 (lo : Int) (((K * 4503599627370496 : Nat)) : Int) = ((lo + K * 4503599627370496 : Nat) : Int) := by
  rw [u64_or_nat _ _ (by omega) (by omega)]
  congr 1
  rw [show K * 4503599627370496 = K <<< 52 by rw [Nat.shiftLeft_eq], Nat.or_comm, ← Nat.shiftLeft_add_eq_or_of_lt (by exact h), Nat.shiftLeft_eq]
  omega
theorem run_fl' {op : BinOp} {x y r : Nat} (h : floatBits op .f64 x y = some r) (w : World) : (binOp op 66 (.float .f64 x) (.float .f64 y)).run Tryz.prog w = .ok (.float .f64 r) w :=
  run_float_arith w op _ .f64 x y r h
set_option maxRecDepth 100000 in
theorem ldexp_low (F : Nat) (h : NatF F) (p : Int) (hp : -9999 ≤ p) (hp' : p ≤ 9999) (k : p + (F / 4503599627370496 : Nat) - 1023 < -1075) (w : World) :
    Calls Tryz.prog 104 #[.float .f64 F, .int .i64 p] w fun e w' => e = .returned (.float .f64 0) ∧ w' = w := by
  have H := hide h
  have e0 := h.eq0
  have e1 := h.lt0
  have hx := run_bits
  have hy := run_frombits
  obtain ⟨E, hE⟩ : ∃ E : Nat, E = F / 4503599627370496 := ⟨_, rfl⟩
  have hE1 : E < 1081 := by have := h.hi; omega
  rw [← hE] at k
  rw [show p + (E : Int) - 1023 = p + ((E : Int) - 1023) by omega] at k
  have q1 : bits .and .i64 (E : Int) 2047 = (E : Int) := i64_and_low E (by omega)
  have q2 : IntKind.i64.wrap ((F : Int) / 4503599627370496) = (E : Int) := by simp [IntKind.wrap_i64]; omega
  clear h hE
  go_enter Tryz.func104, Tryz.ntmps104
  go_wp2_with (first
    | (go_at_call 60; refine (isinf_F F (unhide H) _).mono ?_; rintro e w' ⟨rfl, rfl⟩)
    | (go_at_call 58; refine (isnan_F F (unhide H) _).mono ?_; rintro e w' ⟨rfl, rfl⟩)
    | (go_at_call 117; refine (normal_F F (unhide H) _).mono ?_; rintro e w' ⟨rfl, rfl⟩)
    | (go_at_call 80; refine (csign0 F (unhide H) _).mono ?_; rintro e w' ⟨rfl, rfl⟩)
    | (go_at_call 69; refine (inf_pos _).mono ?_; rintro e w' ⟨rfl, rfl⟩))
  go_ret
  exact ⟨rfl, rfl⟩
set_option maxRecDepth 100000 in
theorem ldexp_high (F : Nat) (h : NatF F) (p : Int) (hp : -9999 ≤ p) (hp' : p ≤ 9999) (k : 1023 < p + (F / 4503599627370496 : Nat) - 1023) (w : World) :
    Calls Tryz.prog 104 #[.float .f64 F, .int .i64 p] w fun e w' => e = .returned (.float .f64 9218868437227405312) ∧ w' = w := by
  have H := hide h
  have e0 := h.eq0
  have e1 := h.lt0
  have hx := run_bits
  have hy := run_frombits
  obtain ⟨E, hE⟩ : ∃ E : Nat, E = F / 4503599627370496 := ⟨_, rfl⟩
  have hE1 : E < 1081 := by have := h.hi; omega
  rw [← hE] at k
  rw [show p + (E : Int) - 1023 = p + ((E : Int) - 1023) by omega] at k
  have q1 : bits .and .i64 (E : Int) 2047 = (E : Int) := i64_and_low E (by omega)
  have q2 : IntKind.i64.wrap ((F : Int) / 4503599627370496) = (E : Int) := by simp [IntKind.wrap_i64]; omega
  clear h hE
  go_enter Tryz.func104, Tryz.ntmps104
  go_wp2_with (first
    | (go_at_call 60; refine (isinf_F F (unhide H) _).mono ?_; rintro e w' ⟨rfl, rfl⟩)
    | (go_at_call 58; refine (isnan_F F (unhide H) _).mono ?_; rintro e w' ⟨rfl, rfl⟩)
    | (go_at_call 117; refine (normal_F F (unhide H) _).mono ?_; rintro e w' ⟨rfl, rfl⟩)
    | (go_at_call 80; refine (csign0 F (unhide H) _).mono ?_; rintro e w' ⟨rfl, rfl⟩)
    | (go_at_call 69; refine (inf_pos _).mono ?_; rintro e w' ⟨rfl, rfl⟩))
  go_ret
  exact ⟨rfl, rfl⟩
set_option maxRecDepth 100000 in
theorem ldexp_norm (F : Nat) (h : NatF F) (p : Int) (hp : -9999 ≤ p) (hp' : p ≤ 9999) (X r : Nat) (k : -1022 ≤ p + (F / 4503599627370496 : Nat) - 1023 ∧ p + (F / 4503599627370496 : Nat) - 1023 ≤ 1023) (hX : (X : Int) = (F % 4503599627370496 : Nat) + (p + (F / 4503599627370496 : Nat)) * 4503599627370496) (hr : floatBits .mul .f64 4607182418800017408 X = some r) (w : World) :
    Calls Tryz.prog 104 #[.float .f64 F, .int .i64 p] w fun e w' => e = .returned (.float .f64 r) ∧ w' = w := by
  have H := hide h
  have e0 := h.eq0
  have e1 := h.lt0
  have hx := run_bits
  have hy := run_frombits
  obtain ⟨E, hE⟩ : ∃ E : Nat, E = F / 4503599627370496 := ⟨_, rfl⟩
  have hE1 : E < 1081 := by have := h.hi; omega
  rw [← hE] at k
  rw [show p + (E : Int) - 1023 = p + ((E : Int) - 1023) by omega] at k
  rw [← hE] at hX
  obtain ⟨k1, k2⟩ := k
  have q1 : bits .and .i64 (E : Int) 2047 = (E : Int) := i64_and_low E (by omega)
  have q2 : IntKind.i64.wrap ((F : Int) / 4503599627370496) = (E : Int) := by simp [IntKind.wrap_i64]; omega
  obtain ⟨lo, hlo⟩ : ∃ lo : Nat, lo = F % 4503599627370496 := ⟨_, rfl⟩
  have q5 : bits .andNot .u64 (F : Int) 9218868437227405312 = (lo : Int) := by
    have := h.hi
    rw [clear_power F (by omega), hlo]
  have q6 : IntKind.i64.wrap (p + ((E : Int) - 1023) + 1023) = p + ((E : Int) - 1023) + 1023 := by simp [IntKind.wrap_i64]; omega
  have q7 : IntKind.u64.wrap (p + ((E : Int) - 1023) + 1023) = p + ((E : Int) - 1023) + 1023 := by simp [IntKind.wrap_u64]; omega
  have q8 : IntKind.u64.wrap ((p + ((E : Int) - 1023) + 1023) * 4503599627370496) = (p + ((E : Int) - 1023) + 1023) * 4503599627370496 := by simp [IntKind.wrap_u64]; omega
  have q9 : bits .or .u64 (lo : Int) ((p + ((E : Int) - 1023) + 1023) * 4503599627370496) = (X : Int) := by
    have := put_power lo (p + ((E : Int) - 1023) + 1023).toNat (by omega) (by omega)
    rw [show (((p + ((E : Int) - 1023) + 1023).toNat * 4503599627370496 : Nat) : Int) = (p + ((E : Int) - 1023) + 1023) * 4503599627370496 by omega] at this
    rw [this]
    omega
  have hm := run_fl' hr
  have k3 : ¬ p + ((E : Int) - 1023) < -1075 := by omega
  have k4 : ¬ 1023 < p + ((E : Int) - 1023) := by omega
  have k5 : ¬ p + ((E : Int) - 1023) < -1022 := by omega
  clear h hE hX hlo hr
  go_enter Tryz.func104, Tryz.ntmps104
  go_wp2_with (first
    | (go_at_call 60; refine (isinf_F F (unhide H) _).mono ?_; rintro e w' ⟨rfl, rfl⟩)
    | (go_at_call 58; refine (isnan_F F (unhide H) _).mono ?_; rintro e w' ⟨rfl, rfl⟩)
    | (go_at_call 117; refine (normal_F F (unhide H) _).mono ?_; rintro e w' ⟨rfl, rfl⟩)
    | (go_at_call 80; refine (csign0 F (unhide H) _).mono ?_; rintro e w' ⟨rfl, rfl⟩)
    | (go_at_call 69; refine (inf_pos _).mono ?_; rintro e w' ⟨rfl, rfl⟩))
  go_ret
  exact ⟨rfl, rfl⟩
set_option maxRecDepth 100000 in
theorem ldexp_sub (F : Nat) (h : NatF F) (p : Int) (hp : -9999 ≤ p) (hp' : p ≤ 9999) (X r : Nat) (k : -1075 ≤ p + (F / 4503599627370496 : Nat) - 1023 ∧ p + (F / 4503599627370496 : Nat) - 1023 < -1022) (hX : (X : Int) = (F % 4503599627370496 : Nat) + (p + (F / 4503599627370496 : Nat) + 53) * 4503599627370496) (hr : floatBits .mul .f64 4368491638549381120 X = some r) (w : World) :
    Calls Tryz.prog 104 #[.float .f64 F, .int .i64 p] w fun e w' => e = .returned (.float .f64 r) ∧ w' = w := by
  have H := hide h
  have e0 := h.eq0
  have e1 := h.lt0
  have hx := run_bits
  have hy := run_frombits
  obtain ⟨E, hE⟩ : ∃ E : Nat, E = F / 4503599627370496 := ⟨_, rfl⟩
  have hE1 : E < 1081 := by have := h.hi; omega
  rw [← hE] at k
  rw [show p + (E : Int) - 1023 = p + ((E : Int) - 1023) by omega] at k
  rw [← hE] at hX
  obtain ⟨k1, k2⟩ := k
  have q1 : bits .and .i64 (E : Int) 2047 = (E : Int) := i64_and_low E (by omega)
  have q2 : IntKind.i64.wrap ((F : Int) / 4503599627370496) = (E : Int) := by simp [IntKind.wrap_i64]; omega
  have q10 : IntKind.i64.wrap (p + ((E : Int) - 1023) + 53) = p + ((E : Int) - 1023) + 53 := by simp [IntKind.wrap_i64]; omega
  obtain ⟨lo, hlo⟩ : ∃ lo : Nat, lo = F % 4503599627370496 := ⟨_, rfl⟩
  have q5 : bits .andNot .u64 (F : Int) 9218868437227405312 = (lo : Int) := by
    have := h.hi
    rw [clear_power F (by omega), hlo]
  have q6 : IntKind.i64.wrap ((p + ((E : Int) - 1023) + 53) + 1023) = (p + ((E : Int) - 1023) + 53) + 1023 := by simp [IntKind.wrap_i64]; omega
  have q7 : IntKind.u64.wrap ((p + ((E : Int) - 1023) + 53) + 1023) = (p + ((E : Int) - 1023) + 53) + 1023 := by simp [IntKind.wrap_u64]; omega
  have q8 : IntKind.u64.wrap (((p + ((E : Int) - 1023) + 53) + 1023) * 4503599627370496) = ((p + ((E : Int) - 1023) + 53) + 1023) * 4503599627370496 := by simp [IntKind.wrap_u64]; omega
  have q9 : bits .or .u64 (lo : Int) (((p + ((E : Int) - 1023) + 53) + 1023) * 4503599627370496) = (X : Int) := by
    have := put_power lo ((p + ((E : Int) - 1023) + 53) + 1023).toNat (by omega) (by omega)
    rw [show ((((p + ((E : Int) - 1023) + 53) + 1023).toNat * 4503599627370496 : Nat) : Int) = ((p + ((E : Int) - 1023) + 53) + 1023) * 4503599627370496 by omega] at this
    rw [this]
    omega
  have hm := run_fl' hr
  have k3 : ¬ p + ((E : Int) - 1023) < -1075 := by omega
  have k4 : ¬ 1023 < p + ((E : Int) - 1023) := by omega
  clear h hE hX hlo hr
  go_enter Tryz.func104, Tryz.ntmps104
  go_wp2_with (first
    | (go_at_call 60; refine (isinf_F F (unhide H) _).mono ?_; rintro e w' ⟨rfl, rfl⟩)
    | (go_at_call 58; refine (isnan_F F (unhide H) _).mono ?_; rintro e w' ⟨rfl, rfl⟩)
    | (go_at_call 117; refine (normal_F F (unhide H) _).mono ?_; rintro e w' ⟨rfl, rfl⟩)
    | (go_at_call 80; refine (csign0 F (unhide H) _).mono ?_; rintro e w' ⟨rfl, rfl⟩)
    | (go_at_call 69; refine (inf_pos _).mono ?_; rintro e w' ⟨rfl, rfl⟩))
  go_ret
  exact ⟨rfl, rfl⟩
end Go.Proofs.YtbkjmnopljmanaaGreatDoor
