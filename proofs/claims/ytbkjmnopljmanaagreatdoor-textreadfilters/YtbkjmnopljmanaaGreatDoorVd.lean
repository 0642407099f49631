/- The reference's value. -/
import Derived.Test.YtbkjmnopljmanaaGreatDoorVc
import Derived.Test.YtbkjmnopljmanaaGreatDoorUg
namespace Go.Proofs.YtbkjmnopljmanaaGreatDoor
open Go.RowKit

/-- The value of the first k decimal digits. -/
def dvN (f : Nat → Nat) : Nat → Nat
  | 0 => 0
  | k + 1 => 10 * dvN f k + (f k - 48)
theorem dvN_lt (f : Nat → Nat) : ∀ n, (∀ i, i < n → 48 ≤ f i ∧ f i ≤ 57) → dvN f n < 10 ^ n
  | 0, _ => Nat.zero_lt_one
  | n + 1, h => by
    have h1 := dvN_lt f n (fun i hi => h i (by omega))
    have h2 := h n (by omega)
    show 10 * dvN f n + (f n - 48) < _
    rw [Nat.pow_succ]; omega
theorem hexValue_any (c : Nat) (h : IsHex c) (w : World) : Calls Tryz.prog 88 #[.int .u8 (c : Nat)] w fun e w' => e = .returned (.int .u64 (hexV c : Nat)) ∧ w' = w := by
  unfold hexV
  rcases h with h | h
  · rw [if_pos (by omega)]; exact hexValue_dec c h w
  · rw [if_neg (by omega)]; exact hexValue_let c h w
theorem rvalue_long (neg below : Bool) (m e : ByteArray) (h : 14 < m.size ∨ 4 < e.size) (w : World) :
    Calls Tryz.prog 71 #[.bool neg, .string m, .bool below, .string e] w fun e w' => e = .returned (.tuple #[.float .f64 0, .bool false]) ∧ w' = w := by
  by_cases h1 : 14 < m.size
  · have k : (14 : Int) < (m.size : Int) := by omega
    go_enter Tryz.func71, Tryz.ntmps71
    go_wp2
    go_ret2
    exact ⟨rfl, rfl⟩
  · have k : ¬ (14 : Int) < (m.size : Int) := by omega
    have k2 : (4 : Int) < (e.size : Int) := by omega
    go_enter Tryz.func71, Tryz.ntmps71
    go_wp2
    go_ret2
    exact ⟨rfl, rfl⟩
theorem csign1 (x : Nat) (hx : x ≤ 9218868437227405312) (w : World) : Calls Tryz.prog 80 #[.float .f64 x, .float .f64 13830554455654793216] w fun e w' => e = .returned (.float .f64 (x + 9223372036854775808)) ∧ w' = w := by
  have hx1 := run_bits
  have hy := run_frombits
  have k1 : bits .andNot .u64 (x : Int) 9223372036854775808 = (x : Int) := by
    rw [u64_andNot _ _ (by omega) (by omega) (by omega) (by omega)]
    rw [show 18446744073709551615 - (9223372036854775808 : Int).toNat = 2 ^ 63 - 1 by decide, Int.toNat_natCast, Nat.and_two_pow_sub_one_eq_mod]
    omega
  have k2 : bits .and .u64 13830554455654793216 9223372036854775808 = 9223372036854775808 := by decide
  have k3 : bits .or .u64 (x : Int) 9223372036854775808 = (x : Int) + 9223372036854775808 := or_sign _ (by omega) (by omega)
  clear hx
  go_enter Tryz.func80, Tryz.ntmps80
  go_wp2
  go_ret
  exact ⟨rfl, rfl⟩
theorem bl_app (a b : ByteArray) : (a ++ b).toList = a.toList ++ b.toList := by
  rw [Go.ByteArray.toList_eq, Go.ByteArray.toList_eq, Go.ByteArray.toList_eq, ByteArray.toList_data_append]
theorem bl_mk (a : Array UInt8) : (ByteArray.mk a).toList = a.toList := Go.ByteArray.toList_eq _
theorem beq_dec (a b c : List UInt8) (h : b = c) : (a == b) = decide (a = c) := by
  rw [h, Bool.eq_iff_iff]; simp
/-- The text of its parts. -/
def txt (neg : Bool) (m : ByteArray) (below : Bool) (e : ByteArray) : List UInt8 :=
  (if neg then [45] else []) ++ [48, 120] ++ m.toList ++ [112] ++ (if below then [45] else []) ++ e.toList
def sgd (neg : Bool) (x : Nat) : Nat := if neg then x + 9223372036854775808 else x
set_option maxRecDepth 100000 in
set_option maxHeartbeats 2000000 in
theorem rvalue_in (neg below : Bool) (m e : ByteArray) (hm : m.size ≤ 14) (he : e.size ≤ 4) (HX : ∀ i, i < m.size → IsHex (bt m i)) (HE : ∀ i, i < e.size → 48 ≤ bt e i ∧ bt e i ≤ 57)
    (x : Nat) (hx : x ≤ 9218868437227405312)
    (HL : ∀ w, Calls Tryz.prog 89 #[.float .f64 (floatOfInt .f64 (hvN (bt m) m.size : Nat)), .int .i64 (if below then -(dvN (bt e) e.size : Int) else (dvN (bt e) e.size : Int))] w fun e w' => e = .returned (.float .f64 x) ∧ w' = w) (w : World) :
    Calls Tryz.prog 71 #[.bool neg, .string m, .bool below, .string e] w fun r w' => r = .returned (.tuple #[.float .f64 (sgd neg x), .bool (decide (flt (sgd neg x) = txt neg m below e))]) ∧ Below w.heap.size w w' := by
  have KX := hide HX
  have KE := hide HE
  have KL := hide HL
  have kx := hide hx
  clear HX HE HL hx
  have hm' : ¬ (14 : Int) < (m.size : Int) := by omega
  have he' : ¬ (4 : Int) < (e.size : Int) := by omega
  go_enter Tryz.func71, Tryz.ntmps71
  go_wp2_with fail
  go_loopw [10, 12] (fun vn vi wr => ∃ k : Nat, vn = .int .u64 (hvN (bt m) k : Nat) ∧ vi = .int .i64 (k : Nat) ∧ k ≤ m.size ∧ wr = w)
    (fun _ vi _ => m.size - (intOf vi).toNat)
  case atStart => exact ⟨0, rfl, rfl, by omega, rfl⟩
  case round =>
    obtain ⟨k, rfl, rfl, hk, hs⟩ := hrel
    obtain rfl := hs.symm
    by_cases hlt : k < m.size
    · have i1 : (k : Int) < (m.size : Int) := by omega
      have i2 : ¬ (k : Int) < 0 := by omega
      have hb := hvN_lt (bt m) k (fun i hi => unhide KX i (by omega))
      have hb2 : 16 ^ k ≤ 16 ^ 13 := Nat.pow_le_pow_right (by decide) (by omega)
      have hd := hexV_lt (unhide KX k hlt)
      have KV : Hid (∀ w, Calls Tryz.prog 88 #[.int .u8 ((m[k]'hlt).toNat : Nat)] w fun e w' => e = .returned (.int .u64 (hexV (bt m k) : Nat)) ∧ w' = w) := by
        rw [bt_of hlt]
        exact fun w => hexValue_any _ (by rw [← bt_of hlt]; exact unhide KX k hlt) w
      have hN : hvN (bt m) (k + 1) = 16 * hvN (bt m) k + hexV (bt m k) := rfl
      have hb3 : hvN (bt m) k < 4503599627370496 := Nat.lt_of_lt_of_le hb hb2
      have FN := hide hN
      clear hN hb hb2
      generalize hvN (bt m) k = a at *
      generalize hexV (bt m k) = d at *
      go_wp2_with (go_at_call 88; refine (unhide KV _).mono ?_; rintro e w' ⟨rfl, rfl⟩)
      refine ⟨⟨k + 1, by rw [unhide FN]; rfl, rfl, by omega, trivial⟩, ?_⟩
      simp only [intOf]
      omega
    · obtain rfl : k = m.size := by omega
      have i1 : ¬ (m.size : Int) < (m.size : Int) := by omega
      have hb := hvN_lt (bt m) m.size (unhide KX)
      have hb2 : 16 ^ m.size ≤ 16 ^ 14 := Nat.pow_le_pow_right (by decide) (by omega)
      have hb3 : hvN (bt m) m.size < 72057594037927936 := Nat.lt_of_lt_of_le hb hb2
      clear hb hb2
      generalize hvN (bt m) m.size = n at *
      go_wp2_with fail
      go_loopw [11, 13] (fun vn vi wr => ∃ k : Nat, vn = .int .i64 (dvN (bt e) k : Nat) ∧ vi = .int .i64 (k : Nat) ∧ k ≤ e.size ∧ wr = w)
        (fun _ vi _ => e.size - (intOf vi).toNat)
      case atStart => exact ⟨0, rfl, rfl, by omega, rfl⟩
      case round =>
        obtain ⟨k, rfl, rfl, hk, hs⟩ := hrel
        obtain rfl := hs.symm
        by_cases hlt : k < e.size
        · have i1 : (k : Int) < (e.size : Int) := by omega
          have i2 : ¬ (k : Int) < 0 := by omega
          have hb := dvN_lt (bt e) k (fun i hi => unhide KE i (by omega))
          have hb2 : 10 ^ k ≤ 10 ^ 3 := Nat.pow_le_pow_right (by decide) (by omega)
          have hd := unhide KE k hlt
          have hN : dvN (bt e) (k + 1) = 10 * dvN (bt e) k + (bt e k - 48) := rfl
          have hb3 : dvN (bt e) k < 1000 := Nat.lt_of_lt_of_le hb hb2
          have FN := hide hN
          clear hN hb hb2
          rw [bt_of hlt] at FN hd
          generalize dvN (bt e) k = a at *
          obtain ⟨c, hc⟩ : ∃ c : Nat, c = (e[k]'hlt).toNat := ⟨_, rfl⟩
          rw [← hc] at FN hd
          have d1 : (48 : Int) ≤ ((e[k]'hlt).toNat : Int) := by omega
          have d2 : ((e[k]'hlt).toNat : Int) ≤ 57 := by omega
          go_wp2_with fail
          refine ⟨⟨k + 1, ?_, rfl, by omega, trivial⟩, ?_⟩
          · rw [unhide FN, ← hc]; congr 1; omega
          · simp only [intOf]
            omega
        · obtain rfl : k = e.size := by omega
          have i3 : ¬ (e.size : Int) < (e.size : Int) := by omega
          have hb := dvN_lt (bt e) e.size (unhide KE)
          have hb2 : 10 ^ e.size ≤ 10 ^ 4 := Nat.pow_le_pow_right (by decide) (by omega)
          have hb4 : dvN (bt e) e.size < 10000 := Nat.lt_of_lt_of_le hb hb2
          clear hb hb2
          generalize dvN (bt e) e.size = pw0 at *
          cases below
          all_goals cases neg
          all_goals simp only [Bool.false_eq_true, if_false, if_true] at KL
          all_goals go_wp2_with (first
            | (go_at_call 89; refine (unhide KL _).mono ?_; rintro e w' ⟨rfl, hw'⟩; obtain rfl := hw'.symm)
            | (go_at_call 80; refine (csign1 x (unhide kx) _).mono ?_; rintro e w' ⟨rfl, hw'⟩; obtain rfl := hw'.symm)
            | (go_at_call 90; refine (rfloat_any _ (by have := unhide kx; omega) _).mono ?_; rintro e w9 ⟨rfl, hb⟩; have HB := hide hb; clear hb))
          all_goals go_ret2
          all_goals refine ⟨?_, unhide HB⟩
          all_goals refine congrArg Ending.returned (congrArg Value.tuple ?_)
          all_goals refine congrArg (fun b => #[Value.float .f64 _, Value.bool b]) (beq_dec _ _ _ ?_)
          all_goals simp only [bl_app, bl_mk, txt, Bool.false_eq_true, if_false, if_true]
          all_goals simp
end Go.Proofs.YtbkjmnopljmanaaGreatDoor
