/- Floats as texts: what package text writes of one. -/
import Derived.Test.YtbkjmnopljmanaaGreatDoorTe
import Derived.Test.YtbkjmnopljmanaaGreatDoorOrd
import Derived.Test.YtbkjmnopljmanaaGreatDoorSplit
import Derived.Test.YtbkjmnopljmanaaGreatDoorSign
namespace Go.Proofs.YtbkjmnopljmanaaGreatDoor
open Go.RowKit

theorem neq_self (b : Nat) (hb : b < 18446744073709551616) : (FloatKind.f64.format.order b b != some .eq) = isnan b := by
  have := order_eq b b hb hb
  rw [bne, this]
  cases isnan b <;> simp
theorem isnan_run (b : Nat) (hb : b < 18446744073709551616) (w : World) : Calls Tryz.prog 58 #[.float .f64 b] w fun e w' => e = .returned (.bool (isnan b)) ∧ w' = w := by
  have Hk := hide (neq_self b hb)
  clear hb
  go_enter Tryz.func58, Tryz.ntmps58
  go_wp2
  go_ret
  rw [← unhide Hk]
  exact ⟨rfl, rfl⟩
set_option maxHeartbeats 1000000 in
theorem abs_any (b : Nat) (hb : b < 18446744073709551616) (w : World) :
    Calls Tryz.prog 73 #[.float .f64 b] w fun e w' => e = .returned (.float .f64 (b % 9223372036854775808)) ∧ w' = w := by
  have hx := run_bits
  have hy := run_frombits
  have Hk : Hid ((bits .andNot .u64 (b : Int) 9223372036854775808).toNat = b % 9223372036854775808) := by
    show _ = _
    rw [u64_andNot _ _ (by omega) (by omega) (by omega) (by omega)]
    rw [show 18446744073709551615 - (9223372036854775808 : Int).toNat = 2 ^ 63 - 1 by decide, Int.toNat_natCast, Nat.and_two_pow_sub_one_eq_mod]
    rfl
  clear hb
  go_enter Tryz.func73, Tryz.ntmps73
  go_wp2
  go_ret
  rw [← unhide Hk]
  exact ⟨rfl, rfl⟩
theorem gt_max (b : Nat) (_hb : b < 18446744073709551616) (hn : isnan b = false) : (FloatKind.f64.format.order (b % 9223372036854775808) 9218868437227405311 == some .gt) = decide (pw b = 2047) := by
  rw [order_gt _ _ (by omega) (by omega)]
  unfold isnan at hn ⊢
  rw [decide_eq_false_iff_not] at hn
  unfold key ng rg pw at *
  have e1 : ¬ 9223372036854775808 ≤ b % 9223372036854775808 := by omega
  have e2 : b / 4503599627370496 % 2048 = b % 9223372036854775808 / 4503599627370496 := by omega
  rw [e2, Nat.mod_mod]
  generalize b % 9223372036854775808 = r at *
  have h1 : decide (9218868437227405312 < r) = false := decide_eq_false hn
  have h2 : decide (9218868437227405312 < (9218868437227405311 : Nat) % 9223372036854775808) = false := by decide
  have h3 : decide (9223372036854775808 ≤ (9218868437227405311 : Nat)) = false := by decide
  rw [h1, h2, h3, decide_eq_false e1, Bool.eq_iff_iff]
  simp
  omega
theorem isinf_any (b : Nat) (hb : b < 18446744073709551616) (hn : isnan b = false) (w : World) : Calls Tryz.prog 60 #[.float .f64 b, .int .i64 0] w fun e w' => e = .returned (.bool (decide (pw b = 2047))) ∧ w' = w := by
  have h := gt_max b hb hn
  have Ha := hide (abs_any b hb)
  clear hn
  generalize b % 9223372036854775808 = c at h Ha
  go_enter Tryz.func60, Tryz.ntmps60
  go_wp2_with (go_at_call 73; refine (unhide Ha _).mono ?_; rintro e w' ⟨rfl, rfl⟩)
  go_ret
  exact ⟨rfl, rfl⟩

/-- A number's parts: m * 2^e. -/
def mant (b : Nat) : Nat := if pw b = 0 then fr b else fr b + 4503599627370496
def expo (b : Nat) : Int := if pw b = 0 then -1074 else (pw b : Int) - 1075
/-- .. with an odd m; nought has the e 0. -/
def om (m : Nat) : Nat := if m = 0 then 0 else m / 2 ^ Lib.ctz 64 m
def oe (m : Nat) (e : Int) : Int := if m = 0 then 0 else e + (Lib.ctz 64 m : Int)
theorem ctz_lt {m : Nat} (h : m ≠ 0) (hm : m < 18446744073709551616) : Lib.ctz 64 m < 64 := by
  unfold Lib.ctz; rw [if_neg h]
  obtain ⟨_, _, h2⟩ := Lib.ctzFrom_spec 64 m (by omega) (by simpa using hm)
  exact h2
/-- A float's text. -/
def fltN (b : Nat) : List UInt8 := [48, 120] ++ hexL (om (mant b)) ++ [112] ++ Lib.itoa (oe (mant b) (expo b))
def flt (b : Nat) : List UInt8 := if isnan b then [110, 97, 110] else (if ng b then [45] else []) ++ (if pw b = 2047 then [105, 110, 102] else fltN b)

theorem odd_any (m : Nat) (e : Int) (hm : m < 18446744073709551616) (he : -1100 ≤ e) (he' : e ≤ 1100) (w : World) (hT : TabAt (Tryz.lays29_ren.g 1) Lib.deBruijn64tab w) :
    Calls Tryz.prog 62 #[.int .u64 (m : Nat), .int .i64 e] w fun x w' => x = .returned (.tuple #[.int .u64 (om m : Nat), .int .i64 (oe m e)]) ∧ w' = w := by
  unfold om oe
  by_cases h : m = 0
  · subst h
    go_enter Tryz.func62, Tryz.ntmps62
    go_wp2
    go_ret2
    exact ⟨rfl, rfl⟩
  · rw [if_neg h, if_neg h]
    have HT := hide (Tryz.bits_TrailingZeros64 m hm w hT)
    have hl := ctz_lt h hm
    generalize Lib.ctz 64 m = k at HT hl
    have hz : ((m : Int) == 0) = false := by simpa using h
    have hw : IntKind.i64.wrap (e + (k : Int)) = e + (k : Int) := by simp [IntKind.wrap_i64]; omega
    go_enter Tryz.func62, Tryz.ntmps62
    go_wp2_with (go_at_call 75; refine (unhide HT).mono ?_; rintro e w' ⟨rfl, rfl⟩)
    go_ret2
    exact ⟨rfl, rfl⟩

/-- The tables and variables that the library's functions look at lie below B, as the program lays them. -/
structure Gl (B : Nat) (w : World) : Prop where
  err : ∃ te pe, w.cell? ⟨Tryz.laysC172_ren.g 16, 0, none⟩ = some (.iface te pe)
  tz : TabAt (Tryz.lays29_ren.g 1) Lib.deBruijn64tab w
  pow : Lib.TabBelow Tryz.prog B w "internal/strconv.uint64pow10" .u64 Lib.pow10Tab
  g1 : Tryz.laysC172_ren.g 16 < B
  g2 : Tryz.lays29_ren.g 1 < B
theorem Gl.on {B : Nat} {w w' : World} (h : Gl B w) (hb : Below B w w') : Gl B w' :=
  ⟨by obtain ⟨te, pe, e⟩ := h.err; exact ⟨te, pe, by rw [hb.cell h.g1]; exact e⟩, fun j hj => by rw [hb.cell h.g2]; exact h.tz j hj, h.pow.on hb, h.g1, h.g2⟩
theorem Gl.up {B B' : Nat} {w : World} (h : Gl B w) (hB : B ≤ B') : Gl B' w :=
  ⟨h.err, h.tz, fun w' hb => h.pow w' (hb.mono hB), Nat.lt_of_lt_of_le h.g1 hB, Nat.lt_of_lt_of_le h.g2 hB⟩

theorem mant_lt (b : Nat) : mant b < 9007199254740992 := by unfold mant fr; split <;> omega
theorem splitOf_num {b : Nat} (h : pw b ≠ 2047) : splitOf b = .tuple #[.bool (ng b), .int .u64 (mant b : Nat), .int .i64 (expo b), .int .i64 0] := by
  unfold splitOf mant expo
  rw [if_neg h]
  split <;> simp
theorem expo_in (b : Nat) : -1074 ≤ expo b ∧ expo b ≤ 972 := by unfold expo pw; split <;> omega
theorem oe_in (b : Nat) : -1074 ≤ oe (mant b) (expo b) ∧ oe (mant b) (expo b) ≤ 1100 := by
  have := expo_in b
  unfold oe
  split
  · omega
  · rename_i h
    have := ctz_lt h (by have := mant_lt b; omega)
    omega
theorem om_lt (b : Nat) : om (mant b) < 9007199254740992 := by
  have := mant_lt b
  unfold om; split
  · omega
  · exact Nat.lt_of_le_of_lt (Nat.div_le_self _ _) this

theorem hexL_len_le : ∀ (k n : Nat), n < 16 ^ (k + 1) → (hexL n).length ≤ k + 1
  | 0, n, h => by rw [hexL_small (by simpa using h)]; exact Nat.le_refl _
  | k + 1, n, h => by
    by_cases h1 : n < 16
    · rw [hexL_small h1]; simp
    · rw [hexL_step h1, List.length_append]
      have := hexL_len_le k (n / 16) (by rw [Nat.pow_succ] at h; omega)
      simp; omega
theorem hexL_len (m : Nat) (h : m < 9007199254740992) : (hexL m).length ≤ 14 := hexL_len_le 13 m (Nat.lt_of_lt_of_le h (by decide))

set_option maxHeartbeats 4000000 in
set_option maxRecDepth 100000 in
theorem fltW_num (B : Nat) (b : Nat) (hb : b < 18446744073709551616) (sv : Value) (l : List UInt8) (w : World) (hown : Ow B w sv l) (hBw : B ≤ w.heap.size) (hlim : l.length ≤ 100000) (hG : Gl B w) (hn : isnan b = false) (hi : pw b ≠ 2047) (hs : ng b = false) :
    Calls Tryz.prog 49 #[sv, .float .f64 b] w fun e w' => ∃ v', e = .returned v' ∧ Ow B w' v' (l ++ fltN b) ∧ Below B w w' := by
  have H1 := hide (isnan_run b hb w)
  have H2 := hide (signbit_any b hb w)
  have H3 := hide (fun w => isinf_any b hb hn w)
  have H4 := hide (fun w => split_any b hb w)
  have H5 := hide (fun w (hG : Gl B w) => odd_any (mant b) (expo b) (by have := mant_lt b; omega) (by have := expo_in b; omega) (by have := expo_in b; omega) w hG.tz)
  rw [hn] at H1
  rw [hs] at H2
  rw [decide_eq_false hi] at H3
  rw [splitOf_num hi] at H4
  have h6 := om_lt b
  have h7 := oe_in b
  have E : Hid (fltN b = [48, 120] ++ hexL (om (mant b)) ++ [112] ++ Lib.itoa (oe (mant b) (expo b))) := rfl
  generalize fltN b = F at E
  have h8 := hexL_len (om (mant b)) h6
  generalize om (mant b) = m at *
  generalize oe (mant b) (expo b) = x at *
  generalize mant b = m1 at *
  generalize expo b = x1 at *
  have HO := hide hown
  have HG := hide hG
  clear hown hG hn hi hs
  have A0 : ∀ (w : World) (c : UInt8) (j : Nat) (hj : j < [c].length), (w.alloc (Obj.cells #[Value.int IntKind.u8 (c.toNat : Nat)] 5)).cell? ⟨w.heap.size, 0 + j, none⟩ = some (.int .u8 ([c][j]'hj).toNat) := by
    intro w c j hj
    obtain rfl : j = 0 := by simpa using hj
    exact Blk.cell Blk.alloc 0 rfl
  have HA := hide A0
  clear A0
  go_enter Tryz.func49, Tryz.ntmps49
  go_wp2_with (first
    | (go_at_call 58; refine (unhide H1).mono ?_; rintro e w' ⟨rfl, hw'⟩; obtain rfl := hw'.symm)
    | (go_at_call 59; refine (unhide H2).mono ?_; rintro e w' ⟨rfl, hw'⟩; obtain rfl := hw'.symm)
    | (go_at_call 60; refine (unhide H3 _).mono ?_; rintro e w' ⟨rfl, hw'⟩; obtain rfl := hw'.symm)
    | (go_at_call 61; refine (unhide H4 _).mono ?_; rintro e w' ⟨rfl, hw'⟩; obtain rfl := hw'.symm)
    | (go_at_call 62; refine (unhide H5 _ (unhide HG)).mono ?_; rintro e w' ⟨rfl, hw'⟩; obtain rfl := hw'.symm)
    | (at_builtin; refine Ow.app_str rfl _ _ rfl sv l rfl (unhide HO) ⟨#[48, 120]⟩ rfl (by omega) (by decide) hBw ?_; intro v1 w1 ho1 hb1; have HO1 : Hid (Ow B w1 v1 (l ++ [48, 120])) := ho1; have HB1 := hide hb1; clear ho1 hb1; refine Hid.out ?_))
  refine hide ?_
  have G1 := hide ((unhide HG).on (unhide HB1))
  have S1 : B ≤ w1.heap.size := Nat.le_trans hBw (unhide HB1).size
  have L1 : (l ++ [48, 120]).length ≤ 200000 := by simp; omega
  go_wp2_with (go_at_call 63; refine (appendUint16 B m (by omega) v1 _ w1 (unhide HO1) S1 (by omega) (unhide G1).tz (Nat.lt_of_lt_of_le (unhide G1).g2 S1)).mono ?_; rintro e w2 ⟨v2, rfl, ho2, hb2⟩; have HO2 := hide ho2; have HB2 := hide hb2; clear ho2 hb2; refine Hid.out ?_)
  refine hide ?_
  have G2 := hide ((unhide G1).on (unhide HB2))
  have S2 : B ≤ w2.heap.size := Nat.le_trans S1 (unhide HB2).size
  have L2 : (l ++ [48, 120] ++ hexL m).length ≤ 300000 := by simp; omega
  go_wp2_with (at_builtin; refine Ow.app_row rfl _ _ rfl v2 _ rfl ((unhide HO2).low ((Below.refl _ _).alloc (Nat.le_refl _) _)) w2.heap.size 0 1 1 [112] rfl rfl (unhide HA w2 112) (by omega) (by decide) (Nat.le_trans S2 ((Below.refl w2.heap.size w2).alloc (Nat.le_refl _) _).size) ?_; intro v3 w3 ho3 hb3; have HO3 := hide ho3; have HB3 := hide (((Below.refl B w2).alloc S2 _).trans hb3); clear ho3 hb3; refine Hid.out ?_)
  refine hide ?_
  have G3 := hide ((unhide G2).on (unhide HB3))
  have S3 : B ≤ w3.heap.size := Nat.le_trans S2 (unhide HB3).size
  have L3 : (l ++ [48, 120] ++ hexL m ++ [112]).length ≤ 400000 := by simp; omega
  go_wp2_with (go_at_call 64; refine (Tryz.strconv_AppendInt B _ x (by omega) (by omega) v3 _ w3 (unhide HO3) S3 (by omega) (unhide G3).pow).mono ?_; rintro e w4 ⟨v4, rfl, ho4, hb4, -⟩; have HO4 := hide ho4; have HB4 := hide hb4; clear ho4 hb4)
  go_ret
  refine ⟨_, rfl, ?_, (unhide HB1).trans ((unhide HB2).trans ((unhide HB3).trans (unhide HB4)))⟩
  have e := unhide HO4
  rw [unhide E]
  unfold Ow
  have e1 : (l ++ ([48, 120] ++ hexL m ++ [112] ++ Lib.itoa x)).length = (l ++ [48, 120] ++ hexL m ++ [112]).length + (Lib.itoa x).length := by simp only [List.length_append]; omega
  have e2 : Lib.byteCells (l ++ ([48, 120] ++ hexL m ++ [112] ++ Lib.itoa x)) = Lib.byteCells (l ++ [48, 120] ++ hexL m ++ [112]) ++ Lib.byteCells (Lib.itoa x) := by simp [Lib.byteCells]
  rw [e1, e2]
  exact e

set_option maxHeartbeats 4000000 in
set_option maxRecDepth 100000 in
theorem fltW_neg (B : Nat) (b : Nat) (hb : b < 18446744073709551616) (sv : Value) (l : List UInt8) (w : World) (hown : Ow B w sv l) (hBw : B ≤ w.heap.size) (hlim : l.length ≤ 100000) (hG : Gl B w) (hn : isnan b = false) (hi : pw b ≠ 2047) (hs : ng b = true) :
    Calls Tryz.prog 49 #[sv, .float .f64 b] w fun e w' => ∃ v', e = .returned v' ∧ Ow B w' v' (l ++ [45] ++ fltN b) ∧ Below B w w' := by
  have H1 := hide (isnan_run b hb w)
  have H2 := hide (signbit_any b hb w)
  have H3 := hide (fun w => isinf_any b hb hn w)
  have H4 := hide (fun w => split_any b hb w)
  have H5 := hide (fun w (hG : Gl B w) => odd_any (mant b) (expo b) (by have := mant_lt b; omega) (by have := expo_in b; omega) (by have := expo_in b; omega) w hG.tz)
  rw [hn] at H1
  rw [hs] at H2
  rw [decide_eq_false hi] at H3
  rw [splitOf_num hi] at H4
  have h6 := om_lt b
  have h7 := oe_in b
  have E : Hid (fltN b = [48, 120] ++ hexL (om (mant b)) ++ [112] ++ Lib.itoa (oe (mant b) (expo b))) := rfl
  generalize fltN b = F at E
  have h8 := hexL_len (om (mant b)) h6
  generalize om (mant b) = m at *
  generalize oe (mant b) (expo b) = x at *
  generalize mant b = m1 at *
  generalize expo b = x1 at *
  have HO := hide hown
  have HG := hide hG
  clear hown hG hn hi hs
  have A0 : ∀ (w : World) (c : UInt8) (j : Nat) (hj : j < [c].length), (w.alloc (Obj.cells #[Value.int IntKind.u8 (c.toNat : Nat)] 5)).cell? ⟨w.heap.size, 0 + j, none⟩ = some (.int .u8 ([c][j]'hj).toNat) := by
    intro w c j hj
    obtain rfl : j = 0 := by simpa using hj
    exact Blk.cell Blk.alloc 0 rfl
  have HA := hide A0
  clear A0
  go_enter Tryz.func49, Tryz.ntmps49
  go_wp2_with (first
    | (go_at_call 58; refine (unhide H1).mono ?_; rintro e w' ⟨rfl, hw'⟩; obtain rfl := hw'.symm)
    | (go_at_call 59; refine (unhide H2).mono ?_; rintro e w' ⟨rfl, hw'⟩; obtain rfl := hw'.symm)
    | (at_builtin; refine Ow.app_row rfl _ _ rfl sv l rfl ((unhide HO).low ((Below.refl _ _).alloc (Nat.le_refl _) _)) w.heap.size 0 1 1 [45] rfl rfl (unhide HA w 45) (by omega) (by decide) (Nat.le_trans hBw ((Below.refl w.heap.size w).alloc (Nat.le_refl _) _).size) ?_; intro v0 w0 ho0 hb0; have HO0 := hide ho0; have HB0 := hide (((Below.refl B w).alloc hBw _).trans hb0); clear ho0 hb0; refine Hid.out ?_))
  refine hide ?_
  have G0 := hide ((unhide HG).on (unhide HB0))
  have S0 : B ≤ w0.heap.size := Nat.le_trans hBw (unhide HB0).size
  clear HO HG hBw
  have HO := HO0
  have HG := G0
  have hBw := S0
  clear HO0 G0 S0
  go_wp2_with (first
    | (go_at_call 60; refine (unhide H3 _).mono ?_; rintro e w' ⟨rfl, hw'⟩; obtain rfl := hw'.symm)
    | (go_at_call 61; refine (unhide H4 _).mono ?_; rintro e w' ⟨rfl, hw'⟩; obtain rfl := hw'.symm)
    | (go_at_call 62; refine (unhide H5 _ (unhide HG)).mono ?_; rintro e w' ⟨rfl, hw'⟩; obtain rfl := hw'.symm)
    | (at_builtin; refine Ow.app_str rfl _ _ rfl v0 (l ++ [45]) rfl (unhide HO) ⟨#[48, 120]⟩ rfl (by rw [List.length_append]; show l.length + 1 ≤ _; omega) (by decide) hBw ?_; intro v1 w1 ho1 hb1; have HO1 : Hid (Ow B w1 v1 ((l ++ [45]) ++ [48, 120])) := ho1; have HB1 := hide hb1; clear ho1 hb1; refine Hid.out ?_))
  refine hide ?_
  have G1 := hide ((unhide HG).on (unhide HB1))
  have S1 : B ≤ w1.heap.size := Nat.le_trans hBw (unhide HB1).size
  have L1 : ((l ++ [45]) ++ [48, 120]).length ≤ 200000 := by simp; omega
  go_wp2_with (go_at_call 63; refine (appendUint16 B m (by omega) v1 _ w1 (unhide HO1) S1 (by omega) (unhide G1).tz (Nat.lt_of_lt_of_le (unhide G1).g2 S1)).mono ?_; rintro e w2 ⟨v2, rfl, ho2, hb2⟩; have HO2 := hide ho2; have HB2 := hide hb2; clear ho2 hb2; refine Hid.out ?_)
  refine hide ?_
  have G2 := hide ((unhide G1).on (unhide HB2))
  have S2 : B ≤ w2.heap.size := Nat.le_trans S1 (unhide HB2).size
  have L2 : ((l ++ [45]) ++ [48, 120] ++ hexL m).length ≤ 300000 := by simp; omega
  go_wp2_with (at_builtin; refine Ow.app_row rfl _ _ rfl v2 _ rfl ((unhide HO2).low ((Below.refl _ _).alloc (Nat.le_refl _) _)) w2.heap.size 0 1 1 [112] rfl rfl (unhide HA w2 112) (by omega) (by decide) (Nat.le_trans S2 ((Below.refl w2.heap.size w2).alloc (Nat.le_refl _) _).size) ?_; intro v3 w3 ho3 hb3; have HO3 := hide ho3; have HB3 := hide (((Below.refl B w2).alloc S2 _).trans hb3); clear ho3 hb3; refine Hid.out ?_)
  refine hide ?_
  have G3 := hide ((unhide G2).on (unhide HB3))
  have S3 : B ≤ w3.heap.size := Nat.le_trans S2 (unhide HB3).size
  have L3 : ((l ++ [45]) ++ [48, 120] ++ hexL m ++ [112]).length ≤ 400000 := by simp; omega
  go_wp2_with (go_at_call 64; refine (Tryz.strconv_AppendInt B _ x (by omega) (by omega) v3 _ w3 (unhide HO3) S3 (by omega) (unhide G3).pow).mono ?_; rintro e w4 ⟨v4, rfl, ho4, hb4, -⟩; have HO4 := hide ho4; have HB4 := hide hb4; clear ho4 hb4)
  go_ret
  refine ⟨_, rfl, ?_, (unhide HB0).trans ((unhide HB1).trans ((unhide HB2).trans ((unhide HB3).trans (unhide HB4))))⟩
  have e := unhide HO4
  rw [unhide E]
  unfold Ow
  have e1 : ((l ++ [45]) ++ ([48, 120] ++ hexL m ++ [112] ++ Lib.itoa x)).length = ((l ++ [45]) ++ [48, 120] ++ hexL m ++ [112]).length + (Lib.itoa x).length := by simp only [List.length_append]; omega
  have e2 : Lib.byteCells ((l ++ [45]) ++ ([48, 120] ++ hexL m ++ [112] ++ Lib.itoa x)) = Lib.byteCells ((l ++ [45]) ++ [48, 120] ++ hexL m ++ [112]) ++ Lib.byteCells (Lib.itoa x) := by simp [Lib.byteCells]
  rw [e1, e2]
  exact e
end Go.Proofs.YtbkjmnopljmanaaGreatDoor
