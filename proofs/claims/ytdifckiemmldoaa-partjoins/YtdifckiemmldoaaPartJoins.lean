/- For every sign, every uint64 m and every int e, PartJoins(neg, m, e) is true: Join answers as the document's own function does, bit by bit. No condition. -/
import Derived.Test.YtdifckiemmldoaaNearNum
import Derived.Test.YtdifckiemmldoaaRef
import Derived.ProofKit
namespace Go.Proofs.Ytdifckiemmldoaa
open Go.ChangeShapes Go.WideShapes Go.ChangeAt Go.RowKit

set_option maxRecDepth 100000 in
set_option maxHeartbeats 1000000 in
theorem size_any (M : Int) (h0 : 0 ≤ M) (h1 : M ≤ 18446744073709551615) (w : World) :
    Calls Try.prog 45 #[.int .u64 M] w fun e w' => e = .returned (.int .i64 (Lib.bitLen M.toNat)) ∧ w' = w := by
  have hle := bitLen_le64 M.toNat (by omega)
  go_enter Try.func45, Try.ntmps45
  go_wp2
  go_loop [0, 3] (fun m n => ∃ x k : Int, m = .int .u64 x ∧ n = .int .i64 k ∧ 0 ≤ x ∧ x ≤ 18446744073709551615 ∧ 0 ≤ k ∧ k ≤ 64 ∧ Hid (k + Lib.bitLen x.toNat = Lib.bitLen M.toNat))
    (fun m _ => (intOf m).toNat)
  case atStart => exact ⟨M, 0, rfl, rfl, h0, h1, by omega, by omega, by simp [Hid]⟩
  case round =>
    obtain ⟨x, k, rfl, rfl, hx0, hx1, hk0, hk1, Hb⟩ := hrel
    go_wp2
    · have hlt : 0 < x := by assumption
      go_round
      case rel =>
        have hb := unhide Hb
        have e := Lib.bitLen_half x.toNat (by omega) (by omega)
        refine ⟨x / 2, k + 1, by go_num, by go_num, by omega, by omega, by omega, ?_, ?_⟩
        · omega
        · rw [Hid, ← hb, e, show (x / 2).toNat = x.toNat / 2 by omega]; omega
      case measure => simp only [intOf]; omega
    · have hge : x ≤ 0 := by assumption
      have : x = 0 := by omega
      subst this
      have hb := unhide Hb
      go_ret
      rw [← hb]
      simp [bitLen_zero]

set_option maxRecDepth 100000 in
set_option maxHeartbeats 1000000 in
theorem nearest_zero (m e : Int) (h : m = 0 ∨ e < -1200) (w : World) :
    Calls Try.prog 37 #[.int .u64 m, .int .i64 e] w fun r w' => r = .returned (.int .u64 0) ∧ w' = w := by
  by_cases h0 : m = 0
  · have t : (m == 0) = true := by simp [h0]
    clear h h0
    go_enter Try.func37, Try.ntmps37
    go_wp2
    go_ret
    exact ⟨rfl, rfl⟩
  · have t : (m == 0) = false := by simp [h0]
    have t2 : e < -1200 := by omega
    clear h h0
    go_enter Try.func37, Try.ntmps37
    go_wp2
    go_ret
    exact ⟨rfl, rfl⟩

set_option maxRecDepth 100000 in
set_option maxHeartbeats 1000000 in
theorem nearest_high (m e : Int) (h : m ≠ 0) (he : 1100 < e) (w : World) :
    Calls Try.prog 37 #[.int .u64 m, .int .i64 e] w fun r w' => r = .returned (.int .u64 9218868437227405312) ∧ w' = w := by
  have t : (m == 0) = false := by simp [h]
  clear h
  go_enter Try.func37, Try.ntmps37
  go_wp2
  go_ret
  exact ⟨rfl, rfl⟩

set_option maxRecDepth 100000 in
set_option maxHeartbeats 1000000 in
theorem nearest_up_sub (m e L : Int) (K J : Int) (hm : 0 < m) (hm' : m ≤ 18446744073709551615) (he : -1200 ≤ e) (he' : e ≤ 1100) (l0 : 1 ≤ L) (l1 : L ≤ 64)
    (hst : L + e - 53 < -1074) (hSe : (-1074) ≤ e) (hK : Hid (K = m * 2 ^ (e - (-1074)).toNat)) (hKb : Hid (∀ j : Nat, j ≤ (e - (-1074)).toNat → m * 2 ^ j < 9007199254740992))
    (j1 : Hid (K < 4503599627370496 → J = K)) (j2 : Hid (4503599627370496 ≤ K → K - 4503599627370496 + ((-1074) + 1075) * 4503599627370496 ≤ 9218868437227405312 → J = K - 4503599627370496 + ((-1074) + 1075) * 4503599627370496))
    (j3 : Hid (4503599627370496 ≤ K → 9218868437227405312 < K - 4503599627370496 + ((-1074) + 1075) * 4503599627370496 → J = 9218868437227405312))
    (Hl : Hid (∀ x, Calls Try.prog 45 #[.int .u64 m] x fun r w' => r = .returned (.int .i64 L) ∧ w' = x)) (w : World) :
    Calls Try.prog 37 #[.int .u64 m, .int .i64 e] w fun r w' => r = .returned (.int .u64 J) ∧ w' = w := by
  have t0 : (m == 0) = false := by simp; omega
  have t1 : ¬ e < -1200 := by omega
  have t2 : ¬ 1100 < e := by omega
  go_enter Try.func37, Try.ntmps37
  go_wp2_with fail
  refine (unhide Hl _).mono ?_
  rintro e w' ⟨rfl, rfl⟩
  go_wp2
  go_loop [6, 7] (fun n i => ∃ z k : Int, n = .int .u64 z ∧ i = .int .i64 k ∧ (-1074) ≤ k ∧ k ≤ e ∧ 0 ≤ z ∧ z < 9007199254740992 ∧ Hid (z = m * 2 ^ (k - (-1074)).toNat))
    (fun _ i => (e - intOf i).toNat)
  case atStart =>
    have hb := unhide hKb 0 (by omega)
    exact ⟨m, (-1074), rfl, rfl, by omega, by omega, by omega, by simpa using hb, by rw [Hid, Int.sub_self]; simp⟩
  case round =>
    obtain ⟨z, k, rfl, rfl, k0, k1, z0, z1, Hz⟩ := hrel
    by_cases hk : k < e
    · go_wp2
      go_round
      case rel =>
        have hb := unhide hKb (k + 1 - (-1074)).toNat (by omega)
        have hz := unhide Hz
        have hp : m * 2 ^ (k + 1 - (-1074)).toNat = z * 2 := by
          rw [show (k + 1 - (-1074)).toNat = (k - (-1074)).toNat + 1 by omega, Int.pow_succ, ← Int.mul_assoc, ← hz]
        refine ⟨z * 2, k + 1, by go_num, by go_num, by omega, by omega, by omega, ?_, ?_⟩
        · rw [← hp]; exact hb
        · rw [Hid, hp]
      case measure => simp only [intOf]; omega
    · have hke : k = e := by omega
      have hzK : z = K := by rw [unhide Hz, unhide hK, hke]
      subst hzK
      have hk' : e ≤ k := by omega
      have Hke := hide hke
      clear hke hK hKb Hz
      go_wp2
      all_goals go_ret
      all_goals (
        have J1 := unhide j1
        have J2 := unhide j2
        have J3 := unhide j3
        refine ⟨congrArg Ending.returned (congrArg (Value.int IntKind.u64) ?_), rfl⟩
        omega)

set_option maxRecDepth 100000 in
set_option maxHeartbeats 1000000 in
theorem nearest_up_norm (m e L : Int) (K J : Int) (hm : 0 < m) (hm' : m ≤ 18446744073709551615) (he : -1200 ≤ e) (he' : e ≤ 1100) (l0 : 1 ≤ L) (l1 : L ≤ 64)
    (hst : -1074 ≤ L + e - 53) (hSe : (L + e - 53) ≤ e) (hK : Hid (K = m * 2 ^ (e - (L + e - 53)).toNat)) (hKb : Hid (∀ j : Nat, j ≤ (e - (L + e - 53)).toNat → m * 2 ^ j < 9007199254740992))
    (j1 : Hid (K < 4503599627370496 → J = K)) (j2 : Hid (4503599627370496 ≤ K → K - 4503599627370496 + ((L + e - 53) + 1075) * 4503599627370496 ≤ 9218868437227405312 → J = K - 4503599627370496 + ((L + e - 53) + 1075) * 4503599627370496))
    (j3 : Hid (4503599627370496 ≤ K → 9218868437227405312 < K - 4503599627370496 + ((L + e - 53) + 1075) * 4503599627370496 → J = 9218868437227405312))
    (Hl : Hid (∀ x, Calls Try.prog 45 #[.int .u64 m] x fun r w' => r = .returned (.int .i64 L) ∧ w' = x)) (w : World) :
    Calls Try.prog 37 #[.int .u64 m, .int .i64 e] w fun r w' => r = .returned (.int .u64 J) ∧ w' = w := by
  have t0 : (m == 0) = false := by simp; omega
  have t1 : ¬ e < -1200 := by omega
  have t2 : ¬ 1100 < e := by omega
  go_enter Try.func37, Try.ntmps37
  go_wp2_with fail
  refine (unhide Hl _).mono ?_
  rintro e w' ⟨rfl, rfl⟩
  go_wp2
  go_loop [6, 7] (fun n i => ∃ z k : Int, n = .int .u64 z ∧ i = .int .i64 k ∧ (L + e - 53) ≤ k ∧ k ≤ e ∧ 0 ≤ z ∧ z < 9007199254740992 ∧ Hid (z = m * 2 ^ (k - (L + e - 53)).toNat))
    (fun _ i => (e - intOf i).toNat)
  case atStart =>
    have hb := unhide hKb 0 (by omega)
    exact ⟨m, (L + e - 53), rfl, rfl, by omega, by omega, by omega, by simpa using hb, by rw [Hid, Int.sub_self]; simp⟩
  case round =>
    obtain ⟨z, k, rfl, rfl, k0, k1, z0, z1, Hz⟩ := hrel
    by_cases hk : k < e
    · go_wp2
      go_round
      case rel =>
        have hb := unhide hKb (k + 1 - (L + e - 53)).toNat (by omega)
        have hz := unhide Hz
        have hp : m * 2 ^ (k + 1 - (L + e - 53)).toNat = z * 2 := by
          rw [show (k + 1 - (L + e - 53)).toNat = (k - (L + e - 53)).toNat + 1 by omega, Int.pow_succ, ← Int.mul_assoc, ← hz]
        refine ⟨z * 2, k + 1, by go_num, by go_num, by omega, by omega, by omega, ?_, ?_⟩
        · rw [← hp]; exact hb
        · rw [Hid, hp]
      case measure => simp only [intOf]; omega
    · have hke : k = e := by omega
      have hzK : z = K := by rw [unhide Hz, unhide hK, hke]
      subst hzK
      have hk' : e ≤ k := by omega
      have Hke := hide hke
      clear hke hK hKb Hz
      go_wp2
      all_goals go_ret
      all_goals (
        have J1 := unhide j1
        have J2 := unhide j2
        have J3 := unhide j3
        refine ⟨congrArg Ending.returned (congrArg (Value.int IntKind.u64) ?_), rfl⟩
        omega)

set_option maxRecDepth 100000 in
set_option maxHeartbeats 1000000 in
theorem nearest_down_sub (m e L : Int) (K J : Int) (hm : 0 < m) (hm' : m ≤ 18446744073709551615) (he : -1200 ≤ e) (he' : e ≤ 1100) (l0 : 1 ≤ L) (l1 : L ≤ 64)
    (hst : L + e - 53 < -1074) (hSe : e < (-1074)) (hK : Hid (K = (rne m.toNat ((-1074) - e).toNat : Int))) (hKb : K ≤ 9007199254740992)
    (j1 : Hid (K < 4503599627370496 → J = K)) (j2 : Hid (4503599627370496 ≤ K → K - 4503599627370496 + ((-1074) + 1075) * 4503599627370496 ≤ 9218868437227405312 → J = K - 4503599627370496 + ((-1074) + 1075) * 4503599627370496))
    (j3 : Hid (4503599627370496 ≤ K → 9218868437227405312 < K - 4503599627370496 + ((-1074) + 1075) * 4503599627370496 → J = 9218868437227405312))
    (Hl : Hid (∀ x, Calls Try.prog 45 #[.int .u64 m] x fun r w' => r = .returned (.int .i64 L) ∧ w' = x)) (w : World) :
    Calls Try.prog 37 #[.int .u64 m, .int .i64 e] w fun r w' => r = .returned (.int .u64 J) ∧ w' = w := by
  have t0 : (m == 0) = false := by simp; omega
  have t1 : ¬ e < -1200 := by omega
  have t2 : ¬ 1100 < e := by omega
  go_enter Try.func37, Try.ntmps37
  go_wp2_with fail
  refine (unhide Hl _).mono ?_
  rintro e w' ⟨rfl, rfl⟩
  go_wp2
  go_loop [6, 8, 9, 10] (fun n r h i => ∃ z q k : Int, ∃ b : Bool, n = .int .u64 z ∧ r = .int .u64 q ∧ h = .bool b ∧ i = .int .i64 k ∧ e ≤ k ∧ k ≤ (-1074) ∧ 0 ≤ z ∧ z ≤ 18446744073709551615 ∧ (q = 0 ∨ q = 1) ∧ Hid (St m.toNat (k - e).toNat z q b))
    (fun _ _ _ i => ((-1074) - intOf i).toNat)
  case atStart =>
    refine ⟨m, 0, e, false, rfl, rfl, rfl, rfl, by omega, by omega, by omega, by omega, Or.inl rfl, ?_⟩
    have s := St.start m.toNat
    rw [show ((m.toNat : Nat) : Int) = m by omega] at s
    rw [Hid, Int.sub_self]; exact s
  case round =>
    obtain ⟨z, q, k, b, rfl, rfl, rfl, rfl, k0, k1, z0, z1, hq, Hs⟩ := hrel
    by_cases hk : k < (-1074)
    · have hnx : Hid (St m.toNat (k + 1 - e).toNat (z / 2) (z % 2) (b || (q == 1))) := by
        rw [Hid, show (k + 1 - e).toNat = (k - e).toNat + 1 by omega]
        exact (unhide Hs).succ
      cases b
      · rcases hq with rfl | rfl
        all_goals (
          go_wp2
          go_round
          case rel => exact ⟨z / 2, z % 2, k + 1, _, by go_num, by go_num, rfl, by go_num, by omega, by omega, by omega, by omega, by omega, hnx⟩
          case measure => simp only [intOf]; omega)
      · go_wp2
        go_round
        case rel => exact ⟨z / 2, z % 2, k + 1, _, by go_num, by go_num, rfl, by go_num, by omega, by omega, by omega, by omega, by omega, hnx⟩
        case measure => simp only [intOf]; omega
    · have hke : k = (-1074) := by omega
      have hf := (unhide Hs).kept (by omega)
      rw [hke, ← unhide hK] at hf
      clear hK Hs
      have hk' : (-1074) ≤ k := by omega
      clear hke
      cases b
      · rcases hq with rfl | rfl
        · rw [if_neg (by omega)] at hf
          have Hf := hide hf
          have zb : z ≤ 9007199254740992 := by omega
          clear hf
          go_wp2
          all_goals go_ret
          all_goals (
            have J1 := unhide j1
            have J2 := unhide j2
            have J3 := unhide j3
            refine ⟨congrArg Ending.returned (congrArg (Value.int IntKind.u64) ?_), rfl⟩
            have F := unhide Hf; omega)
        · by_cases ho : z % 2 = 1
          · rw [if_pos ⟨rfl, Or.inr ho⟩] at hf
            have Hf := hide hf
            have zb : z + 1 ≤ 9007199254740992 := by omega
            have to : (z % 2 == 1) = true := by simp [ho]
            clear hf ho
            go_wp2
            all_goals go_ret
            all_goals (
              have J1 := unhide j1
              have J2 := unhide j2
              have J3 := unhide j3
              refine ⟨congrArg Ending.returned (congrArg (Value.int IntKind.u64) ?_), rfl⟩
              have F := unhide Hf; omega)
          · rw [if_neg (by rintro ⟨_, g | g⟩; cases g; exact ho g)] at hf
            have Hf := hide hf
            have zb : z ≤ 9007199254740992 := by omega
            have to : (z % 2 == 1) = false := by simp; omega
            clear hf ho
            go_wp2
            all_goals go_ret
            all_goals (
              have J1 := unhide j1
              have J2 := unhide j2
              have J3 := unhide j3
              refine ⟨congrArg Ending.returned (congrArg (Value.int IntKind.u64) ?_), rfl⟩
              have F := unhide Hf; omega)
      · rcases hq with rfl | rfl
        · rw [if_neg (by omega)] at hf
          have Hf := hide hf
          have zb : z ≤ 9007199254740992 := by omega
          clear hf
          go_wp2
          all_goals go_ret
          all_goals (
            have J1 := unhide j1
            have J2 := unhide j2
            have J3 := unhide j3
            refine ⟨congrArg Ending.returned (congrArg (Value.int IntKind.u64) ?_), rfl⟩
            have F := unhide Hf; omega)
        · rw [if_pos ⟨rfl, Or.inl rfl⟩] at hf
          have Hf := hide hf
          have zb : z + 1 ≤ 9007199254740992 := by omega
          clear hf
          go_wp2
          all_goals go_ret
          all_goals (
            have J1 := unhide j1
            have J2 := unhide j2
            have J3 := unhide j3
            refine ⟨congrArg Ending.returned (congrArg (Value.int IntKind.u64) ?_), rfl⟩
            have F := unhide Hf; omega)

set_option maxRecDepth 100000 in
set_option maxHeartbeats 1000000 in
theorem nearest_down_norm (m e L : Int) (K J : Int) (hm : 0 < m) (hm' : m ≤ 18446744073709551615) (he : -1200 ≤ e) (he' : e ≤ 1100) (l0 : 1 ≤ L) (l1 : L ≤ 64)
    (hst : -1074 ≤ L + e - 53) (hSe : e < (L + e - 53)) (hK : Hid (K = (rne m.toNat ((L + e - 53) - e).toNat : Int))) (hKb : K ≤ 9007199254740992)
    (j1 : Hid (K < 4503599627370496 → J = K)) (j2 : Hid (4503599627370496 ≤ K → K - 4503599627370496 + ((L + e - 53) + 1075) * 4503599627370496 ≤ 9218868437227405312 → J = K - 4503599627370496 + ((L + e - 53) + 1075) * 4503599627370496))
    (j3 : Hid (4503599627370496 ≤ K → 9218868437227405312 < K - 4503599627370496 + ((L + e - 53) + 1075) * 4503599627370496 → J = 9218868437227405312))
    (Hl : Hid (∀ x, Calls Try.prog 45 #[.int .u64 m] x fun r w' => r = .returned (.int .i64 L) ∧ w' = x)) (w : World) :
    Calls Try.prog 37 #[.int .u64 m, .int .i64 e] w fun r w' => r = .returned (.int .u64 J) ∧ w' = w := by
  have t0 : (m == 0) = false := by simp; omega
  have t1 : ¬ e < -1200 := by omega
  have t2 : ¬ 1100 < e := by omega
  go_enter Try.func37, Try.ntmps37
  go_wp2_with fail
  refine (unhide Hl _).mono ?_
  rintro e w' ⟨rfl, rfl⟩
  go_wp2
  go_loop [6, 8, 9, 10] (fun n r h i => ∃ z q k : Int, ∃ b : Bool, n = .int .u64 z ∧ r = .int .u64 q ∧ h = .bool b ∧ i = .int .i64 k ∧ e ≤ k ∧ k ≤ (L + e - 53) ∧ 0 ≤ z ∧ z ≤ 18446744073709551615 ∧ (q = 0 ∨ q = 1) ∧ Hid (St m.toNat (k - e).toNat z q b))
    (fun _ _ _ i => ((L + e - 53) - intOf i).toNat)
  case atStart =>
    refine ⟨m, 0, e, false, rfl, rfl, rfl, rfl, by omega, by omega, by omega, by omega, Or.inl rfl, ?_⟩
    have s := St.start m.toNat
    rw [show ((m.toNat : Nat) : Int) = m by omega] at s
    rw [Hid, Int.sub_self]; exact s
  case round =>
    obtain ⟨z, q, k, b, rfl, rfl, rfl, rfl, k0, k1, z0, z1, hq, Hs⟩ := hrel
    by_cases hk : k < (L + e - 53)
    · have hnx : Hid (St m.toNat (k + 1 - e).toNat (z / 2) (z % 2) (b || (q == 1))) := by
        rw [Hid, show (k + 1 - e).toNat = (k - e).toNat + 1 by omega]
        exact (unhide Hs).succ
      cases b
      · rcases hq with rfl | rfl
        all_goals (
          go_wp2
          go_round
          case rel => exact ⟨z / 2, z % 2, k + 1, _, by go_num, by go_num, rfl, by go_num, by omega, by omega, by omega, by omega, by omega, hnx⟩
          case measure => simp only [intOf]; omega)
      · go_wp2
        go_round
        case rel => exact ⟨z / 2, z % 2, k + 1, _, by go_num, by go_num, rfl, by go_num, by omega, by omega, by omega, by omega, by omega, hnx⟩
        case measure => simp only [intOf]; omega
    · have hke : k = (L + e - 53) := by omega
      have hf := (unhide Hs).kept (by omega)
      rw [hke, ← unhide hK] at hf
      clear hK Hs
      have hk' : (L + e - 53) ≤ k := by omega
      clear hke
      cases b
      · rcases hq with rfl | rfl
        · rw [if_neg (by omega)] at hf
          have Hf := hide hf
          have zb : z ≤ 9007199254740992 := by omega
          clear hf
          go_wp2
          all_goals go_ret
          all_goals (
            have J1 := unhide j1
            have J2 := unhide j2
            have J3 := unhide j3
            refine ⟨congrArg Ending.returned (congrArg (Value.int IntKind.u64) ?_), rfl⟩
            have F := unhide Hf; omega)
        · by_cases ho : z % 2 = 1
          · rw [if_pos ⟨rfl, Or.inr ho⟩] at hf
            have Hf := hide hf
            have zb : z + 1 ≤ 9007199254740992 := by omega
            have to : (z % 2 == 1) = true := by simp [ho]
            clear hf ho
            go_wp2
            all_goals go_ret
            all_goals (
              have J1 := unhide j1
              have J2 := unhide j2
              have J3 := unhide j3
              refine ⟨congrArg Ending.returned (congrArg (Value.int IntKind.u64) ?_), rfl⟩
              have F := unhide Hf; omega)
          · rw [if_neg (by rintro ⟨_, g | g⟩; cases g; exact ho g)] at hf
            have Hf := hide hf
            have zb : z ≤ 9007199254740992 := by omega
            have to : (z % 2 == 1) = false := by simp; omega
            clear hf ho
            go_wp2
            all_goals go_ret
            all_goals (
              have J1 := unhide j1
              have J2 := unhide j2
              have J3 := unhide j3
              refine ⟨congrArg Ending.returned (congrArg (Value.int IntKind.u64) ?_), rfl⟩
              have F := unhide Hf; omega)
      · rcases hq with rfl | rfl
        · rw [if_neg (by omega)] at hf
          have Hf := hide hf
          have zb : z ≤ 9007199254740992 := by omega
          clear hf
          go_wp2
          all_goals go_ret
          all_goals (
            have J1 := unhide j1
            have J2 := unhide j2
            have J3 := unhide j3
            refine ⟨congrArg Ending.returned (congrArg (Value.int IntKind.u64) ?_), rfl⟩
            have F := unhide Hf; omega)
        · rw [if_pos ⟨rfl, Or.inl rfl⟩] at hf
          have Hf := hide hf
          have zb : z + 1 ≤ 9007199254740992 := by omega
          clear hf
          go_wp2
          all_goals go_ret
          all_goals (
            have J1 := unhide j1
            have J2 := unhide j2
            have J3 := unhide j3
            refine ⟨congrArg Ending.returned (congrArg (Value.int IntKind.u64) ?_), rfl⟩
            have F := unhide Hf; omega)

theorem cast_mul_pow (m : Int) (h : 0 ≤ m) (t : Nat) : ((m.toNat * 2 ^ t : Nat) : Int) = m * 2 ^ t := by
  obtain ⟨M, rfl⟩ := Int.eq_ofNat_of_zero_le h
  rw [Int.toNat_natCast, Int.natCast_mul, Int.natCast_pow]; rfl

theorem nearest_any (m e : Int) (hm : 0 ≤ m) (hm' : m ≤ 18446744073709551615) (w : World) :
    Calls Try.prog 37 #[.int .u64 m, .int .i64 e] w fun r w' => r = .returned (.int .u64 (joinRung m.toNat e)) ∧ w' = w := by
  by_cases h0 : m = 0 ∨ e < -1200
  · rw [show joinRung m.toNat e = 0 by unfold joinRung; rw [if_pos (by omega)]]
    exact nearest_zero m e h0 w
  by_cases h1 : 1100 < e
  · rw [show joinRung m.toNat e = 9218868437227405312 by unfold joinRung; rw [if_neg (by omega), if_pos (by omega)]]
    exact nearest_high m e (by omega) h1 w
  have hlt : m.toNat < 18446744073709551616 := by omega
  have hL := bitLen_le64 m.toNat hlt
  have hL1 := ((bitLen_bounds m.toNat hlt).2 (by omega)).2
  have hk := kept_le m.toNat e hlt
  have hs := step_ge m.toNat e
  obtain ⟨n1, n2, n3⟩ := near_ref m.toNat e hlt (by omega) (by omega) (by omega)
  have Hl := hide (fun x => size_any m hm hm' x)
  have hup : stepOf m.toNat e ≤ e → (kept m.toNat e : Int) = m * 2 ^ (e - stepOf m.toNat e).toNat := by
    intro h
    unfold kept
    rw [if_pos h, cast_mul_pow m hm]
  have hdn : e < stepOf m.toNat e → (kept m.toNat e : Int) = (rne m.toNat (stepOf m.toNat e - e).toNat : Int) := by
    intro h
    unfold kept
    rw [if_neg (by omega)]
  have hb : stepOf m.toNat e ≤ e → ∀ j : Nat, j ≤ (e - stepOf m.toNat e).toNat → m * 2 ^ j < 9007199254740992 := by
    intro hle j hj
    have := up_lt m.toNat j hlt (by omega)
    rw [← cast_mul_pow m hm]; omega
  by_cases h2 : (Lib.bitLen m.toNat : Int) + e - 53 < -1074
  · have hst : stepOf m.toNat e = -1074 := by unfold stepOf; omega
    rw [hst] at hup hdn hb n2 n3
    by_cases h3 : -1074 ≤ e
    · exact nearest_up_sub m e _ _ _ (by omega) hm' (by omega) (by omega) (by omega) (by omega) h2 h3 (hup h3) (hb h3) (fun h => by have := n1 (by omega); omega) (fun h h' => n2 (by omega) h') (fun h h' => by have := n3 (by omega) h'; omega) Hl w
    · exact nearest_down_sub m e _ _ _ (by omega) hm' (by omega) (by omega) (by omega) (by omega) h2 (by omega) (hdn (by omega)) (by omega) (fun h => by have := n1 (by omega); omega) (fun h h' => n2 (by omega) h') (fun h h' => by have := n3 (by omega) h'; omega) Hl w
  · have hst : stepOf m.toNat e = (Lib.bitLen m.toNat : Int) + e - 53 := by unfold stepOf; omega
    rw [hst] at hup hdn hb n2 n3
    by_cases h3 : (Lib.bitLen m.toNat : Int) + e - 53 ≤ e
    · exact nearest_up_norm m e _ _ _ (by omega) hm' (by omega) (by omega) (by omega) (by omega) (by omega) h3 (hup h3) (hb h3) (fun h => by have := n1 (by omega); omega) (fun h h' => n2 (by omega) h') (fun h h' => by have := n3 (by omega) h'; omega) Hl w
    · exact nearest_down_norm m e _ _ _ (by omega) hm' (by omega) (by omega) (by omega) (by omega) (by omega) (by omega) (hdn (by omega)) (by omega) (fun h => by have := n1 (by omega); omega) (fun h h' => n2 (by omega) h') (fun h h' => by have := n3 (by omega) h'; omega) Hl w

set_option maxRecDepth 100000 in
set_option maxHeartbeats 1000000 in
theorem signed_any (neg : Bool) (n : Int) (h0 : 0 ≤ n) (h1 : n ≤ 9218868437227405312) (w : World) :
    Calls Try.prog 36 #[.bool neg, .int .u64 n] w fun e w' => e = .returned (.float .f64 (putBits neg n)) ∧ w' = w := by
  have hx := run_frombits
  cases neg
  · have Hk : Hid (putBits false n = n.toNat) := by simp [Hid, putBits]
    go_enter Try.func36, Try.ntmps36
    go_wp2
    go_ret
    rw [unhide Hk]
    exact ⟨rfl, rfl⟩
  · have Hk : Hid (putBits true n = (n + 9223372036854775808).toNat) := by simp [Hid, putBits, Int.add_comm]
    go_enter Try.func36, Try.ntmps36
    go_wp2
    go_ret
    rw [unhide Hk]
    exact ⟨rfl, rfl⟩

set_option maxRecDepth 100000 in
set_option maxHeartbeats 1000000 in
theorem docJoin_any (neg : Bool) (m e : Int) (hm : 0 ≤ m) (hm' : m ≤ 18446744073709551615) (w : World) :
    Calls Try.prog 16 #[.bool neg, .int .u64 m, .int .i64 e] w fun r w' => r = .returned (.float .f64 (putBits neg (joinRung m.toNat e))) ∧ w' = w := by
  have H1 := hide (nearest_any m e hm hm')
  have hj := joinRung_le m.toNat e
  have H2 := hide (signed_any neg (joinRung m.toNat e) (by omega) (by omega))
  clear hm hm' hj
  go_enter Try.func16, Try.ntmps16
  go_wp2_with fail
  refine (unhide H1 _).mono ?_
  rintro e w' ⟨rfl, rfl⟩
  go_wp2_with fail
  refine (unhide H2 _).mono ?_
  rintro e w' ⟨rfl, rfl⟩
  go_wp2
  go_ret
  exact ⟨rfl, rfl⟩

set_option maxRecDepth 100000 in
set_option maxHeartbeats 1000000 in
theorem partJoins_any (neg : Bool) (m e : Int) (hm : 0 ≤ m ∧ m ≤ 18446744073709551615) (_he : -9223372036854775808 ≤ e ∧ e ≤ 9223372036854775807) (w : World) :
    Calls Try.prog 4 #[.bool neg, .int .u64 m, .int .i64 e] w fun e w' => e = .returned (.bool true) ∧ w' = w := by
  have H1 := hide (join_any neg m e hm.1 hm.2)
  have H2 := hide (docJoin_any neg m e hm.1 hm.2)
  generalize putBits neg (joinRung m.toNat e) = y at *
  have H3 := hide (bits_any y y)
  rw [show alike y y = true by simp [alike]] at H3
  clear hm _he
  go_enter Try.func4, Try.ntmps4
  go_wp2_with fail
  refine (awake_any _).mono ?_
  rintro e w' ⟨rfl, rfl⟩
  go_wp2_with fail
  refine (unhide H1 _).mono ?_
  rintro e w' ⟨rfl, rfl⟩
  go_wp2_with fail
  refine (unhide H2 _).mono ?_
  rintro e w' ⟨rfl, rfl⟩
  go_wp2_with fail
  refine (unhide H3 _).mono ?_
  rintro e w' ⟨rfl, rfl⟩
  go_wp2
  go_ret
  exact ⟨rfl, rfl⟩

set_option maxRecDepth 100000 in
theorem partJoins_lifted (os : Os) (started : os.Started) (H : Type) (enc : TypeId × Value → H) :
    ReturnsInHanded {} Try.checked os 4 .any (Rows.partJoinsSpec.pre6 enc Try.prog Try.f4 Rows.partJoinsRow.domain false) (Rows.partJoinsSpec.post enc Try.prog Try.f4 false true false false) := by
  refine returnsInHanded_of_change (C := Try.checked) (by kernel_rfl) started (by kernel_rfl) Try.func4
    (ChangeSpec.witness6 (enc := enc) (C := Try.checked) false ⟨#[], #[.bool false, .int .u64 0, .int .i64 0], []⟩ 8 (by kernel_rfl) (by kernel_rfl) (by kernel_rfl) (by kernel_rfl)) ?_
  intro W base args ds gs before hval0 hW hcnd _
  have hval : ∀ (j : Nat) t v, Try.f4.params[j]? = some t → args[j]? = some v → Value.okWide Try.prog W .any base t v := hval0
  have hW' := hW
  obtain ⟨p, q, hA0, hV, rfl, hfz, hnd⟩ := hW
  have hA : DataW.TrodAll enc Try.prog W 0 (fun _ => true) true Try.f4.params.toList args.toList ds p := hA0
  rw [Try.params4] at hA hval
  obtain ⟨v0, v1, v2, d0, d1, d2, p0, p1, p2, rfl, rfl, rfl, h0, h1, h2⟩ := trodAll_three hA
  obtain ⟨rfl, rfl⟩ := trodVars_none hV
  obtain ⟨x0, rfl, rfl, rfl⟩ := open_bool Try.underlying4 (hval 0 4 v0 rfl rfl) h0
  obtain ⟨x1, rfl, rfl, rfl, w1⟩ := open_int Try.underlying23 (hval 1 23 v1 rfl rfl) h1
  obtain ⟨x2, rfl, rfl, rfl, w2⟩ := open_int Try.underlying3 (hval 2 3 v2 rfl rfl) h2
  clear hA0 hval0
  simp only [List.append_nil] at hW'
  refine (partJoins_any x0 x1 x2 (bound_u x1 w1) (bound_i x2 w2) W).mono fun e W' ⟨he, hw⟩ => ?_
  subst he; subst hw
  exact ⟨_, rfl, post_of_same (pa := []) (pv := []) hW' (fun _ _ _ => trodAll_mk1 (shut_bool Try.underlying4 true)) (fun sp _ => trodAll_mk3 (shut_bool Try.underlying4 x0) (shut_int Try.underlying23 w1) (shut_int Try.underlying3 w2)) (fun _ _ => rfl) rfl
    (World.keptBut_refl _ _) (fun _ => rfl) (ok_one (by kernel_rfl) rfl (okWide_bool_mk Try.underlying4 true))⟩

theorem partJoins_holds : Rows.PartJoinsSaid :=
  OpenClaim.holds_of_wide 4 Try.f4 rfl rfl rfl rfl rfl rfl rfl ⟨rfl, rfl, rfl, rfl, rfl⟩ rfl rfl rfl rfl rfl (by kernel_rfl) Try.func4 (by kernel_rfl)
    (of_decide_eq_true (by kernel_rfl)) (by unfold Func.isWrapper; first | (rw [if_pos (by decide +kernel)]; kernel_rfl) | (rw [if_neg (by decide +kernel)]; exact ⟨rfl, rfl⟩))
    (fun os started H enc _ => partJoins_lifted os started H enc)

end Go.Proofs.Ytdifckiemmldoaa
