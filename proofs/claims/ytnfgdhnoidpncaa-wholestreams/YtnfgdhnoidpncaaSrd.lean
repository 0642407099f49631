/- Bytes read: what a stream's reader does. -/
import Derived.Test.YtnfgdhnoidpncaaSwr
namespace Go.Proofs.Ytnfgdhnoidpncaa
open Go.RowKit

/-- At block Br lies a reader that stands ahead of the q-th of N numbers of eight bytes, which begin at byte 6 of block A. -/
structure RB (w : World) (Br A q N cap : Nat) (X : Nat → Nat) : Prop where
  box : ∃ v, Boxed w Br 79 v ∧ (q < N → v = .slice (some ⟨A, 6 + 8 * q, none⟩) (8 * (N - q)) (cap - 6 - 8 * q))
  bytes : ∀ j, j < N → ∀ i, i < 8 → w.cell? ⟨A, 6 + 8 * j + i, none⟩ = some (.int .u8 (be8 (X j) i : Nat))
  small : ∀ j, j < N → X j < 18446744073709551616
  ne : A ≠ Br
  le : q ≤ N
  room : 6 + 8 * N ≤ cap
  few : cap ≤ 9223372036854775807
theorem RB.same {w w' : World} {Br A q N cap : Nat} {X : Nat → Nat} {O : Nat → Prop} (h : RB w Br A q N cap X) (hb : But O w w') (h1 : ¬ O Br) (h2 : ¬ O A) : RB w' Br A q N cap X :=
  ⟨by obtain ⟨v, h3, h4⟩ := h.box; exact ⟨v, (hb.block Br h3.lt h1).trans h3, h4⟩, fun j hj i hi => hb.cell (h.bytes j hj i hi) h2, h.small, h.ne, h.le, h.room, h.few⟩
theorem be8_lt (x i : Nat) : be8 x i < 256 := Nat.mod_lt _ (by decide)
theorem be8_up (x i : Nat) (hi : i < 8) : x / 256 ^ (8 - i) * 256 + be8 x i = x / 256 ^ (8 - (i + 1)) := by
  unfold be8
  rw [show 7 - i = 8 - (i + 1) by omega, show 8 - i = (8 - (i + 1)) + 1 by omega, Nat.pow_succ, ← Nat.div_div_eq_div_mul]
  omega
theorem or_byte (a b : Nat) (hb : b < 256) (h : a * 256 + b < 18446744073709551616) : bits .or .u64 (IntKind.u64.wrap ((a : Int) * 256)) (IntKind.u64.wrap (b : Int)) = ((a * 256 + b : Nat) : Int) := by
  have e1 : IntKind.u64.wrap ((a : Int) * 256) = ((a * 256 : Nat) : Int) := by simp [IntKind.wrap, IntKind.bits, IntKind.signed]; omega
  have e2 : IntKind.u64.wrap (b : Int) = ((b : Nat) : Int) := by simp [IntKind.wrap, IntKind.bits, IntKind.signed]; omega
  rw [e1, e2, u64_or _ _ (by omega) (by omega) (by omega) (by omega), Int.toNat_natCast, Int.toNat_natCast, nat_join 8 _ _ (by omega) (by omega)]

set_option maxRecDepth 100000 in
set_option maxHeartbeats 2000000 in
theorem rword_any {w : World} {Br A q N cap : Nat} {X : Nat → Nat} (h : RB w Br A q N cap X) (hq : q < N) :
    Calls Try.prog 32 #[.pointer (some ⟨Br, 0, none⟩)] w fun e w' => e = .returned (.int .u64 (X q : Nat)) ∧ RB w' Br A (q + 1) N cap X ∧ But (fun k => k = Br) w w' := by
  obtain ⟨v, hbx, hv⟩ := h.box
  obtain rfl := hv hq
  have hc := hbx.cell
  have hf := hbx.frozen
  have Hbx := hide hbx
  clear hbx hv
  have h8 : (8 : Int) ≤ ((8 * (N - q) : Nat) : Int) := by omega
  have hroom := h.room
  have hle := h.le
  have hfew := h.few
  have hx := h.small q hq
  have HB := hide h
  clear h
  go_enter Try.func32, Try.ntmps32
  go_wp2_with fail
  go_loopw [3, 11] (fun x i wr => ∃ k : Nat, k ≤ 8 ∧ i = .int .i64 k ∧ x = .int .u64 (X q / 256 ^ (8 - k) : Nat) ∧ wr = w)
    (fun _ i _ => 8 - (intOf i).toNat)
  case atStart => exact ⟨0, by omega, rfl, by rw [Nat.div_eq_of_lt (by simpa using hx)]; rfl, rfl⟩
  case round =>
    obtain ⟨k, hk, rfl, rfl, rfl⟩ := hrel
    by_cases hk8 : k < 8
    · have hk8' : (k : Int) < 8 := by omega
      have hcb := (unhide HB).bytes q hq k hk8
      have hcb' : wr.cell? ⟨A, 6 + 8 * q + k, none⟩ = some (.int .u8 (be8 (X q) k : Nat)) := hcb
      have hup := be8_up (X q) k hk8
      have hle2 : X q / 256 ^ (8 - (k + 1)) ≤ X q := Nat.div_le_self _ _
      have hor := or_byte (X q / 256 ^ (8 - k)) (be8 (X q) k) (be8_lt _ _) (by omega)
      rw [hup] at hor
      have Hor := hide hor
      clear hor hup hle2
      generalize X q / 256 ^ (8 - k) = y at *
      obtain ⟨y', hy'⟩ : ∃ y', X q / 256 ^ (8 - (k + 1)) = y' := ⟨_, rfl⟩
      have HY0 := hide hy'
      rw [hy'] at Hor
      clear hy'
      have hor := unhide Hor
      have HY : Hid (Value.int .u64 (y' : Int) = .int .u64 (X q / 256 ^ (8 - (k + 1)) : Nat)) := hide (by rw [unhide HY0])
      clear HY0
      go_wp2
      go_roundw
      case rel => exact ⟨k + 1, by omega, by go_num, unhide HY, trivial⟩
      case measure => simp [intOf]; omega
    · have : k = 8 := by omega
      subst this
      have hse : ∀ v, Boxed (wr.setCell ⟨Br, 0, none⟩ v) Br 79 v := fun v => (unhide Hbx).set v
      have hbs : ∀ v, But (fun k => k = Br) wr (wr.setCell ⟨Br, 0, none⟩ v) := fun v => but_set wr ⟨Br, 0, none⟩ v
      have HS := hide (And.intro hse hbs)
      clear hse hbs
      go_wp2
      all_goals go_ret
      all_goals
        obtain ⟨hse, hbs⟩ := unhide HS
        have hB := unhide HB
        refine ⟨rfl, ⟨⟨_, hse _, fun hq1 => ?_⟩, fun j hj i hi => (hbs _).cell (hB.bytes j hj i hi) hB.ne, hB.small, hB.ne, by omega, hB.room, hB.few⟩, hbs _⟩
      · omega
      · congr 1
        all_goals omega

set_option maxRecDepth 100000 in
set_option maxHeartbeats 2000000 in
theorem rnumber_any {w : World} {Br A q N cap : Nat} {X : Nat → Nat} (h : RB w Br A q N cap X) (hq : q + 1 < N) :
    Calls Try.prog 30 #[.pointer (some ⟨Br, 0, none⟩)] w fun e w' => e = .returned (.complex .f64 (X q) (X (q + 1))) ∧ RB w' Br A (q + 2) N cap X ∧ But (fun k => k = Br) w w' := by
  have H1 := hide (rword_any h (by omega))
  have hy := run_frombits
  clear h
  go_enter Try.func30, Try.ntmps30
  go_wp2_with fail
  refine (unhide H1).mono ?_
  rintro e w1 ⟨rfl, hR1, hb1⟩
  have H2 := hide (rword_any hR1 hq)
  have HB1 := hide hb1
  clear hR1 hb1 H1
  go_wp2_with fail
  refine (unhide H2).mono ?_
  rintro e w2 ⟨rfl, hR2, hb2⟩
  have HB2 := hide (And.intro hR2 hb2)
  clear hR2 hb2 H2
  go_wp2
  go_ret
  exact ⟨rfl, (unhide HB2).1, (unhide HB1).trans (unhide HB2).2 (fun k hk => .inl hk)⟩

set_option maxRecDepth 100000 in
set_option maxHeartbeats 2000000 in
theorem guardOf_any (g : Gu) (w : World) : Calls Try.prog 31 #[.int .u8 (gbyte g : Nat)] w fun e w' => e = .returned (Gv g) ∧ Below w.heap.size w w' := by
  have e1 : (bits .and .u8 ((gbyte g : Nat) : Int) 1 != 0) = g.flush := by obtain ⟨fl, cp, mu⟩ := g; cases fl <;> cases cp <;> cases mu <;> decide
  have e2 : (bits .and .u8 ((gbyte g : Nat) : Int) 2 != 0) = g.clip := by obtain ⟨fl, cp, mu⟩ := g; cases fl <;> cases cp <;> cases mu <;> decide
  have e3 : (bits .and .u8 ((gbyte g : Nat) : Int) 4 != 0) = g.mute := by obtain ⟨fl, cp, mu⟩ := g; cases fl <;> cases cp <;> cases mu <;> decide
  unfold Gv
  generalize gbyte g = b at *
  go_enter Try.func31, Try.ntmps31
  go_wp2
  refine bodyPost_ret (results_cell1 (a := 2) (t := 30) rfl rfl (by go_simp; rfl)) rfl ?_
  exact ⟨rfl, (Below.refl _ _).alloc (Nat.le_refl _) _⟩
end Go.Proofs.Ytnfgdhnoidpncaa
