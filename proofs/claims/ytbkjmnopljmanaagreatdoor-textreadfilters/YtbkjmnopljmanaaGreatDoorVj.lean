/- Layer 27's awake: Read twice and Write once, at given texts. -/
import Derived.Test.YtbkjmnopljmanaaGreatDoorVi
import Derived.Test.YtbkjmnopljmanaaGreatDoorTh
namespace Go.Proofs.YtbkjmnopljmanaaGreatDoor
open Go.RowKit

def s0 : ByteArray := ⟨#[40, 48, 120, 51, 112, 45, 50, 44, 45, 105, 110, 102, 41]⟩
def s1 : ByteArray := ⟨#[40, 48, 120, 50, 112, 48, 44, 48, 120, 48, 112, 48, 41]⟩

theorem flt_of {b : Nat} (o : Nat) (e : Int) (h1 : isnan b = false) (h2 : ng b = false) (h3 : pw b ≠ 2047) (h4 : om (mant b) = o) (h5 : oe (mant b) (expo b) = e) : flt b = [48, 120] ++ hexL o ++ [112] ++ Lib.itoa e := by
  unfold flt fltN
  rw [h1, h2, h4, h5, if_neg (by decide), if_neg (by decide), if_neg h3, List.nil_append]
theorem flt_075 : flt 4604930618986332160 = [48, 120, 51, 112, 45, 50] := by
  rw [flt_of 3 (-2) (by decide) (by decide) (by decide) (by decide +kernel) (by decide +kernel), hexL_small (by decide), show Lib.itoa (-2) = 45 :: Lib.decDigits 2 from rfl, Lib.decDigits_one (by decide)]
  decide
theorem flt_two : flt 4611686018427387904 = [48, 120, 49, 112, 49] := by
  rw [flt_of 1 1 (by decide) (by decide) (by decide) (by decide +kernel) (by decide +kernel), hexL_small (by decide), show Lib.itoa 1 = Lib.decDigits 1 from rfl, Lib.decDigits_one (by decide)]
  decide
theorem flt_one : flt 4607182418800017408 = [48, 120, 49, 112, 48] := by
  rw [flt_of 1 0 (by decide) (by decide) (by decide) (by decide +kernel) (by decide +kernel), hexL_small (by decide), show Lib.itoa 0 = Lib.decDigits 0 from rfl, Lib.decDigits_one (by decide)]
  decide
theorem flt_zero : flt 0 = [48, 120, 48, 112, 48] := by
  rw [flt_of 0 0 (by decide) (by decide) (by decide) (by decide +kernel) (by decide +kernel), hexL_small (by decide), show Lib.itoa 0 = Lib.decDigits 0 from rfl, Lib.decDigits_one (by decide)]
  decide
theorem num_one : numL 4607182418800017408 0 = [40, 48, 120, 49, 112, 48, 44, 48, 120, 48, 112, 48, 41] := by
  unfold numL; rw [flt_one, flt_zero]; rfl

theorem hpu (m : ByteArray) (v : Nat) (h0 : m.size ≠ 0) (hm : m.size ≤ 65536) (hX : ∀ i, i < m.size → IsHex (bt m i)) (hv : hvW (bt m) m.size = v) (B : Nat) : ∀ w', Gl B w' → B ≤ w'.heap.size → Calls Tryz.prog 83 #[.string m, .int .i64 16, .int .i64 64] w' fun e w'' => ∃ ev, e = .returned (.tuple #[.int .u64 (v : Nat), ev]) ∧ Below w'.heap.size w' w'' := fun w' hG hB => by
  have := parse16_any m h0 hm hX w' (Nat.lt_of_lt_of_le hG.g1 hB) hG.err
  rwa [hv] at this
theorem hat (e' : ByteArray) (v : Int) (he : e'.size ≤ 65536) (h : Lib.atoiAll e'.data.toList = .ok v) (B : Nat) : ∀ w', Gl B w' → B ≤ w'.heap.size → Calls Tryz.prog 84 #[.string e'] w' fun e w'' => ∃ ev, e = .returned (.tuple #[.int .i64 v, ev]) ∧ Below w'.heap.size w' w'' := fun w' _ _ =>
  (Tryz.strconv_Atoi_ok e' (by omega) v h w').mono fun r w'' ⟨h1, h2⟩ => ⟨_, h1, by
    rcases h2 with h2 | ⟨t, h2⟩
    · rw [h2]; exact Below.refl _ _
    · rw [h2]; exact Lib.bytesWorld_below _ _ _⟩
theorem one_run {f : Nat → Nat} {D : Nat → Bool} {p : Nat} (h : D (f p) = true) (h' : D (f (p + 1)) = false) : Run f D p (p + 1) := by
  refine ⟨by omega, fun i h1 h2 => ?_, h'⟩
  obtain rfl : i = p := by omega
  exact h
theorem md0 : MD (bt s0) isHexB 3 4 := .inr ⟨by decide, one_run (by decide) (by decide)⟩
theorem ed0 : ED (bt s0) 5 7 := .inr (.inl ⟨by decide, by decide, one_run (by decide) (by decide)⟩)
theorem md1 : MD (bt s1) isHexB 3 4 := .inr ⟨by decide, one_run (by decide) (by decide)⟩
theorem ed1 : ED (bt s1) 5 6 := .inl ⟨by decide, rfl⟩
theorem x30 : s0.extract 3 4 = ⟨#[51]⟩ := by rfl
theorem x50 : s0.extract 5 7 = ⟨#[45, 50]⟩ := by rfl
theorem x31 : s1.extract 3 4 = ⟨#[50]⟩ := by rfl
theorem x51 : s1.extract 5 6 = ⟨#[48]⟩ := by rfl
theorem hex1 (c : UInt8) (h : IsHex c.toNat) : ∀ i, i < (ByteArray.mk #[c]).size → IsHex (bt ⟨#[c]⟩ i) := fun i hi => by
  obtain rfl : i = 0 := by change i < 1 at hi; omega
  exact h
theorem join0 : putBits false (joinRung 3 (-2)) = 4604930618986332160 := by decide +kernel
theorem join1 : putBits false (joinRung 2 0) = 4611686018427387904 := by decide +kernel
theorem val0 (B b : Nat) (hB : B ≤ b) : PVal B b s0 1 4604930618986332160 7 := fun w hr hG => by
  have := value_num hr (by decide) (by decide) (by decide) (by decide) (by decide) 3 4 rfl md0 (by decide) (by decide) 5 rfl 7 ed0 (by decide) 3 (-2) (by decide) B hB hG
    (by rw [x30]; exact hpu ⟨#[51]⟩ 3 (by decide) (by decide) (hex1 51 (.inl (by decide))) (by decide) B)
    (by rw [x50]; exact hat ⟨#[45, 50]⟩ (-2) (by decide) (by decide) B)
  rwa [join0] at this
theorem val1 (B b : Nat) (hB : B ≤ b) : PVal B b s1 1 4611686018427387904 6 := fun w hr hG => by
  have := value_num hr (by decide) (by decide) (by decide) (by decide) (by decide) 3 4 rfl md1 (by decide) (by decide) 5 rfl 6 ed1 (by decide) 2 0 (by decide) B hB hG
    (by rw [x31]; exact hpu ⟨#[50]⟩ 2 (by decide) (by decide) (hex1 50 (.inl (by decide))) (by decide) B)
    (by rw [x51]; exact hat ⟨#[48]⟩ 0 (by decide) (by decide) B)
  rwa [join1] at this
theorem flo0 (B b : Nat) (hB : B ≤ b) : FloatTo B b s0 1 44 (.ok (.float .f64 4604930618986332160) 8) := fun w hr hG =>
  (float_end 44 B hB hG (by decide) (by decide) hr (val0 B b hB w hr hG) (by decide)).mono fun e w' ⟨hb, hd⟩ => by
    rcases hd with ⟨_, k1, k2⟩ | ⟨k, _⟩
    · exact ⟨k1, k2, hb⟩
    · exact absurd (by rw [flt_075, show s0.extract 1 7 = ⟨#[48, 120, 51, 112, 45, 50]⟩ from rfl, bl_mk]) k
theorem inf0 (B b : Nat) (hB : B ≤ b) : FloatTo B b s0 8 41 (.ok (.float .f64 18442240474082181120) 13) := fun w hr hG =>
  (float_end 41 B hB hG (by decide) (by decide) hr (value_infN hr (by decide) (by decide) (by decide) (by decide)) (by decide)).mono fun e w' ⟨hb, hd⟩ => by
    rcases hd with ⟨_, k1, k2⟩ | ⟨k, _⟩
    · exact ⟨k1, k2, hb⟩
    · exact absurd (by rw [flt_ninf, show s0.extract 8 (8 + 1 + 3) = ⟨#[45, 105, 110, 102]⟩ from rfl, bl_mk]) k
theorem flo1 (B b : Nat) (hB : B ≤ b) : FloatTo B b s1 1 44 (.bad 1) := fun w hr hG =>
  (float_end 44 B hB hG (by decide) (by decide) hr (val1 B b hB w hr hG) (by decide)).mono fun e w' ⟨hb, hd⟩ => by
    rcases hd with ⟨k, _⟩ | ⟨_, k⟩
    · rw [flt_two, show s1.extract 1 6 = ⟨#[48, 120, 50, 112, 48]⟩ from rfl, bl_mk] at k
      exact absurd k (by decide)
    · exact ⟨k, hb⟩
theorem read0 (w : World) (hG : Gl w.heap.size w) : Calls Tryz.prog 15 #[.string ⟨#[40, 48, 120, 51, 112, 45, 50, 44, 45, 105, 110, 102, 41]⟩] w fun r w' => r = .returned (.tuple #[.complex .f64 4604930618986332160 18442240474082181120, .int .i64 0, .int .i64 0]) ∧ Below w.heap.size w w' :=
  read_ok (s := s0) (by decide) w hG (number_ok (by omega) (by decide) (flo0 _ _ (by omega)) (inf0 _ _ (by omega)))
theorem read1 (w : World) (hG : Gl w.heap.size w) : Calls Tryz.prog 15 #[.string ⟨#[40, 48, 120, 50, 112, 48, 44, 48, 120, 48, 112, 48, 41]⟩] w fun r w' => r = .returned (.tuple #[.complex .f64 0 0, .int .i64 1, .int .i64 12]) ∧ Below w.heap.size w w' :=
  read_bad (s := s1) (q := 1) (by decide) w hG (number_bad1 (by omega) (by decide) (flo1 _ _ (by omega)))
theorem Gl.next {w w' : World} (h : Gl w.heap.size w) (hb : Below w.heap.size w w') : Gl w'.heap.size w' := (h.on hb).up hb.size
theorem below_next {w w' w'' : World} (h : Below w.heap.size w w') (k : Below w'.heap.size w' w'') : Below w.heap.size w w'' := h.trans (k.mono h.size)
set_option maxRecDepth 100000 in
theorem awake_any (w : World) (hG : Gl w.heap.size w) : Calls Tryz.prog 8 #[] w fun e w' => e = .returned (.bool true) ∧ Below w.heap.size w w' := by
  have G0 := hide hG
  have q1 : (FloatKind.f64.format.order 4604930618986332160 4604930618986332160 == some .eq) = true := by kernel_rfl
  clear hG
  go_enter Tryz.func8, Tryz.ntmps8
  go_wp2_with (go_at_call 15; refine (read0 _ (unhide G0)).mono ?_; rintro e w1 ⟨rfl, hb⟩; have B1 := hide hb; have G1 := hide ((unhide G0).next hb); clear hb; refine Hid.out ?_)
  refine hide ?_
  go_wp2_with (go_at_call 15; refine (read1 _ (unhide G1)).mono ?_; rintro e w2 ⟨rfl, hb⟩; have B2 := hide (below_next (unhide B1) hb); have G2 := hide ((unhide G1).next hb); clear hb; refine Hid.out ?_)
  refine hide ?_
  go_wp2_with (go_at_call 25; refine (write_any 4607182418800017408 0 (by decide) (by decide) _ (unhide G2)).mono ?_; rintro e w3 ⟨rfl, hb⟩; have B3 := hide (below_next (unhide B2) hb); clear hb; rw [num_one])
  go_ret
  exact ⟨rfl, unhide B3⟩
end Go.Proofs.YtbkjmnopljmanaaGreatDoor
