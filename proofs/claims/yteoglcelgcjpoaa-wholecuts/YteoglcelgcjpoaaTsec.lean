/- The statement's own sections, out of bytes: their coefficients are eighths and the like, hence finite. -/
import Derived.Test.YteoglcelgcjpoaaTost
namespace Go.Proofs.Yteoglcelgcjpoaa
open Go.RowKit

/-- The bits are k 2^e. -/
def Dy (b : Nat) (k e : Int) : Prop := Is b ((k : Rat) * p2 e)
theorem dy_sub {x y : Nat} {k l e : Int} (hx : Dy x k e) (hy : Dy y l e) (h1 : -9007199254740992 < k - l) (h2 : k - l < 9007199254740992) (he : -1074 ≤ e) (he' : e ≤ 0) : ∃ r, floatBits .sub .f64 x y = some r ∧ Dy r (k - l) e :=
  subE hx hy (by rw [Rat.intCast_sub]; grind) (ex_frac _ _ h1 h2 he) (sm_frac _ _ h1 h2 he')
theorem dy_add {x y : Nat} {k l e : Int} (hx : Dy x k e) (hy : Dy y l e) (h1 : -9007199254740992 < k + l) (h2 : k + l < 9007199254740992) (he : -1074 ≤ e) (he' : e ≤ 0) : ∃ r, floatBits .add .f64 x y = some r ∧ Dy r (k + l) e :=
  addE hx hy (by rw [Rat.intCast_add]; grind) (ex_frac _ _ h1 h2 he) (sm_frac _ _ h1 h2 he')
theorem dy_mul {x y : Nat} {k l e f : Int} (hx : Dy x k e) (hy : Dy y l f) (h1 : -9007199254740992 < k * l) (h2 : k * l < 9007199254740992) (he : -1074 ≤ e + f) (he' : e + f ≤ 0) : ∃ r, floatBits .mul .f64 x y = some r ∧ Dy r (k * l) (e + f) :=
  mulE hx hy (by rw [Rat.intCast_mul, p2_add]; grind) (ex_frac _ _ h1 h2 he) (sm_frac _ _ h1 h2 he')
theorem dy_div8 {x : Nat} {k e : Int} (hx : Dy x k e) (h1 : -9007199254740992 < k) (h2 : k < 9007199254740992) (he : -1071 ≤ e) (he' : e ≤ 0) : ∃ r, floatBits .quo .f64 x 4620693217682128896 = some r ∧ Dy r k (e - 3) := by
  have h8 : Is 4620693217682128896 (p2 3) := is_pow 3 (by omega)
  have hp := p2_pos 3
  refine divE hx h8 (by grind) ?_ (ex_frac _ _ h1 h2 (by omega)) (sm_frac _ _ h1 h2 (by omega))
  rw [Rat.mul_assoc, ← p2_add, show e - 3 + 3 = e by omega]
theorem dy_div2 {x : Nat} {k e : Int} (hx : Dy x k e) (h1 : -9007199254740992 < k) (h2 : k < 9007199254740992) (he : -1071 ≤ e) (he' : e ≤ 0) : ∃ r, floatBits .quo .f64 x 4611686018427387904 = some r ∧ Dy r k (e - 1) := by
  have h8 : Is 4611686018427387904 (p2 1) := is_pow 1 (by omega)
  have hp := p2_pos 1
  refine divE hx h8 (by grind) ?_ (ex_frac _ _ h1 h2 (by omega)) (sm_frac _ _ h1 h2 (by omega))
  rw [Rat.mul_assoc, ← p2_add, show e - 1 + 1 = e by omega]
theorem dy_neg {x : Nat} {k e : Int} (hx : Dy x k e) : Dy (Op.negFloat .f64 x) (-k) e := by
  have := neg_is hx
  unfold Dy
  rw [Rat.intCast_neg, Rat.neg_mul]
  exact this
theorem dy_int (n : Int) (h1 : -9007199254740992 < n) (h2 : n < 9007199254740992) : Dy (floatOfInt .f64 n) n 0 := by
  have := ofInt_is n h1 h2
  unfold Dy
  rw [p2_zero, Rat.mul_one]
  exact this
theorem dy_875 : Dy 4606056518893174784 7 (-3) := by
  refine ⟨by decide, false, 7881299347898368, -53, by decide, ?_⟩
  unfold vl sg
  rw [if_neg (by decide)]
  rw [show (-3 : Int) = 50 + (-53) from rfl, p2_add, show (50 : Int) = ((50 : Nat) : Int) from rfl, p2_nat]
  rw [show ((7881299347898368 : Nat) : Rat) = ((7 : Int) : Rat) * ((2 ^ 50 : Nat) : Rat) by grind]
  grind
theorem dy_fin {r i : Nat} {k l e f : Int} (hr : Dy r k e) (hi : Dy i l f) : FinV (.complex .f64 r i) :=
  ⟨r, i, rfl, hr.1, hi.1, by have h1 := cls_is hr; have h2 := cls_is hi; omega⟩

set_option maxRecDepth 100000 in
set_option maxHeartbeats 1000000 in
theorem eighth_any (b : Nat) (hb : b < 256) : ∃ r i, Dy r ((b : Int) % 16 - 7) (-3) ∧ Dy i ((b : Int) / 16 - 7) (-3) ∧ ∀ w, Calls Try.prog 27 #[.int .u8 b] w fun e w' => e = .returned (.complex .f64 r i) ∧ w' = w := by
  obtain ⟨p, kp, dp⟩ := dy_div8 (dy_int ((b : Int) % 16) (by omega) (by omega)) (by omega) (by omega) (by omega) (by omega)
  obtain ⟨r, kr, dr⟩ := dy_sub dp dy_875 (by omega) (by omega) (by omega) (by omega)
  obtain ⟨q, kq, dq⟩ := dy_div8 (dy_int ((b : Int) / 16) (by omega) (by omega)) (by omega) (by omega) (by omega) (by omega)
  obtain ⟨i, ki, di⟩ := dy_sub dq dy_875 (by omega) (by omega) (by omega) (by omega)
  refine ⟨r, i, dr, di, fun w => ?_⟩
  have k1 := run_fl kp
  have k2 := run_fl kr
  have k3 := run_fl kq
  have k4 := run_fl ki
  clear kp kr kq ki dp dr dq di
  go_enter Try.func27, Try.ntmps27
  go_wp2
  go_ret
  exact ⟨rfl, rfl⟩

set_option maxRecDepth 100000 in
set_option maxHeartbeats 1000000 in
theorem half_any {x y : Nat} {k l e : Int} (hx : Dy x k e) (hy : Dy y l e) (h1 : -9007199254740992 < k) (h2 : k < 9007199254740992) (h3 : -9007199254740992 < l) (h4 : l < 9007199254740992) (he : -1071 ≤ e) (he' : e ≤ 0) :
    ∃ r i, Dy r k (e - 1) ∧ Dy i l (e - 1) ∧ ∀ w, Calls Try.prog 26 #[.complex .f64 x y] w fun e w' => e = .returned (.complex .f64 r i) ∧ w' = w := by
  obtain ⟨r, kr, dr⟩ := dy_div2 hx h1 h2 he he'
  obtain ⟨i, ki, di⟩ := dy_div2 hy h3 h4 he he'
  refine ⟨r, i, dr, di, fun w => ?_⟩
  have k1 := run_fl kr
  have k2 := run_fl ki
  clear kr ki dr di hx hy
  go_enter Try.func26, Try.ntmps26
  go_wp2
  go_ret
  exact ⟨rfl, rfl⟩

theorem prod16 (a b : Int) (a1 : -100 ≤ a) (a2 : a ≤ 100) (b1 : -100 ≤ b) (b2 : b ≤ 100) : -10000 ≤ a * b ∧ a * b ≤ 10000 := by
  have h1 : (100 - a) * (100 - b) ≥ 0 := Int.mul_nonneg (by omega) (by omega)
  have h2 : (100 - a) * (100 + b) ≥ 0 := Int.mul_nonneg (by omega) (by omega)
  have h3 : (100 + a) * (100 - b) ≥ 0 := Int.mul_nonneg (by omega) (by omega)
  have h4 : (100 + a) * (100 + b) ≥ 0 := Int.mul_nonneg (by omega) (by omega)
  constructor <;> grind

theorem dy_cmul {a b c d : Nat} {p q r s : Int} (ha : Dy a p (-4)) (hb : Dy b q (-4)) (hc : Dy c r (-4)) (hd : Dy d s (-4)) (p1 : -100 ≤ p) (p2' : p ≤ 100) (q1 : -100 ≤ q) (q2 : q ≤ 100) (r1 : -100 ≤ r) (r2 : r ≤ 100) (s1 : -100 ≤ s) (s2 : s ≤ 100) :
    ∃ re im, (∀ w, Calls Try.prog 22 #[.complex .f64 a b, .complex .f64 c d] w fun e w' => e = .returned (.complex .f64 re im) ∧ w' = w) ∧ Dy re (p * r - q * s) (-8) ∧ Dy im (p * s + q * r) (-8) := by
  have b1 := prod16 p r p1 p2' r1 r2
  have b2 := prod16 q s q1 q2 s1 s2
  have b3 := prod16 p s p1 p2' s1 s2
  have b4 := prod16 q r q1 q2 r1 r2
  obtain ⟨x1, e1, h1⟩ := dy_mul ha hc (by omega) (by omega) (by omega) (by omega)
  obtain ⟨x2, e2, h2⟩ := dy_mul hb hd (by omega) (by omega) (by omega) (by omega)
  obtain ⟨x3, e3, h3⟩ := dy_sub h1 h2 (by omega) (by omega) (by omega) (by omega)
  obtain ⟨x4, e4, h4⟩ := dy_mul ha hd (by omega) (by omega) (by omega) (by omega)
  obtain ⟨x5, e5, h5⟩ := dy_mul hb hc (by omega) (by omega) (by omega) (by omega)
  obtain ⟨x6, e6, h6⟩ := dy_add h4 h5 (by omega) (by omega) (by omega) (by omega)
  exact ⟨x3, x6, fun w => mul_walk a b c d x1 x2 x4 x5 x3 x6 w w w w w w w (run_fl e1 w) (run_fl e2 w) (run_fl e3 w) (run_fl e4 w) (run_fl e5 w) (run_fl e6 w), h3, h6⟩

theorem dy_csum {a b c d : Nat} {p q r s e : Int} (ha : Dy a p e) (hb : Dy b q e) (hc : Dy c r e) (hd : Dy d s e) (p1 : -100 ≤ p) (p2' : p ≤ 100) (q1 : -100 ≤ q) (q2 : q ≤ 100) (r1 : -100 ≤ r) (r2 : r ≤ 100) (s1 : -100 ≤ s) (s2 : s ≤ 100) (he : -1074 ≤ e) (he' : e ≤ 0) :
    ∃ re im, (∀ w, (binOp .add 25 (.complex .f64 a b) (.complex .f64 c d)).run Try.prog w = .ok (.complex .f64 re im) w) ∧ Dy re (p + r) e ∧ Dy im (q + s) e := by
  obtain ⟨x1, e1, h1⟩ := dy_add ha hc (by omega) (by omega) he he'
  obtain ⟨x2, e2, h2⟩ := dy_add hb hd (by omega) (by omega) he he'
  exact ⟨x1, x2, fun w => run_complex_sum w .add (.inl rfl) _ .f64 a b c d x1 x2 (by simp [cSumBits, e1, e2]), h1, h2⟩

theorem results_cell1 {fn : Func} {a : Nat} {t : TypeId} (h : fn.results = #[.cell a t]) {tmps : Array Value} {b : Nat} {v : Value} {w : World} (hp : tmps.getD a undef = .pointer (some ⟨b, 0, none⟩)) (hl : (loadVar t ⟨b, 0, none⟩).run Try.prog w = .ok v w) :
    (results fn tmps).run Try.prog w = .ok v w := by
  rw [Array.getD_eq_getD_getElem?] at hp
  simp [results, h, hp, asAddr, hl]

theorem fin_one : FinV (.complex .f64 4607182418800017408 0) := ⟨_, _, rfl, by omega, by omega, by decide⟩
theorem fin_b2 : FinV (.complex .f64 4598175219545276416 13826050856027422720) := ⟨_, _, rfl, by omega, by omega, by decide⟩

set_option maxRecDepth 100000 in
set_option maxHeartbeats 1000000 in
theorem section_any (b c d : Nat) (hb : b < 256) (hc : c < 256) (hd : d < 256) (w : World) : Calls Try.prog 19 #[.int .u8 b, .int .u8 c, .int .u8 d] w
    fun e w' => ∃ r1 i1 r3 i3 r4 i4, e = .returned (.agg #[.complex .f64 4607182418800017408 0, .complex .f64 r1 i1, .complex .f64 4598175219545276416 13826050856027422720, .complex .f64 r3 i3, .complex .f64 r4 i4]) ∧ FinV (.complex .f64 r1 i1) ∧ FinV (.complex .f64 r3 i3) ∧ FinV (.complex .f64 r4 i4) ∧ Below w.heap.size w w' := by
  obtain ⟨x, x', dx, dx', Ex⟩ := eighth_any b hb
  obtain ⟨y, y', dy, dy', Ey⟩ := eighth_any c hc
  obtain ⟨z, z', dz, dz', Ez⟩ := eighth_any d hd
  obtain ⟨p, p', dp, dp', Ep⟩ := half_any dx dx' (by omega) (by omega) (by omega) (by omega) (by omega) (by omega)
  obtain ⟨q, q', dq, dq', Eq⟩ := half_any dy dy' (by omega) (by omega) (by omega) (by omega) (by omega) (by omega)
  obtain ⟨s, s', Es, ds, ds'⟩ := dy_csum dp dp' dq dq' (by omega) (by omega) (by omega) (by omega) (by omega) (by omega) (by omega) (by omega) (by omega) (by omega)
  obtain ⟨m, m', Em, dm, dm'⟩ := dy_cmul dp dp' dq dq' (by omega) (by omega) (by omega) (by omega) (by omega) (by omega) (by omega) (by omega)
  have F := hide (And.intro (dy_fin (dy_neg dz) (dy_neg dz')) (And.intro (dy_fin (dy_neg ds) (dy_neg ds')) (dy_fin dm dm')))
  have H1 := hide Ex
  have H2 := hide Ey
  have H3 := hide Ez
  have H4 := hide Ep
  have H5 := hide Eq
  have H6 := hide Em
  have hn : ∀ a b w, (Op.unary .neg (.complex .f64 a b)).run Try.prog w = .ok (.complex .f64 (Op.negFloat .f64 a) (Op.negFloat .f64 b)) w := fun _ _ _ => rfl
  clear dx dx' dy dy' dz dz' dp dp' dq dq' ds ds' dm dm' Ex Ey Ez Ep Eq Em hb hc hd
  have hsc := run_store_c
  go_enter Try.func19, Try.ntmps19
  go_wp2_with fail
  refine (unhide H1 _).mono ?_
  rintro e w' ⟨rfl, rfl⟩
  go_wp2_with fail
  refine (unhide H4 _).mono ?_
  rintro e w' ⟨rfl, rfl⟩
  go_wp2_with fail
  refine (unhide H2 _).mono ?_
  rintro e w' ⟨rfl, rfl⟩
  go_wp2_with fail
  refine (unhide H5 _).mono ?_
  rintro e w' ⟨rfl, rfl⟩
  go_wp2_with fail
  refine (unhide H3 _).mono ?_
  rintro e w' ⟨rfl, rfl⟩
  go_wp2_with fail
  refine (unhide H6 _).mono ?_
  rintro e w' ⟨rfl, rfl⟩
  go_wp2
  refine bodyPost_ret (results_cell1 rfl (b := w.heap.size) rfl (run_loadVar_mid _ w.heap.size 0 33 [.complex .f64 4607182418800017408 0, .complex .f64 (Op.negFloat .f64 z) (Op.negFloat .f64 z'), .complex .f64 4598175219545276416 13826050856027422720, .complex .f64 (Op.negFloat .f64 s) (Op.negFloat .f64 s'), .complex .f64 m m'] _ ?_ Try.underlying33 rfl info_sec)) rfl ?_
  · intro j v hv
    rw [cell_of_row _ w.heap.size _ _ _ _ (heap_alloc_new _ _)]
    rw [Nat.zero_add, List.getElem?_toArray]
    exact hv
  · obtain ⟨f1, f2, f3⟩ := unhide F
    exact ⟨_, _, _, _, _, _, rfl, f1, f2, f3, (Below.refl _ _).alloc (Nat.le_refl _) _⟩
end Go.Proofs.Yteoglcelgcjpoaa
