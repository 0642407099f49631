/- Whole numbers through sections without poles: all is exact; sums of samples have the sums of the answers, later samples the same later. -/
import Derived.Test.YteoglcelgcjpoaaCw
namespace Go.Proofs.Yteoglcelgcjpoaa
open Go.RowKit

/-- A float is this whole number. -/
def FI (z : Option Nat) (n : Int) : Prop := ∃ r, z = some r ∧ Is r (n : Rat)
abbrev GI := Int × Int
def VI (z : C2) (g : GI) : Prop := FI z.1 g.1 ∧ FI z.2 g.2
def Bd (g : GI) (M : Int) : Prop := -M ≤ g.1 ∧ g.1 ≤ M ∧ -M ≤ g.2 ∧ g.2 ≤ M
def gadd (g h : GI) : GI := (g.1 + h.1, g.2 + h.2)
def gsub (g h : GI) : GI := (g.1 - h.1, g.2 - h.2)
def gmul (g h : GI) : GI := (g.1 * h.1 - g.2 * h.2, g.1 * h.2 + g.2 * h.1)

theorem fi_add {a b : Option Nat} {m n : Int} (ha : FI a m) (hb : FI b n) (h1 : -9007199254740992 < m + n) (h2 : m + n < 9007199254740992) : FI (fop .add a b) (m + n) := by
  obtain ⟨r, rfl, hr⟩ := ha
  obtain ⟨s, rfl, hs⟩ := hb
  obtain ⟨t, ht, hi⟩ := addE (z := ((m + n : Int) : Rat)) hr hs (Rat.intCast_add _ _) (ex_int _ h1 h2) (sm_int _ h1 h2)
  exact ⟨t, ht, hi⟩
theorem fi_sub {a b : Option Nat} {m n : Int} (ha : FI a m) (hb : FI b n) (h1 : -9007199254740992 < m - n) (h2 : m - n < 9007199254740992) : FI (fop .sub a b) (m - n) := by
  obtain ⟨r, rfl, hr⟩ := ha
  obtain ⟨s, rfl, hs⟩ := hb
  obtain ⟨t, ht, hi⟩ := subE (z := ((m - n : Int) : Rat)) hr hs (Rat.intCast_sub _ _) (ex_int _ h1 h2) (sm_int _ h1 h2)
  exact ⟨t, ht, hi⟩
theorem fi_mul {a b : Option Nat} {m n : Int} (ha : FI a m) (hb : FI b n) (h1 : -9007199254740992 < m * n) (h2 : m * n < 9007199254740992) : FI (fop .mul a b) (m * n) := by
  obtain ⟨r, rfl, hr⟩ := ha
  obtain ⟨s, rfl, hs⟩ := hb
  obtain ⟨t, ht, hi⟩ := mulE (z := ((m * n : Int) : Rat)) hr hs (Rat.intCast_mul _ _) (ex_int _ h1 h2) (sm_int _ h1 h2)
  exact ⟨t, ht, hi⟩
theorem pbd {a b M : Int} (h1 : -128 ≤ a) (h2 : a ≤ 128) (h3 : -M ≤ b) (h4 : b ≤ M) : -(128 * M) ≤ a * b ∧ a * b ≤ 128 * M := by
  have h : (a * b).natAbs ≤ 128 * M.toNat := by
    rw [Int.natAbs_mul]
    exact Nat.mul_le_mul (by omega) (by omega)
  omega
theorem vi_add {a b : C2} {g h : GI} {M N : Int} (ha : VI a g) (hb : VI b h) (hg : Bd g M) (hh : Bd h N) (hMN : M + N < 9007199254740992) : VI (cadd a b) (gadd g h) ∧ Bd (gadd g h) (M + N) := by
  obtain ⟨g1, g2, g3, g4⟩ := hg
  obtain ⟨k1, k2, k3, k4⟩ := hh
  refine ⟨⟨fi_add ha.1 hb.1 (by omega) (by omega), fi_add ha.2 hb.2 (by omega) (by omega)⟩, ?_⟩
  simp only [Bd, gadd]
  omega
theorem vi_sub {a b : C2} {g h : GI} {M N : Int} (ha : VI a g) (hb : VI b h) (hg : Bd g M) (hh : Bd h N) (hMN : M + N < 9007199254740992) : VI (csub a b) (gsub g h) ∧ Bd (gsub g h) (M + N) := by
  obtain ⟨g1, g2, g3, g4⟩ := hg
  obtain ⟨k1, k2, k3, k4⟩ := hh
  refine ⟨⟨fi_sub ha.1 hb.1 (by omega) (by omega), fi_sub ha.2 hb.2 (by omega) (by omega)⟩, ?_⟩
  simp only [Bd, gsub]
  omega
/-- A product with a number on one of the axes. -/
theorem vi_mul {a b : C2} {g h : GI} {M : Int} (ha : VI a g) (hb : VI b h) (hg : Bd g 128) (hax : g.1 = 0 ∨ g.2 = 0) (hh : Bd h M) (hM : 256 * M < 9007199254740992) : VI (cmul a b) (gmul g h) ∧ Bd (gmul g h) (128 * M) := by
  obtain ⟨g1, g2, g3, g4⟩ := hg
  obtain ⟨k1, k2, k3, k4⟩ := hh
  have p1 := pbd g1 g2 k1 k2
  have p2 := pbd g3 g4 k3 k4
  have p3 := pbd g1 g2 k3 k4
  have p4 := pbd g3 g4 k1 k2
  refine ⟨⟨fi_sub (fi_mul ha.1 hb.1 (by omega) (by omega)) (fi_mul ha.2 hb.2 (by omega) (by omega)) (by omega) (by omega), fi_add (fi_mul ha.1 hb.2 (by omega) (by omega)) (fi_mul ha.2 hb.1 (by omega) (by omega)) (by omega) (by omega)⟩, ?_⟩
  simp only [Bd, gmul]
  rcases hax with h0 | h0
  · simp only [h0, Int.zero_mul] at *
    omega
  · simp only [h0, Int.zero_mul] at *
    omega

/-- A section of whole numbers without poles. -/
def SI (s : Sec) (c : Int × Int × Int) : Prop := VI s.b0 (c.1, 0) ∧ VI s.b1 (0, c.2.1) ∧ VI s.b2 (c.2.2, 0) ∧ VI s.a1 (0, 0) ∧ VI s.a2 (0, 0) ∧ -128 ≤ c.1 ∧ c.1 ≤ 128 ∧ -128 ≤ c.2.1 ∧ c.2.1 ≤ 128 ∧ -128 ≤ c.2.2 ∧ c.2.2 ≤ 128
def yI (c : Int × Int × Int) (s1 x : GI) : GI := gadd (gmul (c.1, 0) x) s1
def s1I (c : Int × Int × Int) (s2 x y : GI) : GI := gsub (gadd (gmul (0, c.2.1) x) s2) (gmul (0, 0) y)
def s2I (c : Int × Int × Int) (x y : GI) : GI := gsub (gmul (c.2.2, 0) x) (gmul (0, 0) y)
theorem bd_zero (M : Int) (hM : 0 ≤ M) : Bd (0, 0) M := by simp only [Bd]; omega
theorem step_whole {s : Sec} {c : Int × Int × Int} {p q x : C2} {gp gq gx : GI} {M : Int} (hs : SI s c) (hp : VI p gp) (hq : VI q gq) (hx : VI x gx) (bp : Bd gp (256 * M)) (bq : Bd gq (128 * M)) (bx : Bd gx M) (hM0 : 0 ≤ M) (hM : M ≤ 100000000) :
    VI (rY s p x) (yI c gp gx) ∧ Bd (yI c gp gx) (384 * M) ∧ VI (rS1 s q x (rY s p x)) (s1I c gq gx (yI c gp gx)) ∧ Bd (s1I c gq gx (yI c gp gx)) (256 * M) ∧ VI (rS2 s x (rY s p x)) (s2I c gx (yI c gp gx)) ∧ Bd (s2I c gx (yI c gp gx)) (128 * M) := by
  obtain ⟨h0, h1, h2, h3, h4, c1, c2, c3, c4, c5, c6⟩ := hs
  have bc0 : Bd (c.1, 0) 128 := by simp only [Bd]; omega
  have bc1 : Bd (0, c.2.1) 128 := by simp only [Bd]; omega
  have bc2 : Bd (c.2.2, 0) 128 := by simp only [Bd]; omega
  have m0 := vi_mul h0 hx bc0 (.inr rfl) bx (by omega)
  have m1 := vi_mul h1 hx bc1 (.inl rfl) bx (by omega)
  have m2 := vi_mul h2 hx bc2 (.inr rfl) bx (by omega)
  have y := vi_add m0.1 hp m0.2 bp (by omega)
  have by' : Bd (yI c gp gx) (384 * M) := by
    have := y.2
    rwa [show 128 * M + 256 * M = 384 * M by omega] at this
  have n1 := vi_mul h3 y.1 (bd_zero 128 (by omega)) (.inl rfl) by' (by omega)
  have n2 := vi_mul h4 y.1 (bd_zero 128 (by omega)) (.inl rfl) by' (by omega)
  have e0 : gmul (0, 0) (yI c gp gx) = (0, 0) := by simp [gmul]
  have z1 : Bd (gmul (0, 0) (yI c gp gx)) 0 := by rw [e0]; exact bd_zero 0 (by omega)
  have a1 := vi_add m1.1 hq m1.2 bq (by omega)
  have s1 := vi_sub a1.1 n1.1 a1.2 z1 (by omega)
  have s2 := vi_sub m2.1 n2.1 m2.2 z1 (by omega)
  refine ⟨y.1, by', s1.1, ?_, s2.1, ?_⟩
  · have := s1.2
    rwa [show 128 * M + 128 * M + 0 = 256 * M by omega] at this
  · have := s2.2
    rwa [show 128 * M + 0 = 128 * M by omega] at this

/-- How great the numbers behind k sections may be. -/
def Mk : Nat → Int
  | 0 => 128
  | k + 1 => 384 * Mk k
def yAtI (c : Nat → Int × Int × Int) (s : Nat → GI × GI) (x : GI) : Nat → GI
  | 0 => x
  | k + 1 => yI (c k) (s k).1 (yAtI c s x k)
def stAtI (c : Nat → Int × Int × Int) (s : Nat → GI × GI) (x : GI) (k : Nat) : GI × GI := (s1I (c k) (s k).2 (yAtI c s x k) (yAtI c s x (k + 1)), s2I (c k) (yAtI c s x k) (yAtI c s x (k + 1)))
def upToI (c : Nat → Int × Int × Int) (s : Nat → GI × GI) (x : GI) (n : Nat) : Nat → GI × GI := fun i => if i < n then stAtI c s x i else s i
def stNI (n : Nat) (c : Nat → Int × Int × Int) (X : Nat → GI) : Nat → (Nat → GI × GI)
  | 0 => fun _ => ((0, 0), (0, 0))
  | k + 1 => upToI c (stNI n c X k) (X k) n
def ansNI (n : Nat) (c : Nat → Int × Int × Int) (X : Nat → GI) (k : Nat) : GI := yAtI c (stNI n c X k) (X k) n
def VS (n : Nat) (st : Nat → C2 × C2) (s : Nat → GI × GI) : Prop := ∀ i, i < n → VI (st i).1 (s i).1 ∧ VI (st i).2 (s i).2 ∧ Bd (s i).1 (256 * Mk i) ∧ Bd (s i).2 (128 * Mk i)
theorem mk_pos : ∀ k, 0 ≤ Mk k
  | 0 => by decide
  | k + 1 => by have := mk_pos k; unfold Mk; omega
theorem mk_le (k : Nat) (hk : k < 3) : Mk k ≤ 100000000 := by
  rcases (by omega : k = 0 ∨ k = 1 ∨ k = 2) with rfl | rfl | rfl <;> decide
theorem y_whole {n : Nat} {sec : Nat → Sec} {c : Nat → Int × Int × Int} {st : Nat → C2 × C2} {s : Nat → GI × GI} {x : C2} {g : GI} (hs : ∀ i, i < n → SI (sec i) (c i)) (hn : n ≤ 3) (hst : VS n st s) (hx : VI x g) (bx : Bd g 128) :
    ∀ k, k ≤ n → VI (yAt sec st x k) (yAtI c s g k) ∧ Bd (yAtI c s g k) (Mk k)
  | 0, _ => ⟨hx, bx⟩
  | k + 1, hk => by
    obtain ⟨h1, h2⟩ := y_whole hs hn hst hx bx k (by omega)
    obtain ⟨k1, k2, k3, k4⟩ := hst k (by omega)
    have := step_whole (hs k (by omega)) k1 k2 h1 k3 k4 h2 (mk_pos k) (mk_le k (by omega))
    exact ⟨this.1, this.2.1⟩
theorem st_whole {n : Nat} {sec : Nat → Sec} {c : Nat → Int × Int × Int} {st : Nat → C2 × C2} {s : Nat → GI × GI} {x : C2} {g : GI} (hs : ∀ i, i < n → SI (sec i) (c i)) (hn : n ≤ 3) (hst : VS n st s) (hx : VI x g) (bx : Bd g 128) :
    VS n (upTo sec st x n) (upToI c s g n) := by
  intro i hi
  obtain ⟨h1, h2⟩ := y_whole hs hn hst hx bx i (by omega)
  obtain ⟨k1, k2, k3, k4⟩ := hst i hi
  have := step_whole (hs i hi) k1 k2 h1 k3 k4 h2 (mk_pos i) (mk_le i (by omega))
  unfold upTo upToI
  rw [if_pos hi, if_pos hi]
  exact ⟨this.2.2.1, this.2.2.2.2.1, this.2.2.2.1, this.2.2.2.2.2⟩
theorem vi_zero : VI z0 (0, 0) := ⟨⟨0, by kernel_rfl, is_zero⟩, ⟨0, by kernel_rfl, is_zero⟩⟩
theorem vi_one : VI z1 (1, 0) := ⟨⟨4607182418800017408, by kernel_rfl, is_one⟩, ⟨0, by kernel_rfl, is_zero⟩⟩
theorem gain_one {x : C2} {g : GI} (hx : VI x g) (bx : Bd g 128) : VI (cmul z1 x) g := by
  have := (vi_mul vi_one hx (by simp only [Bd]; omega) (.inr rfl) bx (by omega)).1
  have e : gmul (1, 0) g = g := by simp [gmul]
  rwa [e] at this
theorem run_whole {n m : Nat} {sec : Nat → Sec} {c : Nat → Int × Int × Int} {X : Nat → C2} {g : Nat → GI} (hs : ∀ i, i < n → SI (sec i) (c i)) (hn : n ≤ 3) (hX : ∀ j, j < m → VI (X j) (g j) ∧ Bd (g j) 128) :
    ∀ k, k ≤ m → VS n (stN z1 n sec rest0 X k) (stNI n c g k)
  | 0, _ => fun i _ => ⟨vi_zero, vi_zero, bd_zero _ (by have := mk_pos i; omega), bd_zero _ (by have := mk_pos i; omega)⟩
  | k + 1, hk => st_whole hs hn (run_whole hs hn hX k (by omega)) (gain_one (hX k (by omega)).1 (hX k (by omega)).2) (hX k (by omega)).2
theorem ans_whole {n m : Nat} {sec : Nat → Sec} {c : Nat → Int × Int × Int} {X : Nat → C2} {g : Nat → GI} (hs : ∀ i, i < n → SI (sec i) (c i)) (hn : n ≤ 3) (hX : ∀ j, j < m → VI (X j) (g j) ∧ Bd (g j) 128) (k : Nat) (hk : k < m) :
    VI (ansN z1 n sec rest0 X k) (ansNI n c g k) ∧ Bd (ansNI n c g k) (Mk n) :=
  y_whole hs hn (run_whole hs hn hX k (by omega)) (gain_one (hX k hk).1 (hX k hk).2) (hX k hk).2 n (Nat.le_refl _)

/-! Sums. -/
def padd (s t : Nat → GI × GI) : Nat → GI × GI := fun i => (gadd (s i).1 (t i).1, gadd (s i).2 (t i).2)
theorem y_sum (c : Int × Int × Int) (p p' x x' : GI) : yI c (gadd p p') (gadd x x') = gadd (yI c p x) (yI c p' x') := by
  simp only [yI, gadd, gmul, Prod.mk.injEq]
  constructor <;> grind
theorem s1_sum (c : Int × Int × Int) (q q' x x' y y' : GI) : s1I c (gadd q q') (gadd x x') (gadd y y') = gadd (s1I c q x y) (s1I c q' x' y') := by
  simp only [s1I, gadd, gsub, gmul, Prod.mk.injEq]
  constructor <;> grind
theorem s2_sum (c : Int × Int × Int) (x x' y y' : GI) : s2I c (gadd x x') (gadd y y') = gadd (s2I c x y) (s2I c x' y') := by
  simp only [s2I, gadd, gsub, gmul, Prod.mk.injEq]
  constructor <;> grind
theorem yAt_sum (c : Nat → Int × Int × Int) (s t : Nat → GI × GI) (x x' : GI) : ∀ k, yAtI c (padd s t) (gadd x x') k = gadd (yAtI c s x k) (yAtI c t x' k)
  | 0 => rfl
  | k + 1 => by
    show yI (c k) (gadd (s k).1 (t k).1) (yAtI c (padd s t) (gadd x x') k) = _
    rw [yAt_sum c s t x x' k, y_sum]
    rfl
theorem upTo_sum (n : Nat) (c : Nat → Int × Int × Int) (s t : Nat → GI × GI) (x x' : GI) : upToI c (padd s t) (gadd x x') n = padd (upToI c s x n) (upToI c t x' n) := by
  funext i
  unfold upToI
  by_cases h : i < n
  · simp only [padd, if_pos h]
    show (s1I (c i) (gadd (s i).2 (t i).2) _ _, s2I (c i) _ _) = _
    have e1 := yAt_sum c s t x x' i
    have e2 := yAt_sum c s t x x' (i + 1)
    rw [e1, e2, s1_sum, s2_sum]
    rfl
  · simp only [padd, if_neg h]
theorem st_sum (n : Nat) (c : Nat → Int × Int × Int) (X Y : Nat → GI) : ∀ k, stNI n c (fun j => gadd (X j) (Y j)) k = padd (stNI n c X k) (stNI n c Y k)
  | 0 => rfl
  | k + 1 => by
    show upToI c (stNI n c (fun j => gadd (X j) (Y j)) k) (gadd (X k) (Y k)) n = _
    rw [st_sum n c X Y k, upTo_sum]
    rfl
theorem ans_sum (n : Nat) (c : Nat → Int × Int × Int) (X Y : Nat → GI) (k : Nat) : ansNI n c (fun j => gadd (X j) (Y j)) k = gadd (ansNI n c X k) (ansNI n c Y k) := by
  unfold ansNI
  rw [st_sum, yAt_sum]

/-! Later samples. -/
def lateI (X : Nat → GI) : Nat → GI
  | 0 => (0, 0)
  | 1 => (0, 0)
  | j + 2 => X j
theorem y_zero (c : Nat → Int × Int × Int) : ∀ k, yAtI c (fun _ => ((0, 0), (0, 0))) (0, 0) k = (0, 0)
  | 0 => rfl
  | k + 1 => by
    show yI (c k) (0, 0) (yAtI c (fun _ => ((0, 0), (0, 0))) (0, 0) k) = (0, 0)
    rw [y_zero c k]
    simp [yI, gadd, gmul]
theorem upTo_none (n : Nat) (c : Nat → Int × Int × Int) : upToI c (fun _ => ((0, 0), (0, 0))) (0, 0) n = fun _ => ((0, 0), (0, 0)) := by
  funext i
  unfold upToI
  by_cases h : i < n
  · simp only [if_pos h, stAtI, y_zero]
    simp [s1I, s2I, gadd, gsub, gmul]
  · simp only [if_neg h]
theorem st_late (n : Nat) (c : Nat → Int × Int × Int) (X : Nat → GI) : ∀ k, stNI n c (lateI X) (k + 2) = stNI n c X k
  | 0 => by
    show upToI c (upToI c (fun _ => ((0, 0), (0, 0))) (0, 0) n) (0, 0) n = _
    rw [upTo_none, upTo_none]
    rfl
  | k + 1 => by
    show upToI c (stNI n c (lateI X) (k + 2)) (X k) n = _
    rw [st_late n c X k]
    rfl
theorem ans_late (n : Nat) (c : Nat → Int × Int × Int) (X : Nat → GI) (k : Nat) : ansNI n c (lateI X) (k + 2) = ansNI n c X k := by
  show yAtI c (stNI n c (lateI X) (k + 2)) (X k) n = _
  rw [st_late]
  rfl
theorem ans_first (n : Nat) (c : Nat → Int × Int × Int) (X : Nat → GI) : ansNI n c (lateI X) 0 = (0, 0) ∧ ansNI n c (lateI X) 1 = (0, 0) := by
  constructor
  · exact y_zero c n
  · show yAtI c (upToI c (fun _ => ((0, 0), (0, 0))) (0, 0) n) (0, 0) n = (0, 0)
    rw [upTo_none]
    exact y_zero c n
end Go.Proofs.Yteoglcelgcjpoaa
