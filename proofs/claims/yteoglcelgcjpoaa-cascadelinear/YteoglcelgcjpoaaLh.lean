/- CascadeLinear: whole numbers as sections and samples; what the walk asks. -/
import Derived.Test.YteoglcelgcjpoaaAns
import Derived.Maps.AppendAt
import Derived.Deep.Cut
import Derived.BigQuiet
import Derived.Deep.QuietTactic
import Derived.Deep.AppendLies
import Derived.Laws.AppendOwnNone
namespace Go.Proofs.Yteoglcelgcjpoaa
open Go.RowKit Go.Maps

theorem is_lf {b : Nat} {v : Rat} (h : Is b v) : lf b = some b := by
  obtain ⟨s, r, V, rfl, hr, _⟩ := is_word h
  have e : rg (Ieee.double.word s r) = r := by
    unfold rg
    rw [word_of]; cases s <;> simp <;> omega
  have : isnan (Ieee.double.word s r) = false := by
    unfold isnan
    rw [e]
    exact decide_eq_false (by omega)
  unfold lf
  rw [this]
  rfl
/-- The float of a small whole number. -/
def fl (n : Int) : Nat := floatOfInt .f64 n
theorem fl_is (n : Int) (h1 : -128 ≤ n) (h2 : n ≤ 128) : Is (fl n) (n : Rat) := ofInt_is n (by omega) (by omega)
theorem fl_FI (n : Int) (h1 : -128 ≤ n) (h2 : n ≤ 128) : FI (lf (fl n)) n := ⟨fl n, is_lf (fl_is n h1 h2), fl_is n h1 h2⟩
theorem fi0 : FI (lf 0) 0 := ⟨0, by kernel_rfl, is_zero⟩
/-- The section of three whole numbers. -/
def secW (c : Nat → Int × Int × Int) (i : Nat) : Sec := ⟨(lf (fl (c i).1), lf 0), (lf 0, lf (fl (c i).2.1)), (lf (fl (c i).2.2), lf 0), z0, z0⟩
def Sm8 (c : Nat → Int × Int × Int) : Prop := ∀ i, -128 ≤ (c i).1 ∧ (c i).1 ≤ 127 ∧ -128 ≤ (c i).2.1 ∧ (c i).2.1 ≤ 127 ∧ -128 ≤ (c i).2.2 ∧ (c i).2.2 ≤ 127
theorem secW_SI {c : Nat → Int × Int × Int} (h : Sm8 c) (i : Nat) : SI (secW c i) (c i) := by
  obtain ⟨h1, h2, h3, h4, h5, h6⟩ := h i
  exact ⟨⟨fl_FI _ (by omega) (by omega), fi0⟩, ⟨fi0, fl_FI _ (by omega) (by omega)⟩, ⟨fl_FI _ (by omega) (by omega), fi0⟩, vi_zero, vi_zero, by omega, by omega, by omega, by omega, by omega, by omega⟩
/-- The cells of section i. -/
def rowW (c : Nat → Int × Int × Int) (i : Nat) : List Value := [.complex .f64 (fl (c i).1) 0, .complex .f64 0 (fl (c i).2.1), .complex .f64 (fl (c i).2.2) 0, c0, c0]
def cellsW (c : Nat → Int × Int × Int) : Nat → List Value
  | 0 => []
  | k + 1 => cellsW c k ++ rowW c k
theorem cellsW_len (c : Nat → Int × Int × Int) : ∀ k, (cellsW c k).length = k * 5
  | 0 => rfl
  | k + 1 => by rw [cellsW, List.length_append, cellsW_len c k]; show k * 5 + 5 = _; omega
theorem cellsW_get (c : Nat → Int × Int × Int) (j : Nat) (x : Value) : ∀ k i, i < k → (rowW c i)[j]? = some x → (cellsW c k)[i * 5 + j]? = some x
  | 0, i, hi, _ => by omega
  | k + 1, i, hi, hx => by
    have hj : j < 5 := (List.getElem?_eq_some_iff.1 hx).1
    have hl := cellsW_len c k
    rw [cellsW]
    by_cases hik : i = k
    · subst hik
      rw [List.getElem?_append_right (by omega), hl, show i * 5 + j - i * 5 = j by omega]
      exact hx
    · rw [List.getElem?_append_left (by omega)]
      exact cellsW_get c j x k i (by omega) hx
theorem fin_re {n : Int} (h1 : -128 ≤ n) (h2 : n ≤ 127) : FinV (.complex .f64 (fl n) 0) := by
  have h := fl_is n h1 (by omega)
  exact ⟨_, _, rfl, h.1, by omega, by have := cls_is h; have := cls_is is_zero; omega⟩
theorem fin_im {n : Int} (h1 : -128 ≤ n) (h2 : n ≤ 127) : FinV (.complex .f64 0 (fl n)) := by
  have h := fl_is n h1 (by omega)
  exact ⟨_, _, rfl, by omega, h.1, by have := cls_is h; have := cls_is is_zero; omega⟩
theorem fl_lt (n : Int) (h1 : -128 ≤ n) (h2 : n ≤ 127) : fl n < 18446744073709551616 := (fl_is n h1 (by omega)).1
theorem rowW_one (c : Nat → Int × Int × Int) (i : Nat) : ∀ u ∈ rowW c i, u.oneCell' = true := by
  intro u hu
  simp only [rowW, List.mem_cons, List.not_mem_nil, or_false] at hu
  rcases hu with rfl | rfl | rfl | rfl | rfl <;> rfl
theorem secs_W {w : World} {base : Nat} {v : Value} {k : Nat} {c : Nat → Int × Int × Int} (hc : Sm8 c) (h : w.ownsRow base 33 5 v k (cellsW c k)) : SecsIs w v k (secW c) := by
  rcases id h.2 with ⟨rfl, rfl⟩ | ⟨g, cap, cur, rfl, hb, hg, _⟩
  · exact ⟨none, 0, rfl, fun i hi => by omega⟩
  · have hgw : g < w.heap.size := (Array.getElem?_eq_some_iff.1 hg).1
    refine ⟨_, cap, rfl, fun i hi => ?_⟩
    obtain ⟨h1, h2, h3, h4, h5, h6⟩ := hc i
    refine ⟨g, _, _, _, _, _, rfl, hgw, fun j x hx => ?_, fin_re h1 h2, fin_im h3 h4, fin_re h5 h6, fin_c0, fin_c0, CIs.of _ _ (fl_lt _ h1 h2) (by omega), CIs.of _ _ (by omega) (fl_lt _ h3 h4), CIs.of _ _ (fl_lt _ h5 h6) (by omega), c0_is, c0_is⟩
    have := h.cells (g := g) rfl (i * 5 + j) x (cellsW_get c j x k i hi hx)
    rwa [Addr.add_mid, Nat.zero_add] at this
/-- Triples of small whole numbers lie there. -/
def TripsAt (w : World) (ad : Option Addr) (len : Nat) (c : Nat → Int × Int × Int) : Prop := ∀ i, i < len → ∃ b off, ad = some ⟨b, off, none⟩ ∧ b < w.heap.size ∧ w.cell? ⟨b, off + i * 3, none⟩ = some (.int .i8 (c i).1) ∧ w.cell? ⟨b, off + i * 3 + 1, none⟩ = some (.int .i8 (c i).2.1) ∧ w.cell? ⟨b, off + i * 3 + 2, none⟩ = some (.int .i8 (c i).2.2)
def SmallsAt (w : World) (ad : Option Addr) (len : Nat) (us : Nat → Int) : Prop := ∀ j, j < len → ∃ b off, ad = some ⟨b, off, none⟩ ∧ b < w.heap.size ∧ w.cell? ⟨b, off + j, none⟩ = some (.int .i8 (us j))

def Xw (us : Nat → Int) (j : Nat) : C2 := (lf (fl (us j)), lf 0)
def Yw (vs : Nat → Int) (j : Nat) : C2 := (lf 0, lf (fl (vs j)))
def Zw (us vs : Nat → Int) (j : Nat) : C2 := cadd (Xw us j) (Yw vs j)
/-- The gathered numbers. -/
def PsAt (ps : List Value) (t : Nat) (Y : Nat → C2) : Prop := ∀ j, j < t → ∃ u, ps[j]? = some u ∧ CIs u (Y j)
theorem PsAt.one {ps : List Value} {t : Nat} {Y : Nat → C2} {u : Value} (h : PsAt ps t Y) (hl : ps.length = t) (hu : CIs u (Y t)) : PsAt (ps ++ [u]) (t + 1) Y := fun j hj => by
  by_cases hjt : j < t
  · obtain ⟨v, h1, h2⟩ := h j hjt
    exact ⟨v, by rw [List.getElem?_append_left (by omega)]; exact h1, h2⟩
  · obtain rfl : j = t := by omega
    exact ⟨u, by rw [List.getElem?_append_right (by omega), hl, Nat.sub_self]; rfl, hu⟩
/-- Two rows are not one. -/
def Dif (v v' : Value) : Prop := ∀ g, v.ownBlock = some g → v'.ownBlock ≠ some g
theorem Dif.symm {v v' : Value} (h : Dif v v') : Dif v' v := fun g h1 h2 => h g h2 h1
theorem Dif.kept {v v' : Value} (h : Dif v v') : v.ownBlock = none ∨ v.ownBlock ≠ v'.ownBlock := by
  cases hv : v.ownBlock with
  | none => exact .inl rfl
  | some g => exact .inr (fun e => h g hv e.symm)
theorem Dif.grow {v v' v2 : Value} {H : Nat} (h : Dif v v') (hat : v2.ownBlock = v.ownBlock ∨ v2.ownBlock = some H) (hlt : ∀ g, v'.ownBlock = some g → g < H) : Dif v2 v' := fun g h1 h2 => by
  rcases hat with e | e
  · exact h g (by rw [← e]; exact h1) h2
  · rw [e] at h1
    have := Option.some.inj h1
    have := hlt g h2
    omega
theorem sum_w {u v : Int} (hu : -128 ≤ u ∧ u ≤ 127) (hv : -128 ≤ v ∧ v ≤ 127) : ∃ r i, (∀ w, (binOp .add 25 (.complex .f64 (floatOfInt .f64 u) 0) (.complex .f64 0 (floatOfInt .f64 v))).run Try.prog w = .ok (.complex .f64 r i) w) ∧ CIs (.complex .f64 r i) (cadd (lf (fl u), lf 0) (lf 0, lf (fl v))) := by
  have h1 := fl_is u (by omega) (by omega)
  have h2 := fl_is v (by omega) (by omega)
  obtain ⟨r, kr, ir⟩ := addE (z := ((u + 0 : Int) : Rat)) h1 is_zero (by rw [Rat.intCast_add]; rfl) (ex_int _ (by omega) (by omega)) (sm_int _ (by omega) (by omega))
  obtain ⟨i, ki, ii⟩ := addE (z := ((0 + v : Int) : Rat)) is_zero h2 (by rw [Rat.intCast_add]; rfl) (ex_int _ (by omega) (by omega)) (sm_int _ (by omega) (by omega))
  refine ⟨r, i, fun w => run_complex_sum w .add (.inl rfl) _ .f64 _ _ _ _ r i (by unfold fl at kr ki; simp [cSumBits, kr, ki]), ⟨r, i, rfl, ir.1, ii.1, ?_, ?_⟩⟩
  · rw [is_lf ir]
    show _ = fop .add (lf (fl u)) (lf 0)
    rw [← fop_bits .add (.inl rfl) _ _ h1.1 (by omega), kr]
  · rw [is_lf ii]
    show _ = fop .add (lf 0) (lf (fl v))
    rw [← fop_bits .add (.inl rfl) _ _ (by omega) h2.1, ki]
theorem x_is {u : Int} (hu : -128 ≤ u ∧ u ≤ 127) : CIs (.complex .f64 (floatOfInt .f64 u) 0) (lf (fl u), lf 0) := CIs.of _ _ (fl_lt u hu.1 hu.2) (by omega)
theorem y_is {u : Int} (hu : -128 ≤ u ∧ u ≤ 127) : CIs (.complex .f64 0 (floatOfInt .f64 u)) (lf 0, lf (fl u)) := CIs.of _ _ (by omega) (fl_lt u hu.1 hu.2)
theorem one_c (r i : Nat) : ∀ u ∈ [Value.complex .f64 r i], u.oneCell' = true := by intro u hu; simp at hu; subst hu; rfl
theorem news_c (w : World) (r i : Nat) : ∀ j u, [Value.complex .f64 r i][j]? = some u → (w.alloc (Obj.cells #[.complex .f64 r i] 25)).cell? ((⟨w.heap.size, 0, none⟩ : Addr).add j) = some u := World.news_of_block (cs := #[.complex .f64 r i]) (t := 25) (fr := (0, 0)) (heap_alloc_new w _)

theorem wpList_append_row {P : Program} (w : World) {ops : Array Oper} {rest : List Oper} {o : Oper} {a : Act} {Q : Exit → Act → World → Prop} (hgd : o.guard = none) (s x : Operand) (t : TypeId)
    (ho : o.op = .call { callee := .builtin .append, args := #[s, x], argTypes := #[t, t] })
    (base : Nat) (e : TypeId) (i : TypeInfo) (z : Value) (size bytes : Nat) (ht : P.underlying t = some (.slice e)) (hi : P.info? e = some i) (hz : i.zero = some z)
    (hsize : i.size = size) (hby : i.bytes = bytes) (hzs : z.cells.size = size) (hsz : 0 < size)
    (v : Value) (n : Nat) (xs : List Value) (hs : a.eval s = v) (hown : w.ownsRow base e size v n xs)
    (base2 : Nat) (v2 : Value) (m : Nat) (ys : List Value) (hx : a.eval x = v2) (h2 : w.ownsRow base2 e size v2 m ys) (h1 : ∀ u ∈ ys, u.oneCell' = true)
    (h63 : n + m ≤ maxLen) (hbytes : (n + m) * bytes ≤ 140737488355328) (hbase : base ≤ w.heap.size)
    (h : ∀ v' w', w'.ownsRow base e size v' (n + m) (xs ++ ys) → w.grownBy w' v.ownBlock → wpList P ops Q rest (a.put o.dst v') w') :
    wpList P ops Q (o :: rest) a w := by
  rcases id h2.2 with ⟨rfl, rfl⟩ | ⟨g, cap, cur, rfl, _⟩
  · have hy : ys = [] := List.length_eq_zero_iff.1 (by simpa using h2.1)
    subst hy
    exact wpList_append_own_none hgd s x t ho base e i size ht hi v n xs hs hown hx (h v w (by simpa using hown) ⟨rfl, rfl, rfl, Nat.le_refl _, fun _ _ _ => rfl⟩)
  · exact wpList_append_own_at w hgd s x t ho base e i z size bytes ht hi hz hsize hby hzs hsz v n xs hs hown ⟨g, 0, none⟩ m cap ys hx h2.1 (h2.cells rfl) h1 h63 hbytes hbase (fun v' w' a1 a2 _ _ => h v' w' a1 a2)
theorem PsAt.ones {ps : List Value} {t : Nat} {Y : Nat → C2} (h : PsAt ps t Y) (hl : ps.length = t) : ∀ u ∈ ps, u.oneCell' = true := by
  intro u hu
  obtain ⟨j, hj, rfl⟩ := List.getElem_of_mem hu
  obtain ⟨v, h1, r, i, h2, _⟩ := h j (by omega)
  rw [List.getElem?_eq_getElem hj] at h1
  rw [Option.some.inj h1, h2]
  rfl
/-- A row of numbers as a list. -/
theorem list_of {w : World} {base : Nat} {v : Value} {t : Nat} {ps : List Value} {Y : Nat → C2} (h : w.ownsRow base 25 1 v t ps) (hp : PsAt ps t Y) : ListIs w v t Y := by
  rcases id h.2 with ⟨rfl, rfl⟩ | ⟨g, cap, cur, rfl, hb, hg, _⟩
  · exact ⟨none, 0, rfl, fun j hj => by omega⟩
  · have hgw : g < w.heap.size := (Array.getElem?_eq_some_iff.1 hg).1
    refine ⟨_, cap, rfl, fun j hj => ?_⟩
    obtain ⟨u, h1, h2⟩ := hp j hj
    have := h.cells (g := g) rfl j u h1
    rw [Addr.add_mid, Nat.zero_add] at this
    exact ⟨g, 0, u, rfl, hgw, by rw [Nat.zero_add]; exact this, h2⟩
def lateC (X : Nat → C2) : Nat → C2
  | 0 => z0
  | 1 => z0
  | j + 2 => X j
theorem ps_late {ps : List Value} {t : Nat} {X : Nat → C2} (h : PsAt ps t X) : PsAt ([.complex .f64 0 0, .complex .f64 0 0] ++ ps) (2 + t) (lateC X) := fun j hj => by
  match j, hj with
  | 0, _ => exact ⟨_, rfl, c0_is⟩
  | 1, _ => exact ⟨_, rfl, c0_is⟩
  | j + 2, hj =>
    obtain ⟨u, h1, h2⟩ := h j (by omega)
    exact ⟨u, by simpa using h1, h2⟩


theorem lf_inv {r r' : Nat} (h : lf r = some r') : r = r' := by
  unfold lf at h
  split at h
  · cases h
  · exact Option.some.inj h
theorem cis_vi {u : Value} {C : C2} {g : GI} (h : CIs u C) (hv : VI C g) : ∃ r i, u = .complex .f64 r i ∧ Is r (g.1 : Rat) ∧ Is i (g.2 : Rat) := by
  obtain ⟨r, i, rfl, _, _, e1, e2⟩ := h
  obtain ⟨⟨r', k1, i1⟩, ⟨i', k2, i2⟩⟩ := hv
  rw [k1] at e1
  rw [k2] at e2
  obtain rfl := lf_inv e1
  obtain rfl := lf_inv e2
  exact ⟨_, _, rfl, i1, i2⟩
theorem eqv' {x y : Nat} {v : Rat} (hx : Is x v) (hy : Is y v) : (FloatKind.f64.format.order x y == some .eq) = true := by rw [eq_is hx hy, decide_eq_true rfl]
theorem run_eql {r i r' i' : Nat} {a b : Rat} (h1 : Is r a) (h2 : Is r' a) (h3 : Is i b) (h4 : Is i' b) (w : World) : (binOp .eql 25 (.complex .f64 r i) (.complex .f64 r' i')).run Try.prog w = .ok (.bool true) w := by
  have e1 := eqv' h1 h2
  have e2 := eqv' h3 h4
  simp [go_sem, e1, e2]
theorem run_neq {r i r' i' : Nat} {a b : Rat} (h1 : Is r a) (h2 : Is r' a) (h3 : Is i b) (h4 : Is i' b) (w : World) : (binOp .neq 25 (.complex .f64 r i) (.complex .f64 r' i')).run Try.prog w = .ok (.bool false) w := by
  have e1 := eqv' h1 h2
  have e2 := eqv' h3 h4
  simp [go_sem, e1, e2]
theorem run_add {r i r' i' : Nat} {g h : GI} {M N : Int} (h1 : Is r (g.1 : Rat)) (h2 : Is i (g.2 : Rat)) (h3 : Is r' (h.1 : Rat)) (h4 : Is i' (h.2 : Rat)) (bg : Bd g M) (bh : Bd h N) (hMN : M + N < 9007199254740992) :
    ∃ p q, (∀ w, (binOp .add 25 (.complex .f64 r i) (.complex .f64 r' i')).run Try.prog w = .ok (.complex .f64 p q) w) ∧ Is p ((gadd g h).1 : Rat) ∧ Is q ((gadd g h).2 : Rat) := by
  obtain ⟨a1, a2, a3, a4⟩ := bg
  obtain ⟨b1, b2, b3, b4⟩ := bh
  obtain ⟨p, kp, ip⟩ := addE (z := ((g.1 + h.1 : Int) : Rat)) h1 h3 (by rw [Rat.intCast_add]) (ex_int _ (by omega) (by omega)) (sm_int _ (by omega) (by omega))
  obtain ⟨q, kq, iq⟩ := addE (z := ((g.2 + h.2 : Int) : Rat)) h2 h4 (by rw [Rat.intCast_add]) (ex_int _ (by omega) (by omega)) (sm_int _ (by omega) (by omega))
  exact ⟨p, q, fun w => run_complex_sum w .add (.inl rfl) _ .f64 _ _ _ _ p q (by simp [cSumBits, kp, kq]), ip, iq⟩

/-! The answers as whole numbers. -/
def gX (us : Nat → Int) (j : Nat) : GI := (us j, 0)
def gY (vs : Nat → Int) (j : Nat) : GI := (0, vs j)
def S8 (us : Nat → Int) : Prop := ∀ j, -128 ≤ us j ∧ us j ≤ 127
theorem vX {us : Nat → Int} (h : S8 us) (j : Nat) : VI (Xw us j) (gX us j) ∧ Bd (gX us j) 128 := by
  obtain ⟨h1, h2⟩ := h j
  exact ⟨⟨fl_FI _ (by omega) (by omega), fi0⟩, by simp only [Bd, gX]; omega⟩
theorem vY {vs : Nat → Int} (h : S8 vs) (j : Nat) : VI (Yw vs j) (gY vs j) ∧ Bd (gY vs j) 128 := by
  obtain ⟨h1, h2⟩ := h j
  exact ⟨⟨fi0, fl_FI _ (by omega) (by omega)⟩, by simp only [Bd, gY]; omega⟩
theorem vZ {us vs : Nat → Int} (h : S8 us) (h' : S8 vs) (j : Nat) : VI (Zw us vs j) (gadd (gX us j) (gY vs j)) ∧ Bd (gadd (gX us j) (gY vs j)) 128 := by
  refine ⟨(vi_add (vX h j).1 (vY h' j).1 (vX h j).2 (vY h' j).2 (by omega)).1, ?_⟩
  have := h j
  have := h' j
  simp only [Bd, gadd, gX, gY]; omega
theorem vL {us : Nat → Int} (h : S8 us) : ∀ j, VI (lateC (Xw us) j) (lateI (gX us) j) ∧ Bd (lateI (gX us) j) 128
  | 0 => ⟨vi_zero, bd_zero _ (by omega)⟩
  | 1 => ⟨vi_zero, bd_zero _ (by omega)⟩
  | j + 2 => vX h j
/-- What the walk asks of the answers. -/
theorem four {n : Nat} {c : Nat → Int × Int × Int} {us vs : Nat → Int} (hn : n ≤ 3) (hc : Sm8 c) (hu : S8 us) (hv : S8 vs) (k : Nat) {ua ub uc ud : Value}
    (ha : CIs ua (ansN z1 n (secW c) rest0 (Xw us) k)) (hb : CIs ub (ansN z1 n (secW c) rest0 (Yw vs) k)) (he : CIs uc (ansN z1 n (secW c) rest0 (Zw us vs) k)) (hd : CIs ud (ansN z1 n (secW c) rest0 (lateC (Xw us)) (k + 2))) :
    ∃ ra ia rb ib re ie rd jd p q, ua = .complex .f64 ra ia ∧ ub = .complex .f64 rb ib ∧ uc = .complex .f64 re ie ∧ ud = .complex .f64 rd jd ∧
      (∀ w, (binOp .add 25 (.complex .f64 ra ia) (.complex .f64 rb ib)).run Try.prog w = .ok (.complex .f64 p q) w) ∧
      (∀ w, (binOp .neq 25 (.complex .f64 p q) (.complex .f64 re ie)).run Try.prog w = .ok (.bool false) w) ∧
      (∀ w, (binOp .neq 25 (.complex .f64 rd jd) (.complex .f64 ra ia)).run Try.prog w = .ok (.bool false) w) := by
  have hs : ∀ i, i < n → SI (secW c i) (c i) := fun i _ => secW_SI hc i
  have wa := ans_whole (m := k + 1) hs hn (fun j _ => vX hu j) k (by omega)
  have wb := ans_whole (m := k + 1) hs hn (fun j _ => vY hv j) k (by omega)
  have we := ans_whole (m := k + 1) hs hn (fun j _ => vZ hu hv j) k (by omega)
  have wd := ans_whole (m := k + 3) hs hn (fun j _ => vL hu j) (k + 2) (by omega)
  rw [ans_sum] at we
  rw [ans_late] at wd
  obtain ⟨ra, ia, rfl, a1, a2⟩ := cis_vi ha wa.1
  obtain ⟨rb, ib, rfl, b1, b2⟩ := cis_vi hb wb.1
  obtain ⟨re, ie, rfl, e1, e2⟩ := cis_vi he we.1
  obtain ⟨rd, jd, rfl, d1, d2⟩ := cis_vi hd wd.1
  have hM : Mk n + Mk n < 9007199254740992 := by
    rcases (by omega : n = 0 ∨ n = 1 ∨ n = 2 ∨ n = 3) with rfl | rfl | rfl | rfl <;> decide
  obtain ⟨p, q, hadd, p1, p2⟩ := run_add a1 a2 b1 b2 wa.2 wb.2 hM
  exact ⟨ra, ia, rb, ib, re, ie, rd, jd, p, q, rfl, rfl, rfl, rfl, hadd, run_neq p1 e1 p2 e2, run_neq d1 a1 d2 a2⟩
theorem firsts {n : Nat} {c : Nat → Int × Int × Int} {us : Nat → Int} (hn : n ≤ 3) (hc : Sm8 c) (hu : S8 us) {k : Nat} (hk : k < 2) {ud : Value}
    (hd : CIs ud (ansN z1 n (secW c) rest0 (lateC (Xw us)) k)) : ∃ r i, ud = .complex .f64 r i ∧ (∀ w, (binOp .eql 25 (.complex .f64 r i) (.complex .f64 0 0)).run Try.prog w = .ok (.bool true) w) := by
  have hs : ∀ i, i < n → SI (secW c i) (c i) := fun i _ => secW_SI hc i
  have wd := (ans_whole (m := 2) hs hn (fun j _ => vL hu j) k hk).1
  have e : ansNI n c (lateI (gX us)) k = (0, 0) := by
    rcases (by omega : k = 0 ∨ k = 1) with rfl | rfl
    · exact (ans_first n c (gX us)).1
    · exact (ans_first n c (gX us)).2
  rw [e] at wd
  obtain ⟨r, i, rfl, d1, d2⟩ := cis_vi hd wd
  exact ⟨r, i, rfl, run_eql d1 is_zero d2 is_zero⟩
end Go.Proofs.Yteoglcelgcjpoaa
