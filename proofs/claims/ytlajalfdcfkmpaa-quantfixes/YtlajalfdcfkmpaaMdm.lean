/- Long division by digits, as mathematics. -/
import Derived.Test.YtlajalfdcfkmpaaMc
namespace Go.Proofs.Ytlajalfdcfkmpaa

theorem vp_short {e : Nat → Nat} {a : Nat} : ∀ m, a ≤ m → (∀ i, a ≤ i → i < m → e i = 0) → vp e m = vp e a
  | 0, h, _ => by obtain rfl : a = 0 := by omega
                  rfl
  | m + 1, h, hz => by
    by_cases ha : a = m + 1
    · rw [ha]
    · show vp e m + e m * 4294967296 ^ m = _
      rw [hz m (by omega) (by omega), Nat.zero_mul, Nat.add_zero]
      exact vp_short m (by omega) (fun i h1 h2 => hz i h1 (by omega))
theorem vp_high {e : Nat → Nat} {a m i : Nat} (h : vp e m < 4294967296 ^ a) (hi : a ≤ i) (him : i < m) : e i = 0 := by
  refine Classical.byContradiction fun hne => ?_
  have h1 := vp_ge (d := e) hne
  have h2 := vp_le (d := e) (show i + 1 ≤ m by omega)
  have h3 := ble hi
  omega
/-- What is left at a place: the part of the row from place k on. -/
structure LD (n N k : Nat) (y X : Nat) (dr dq : Nat → Nat) : Prop where
  lt : ∀ i, dr i < 4294967296
  sum : vp dr (N + n) + vp dq N * y = X
  less : vp dr (N + n) < y * 4294967296 ^ k
  none : ∀ i, i < k → dq i = 0
  ql : ∀ i, dq i < 4294967296
section
variable {n N k y X : Nat} {dr dq : Nat → Nat}
theorem LD.part (h : LD n N (k + 1) y X dr dq) (hy : y < 4294967296 ^ n) (hk : k < N) (hn : 0 < n) :
    vp dr (N + n) = vp dr k + 4294967296 ^ k * vp (fun i => dr (k + i)) (n + 1) ∧ vp (fun i => dr (k + i)) (n + 1) < y * 4294967296 := by
  obtain ⟨M, hM⟩ : ∃ M, N + n = k + M := ⟨N + n - k, by omega⟩
  have h1 := vp_split dr k M
  rw [← hM] at h1
  have hp := bpos k
  have h2 : vp (fun i => dr (k + i)) M < y * 4294967296 := by
    have h3 := h.less
    rw [h1, bsucc] at h3
    refine Nat.lt_of_mul_lt_mul_left (a := 4294967296 ^ k) ?_
    have : y * (4294967296 * 4294967296 ^ k) = 4294967296 ^ k * (y * 4294967296) := by rw [← Nat.mul_assoc, Nat.mul_comm]
    omega
  have h4 : vp (fun i => dr (k + i)) M = vp (fun i => dr (k + i)) (n + 1) := by
    refine vp_short M (by omega) (fun i h5 h6 => vp_high (e := fun i => dr (k + i)) (a := n + 1) (m := M) ?_ h5 h6)
    refine Nat.lt_of_lt_of_le h2 ?_
    rw [Nat.pow_succ]
    exact Nat.mul_le_mul_right _ (Nat.le_of_lt hy)
  rw [h4] at h1 h2
  exact ⟨h1, h2⟩
/-- The first try is not too small. -/
theorem first_try {e db : Nat → Nat} {n y : Nat} (he : ∀ i, e i < 4294967296) (hn : 0 < n) (hyb : db (n - 1) * 4294967296 ^ (n - 1) ≤ y) (hb : 0 < db (n - 1)) :
    vp e (n + 1) / y ≤ (e n * 4294967296 + e (n - 1)) / db (n - 1) := by
  obtain ⟨m, rfl⟩ : ∃ m, n = m + 1 := ⟨n - 1, by omega⟩
  simp only [Nat.add_sub_cancel] at hyb hb ⊢
  have h1 : vp e (m + 1 + 1) = vp e m + (e (m + 1) * 4294967296 + e m) * 4294967296 ^ m := by
    show vp e m + e m * 4294967296 ^ m + e (m + 1) * 4294967296 ^ (m + 1) = _
    rw [bsucc, Nat.add_mul, Nat.mul_assoc]
    omega
  have h2 : vp e m < 4294967296 ^ m := vp_lt (fun i _ => he i)
  rw [Nat.le_div_iff_mul_le hb]
  have h3 : vp e (m + 1 + 1) / y * (db m * 4294967296 ^ m) ≤ vp e (m + 1 + 1) := Nat.le_trans (Nat.mul_le_mul_left _ hyb) (Nat.div_mul_le_self _ _)
  rw [h1] at h3
  have hp := bpos m
  have h4 : vp e (m + 1 + 1) / y * db m * 4294967296 ^ m < (e (m + 1) * 4294967296 + e m + 1) * 4294967296 ^ m := by
    rw [Nat.add_mul _ 1, Nat.one_mul, Nat.mul_assoc, h1]
    omega
  have := Nat.lt_of_mul_lt_mul_right h4
  omega
theorem LD.digit (h : LD n N (k + 1) y X dr dq) (hy : y < 4294967296 ^ n) (hk : k < N) (hn : 0 < n) (h0 : 0 < y) : vp (fun i => dr (k + i)) (n + 1) / y < 4294967296 := by
  have := (h.part hy hk hn).2
  rw [Nat.div_lt_iff_lt_mul h0, Nat.mul_comm]
  exact this
theorem vp_upd0 {d : Nat → Nat} {k v : Nat} (h : d k = 0) : ∀ N, k < N → vp (upd d k v) N = vp d N + v * 4294967296 ^ k
  | 0, hk => by omega
  | N + 1, hk => by
    show vp (upd d k v) N + upd d k v N * _ = vp d N + d N * _ + _
    by_cases e : k = N
    · subst e
      rw [upd_same, h, Nat.zero_mul, vp_congr (a := upd d k v) (b := d) (fun j hj => upd_ne d (by omega : j ≠ k) v)]
      omega
    · rw [vp_upd0 h N (by omega), upd_ne d (by omega)]
      omega
/-- One digit more. -/
theorem LD.step (h : LD n N (k + 1) y X dr dq) (hy : y < 4294967296 ^ n) (hk : k < N) (hn : 0 < n) (h0 : 0 < y) {dl : Nat → Nat} {t : Nat} (ht : t = vp (fun i => dr (k + i)) (n + 1) / y) (hdl : ∀ i, dl i < 4294967296) (hvl : vp dl (n + 1) = vp (fun i => dr (k + i)) (n + 1) - y * t) :
    LD n N k y X (tk dr dl k (n + 1)) (upd dq k t) := by
  obtain ⟨h1, h2⟩ := h.part hy hk hn
  have htb : t < 4294967296 := by rw [ht]; exact h.digit hy hk hn h0
  obtain ⟨P, hP⟩ : ∃ P, vp (fun i => dr (k + i)) (n + 1) = P := ⟨_, rfl⟩
  rw [hP] at h1 h2 ht hvl
  have h3 : y * t ≤ P := by rw [ht]; exact Nat.mul_div_le P y
  have h4 : P - y * t < y := by
    have := Nat.mod_lt P h0
    have h5 := Nat.div_add_mod P y
    rw [← ht] at h5
    omega
  -- the row behind the step
  have hz : ∀ i, n + 1 ≤ i → k + i < N + n → dr (k + i) = 0 := by
    intro i hi hik
    refine vp_high (e := dr) (a := k + n + 1) (m := N + n) ?_ (by omega) hik
    refine Nat.lt_of_lt_of_le h.less ?_
    rw [show k + n + 1 = n + (k + 1) by omega, badd n (k + 1)]
    exact Nat.mul_le_mul_right _ (Nat.le_of_lt hy)
  have hv : vp (tk dr dl k (n + 1)) (N + n) = vp dr k + 4294967296 ^ k * (P - y * t) := by
    obtain ⟨M, hM⟩ : ∃ M, N + n = k + M := ⟨N + n - k, by omega⟩
    rw [hM, vp_split, vp_congr (a := tk dr dl k (n + 1)) (b := dr) (fun j hj => by unfold tk; rw [if_neg (by omega)])]
    congr 2
    rw [vp_short (a := n + 1) M (by omega) (fun i h5 h6 => by unfold tk; rw [if_neg (by omega)]; exact hz i h5 (by omega)), ← hvl]
    exact vp_congr (fun j hj => by unfold tk; rw [if_pos (by omega), Nat.add_sub_cancel_left])
  have hq0 : dq k = 0 := h.none k (by omega)
  have hpk := bpos k
  refine ⟨fun i => ?_, ?_, ?_, fun i hi => ?_, fun i => ?_⟩
  · unfold tk; split
    · exact hdl _
    · exact h.lt _
  · rw [hv, vp_upd0 hq0 N hk, ← h.sum, h1, Nat.add_mul]
    have e1 : 4294967296 ^ k * P = 4294967296 ^ k * (P - y * t) + 4294967296 ^ k * (y * t) := by rw [← Nat.mul_add]; congr 1; omega
    have e2 : t * 4294967296 ^ k * y = 4294967296 ^ k * (y * t) := by rw [Nat.mul_comm t, Nat.mul_assoc, Nat.mul_comm t y]
    omega
  · rw [hv]
    have e1 : vp dr k < 4294967296 ^ k := vp_lt (fun i _ => h.lt i)
    have e2 : 4294967296 ^ k * (P - y * t) + 4294967296 ^ k ≤ 4294967296 ^ k * y := by
      have := Nat.mul_le_mul_left (4294967296 ^ k) (show P - y * t + 1 ≤ y by omega)
      rwa [Nat.mul_add, Nat.mul_one] at this
    rw [Nat.mul_comm y (4294967296 ^ k)]
    omega
  · rw [upd_ne dq (by omega)]; exact h.none i (by omega)
  · by_cases e : i = k
    · subst e; rw [upd_same]; exact htb
    · rw [upd_ne dq e]; exact h.ql i
theorem LD.start {d : Nat → Nat} (hn : 0 < n) (hd : ∀ i, d i < 4294967296) (hz : d (N + n - 1) = 0) (hyl : 4294967296 ^ (n - 1) ≤ y) (_hy0 : 0 < N) : LD n N N y (vp d (N + n)) d (fun _ => 0) := by
  refine ⟨hd, ?_, ?_, fun _ _ => rfl, fun _ => by decide⟩
  · rw [vp_zero, Nat.zero_mul, Nat.add_zero]
  · obtain ⟨m, hm⟩ : ∃ m, N + n = m + 1 := ⟨N + n - 1, by omega⟩
    rw [hm] at hz ⊢
    simp only [Nat.add_sub_cancel] at hz
    show vp d m + d m * _ < _
    rw [hz, Nat.zero_mul, Nat.add_zero]
    refine Nat.lt_of_lt_of_le (vp_lt (fun i _ => hd i)) ?_
    rw [show m = (n - 1) + N by omega, badd]
    exact Nat.mul_le_mul_right _ hyl
theorem LD.done (h : LD n N 0 y X dr dq) (h0 : 0 < y) : vp dq N = X / y ∧ vp dr (N + n) = X % y := by
  have h1 := h.less
  rw [Nat.pow_zero, Nat.mul_one] at h1
  have h2 := h.sum
  have h3 : X = vp dr (N + n) + y * vp dq N := by rw [← h2, Nat.mul_comm]
  rw [h3]
  constructor
  · rw [Nat.add_mul_div_left _ _ h0, Nat.div_eq_of_lt h1, Nat.zero_add]
  · rw [Nat.add_mul_mod_self_left, Nat.mod_eq_of_lt h1]
end
end Go.Proofs.Ytlajalfdcfkmpaa
