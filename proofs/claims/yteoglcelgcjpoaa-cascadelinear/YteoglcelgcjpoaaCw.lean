/- A filter at work as one thing: where it lies, and what its calls do with it. -/
import Derived.Test.YteoglcelgcjpoaaTw
namespace Go.Proofs.Yteoglcelgcjpoaa
open Go.RowKit

/-- At block B lies a filter at work of gain G, its n sections and what they keep in block L. -/
def CascAt (w : World) (B L n : Nat) (G : C2) (sec : Nat → Sec) (st : Nat → C2 × C2) : Prop :=
  ∃ g g' cap, w.rangeAt B 0 [.complex .f64 g g', .slice (some ⟨L, 0, none⟩) n cap] ∧ CIs (.complex .f64 g g') G ∧ Links w L n sec st ∧ B ≠ L ∧ B < w.heap.size ∧ L < w.heap.size
theorem CascAt.grown {w w' : World} {B L n : Nat} {G : C2} {sec : Nat → Sec} {st : Nat → C2 × C2} {row : Option Nat} (h : CascAt w B L n G sec st) (hg : w.grownBy w' row) (hB : some B ≠ row) (hL : some L ≠ row) : CascAt w' B L n G sec st := by
  obtain ⟨g, g', cap, h1, h2, h3, h4, h5, h6⟩ := h
  exact ⟨g, g', cap, fun j v hv => hg.cell (h1 j v hv) hB, h2, h3.grown hg h6 hL, h4, Nat.lt_of_lt_of_le h5 hg.size, Nat.lt_of_lt_of_le h6 hg.size⟩
theorem CascAt.below {w w' : World} {B L n : Nat} {G : C2} {sec : Nat → Sec} {st : Nat → C2 × C2} (h : CascAt w B L n G sec st) (hb : Below w.heap.size w w') : CascAt w' B L n G sec st := h.grown (below_grown hb none) (by simp) (by simp)
theorem CascAt.lt {w : World} {B L n : Nat} {G : C2} {sec : Nat → Sec} {st : Nat → C2 × C2} (h : CascAt w B L n G sec st) : B < w.heap.size ∧ L < w.heap.size ∧ B ≠ L := by
  obtain ⟨g, g', cap, _, _, _, h4, h5, h6⟩ := h
  exact ⟨h5, h6, h4⟩

theorem newW {g g' n : Nat} {v : Value} {sec : Nat → Sec} {G : C2} {w : World} (hg : FinV (.complex .f64 g g')) (hG : CIs (.complex .f64 g g') G) (hv : SecsIs w v n sec) (hn : n ≤ 16) :
    Calls Try.prog 9 #[.agg #[.complex .f64 g g', v]] w fun e w' => ∃ B L, e = .returned (.tuple #[.pointer (some ⟨B, 0, none⟩), .int .i64 0]) ∧ w.heap.size ≤ B ∧ w.heap.size ≤ L ∧ CascAt w' B L n G sec rest0 ∧ Below w.heap.size w w' := by
  refine (cnew_any g g' n v sec w hg hv hn).mono ?_
  rintro e w' ⟨B, L, rfl, h1, h2, h3, h4, h5, h6, h7, h8⟩
  exact ⟨B, L, rfl, h2, h3, ⟨g, g', n, h6, hG, h7, h1, h4, h5⟩, h8⟩
theorem stepW {B L n x x' : Nat} {G X : C2} {sec : Nat → Sec} {st : Nat → C2 × C2} {w : World} (h : CascAt w B L n G sec st) (hx : CIs (.complex .f64 x x') X) (hn : n ≤ 16) :
    Calls Try.prog 12 #[.pointer (some ⟨B, 0, none⟩), .complex .f64 x x'] w fun e w' => ∃ r i, e = .returned (.complex .f64 r i) ∧ CIs (.complex .f64 r i) (yAt sec st (cmul G X) n) ∧ CascAt w' B L n G sec (upTo sec st (cmul G X) n) ∧ w.grownBy w' (some L) := by
  obtain ⟨g, g', cap, h1, h2, h3, h4, h5, h6⟩ := h
  refine (cstep_any B L n cap g g' x x' G X sec st w h1 h2 hx h3 h4 hn h6).mono ?_
  rintro e w' ⟨y, rfl, hy, hL, hg⟩
  obtain ⟨r, i, rfl, _⟩ := id hy
  exact ⟨r, i, rfl, hy, ⟨g, g', cap, fun j v hv => hg.cell (h1 j v hv) (by intro e; exact h4 (Option.some.inj e)), h2, hL, h4, Nat.lt_of_lt_of_le h5 hg.size, Nat.lt_of_lt_of_le h6 hg.size⟩, hg⟩
theorem runW {B L n m : Nat} {v : Value} {G : C2} {X : Nat → C2} {sec : Nat → Sec} {st : Nat → C2 × C2} {w : World} (h : CascAt w B L n G sec st) (hv : ListIs w v m X) (hm : m ≤ 1000000) (hvL : ∀ b off, (∃ mm c, v = .slice (some ⟨b, off, none⟩) mm c) → 0 < m → b ≠ L) (hn : n ≤ 16) :
    Calls Try.prog 11 #[.pointer (some ⟨B, 0, none⟩), v] w fun e w' => ∃ A, e = .returned (.slice (some ⟨A, 0, none⟩) m m) ∧ w.heap.size ≤ A ∧ A < w'.heap.size ∧ (∀ j, j < m → ∃ u, w'.cell? ⟨A, j, none⟩ = some u ∧ CIs u (ansN G n sec st X j)) ∧
      CascAt w' B L n G sec (stN G n sec st X m) ∧ w.grownBy w' (some L) := by
  obtain ⟨g, g', cap, h1, h2, h3, h4, h5, h6⟩ := h
  refine (crun_any B L n cap g g' m v G X sec st w h1 h2 hv hm hvL h3 h4 hn h6).mono ?_
  rintro e w' ⟨A, rfl, hA1, hA2, hans, hL, hg⟩
  exact ⟨A, rfl, hA1, hA2, hans, ⟨g, g', cap, fun j v hv => hg.cell (h1 j v hv) (by intro e; exact h4 (Option.some.inj e)), h2, hL, h4, Nat.lt_of_lt_of_le h5 hg.size, Nat.lt_of_lt_of_le h6 hg.size⟩, hg⟩
theorem statesW {B L n : Nat} {G : C2} {sec : Nat → Sec} {st : Nat → C2 × C2} {w : World} (h : CascAt w B L n G sec st) (hn : n ≤ 16) :
    Calls Try.prog 14 #[.pointer (some ⟨B, 0, none⟩)] w fun e w' => ∃ A, e = .returned (.slice (some ⟨A, 0, none⟩) n n) ∧ w.heap.size ≤ A ∧ A < w'.heap.size ∧ StRow w' A n st ∧ Below w.heap.size w w' := by
  obtain ⟨g, g', cap, h1, h2, h3, h4, h5, h6⟩ := h
  exact cstates_any B L n cap g g' sec st w h1 h3 hn h6
theorem setW {B L n A c : Nat} {G : C2} {sec : Nat → Sec} {st st' : Nat → C2 × C2} {w : World} (h : CascAt w B L n G sec st) (hA : StRow w A n st') (hAL : A ≠ L) (hn : n ≤ 16) :
    Calls Try.prog 15 #[.pointer (some ⟨B, 0, none⟩), .slice (some ⟨A, 0, none⟩) n c] w fun e w' => e = .returned (.int .i64 0) ∧ CascAt w' B L n G sec st' ∧ w.grownBy w' (some L) := by
  obtain ⟨g, g', cap, h1, h2, h3, h4, h5, h6⟩ := h
  refine (cset_any B L n cap g g' A c sec st st' w h1 h3 hA hAL h4 hn h6).mono ?_
  rintro e w' ⟨rfl, hL, hg⟩
  exact ⟨rfl, ⟨g, g', cap, fun j v hv => hg.cell (h1 j v hv) (by intro e; exact h4 (Option.some.inj e)), h2, hL, h4, Nat.lt_of_lt_of_le h5 hg.size, Nat.lt_of_lt_of_le h6 hg.size⟩, hg⟩
theorem restW {B L n : Nat} {G : C2} {sec : Nat → Sec} {st : Nat → C2 × C2} {w : World} (h : CascAt w B L n G sec st) (hn : n ≤ 16) :
    Calls Try.prog 18 #[.pointer (some ⟨B, 0, none⟩)] w fun e w' => e = .returned (.tuple #[]) ∧ CascAt w' B L n G sec rest0 ∧ w.grownBy w' (some L) := by
  obtain ⟨g, g', cap, h1, h2, h3, h4, h5, h6⟩ := h
  refine (crest_any B L n cap g g' sec st w h1 h3 h4 hn).mono ?_
  rintro e w' ⟨rfl, hL, hg⟩
  exact ⟨rfl, ⟨g, g', cap, fun j v hv => hg.cell (h1 j v hv) (by intro e; exact h4 (Option.some.inj e)), h2, hL, h4, Nat.lt_of_lt_of_le h5 hg.size, Nat.lt_of_lt_of_le h6 hg.size⟩, hg⟩
theorem copyW {B L n : Nat} {G : C2} {sec : Nat → Sec} {st : Nat → C2 × C2} {w : World} (h : CascAt w B L n G sec st) (hn : n ≤ 16) :
    Calls Try.prog 13 #[.pointer (some ⟨B, 0, none⟩)] w fun e w' => ∃ B2 L2, e = .returned (.pointer (some ⟨B2, 0, none⟩)) ∧ w.heap.size ≤ B2 ∧ w.heap.size ≤ L2 ∧ CascAt w' B2 L2 n G sec st ∧ Below w.heap.size w w' := by
  obtain ⟨g, g', cap, h1, h2, h3, h4, h5, h6⟩ := h
  refine (ccopy_any B L n cap g g' sec st w h1 h3 hn h5 h6).mono ?_
  rintro e w' ⟨B2, L2, c2, rfl, k1, k2, k3, k4, k5, k6, k7, k8⟩
  exact ⟨B2, L2, rfl, k2, k3, ⟨g, g', c2, k6, h2, k7, k1, k4, k5⟩, k8⟩

theorem stN_add (G : C2) (n : Nat) (sec : Nat → Sec) (st : Nat → C2 × C2) (X : Nat → C2) (a : Nat) : ∀ b, stN G n sec st X (a + b) = stN G n sec (stN G n sec st X a) (fun j => X (a + j)) b
  | 0 => rfl
  | b + 1 => by
    show upTo sec (stN G n sec st X (a + b)) (cmul G (X (a + b))) n = upTo sec (stN G n sec (stN G n sec st X a) (fun j => X (a + j)) b) (cmul G (X (a + b))) n
    rw [stN_add G n sec st X a b]
theorem ansN_add (G : C2) (n : Nat) (sec : Nat → Sec) (st : Nat → C2 × C2) (X : Nat → C2) (a b : Nat) : ansN G n sec st X (a + b) = ansN G n sec (stN G n sec st X a) (fun j => X (a + j)) b := by
  unfold ansN
  rw [stN_add]

/-- 3/4 + i/2. -/
def gG : C2 := (lf 4604930618986332160, lf 4602678819172646912)
theorem gG_is : CIs (.complex .f64 4604930618986332160 4602678819172646912) gG := CIs.of _ _ (by omega) (by omega)
theorem fin_gG : FinV (.complex .f64 4604930618986332160 4602678819172646912) := ⟨_, _, rfl, by omega, by omega, by decide⟩
theorem gG_one : cmul gG z1 = gG := by kernel_rfl
theorem gG_sec (b1 b2 a1 a2 : C2) : rY ⟨z1, b1, b2, a1, a2⟩ z0 gG = gG := by
  show cadd (cmul z1 gG) z0 = gG
  kernel_rfl
theorem imp_one (cs : List Value) : ∀ n, yAt (secOf cs) rest0 gG n = gG
  | 0 => rfl
  | n + 1 => by
    show rY (secOf cs n) z0 (yAt (secOf cs) rest0 gG n) = gG
    rw [imp_one cs n]
    exact gG_sec _ _ _ _
theorem imp_gain (cs : List Value) (n : Nat) : ansN gG n (secOf cs) rest0 oneX 0 = gG := by
  show yAt (secOf cs) rest0 (cmul gG z1) n = gG
  rw [gG_one]
  exact imp_one cs n
theorem lf_some {b r : Nat} (h : lf b = some r) : b = r := by
  unfold lf at h
  split at h
  · cases h
  · exact Option.some.inj h
theorem is_gG {u : Value} (h : CIs u gG) : u = .complex .f64 4604930618986332160 4602678819172646912 := by
  obtain ⟨r, i, rfl, _, _, h1, h2⟩ := h
  have e1 : gG.1 = some 4604930618986332160 := by kernel_rfl
  have e2 : gG.2 = some 4602678819172646912 := by kernel_rfl
  rw [e1] at h1
  rw [e2] at h2
  rw [lf_some h1, lf_some h2]
end Go.Proofs.Yteoglcelgcjpoaa
