/- What package run's Step answers of all numbers, NaNs as one: the answer and the next state, whatever the order in which its products are reckoned. -/
import Derived.Test.YtnfgdhnoidpncaaOps
namespace Go.Proofs.Ytnfgdhnoidpncaa
open Go.RowKit

def rV1 (B : Nat) (u0 p x : Value) (zm zy : C2) : Nat → Value → Prop
  | 9, v => v = .pointer (some ⟨B, 0, none⟩)
  | 10, v => v = u0
  | 11, v => v = x
  | 12, v => CIs v zm
  | 13, v => v = .pointer (some ⟨B + 1, 0, none⟩)
  | 14, v => v = p
  | 15, v => CIs v zy
  | 8, v => CIs v zy
  | _, _ => True
def rV2 (B : Nat) (u1 u2 u3 u4 q x y : Value) (S : Sec) (Q X Y : C2) : Nat → Value → Prop
  | 16, v => v = y
  | 17, v => v = .pointer (some ⟨B, 1, none⟩)
  | 18, v => v = u1
  | 19, v => v = x
  | 20, v => CIs v (cmul S.b1 X)
  | 21, v => v = .pointer (some ⟨B + 1, 1, none⟩)
  | 22, v => v = q
  | 23, v => CIs v (cadd (cmul S.b1 X) Q)
  | 24, v => v = .pointer (some ⟨B, 3, none⟩)
  | 25, v => v = u3
  | 26, v => v = y
  | 27, v => CIs v (cmul S.a1 Y)
  | 28, v => CIs v (rS1 S Q X Y)
  | 29, v => v = .pointer (some ⟨B, 2, none⟩)
  | 30, v => v = u2
  | 31, v => v = x
  | 32, v => CIs v (cmul S.b2 X)
  | 33, v => v = .pointer (some ⟨B, 4, none⟩)
  | 34, v => v = u4
  | 35, v => v = y
  | 36, v => CIs v (cmul S.a2 Y)
  | 37, v => CIs v (rS2 S X Y)
  | 38, v => ∃ r s, v = .agg #[r, s] ∧ CIs r (rS1 S Q X Y) ∧ CIs s (rS2 S X Y)
  | 6, v => v = y
  | _, _ => True
/-- What the second region keeps of the world. -/
def rC (W : World) (B : Nat) (z1 z2 : C2) (listed : Array Bool) (w : World) : Prop :=
  W.grownBy w (some (B + 2)) ∧ w.there (B + 2) 0 2 ∧ (listed.getD 24 false = true → ∃ u v, w.rangeAt (B + 2) 0 [u, v] ∧ CIs u z1 ∧ CIs v z2)
theorem Still.there {w w' : World} (h : Still w w') {b o n : Nat} (ht : w.there b o n) : w'.there b o n := fun j hj => by rw [h.cell, h.frozen]; exact ht j hj
theorem Still.range {w w' : World} (h : Still w w') {b o : Nat} {cs : List Value} (ht : w.rangeAt b o cs) : w'.rangeAt b o cs := fun j v hv => by rw [h.cell]; exact ht j v hv
theorem rC.still {W w w' : World} {B : Nat} {z1 z2 : C2} {listed : Array Bool} (h : rC W B z1 z2 listed w) (hs : Still w w') (i : Nat) (hi : i ≠ 24) : rC W B z1 z2 (listed.setIfInBounds i true) w' := by
  obtain ⟨h1, h2, h3⟩ := h
  refine ⟨grown_trans h1 (hs.grown _), hs.there h2, fun hl => ?_⟩
  rw [getD_set_ne false hi] at hl
  obtain ⟨u, v, hr, hu, hv⟩ := h3 hl
  exact ⟨u, v, hs.range hr, hu, hv⟩
theorem rC.same {W w : World} {B : Nat} {z1 z2 : C2} {listed : Array Bool} (h : rC W B z1 z2 listed w) (i : Nat) (hi : i ≠ 24) : rC W B z1 z2 (listed.setIfInBounds i true) w := h.still (Still.refl w) i hi
theorem rC.cell {W w : World} {B : Nat} {z1 z2 : C2} {listed : Array Bool} (h : rC W B z1 z2 listed w) {p : Addr} {v : Value} (hc : W.cell? p = some v) (hp : p.block ≠ B + 2) : w.cell? p = some v :=
  h.1.cell hc (by intro e; exact hp (Option.some.inj e))
theorem grown_setCells {W w : World} {b o : Nat} {cs : List Value} (h : W.grownBy w (some b)) : W.grownBy (w.setCells b o cs) (some b) := by
  induction cs generalizing w o with
  | nil => exact h
  | cons v r ih =>
    rw [World.setCells]
    exact ih ⟨h.os, h.tape, h.output, by simpa [World.setCell] using h.size, fun k hk hn => by
      rw [Below.heap_setCell _ _ _ _ (by intro e; exact hn (by rw [e]))]
      exact h.block k hk hn⟩
theorem there_set {w : World} {b o n : Nat} {o' : Nat} {cs : List Value} (h : w.there b o n) : (w.setCells b o' cs).there b o n := fun j hj => ⟨World.isSome_setCells b cs o' w _ (h j hj).1, by rw [World.frozen?_setCells]; exact (h j hj).2⟩
theorem rC.store {W w : World} {B : Nat} {z1 z2 : C2} {listed : Array Bool} (h : rC W B z1 z2 listed w) {u v : Value} (hu : CIs u z1) (hv : CIs v z2) : rC W B z1 z2 (listed.setIfInBounds 24 true) (w.setCells (B + 2) 0 [u, v]) := by
  obtain ⟨h1, h2, h3⟩ := h
  exact ⟨grown_setCells h1, there_set h2, fun _ => ⟨u, v, World.rangeAt_setCells_same w (B + 2) 0 [u, v] h2, hu, hv⟩⟩

theorem run_results_step {w : World} {tmps : Array Value} {y : Value} {b : Nat} {u v : Value} (h6 : tmps.getD 6 undef = y) (h7 : tmps.getD 7 undef = .pointer (some ⟨b, 0, none⟩)) (hr : w.rangeAt b 0 [u, v]) :
    (results Try.f42 tmps).run Try.prog w = .ok (.tuple #[y, .agg #[u, v]]) w := by
  have hl := run_loadVar_mid (P := Try.prog) w b 0 74 [u, v] _ hr Try.underlying74 rfl info_st
  rw [Array.getD_eq_getD_getElem?] at h6 h7
  simp [results, h6, h7, asAddr, hl]

set_option maxRecDepth 100000 in
set_option maxHeartbeats 2000000 in
theorem rstep_any (b0 b0' b1 b1' b2 b2' a1 a1' a2 a2' s s' t t' x x' : Nat) (S : Sec) (P Q X : C2)
    (h0 : CIs (.complex .f64 b0 b0') S.b0) (h1 : CIs (.complex .f64 b1 b1') S.b1) (h2 : CIs (.complex .f64 b2 b2') S.b2) (h3 : CIs (.complex .f64 a1 a1') S.a1) (h4 : CIs (.complex .f64 a2 a2') S.a2)
    (hp : CIs (.complex .f64 s s') P) (hq : CIs (.complex .f64 t t') Q) (hx : CIs (.complex .f64 x x') X) (w : World) :
    Calls Try.prog 42 #[.agg #[.complex .f64 b0 b0', .complex .f64 b1 b1', .complex .f64 b2 b2', .complex .f64 a1 a1', .complex .f64 a2 a2'], .agg #[.complex .f64 s s', .complex .f64 t t'], .complex .f64 x x'] w
      fun e w' => ∃ y u v, e = .returned (.tuple #[y, .agg #[u, v]]) ∧ CIs y (rY S P X) ∧ CIs u (rS1 S Q X (rY S P X)) ∧ CIs v (rS2 S X (rY S P X)) ∧ Below w.heap.size w w' := by
  go_enter Try.func42, Try.ntmps42
  go_wp2_with fail
  rename_i K hK
  have HK := hide hK
  clear hK
  obtain ⟨W, hW⟩ : ∃ W, W = (((w.alloc (Obj.cells #[.complex .f64 b0 b0', .complex .f64 b1 b1', .complex .f64 b2 b2', .complex .f64 a1 a1', .complex .f64 a2 a2'] 52)).alloc (Obj.cells #[.complex .f64 s s', .complex .f64 t t'] 74)).alloc (Obj.cells #[.complex .f64 0 0, .complex .f64 0 0] 74)) := ⟨_, rfl⟩
  rw [← hW]
  have c0 : W.cell? ⟨w.heap.size, 0, none⟩ = some (.complex .f64 b0 b0') := by rw [hW]; go_simp
  have c1 : W.cell? ⟨w.heap.size, 1, none⟩ = some (.complex .f64 b1 b1') := by rw [hW]; go_simp
  have c2 : W.cell? ⟨w.heap.size, 2, none⟩ = some (.complex .f64 b2 b2') := by rw [hW]; go_simp
  have c3 : W.cell? ⟨w.heap.size, 3, none⟩ = some (.complex .f64 a1 a1') := by rw [hW]; go_simp
  have c4 : W.cell? ⟨w.heap.size, 4, none⟩ = some (.complex .f64 a2 a2') := by rw [hW]; go_simp
  have d0 : W.cell? ⟨w.heap.size + 1, 0, none⟩ = some (.complex .f64 s s') := by rw [hW]; go_simp
  have d1 : W.cell? ⟨w.heap.size + 1, 1, none⟩ = some (.complex .f64 t t') := by rw [hW]; go_simp
  have th : W.there (w.heap.size + 2) 0 2 := by
    intro j hj
    rcases (by omega : j = 0 ∨ j = 1) with rfl | rfl <;> (rw [hW]; constructor <;> go_simp)
  have hbel : Below w.heap.size w W := by
    rw [hW]
    exact (((Below.refl _ _).alloc (Nat.le_refl _) _).alloc (by simp) _).alloc (by simp; omega) _
  clear hW
  refine region_slots (rV1 w.heap.size (.complex .f64 b0 b0') (.complex .f64 s s') (.complex .f64 x x') (cmul S.b0 X) (rY S P X)) (fun _ w' => Still W w') (by kernel_rfl) (by kernel_rfl) (by kernel_rfl) 39 (by kernel_rfl) rfl (still_drew W) ?_ ?_
  · intro listed a w1 i o hI ho hsz hl hd
    have hi : i < 8 := by simpa using (Array.getElem?_eq_some_iff.1 ho).1
    have e2 : a.eval (.tmp 2) = (.complex .f64 x x') := (hI.base 2 (by kernel_rfl)).trans rfl
    have e3 : a.eval (.tmp 3) = (.pointer (some ⟨w.heap.size, 0, none⟩)) := (hI.base 3 (by kernel_rfl)).trans rfl
    have e4 : a.eval (.tmp 4) = (.pointer (some ⟨w.heap.size + 1, 0, none⟩)) := (hI.base 4 (by kernel_rfl)).trans rfl
    have hst : Still W w1 := hI.world
    rcases (by omega : i = 0 ∨ i = 1 ∨ i = 2 ∨ i = 3 ∨ i = 4 ∨ i = 5 ∨ i = 6 ∨ i = 7) with rfl | rfl | rfl | rfl | rfl | rfl | rfl | rfl
    all_goals obtain rfl := Option.some.inj ho
    · exact ok_field rfl rfl e3 (field_sec _ 0 (by omega) _) rfl hst
    · have k := hI.slot 0 _ 9 rfl rfl (hd ⟨0, .data⟩ (by simp) rfl)
      exact ok_load rfl rfl k (load_c _ _ _ _ (by rw [hst.cell]; exact c0)) rfl hst
    · exact ok_move rfl rfl e2 rfl hst
    · have k1 := hI.slot 1 _ 10 rfl rfl (hd ⟨1, .data⟩ (by simp) rfl)
      have k2 := hI.slot 2 _ 11 rfl rfl (hd ⟨2, .data⟩ (by simp) rfl)
      exact ok_mul rfl rfl (k1 ▸ h0) (k2 ▸ hx) (fun v hv => hv) (fun w' hs => hst.trans hs)
    · exact ok_field rfl rfl e4 (field_st _ 0 (by omega) _) rfl hst
    · have k := hI.slot 4 _ 13 rfl rfl (hd ⟨4, .data⟩ (by simp) rfl)
      exact ok_load rfl rfl k (load_c _ _ _ _ (by rw [hst.cell]; exact d0)) rfl hst
    · have k1 := hI.slot 3 _ 12 rfl rfl (hd ⟨3, .data⟩ (by simp) rfl)
      have k2 := hI.slot 5 _ 14 rfl rfl (hd ⟨5, .data⟩ (by simp) rfl)
      exact ok_sum rfl (.inl rfl) rfl k1 (k2 ▸ hp) (fun v hv => hv) (fun w' hs => hst.trans hs)
    · have k1 := hI.slot 6 _ 15 rfl rfl (hd ⟨6, .data⟩ (by simp) rfl)
      exact ok_assign rfl rfl rfl k1 hst
  · intro listed a w1 hI hall
    have f2 : a.eval (.tmp 2) = (.complex .f64 x x') := (hI.base 2 (by kernel_rfl)).trans rfl
    have f3 : a.eval (.tmp 3) = (.pointer (some ⟨w.heap.size, 0, none⟩)) := (hI.base 3 (by kernel_rfl)).trans rfl
    have f4 : a.eval (.tmp 4) = (.pointer (some ⟨w.heap.size + 1, 0, none⟩)) := (hI.base 4 (by kernel_rfl)).trans rfl
    have f7 : a.eval (.tmp 7) = (.pointer (some ⟨w.heap.size + 2, 0, none⟩)) := (hI.base 7 (by kernel_rfl)).trans rfl
    have hst : Still W w1 := hI.world
    have ky : CIs (a.eval (.tmp 8)) (rY S P X) := hI.slot 7 _ 8 rfl rfl (hall 7 (by decide))
    have hsize : a.tmps.size = 39 := hI.size
    have hdef : a.defers = [] := hI.defers
    clear hI hall
    obtain ⟨y, f8⟩ : ∃ y, a.eval (.tmp 8) = y := ⟨_, rfl⟩
    rw [f8] at ky
    refine unhide HK _ _ (wp_seq ?_)
    clear HK
    refine region_slots (rV2 w.heap.size (.complex .f64 b1 b1') (.complex .f64 b2 b2') (.complex .f64 a1 a1') (.complex .f64 a2 a2') (.complex .f64 t t') (.complex .f64 x x') y S Q X (rY S P X)) (rC W w.heap.size (rS1 S Q X (rY S P X)) (rS2 S X (rY S P X))) (by kernel_rfl) (by kernel_rfl) (by kernel_rfl) 39 (by kernel_rfl) hsize ?_ ?_ ?_
    · exact ⟨grown_trans (hst.grown _) (grown_drew _ _), (still_drew w1).there (hst.there th), fun h => by simp at h⟩
    · intro listed a2 w2 i o hI ho hsz hl hd
      have hi : i < 25 := by simpa using (Array.getElem?_eq_some_iff.1 ho).1
      have e2 : a2.eval (.tmp 2) = (.complex .f64 x x') := (hI.base 2 (by kernel_rfl)).trans f2
      have e3 : a2.eval (.tmp 3) = (.pointer (some ⟨w.heap.size, 0, none⟩)) := (hI.base 3 (by kernel_rfl)).trans f3
      have e4 : a2.eval (.tmp 4) = (.pointer (some ⟨w.heap.size + 1, 0, none⟩)) := (hI.base 4 (by kernel_rfl)).trans f4
      have e7 : a2.eval (.tmp 7) = (.pointer (some ⟨w.heap.size + 2, 0, none⟩)) := (hI.base 7 (by kernel_rfl)).trans f7
      have e8 : a2.eval (.tmp 8) = y := (hI.base 8 (by kernel_rfl)).trans f8
      have hc : rC W w.heap.size (rS1 S Q X (rY S P X)) (rS2 S X (rY S P X)) listed w2 := hI.world
      rcases (by omega : i = 0 ∨ i = 1 ∨ i = 2 ∨ i = 3 ∨ i = 4 ∨ i = 5 ∨ i = 6 ∨ i = 7 ∨ i = 8 ∨ i = 9 ∨ i = 10 ∨ i = 11 ∨ i = 12 ∨ i = 13 ∨ i = 14 ∨ i = 15 ∨ i = 16 ∨ i = 17 ∨ i = 18 ∨ i = 19 ∨ i = 20 ∨ i = 21 ∨ i = 22 ∨ i = 23 ∨ i = 24) with rfl | rfl | rfl | rfl | rfl | rfl | rfl | rfl | rfl | rfl | rfl | rfl | rfl | rfl | rfl | rfl | rfl | rfl | rfl | rfl | rfl | rfl | rfl | rfl | rfl
      all_goals obtain rfl := Option.some.inj ho
      · exact ok_move rfl rfl e8 rfl (hc.same 0 (by omega))
      · exact ok_field rfl rfl e3 (field_sec _ 1 (by omega) _) rfl (hc.same 1 (by omega))
      · have k := hI.slot 1 _ 17 rfl rfl (hd ⟨1, .data⟩ (by simp) rfl)
        exact ok_load rfl rfl k (load_c _ _ _ _ (hc.cell c1 (by simp))) rfl (hc.same 2 (by omega))
      · exact ok_move rfl rfl e2 rfl (hc.same 3 (by omega))
      · have k1 := hI.slot 2 _ 18 rfl rfl (hd ⟨2, .data⟩ (by simp) rfl)
        have k2 := hI.slot 3 _ 19 rfl rfl (hd ⟨3, .data⟩ (by simp) rfl)
        exact ok_mul rfl rfl (k1 ▸ h1) (k2 ▸ hx) (fun v hv => hv) (fun w' hs => hc.still hs 4 (by omega))
      · exact ok_field rfl rfl e4 (field_st _ 1 (by omega) _) rfl (hc.same 5 (by omega))
      · have k := hI.slot 5 _ 21 rfl rfl (hd ⟨5, .data⟩ (by simp) rfl)
        exact ok_load rfl rfl k (load_c _ _ _ _ (hc.cell d1 (by simp))) rfl (hc.same 6 (by omega))
      · have k1 := hI.slot 4 _ 20 rfl rfl (hd ⟨4, .data⟩ (by simp) rfl)
        have k2 := hI.slot 6 _ 22 rfl rfl (hd ⟨6, .data⟩ (by simp) rfl)
        exact ok_sum rfl (.inl rfl) rfl k1 (k2 ▸ hq) (fun v hv => hv) (fun w' hs => hc.still hs 7 (by omega))
      · exact ok_field rfl rfl e3 (field_sec _ 3 (by omega) _) rfl (hc.same 8 (by omega))
      · have k := hI.slot 8 _ 24 rfl rfl (hd ⟨8, .data⟩ (by simp) rfl)
        exact ok_load rfl rfl k (load_c _ _ _ _ (hc.cell c3 (by simp))) rfl (hc.same 9 (by omega))
      · exact ok_move rfl rfl e8 rfl (hc.same 10 (by omega))
      · have k1 := hI.slot 9 _ 25 rfl rfl (hd ⟨9, .data⟩ (by simp) rfl)
        have k2 := hI.slot 10 _ 26 rfl rfl (hd ⟨10, .data⟩ (by simp) rfl)
        exact ok_mul rfl rfl (k1 ▸ h3) (k2 ▸ ky) (fun v hv => hv) (fun w' hs => hc.still hs 11 (by omega))
      · have k1 := hI.slot 7 _ 23 rfl rfl (hd ⟨7, .data⟩ (by simp) rfl)
        have k2 := hI.slot 11 _ 27 rfl rfl (hd ⟨11, .data⟩ (by simp) rfl)
        exact ok_sum rfl (.inr rfl) rfl k1 k2 (fun v hv => hv) (fun w' hs => hc.still hs 12 (by omega))
      · exact ok_field rfl rfl e3 (field_sec _ 2 (by omega) _) rfl (hc.same 13 (by omega))
      · have k := hI.slot 13 _ 29 rfl rfl (hd ⟨13, .data⟩ (by simp) rfl)
        exact ok_load rfl rfl k (load_c _ _ _ _ (hc.cell c2 (by simp))) rfl (hc.same 14 (by omega))
      · exact ok_move rfl rfl e2 rfl (hc.same 15 (by omega))
      · have k1 := hI.slot 14 _ 30 rfl rfl (hd ⟨14, .data⟩ (by simp) rfl)
        have k2 := hI.slot 15 _ 31 rfl rfl (hd ⟨15, .data⟩ (by simp) rfl)
        exact ok_mul rfl rfl (k1 ▸ h2) (k2 ▸ hx) (fun v hv => hv) (fun w' hs => hc.still hs 16 (by omega))
      · exact ok_field rfl rfl e3 (field_sec _ 4 (by omega) _) rfl (hc.same 17 (by omega))
      · have k := hI.slot 17 _ 33 rfl rfl (hd ⟨17, .data⟩ (by simp) rfl)
        exact ok_load rfl rfl k (load_c _ _ _ _ (hc.cell c4 (by simp))) rfl (hc.same 18 (by omega))
      · exact ok_move rfl rfl e8 rfl (hc.same 19 (by omega))
      · have k1 := hI.slot 18 _ 34 rfl rfl (hd ⟨18, .data⟩ (by simp) rfl)
        have k2 := hI.slot 19 _ 35 rfl rfl (hd ⟨19, .data⟩ (by simp) rfl)
        exact ok_mul rfl rfl (k1 ▸ h4) (k2 ▸ ky) (fun v hv => hv) (fun w' hs => hc.still hs 20 (by omega))
      · have k1 := hI.slot 16 _ 32 rfl rfl (hd ⟨16, .data⟩ (by simp) rfl)
        have k2 := hI.slot 20 _ 36 rfl rfl (hd ⟨20, .data⟩ (by simp) rfl)
        exact ok_sum rfl (.inr rfl) rfl k1 k2 (fun v hv => hv) (fun w' hs => hc.still hs 21 (by omega))
      · have k1 := hI.slot 12 _ 28 rfl rfl (hd ⟨12, .data⟩ (by simp) rfl)
        have k2 := hI.slot 21 _ 37 rfl rfl (hd ⟨21, .data⟩ (by simp) rfl)
        exact ok_build rfl rfl rfl rfl k1 k2 ⟨_, _, rfl, k1, k2⟩ (hc.same 22 (by omega))
      · have k1 := hI.slot 0 _ 16 rfl rfl (hd ⟨0, .data⟩ (by simp) rfl)
        exact ok_assign rfl rfl k1 rfl (hc.same 23 (by omega))
      · obtain ⟨r, q, k1, k2, k3⟩ := hI.slot 22 _ 38 rfl rfl (hd ⟨22, .data⟩ (by simp) rfl)
        exact ok_store rfl rfl e7 k1 info_st (by simp [k2.one, k3.one]) hc.2.1 (hc.store k2 k3)
    · intro listed a2 w2 hI hall
      have e7 : a2.eval (.tmp 7) = (.pointer (some ⟨w.heap.size + 2, 0, none⟩)) := (hI.base 7 (by kernel_rfl)).trans f7
      have k6 : a2.eval (.tmp 6) = y := hI.slot 23 _ 6 rfl rfl (hall 23 (by decide))
      have hc : rC W w.heap.size (rS1 S Q X (rY S P X)) (rS2 S X (rY S P X)) listed w2 := hI.world
      obtain ⟨g1, _, g2⟩ := hc
      obtain ⟨u, v, hr, hu, hv⟩ := g2 (hall 24 (by decide))
      refine wp_ret (bodyPost_ret (run_results_step k6 e7 hr) (hI.defers.trans hdef) ?_)
      exact ⟨y, u, v, rfl, ky, hu, hv, hbel.grown g1 hbel.size (fun k e => by cases e; omega)⟩
end Go.Proofs.Ytnfgdhnoidpncaa
