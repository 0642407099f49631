/- Natural numbers in memory; Word, CmpN. -/
import Derived.Test.YtlajalfdcfkmpaaNa
namespace Go.Proofs.Ytlajalfdcfkmpaa
open Go.RowKit

/-- The natural number x lies there, by its digits. -/
def NA (w : World) (v : Value) (x : Nat) : Prop := ∃ ad n cap d, v = .slice ad n cap ∧ n ≤ cap ∧ Row w ad n d ∧ Dg n d ∧ x = vp d n
theorem NA.below {w w' : World} {v : Value} {x : Nat} (h : NA w v x) (hb : Below w.heap.size w w') : NA w' v x := by
  obtain ⟨ad, n, cap, d, rfl, h1, h2, h3, h4⟩ := h
  exact ⟨ad, n, cap, d, rfl, h1, h2.below hb, h3, h4⟩
theorem Dg.len {n k : Nat} {d : Nat → Nat} (h : Dg n d) (hk : vp d n < 4294967296 ^ k) : n ≤ k := by
  by_cases hn : n ≤ k
  · exact hn
  · have h1 := h.lb (by omega)
    have h2 := ble (show k ≤ n - 1 by omega)
    omega
theorem Dg.cut {n m : Nat} {d : Nat → Nat} (hlt : ∀ j, j < n → d j < 4294967296) (hm : m ≤ n) (hz : ∀ j, m ≤ j → j < n → d j = 0) (hl : 0 < m → d (m - 1) ≠ 0) :
    Dg m (fun j => if j < m then d j else 0) ∧ vp (fun j => if j < m then d j else 0) m = vp d n := by
  refine ⟨⟨fun j => ?_, fun j hj => ?_, fun h => ?_⟩, ?_⟩
  · by_cases h : j < m
    · simp only [h, if_true]; exact hlt j (by omega)
    · simp only [h, if_false]; decide
  · simp only [show ¬ j < m by omega, if_false]
  · simp only [show m - 1 < m by omega, if_true]; exact hl h
  · rw [vp_congr (b := d) (fun j hj => by simp only [hj, if_true])]
    have e : vp (fun j => if j < n then d j else 0) n = vp d n := vp_congr (fun j hj => by simp only [hj, if_true])
    have e2 : vp (fun j => if j < n then d j else 0) m = vp d m := vp_congr (fun j hj => by simp only [show j < n by omega, if_true])
    rw [← e, ← e2]
    refine (vp_tail (n := m) (fun j hj => ?_) n hm).symm
    by_cases h : j < n
    · simp only [h, if_true]; exact hz j hj h
    · simp only [h, if_false]
theorem NA.norm {w : World} {ad : Option Addr} {n m cap : Nat} {d : Nat → Nat} (hcap : n ≤ cap) (hr : Row w ad n d) (hlt : ∀ j, j < n → d j < 4294967296) (hm : m ≤ n) (hz : ∀ j, m ≤ j → j < n → d j = 0) (hl : 0 < m → d (m - 1) ≠ 0) : NA w (.slice ad m cap) (vp d n) := by
  obtain ⟨h1, h2⟩ := Dg.cut hlt hm hz hl
  refine ⟨ad, m, cap, _, rfl, by omega, fun j hj => ?_, h1, h2.symm⟩
  obtain ⟨b, off, e, h3, h4⟩ := hr j (by omega)
  exact ⟨b, off, e, h3, by simp only [hj, if_true]; exact h4⟩
theorem NA.nil (w : World) : NA w (.slice none 0 0) 0 := ⟨none, 0, 0, fun _ => 0, rfl, Nat.le_refl _, fun j hj => by omega, ⟨fun _ => by decide, fun _ _ => rfl, fun h => by omega⟩, rfl⟩

/-- Two digits. -/
def two (a b : Nat) (j : Nat) : Nat := if j = 0 then a else b
theorem vp_two (a b : Nat) : vp (two a b) 2 = a + b * 4294967296 := by simp [vp, two]

set_option maxRecDepth 100000 in
theorem word_any (x : Nat) (hx : x < 18446744073709551616) (w : World) :
    Calls Try.prog 55 #[.int .u64 x] w fun e w' => ∃ v, e = .returned v ∧ NA w' v x ∧ Below w.heap.size w w' := by
  obtain ⟨p, hp⟩ : ∃ p : Nat, (x : Int) % 4294967296 = p := ⟨x % 4294967296, by omega⟩
  obtain ⟨q, hq⟩ : ∃ q : Nat, (x : Int) / 4294967296 = q := ⟨x / 4294967296, by omega⟩
  have hpl : p < 4294967296 := by omega
  have hql : q < 4294967296 := by omega
  have hxe : x = p + q * 4294967296 := by omega
  have Hx := hide hxe
  clear hxe
  go_enter Try.func55, Try.ntmps55
  go_wp2_with fail
  have hr : Row (w.alloc (Obj.cells #[Value.int IntKind.u64 p, Value.int IntKind.u64 q] 22)) (some ⟨w.heap.size, 0, none⟩) 2 (two p q) := by
    intro j hj
    refine ⟨w.heap.size, 0, rfl, by simp, ?_⟩
    rcases (by omega : j = 0 ∨ j = 1) with rfl | rfl <;> (unfold two; go_simp)
  refine (norm_any _ 2 2 _ _ (Nat.le_refl _) (by omega) hr).mono ?_
  rintro e w' ⟨m, hm, rfl, hz, hl, rfl⟩
  have hN := NA.norm (Nat.le_refl _) hr (fun j hj => by unfold two; by_cases h : j = 0 <;> simp [h] <;> omega) hm hz hl
  rw [vp_two, ← unhide Hx] at hN
  have HN := hide hN
  clear hN hz hl hr
  go_wp2
  go_ret
  exact ⟨_, rfl, unhide HN, (Below.refl _ _).alloc (Nat.le_refl _) _⟩

/-- How two numbers compare. -/
def cmpI (x y : Nat) : Int := if x < y then -1 else if x = y then 0 else 1
theorem cmpI_lt {x y : Nat} (h : x < y) : cmpI x y = -1 := by unfold cmpI; rw [if_pos h]
theorem cmpI_gt {x y : Nat} (h : y < x) : cmpI x y = 1 := by unfold cmpI; rw [if_neg (by omega), if_neg (by omega)]
theorem cmpI_eq {x y : Nat} (h : x = y) : cmpI x y = 0 := by unfold cmpI; rw [if_neg (by omega), if_pos h]

set_option maxRecDepth 100000 in
theorem cmp_any {v1 v2 : Value} {x y : Nat} {w : World} (h1 : NA w v1 x) (h2 : NA w v2 y) (hx : x < 4294967296 ^ 1000) (hy : y < 4294967296 ^ 1000) :
    Calls Try.prog 62 #[v1, v2] w fun e w' => e = .returned (.int .i64 (cmpI x y)) ∧ Still w w' := by
  obtain ⟨a1, n1, c1, d1, rfl, k1, r1, g1, rfl⟩ := h1
  obtain ⟨a2, n2, c2, d2, rfl, k2, r2, g2, rfl⟩ := h2
  have l1 := g1.len hx
  have l2 := g2.len hy
  have R1 := hide r1
  have R2 := hide r2
  have G1 := hide g1
  have G2 := hide g2
  clear r1 r2 g1 g2 hx hy
  go_enter Try.func62, Try.ntmps62
  by_cases hne : n1 = n2
  · subst hne
    go_wp2_with fail
    go_loopw [5] (fun i wr => ∃ m : Nat, m ≤ n1 ∧ i = .int .i64 ((m : Int) - 1) ∧ (∀ j, m ≤ j → j < n1 → d1 j = d2 j) ∧ Still w wr) (fun i _ => (intOf i + 1).toNat)
    case atStart => exact ⟨n1, Nat.le_refl _, by go_num, fun j h1 h2 => by omega, Still.refl _⟩
    case round =>
      obtain ⟨m, hm, rfl, hz, hs⟩ := hrel
      have Hz := hide hz
      have Hs := hide hs
      clear hz
      by_cases h0 : 0 < m
      · obtain ⟨b1, o1, rfl, hb1, e1⟩ := (unhide R1).below (hs _) (m - 1) (by omega)
        obtain ⟨b2, o2, rfl, hb2, e2⟩ := (unhide R2).below (hs _) (m - 1) (by omega)
        clear hs
        have i1 : (0 : Int) ≤ (m : Int) - 1 := by omega
        have i2 : ((m : Int) - 1).toNat = m - 1 := by omega
        have i3 : ¬ ((m : Int) - 1 < 0) := by omega
        have i5 : (m : Int) - 1 < (n1 : Int) := by omega
        have up : ∀ j, m - 1 < j → j < n1 → d1 j = d2 j := fun j h1 h2 => unhide Hz j (by omega) h2
        rcases Nat.lt_trichotomy (d1 (m - 1)) (d2 (m - 1)) with hd | hd | hd
        · have i6 : (d1 (m - 1) : Int) < (d2 (m - 1) : Int) := by omega
          have hv := vp_part (fun j _ => (unhide G1).lt j) hd (by omega) up
          have E := hide (cmpI_lt hv)
          clear hv up
          go_wp2_with fail
          go_quiet (fail)
          go_wp2
          go_ret
          exact ⟨by rw [unhide E]; rfl, (unhide Hs).trans (still_drewN _ _)⟩
        · have i6 : ¬ ((d1 (m - 1) : Int) < (d2 (m - 1) : Int)) := by omega
          have i7 : ¬ ((d2 (m - 1) : Int) < (d1 (m - 1) : Int)) := by omega
          clear up
          go_wp2_with fail
          go_quiet (fail)
          go_wp2_with fail
          go_quiet (fail)
          go_wp2
          go_roundw
          case rel =>
            refine ⟨m - 1, by omega, by go_num, fun j h1 h2 => ?_, (unhide Hs).trans (fun _ => ⟨rfl, rfl, rfl, Nat.le_refl _, fun _ _ => rfl⟩)⟩
            by_cases e : j = m - 1
            · rw [e]; exact hd
            · exact unhide Hz j (by omega) h2
          case measure => simp [intOf]; omega
        · have i6 : ¬ ((d1 (m - 1) : Int) < (d2 (m - 1) : Int)) := by omega
          have i7 : (d2 (m - 1) : Int) < (d1 (m - 1) : Int) := by omega
          have hv := vp_part (fun j _ => (unhide G2).lt j) hd (by omega) (fun j h1 h2 => (up j h1 h2).symm)
          have E := hide (cmpI_gt hv)
          clear hv up
          go_wp2_with fail
          go_quiet (fail)
          go_wp2_with fail
          go_quiet (fail)
          go_wp2
          go_ret
          exact ⟨by rw [unhide E]; rfl, ((unhide Hs).trans (still_drewN _ _)).trans (still_drewN _ _)⟩
      · have : m = 0 := by omega
        subst this
        have E := hide (cmpI_eq (vp_congr (k := n1) (fun j hj => unhide Hz j (by omega) hj)))
        go_wp2
        go_ret
        exact ⟨by rw [unhide E]; rfl, unhide Hs⟩
  · rcases (by omega : n1 < n2 ∨ n2 < n1) with hl | hl
    · have i1 : ¬ ((n1 : Int) = (n2 : Int)) := by omega
      have i2 : (n1 : Int) < (n2 : Int) := by omega
      have E := hide (cmpI_lt ((unhide G1).shorter (unhide G2) hl))
      go_wp2
      go_ret
      exact ⟨by rw [unhide E]; rfl, Still.refl _⟩
    · have i1 : ¬ ((n1 : Int) = (n2 : Int)) := by omega
      have i2 : ¬ ((n1 : Int) < (n2 : Int)) := by omega
      have E := hide (cmpI_gt ((unhide G2).shorter (unhide G1) hl))
      go_wp2
      go_ret
      exact ⟨by rw [unhide E]; rfl, Still.refl _⟩
end Go.Proofs.Ytlajalfdcfkmpaa
