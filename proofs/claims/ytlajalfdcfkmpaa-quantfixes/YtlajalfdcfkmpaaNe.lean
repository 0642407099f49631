/- Rows of digits that are a call's own; AddN. -/
import Derived.Test.YtlajalfdcfkmpaaNc
import Derived.Lib.SmallJoins
import Derived.Laws.OwnMore
import Derived.Deep.AppendLies
import Derived.Deep.DeepCutAuto
import Derived.Deep.CutBlock
namespace Go.Proofs.Ytlajalfdcfkmpaa
open Go.RowKit Go.Maps

def rowU (d : Nat → Nat) (k : Nat) : List Value := (List.range k).map fun j => .int .u64 (d j : Nat)
theorem rowU_len (d : Nat → Nat) (k : Nat) : (rowU d k).length = k := by simp [rowU]
theorem rowU_at (d : Nat → Nat) (k j : Nat) (hj : j < k) : (rowU d k)[j]? = some (.int .u64 (d j : Nat)) := by simp [rowU, hj]
theorem rowU_app (d : Nat → Nat) (k : Nat) : rowU d k ++ [.int .u64 (d k : Nat)] = rowU d (k + 1) := by
  unfold rowU
  rw [List.range_succ, List.map_append]
  rfl
theorem rowU_one (n : Int) : ∀ u ∈ [Value.int .u64 n], u.oneCell' = true := by
  intro u hu
  simp at hu
  subst hu; rfl
theorem rowU_set (d : Nat → Nat) (n p v : Nat) (hp : p < n) : (rowU d n).set p (.int .u64 (v : Nat)) = rowU (upd d p v) n := by
  apply List.ext_getElem?
  intro j
  by_cases hj : j < n
  · rw [rowU_at _ n j hj]
    by_cases hjk : j = p
    · subst hjk
      rw [List.getElem?_set_self (by rw [rowU_len]; exact hp), upd_same]
    · rw [List.getElem?_set_ne (by omega), rowU_at d n j hj, upd_ne d hjk]
  · rw [List.getElem?_eq_none (by rw [List.length_set, rowU_len]; omega), List.getElem?_eq_none (by rw [rowU_len]; omega)]
theorem rowU_zero (n : Nat) : List.replicate n (Value.int .u64 0) = rowU (fun _ => 0) n := by
  apply List.ext_getElem?
  intro j
  by_cases hj : j < n
  · rw [rowU_at _ n j hj, List.getElem?_replicate, if_pos hj]; rfl
  · rw [List.getElem?_eq_none (by simp; omega), List.getElem?_eq_none (by rw [rowU_len]; omega)]
theorem rowU_congr {a b : Nat → Nat} {n : Nat} (h : ∀ j, j < n → a j = b j) : rowU a n = rowU b n := by
  unfold rowU
  apply List.map_congr_left
  intro j hj
  rw [h j (by simpa using hj)]
theorem Row_own {w : World} {base k : Nat} {v : Value} {d : Nat → Nat} (h : w.ownsRow base 22 1 v k (rowU d k)) : ∃ ad cap, v = .slice ad k cap ∧ k ≤ cap ∧ Row w ad k d := by
  rcases h.2 with ⟨rfl, h0⟩ | ⟨g, cap, cur, rfl, _, _, hnc, _⟩
  · exact ⟨none, 0, by rw [h0], by omega, fun j hj => by omega⟩
  · refine ⟨some ⟨g, 0, none⟩, cap, rfl, hnc, fun j hj => ⟨g, 0, rfl, (h.lt g rfl).2, ?_⟩⟩
    rw [Nat.zero_add, h.cellAt j (by omega), rowU_at _ _ _ hj]
theorem belowG {w w' : World} (hb : Below w.heap.size w w') : w.grownBy w' none := ⟨hb.os, hb.tape, hb.output, hb.size, fun k hk _ => hb.block k hk⟩
theorem infoz_u64 : (Try.prog.info? 22).map (fun i => (i.zero, i.size, i.bytes)) = some (some (.int .u64 0), 1, 8) := by kernel_rfl
theorem info_parts {t : TypeId} {z : Value} {a b : Nat} (h : (Try.prog.info? t).map (fun i => (i.zero, i.size, i.bytes)) = some (some z, a, b)) : ∃ i, Try.prog.info? t = some i ∧ i.zero = some z ∧ i.size = a ∧ i.bytes = b := by
  cases hi : Try.prog.info? t with
  | none => rw [hi] at h; cases h
  | some i =>
    rw [hi] at h
    simp at h
    exact ⟨i, rfl, h.1, h.2.1, h.2.2⟩
theorem wrapU {n : Nat} (h : n < 18446744073709551616) : IntKind.u64.wrap (n : Int) = (n : Int) := by rw [IntKind.wrap_u64]; omega

set_option maxRecDepth 100000 in
set_option maxHeartbeats 1000000 in
theorem addN_any {v1 v2 : Value} {x y : Nat} {w : World} (h1 : NA w v1 x) (h2 : NA w v2 y) (hx : x < 4294967296 ^ 1000) (hy : y < 4294967296 ^ 1000) :
    Calls Try.prog 61 #[v1, v2] w fun e w' => ∃ v, e = .returned v ∧ NA w' v (x + y) ∧ Below w.heap.size w w' := by
  obtain ⟨i0, hi0, hz0, hz1, hz2⟩ := info_parts infoz_u64
  obtain ⟨a1, n1, c1, d1, rfl, k1, r1, g1, rfl⟩ := h1
  obtain ⟨a2, n2, c2, d2, rfl, k2, r2, g2, rfl⟩ := h2
  have l1 := g1.len hx
  have l2 := g2.len hy
  have R1 := hide r1
  have R2 := hide r2
  have G1 := hide g1
  have G2 := hide g2
  clear r1 r2 g1 g2 hx hy
  go_enter Try.func61, Try.ntmps61
  go_wp2_with fail
  go_loopw [5, 6, 7] (fun c C i wr => ∃ k K : Nat, i = .int .i64 k ∧ C = .int .u64 K ∧ Hid (K = cy d1 d2 k) ∧ k ≤ max n1 n2 + 1 ∧ Hid (wr.ownsRow w.heap.size 22 1 c k (rowU (ad d1 d2) k)) ∧ Hid (Below w.heap.size w wr)) (fun _ _ i _ => 1002 - (intOf i).toNat)
  case atStart => exact ⟨0, 0, rfl, rfl, rfl, by omega, World.ownsRow_nil _ _ _ _, Below.refl _ _⟩
  case round =>
    obtain ⟨k, K, rfl, rfl, hK, hk, hown, hbw⟩ := hrel
    have b0 : K ≤ 1 := by rw [unhide hK]; exact cy_le (unhide G1).lt (unhide G2).lt k
    obtain ⟨D1, hD1⟩ : ∃ D, d1 k = D := ⟨_, rfl⟩
    obtain ⟨D2, hD2⟩ : ∃ D, d2 k = D := ⟨_, rfl⟩
    have b1 : D1 < 4294967296 := by rw [← hD1]; exact (unhide G1).lt k
    have b2 : D2 < 4294967296 := by rw [← hD2]; exact (unhide G2).lt k
    have z1 : n1 ≤ k → D1 = 0 := fun h => by rw [← hD1]; exact (unhide G1).out k h
    have z2 : n2 ≤ k → D2 = 0 := fun h => by rw [← hD2]; exact (unhide G2).out k h
    have HD := hide (And.intro hD1 hD2)
    by_cases hgo : k < n1 ∨ k < n2 ∨ 0 < K
    · have hkM : k ≤ max n1 n2 := by
        rcases hgo with h | h | h
        · omega
        · omega
        · by_cases e : k = max n1 n2 + 1
          · exfalso
            have h1 : cy d1 d2 (max n1 n2 + 1) = 0 := by
              show (cy d1 d2 (max n1 n2) + d1 (max n1 n2) + d2 (max n1 n2)) / 4294967296 = 0
              rw [(unhide G1).out _ (by omega), (unhide G2).out _ (by omega)]
              have := cy_le (unhide G1).lt (unhide G2).lt (max n1 n2)
              omega
            rw [← e, ← unhide hK] at h1
            omega
          · omega
      go_upto_region 4 with fail
      go_cut [21] (fun v wx => v = .bool true ∧ wr = wx)
      case first =>
        by_cases j1 : (k : Int) < (n1 : Int)
        · go_wp2_with fail
          go_meet
          exact ⟨rfl, rfl⟩
        · by_cases j2 : (k : Int) < (n2 : Int)
          · go_wp2_with fail
            go_meet
            exact ⟨rfl, rfl⟩
          · have j3 : decide (0 < K) = true := decide_eq_true (by omega)
            go_wp2_with fail
            go_meet
            exact ⟨rfl, rfl⟩
      case rest =>
        obtain ⟨rfl, rfl⟩ := hcut
        go_upto_if 27 with fail
        go_cut [6] (fun v wx => v = .int .u64 ((K + D1 : Nat) : Int) ∧ wr = wx)
        case first =>
          by_cases j1 : (k : Int) < (n1 : Int)
          · obtain ⟨b, off, rfl, hb, hc⟩ := unhide R1 k (by omega)
            rw [hD1] at hc
            have hc2 : wr.cell? ⟨b, off + k, none⟩ = some (.int .u64 (D1 : Nat)) := ((unhide hbw).cell (by exact hb)).trans hc
            clear hc
            have hw : IntKind.u64.wrap ((K : Int) + (D1 : Int)) = ((K + D1 : Nat) : Int) := by rw [IntKind.wrap_u64]; omega
            go_wp2_with fail
            go_meet
            exact ⟨rfl, rfl⟩
          · have : D1 = 0 := z1 (by omega)
            go_wp2_with fail
            go_meet
            exact ⟨by rw [this]; rfl, rfl⟩
        case rest =>
          obtain ⟨rfl, rfl⟩ := hcut
          go_upto_if 37 with fail
          go_cut [6] (fun v wx => v = .int .u64 ((K + D1 + D2 : Nat) : Int) ∧ wr = wx)
          case first =>
            by_cases j1 : (k : Int) < (n2 : Int)
            · obtain ⟨b, off, rfl, hb, hc⟩ := unhide R2 k (by omega)
              rw [hD2] at hc
              have hc2 : wr.cell? ⟨b, off + k, none⟩ = some (.int .u64 (D2 : Nat)) := ((unhide hbw).cell (by exact hb)).trans hc
              clear hc
              have hw : IntKind.u64.wrap (((K + D1 : Nat) : Int) + (D2 : Int)) = ((K + D1 + D2 : Nat) : Int) := by rw [IntKind.wrap_u64]; omega
              obtain ⟨E, hE⟩ : ∃ E : Nat, E = K + D1 := ⟨_, rfl⟩
              rw [← hE] at hw ⊢
              go_wp2_with fail
              go_meet
              exact ⟨by first | exact congrArg _ hw | rfl, rfl⟩
            · have : D2 = 0 := z2 (by omega)
              obtain ⟨E, hE⟩ : ∃ E : Nat, E = K + D1 := ⟨_, rfl⟩
              rw [← hE]
              go_wp2_with fail
              go_meet
              exact ⟨by rw [this]; rfl, rfl⟩
          case rest =>
            obtain ⟨rfl, rfl⟩ := hcut
            obtain ⟨E, hE⟩ : ∃ E : Nat, E = K + D1 + D2 := ⟨_, rfl⟩
            rw [← hE]
            obtain ⟨p, hp⟩ : ∃ p : Nat, E % 4294967296 = p := ⟨_, rfl⟩
            obtain ⟨q, hq⟩ : ∃ q : Nat, E / 4294967296 = q := ⟨_, rfl⟩
            have e1 : (E : Int) % 4294967296 = (p : Int) := by omega
            have e2 : (E : Int) / 4294967296 = (q : Int) := by omega
            have hqb : q ≤ 1 := by omega
            have HP : Hid (p = ad d1 d2 k) := by show p = _; unfold ad; rw [← hp, hE, unhide hK, (unhide HD).1, (unhide HD).2]
            have HQ : Hid (q = cy d1 d2 (k + 1)) := by show q = _; rw [← hq, hE, unhide hK, ← hD1, ← hD2]; rfl
            have o2 : Hid ((wr.alloc (Obj.cells #[.int .u64 (p : Int)] 22)).ownsRow w.heap.size 22 1 u5 k (rowU (ad d1 d2) k)) := hide ((unhide hown).alloc _)
            have hnews : Hid (∀ j u, [Value.int .u64 (p : Int)][j]? = some u → (wr.alloc (Obj.cells #[.int .u64 (p : Int)] 22)).cell? ((⟨wr.heap.size, 0, none⟩ : Addr).add j) = some u) := hide (cell_one_new wr _ _)
            have hbase : Hid (w.heap.size ≤ (wr.alloc (Obj.cells #[.int .u64 (p : Int)] 22)).heap.size) := hide (by have := (unhide hbw).size; simp; omega)
            have hH : Hid ((wr.alloc (Obj.cells #[.int .u64 (p : Int)] 22)).heap.size = wr.heap.size + 1) := hide (by simp)
            have Hap := hide (fun (kk : Nat) (e : u5.ownBlock = some kk) => ((unhide hown).lt kk e))
            clear hown HD hD1 hD2 z1 z2 hE hp hq hgo
            go_wp2_with (first
              | (at_builtin; refine wpList_append_lies _ rfl (.tmp 44) (.tmp 47) 66 rfl w.heap.size 22 i0 (.int .u64 0) 1 8 Try.underlying66 hi0 hz0 hz1 hz2 rfl Nat.one_pos u5 k (rowU (ad d1 d2) k) rfl o2.out ⟨wr.heap.size, 0, none⟩ 1 1 [.int .u64 (p : Int)] rfl rfl hnews.out (rowU_one _) Nat.one_pos (by unfold maxLen; omega) (by omega) hbase.out (wr.heap.size + 1) hH.out ?_; intro gg cap9 w9 hown9 hg9 hat9 hlt9)
              | fail)
            go_roundw
            case rel =>
              refine ⟨k + 1, q, by go_num, (by first | rfl | rw [wrapU (by omega)]), HQ, by omega, ?_, ?_⟩
              · rw [← rowU_app, ← unhide HP]; exact hown9
              · exact ((unhide hbw).alloc (unhide hbw).size _).grown hg9 (by have := (unhide hbw).size; simp; omega) (fun kk e => by have := (unhide Hap kk e).1; omega)
            case measure => simp [intOf]; omega
    · obtain ⟨adx, cap, rfl, hcap, hr⟩ := Row_own (unhide hown)
      have j1 : ¬ ((k : Int) < (n1 : Int)) := by omega
      have j2 : ¬ ((k : Int) < (n2 : Int)) := by omega
      obtain rfl : K = 0 := by omega
      have HV : Hid (vp (ad d1 d2) k = vp d1 n1 + vp d2 n2) := by
        have h := ad_vp d1 d2 k
        rw [← unhide hK, Nat.zero_mul, Nat.add_zero, vp_tail (unhide G1).out k (by omega), vp_tail (unhide G2).out k (by omega)] at h
        exact h
      clear hown z1 z2 hD1 hD2 HD hgo
      go_wp2_with fail
      refine (norm_any adx k cap (ad d1 d2) _ hcap (by omega) hr).mono ?_
      rintro e w' ⟨m, hm, rfl, hz, hl, hw'⟩
      subst hw'
      have hN := NA.norm hcap hr (fun j _ => ad_lt d1 d2 j) hm hz hl
      rw [unhide HV] at hN
      have HN := hide hN
      clear hN hz hl hr HV
      go_wp2
      go_ret
      exact ⟨_, rfl, unhide HN, unhide hbw⟩
end Go.Proofs.Ytlajalfdcfkmpaa
