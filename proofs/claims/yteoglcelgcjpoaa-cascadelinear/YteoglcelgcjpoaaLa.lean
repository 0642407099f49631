/- CascadeLinear: the walk. -/
import Derived.Test.YteoglcelgcjpoaaLh
namespace Go.Proofs.Yteoglcelgcjpoaa
open Go.RowKit Go.Maps

set_option maxRecDepth 100000 in
set_option maxHeartbeats 8000000 in
theorem linear_any (adb adu adv : Option Addr) (lb cb lu cu lv cv : Nat) (c : Nat → Int × Int × Int) (us vs : Nat → Int) (w : World) (hb : TripsAt w adb lb c) (hu : SmallsAt w adu lu us) (hv : SmallsAt w adv lv vs) (hc8 : Sm8 c)
    (hu8 : ∀ j, -128 ≤ us j ∧ us j ≤ 127) (hv8 : ∀ j, -128 ≤ vs j ∧ vs j ≤ 127) (r1 : lb ≤ 140737488351232) (r2 : lu ≤ 140737488351232) (r3 : lv ≤ 140737488351232) :
    Calls Try.prog 3 #[.slice adb lb cb, .slice adu lu cu, .slice adv lv cv] w fun e w' => e = .returned (.bool true) ∧ Below w.heap.size w w' := by
  obtain ⟨i0, hi0, hz0, hz1, hz2⟩ := info_parts infoz_sec
  obtain ⟨i1, hi1, hy0, hy1, hy2⟩ := info_parts info_c
  have HB := hide hb
  have HU := hide hu
  have HV := hide hv
  have HC8 := hide hc8
  have HU8 := hide hu8
  have HV8 := hide hv8
  clear hb hu hv hc8 hu8 hv8
  have hsc := run_store_c
  go_enter Try.func3, Try.ntmps3
  go_wp2_with fail
  refine (awake17 _).mono ?_
  rintro e w1 ⟨rfl, hb1⟩
  have H1 := hide hb1
  clear hb1
  go_wp2_with fail
  have hb1 := unhide H1
  obtain ⟨W, hW⟩ : ∃ W, W = w1.alloc (Obj.cells #[.complex .f64 4607182418800017408 0, .slice none 0 0] 28) := ⟨_, rfl⟩
  rw [← hW]
  have hbW : Below w.heap.size w W := by rw [hW]; exact hb1.alloc hb1.size _
  have hsW : W.heap.size = w1.heap.size + 1 := by rw [hW]; simp
  have hF : W.heap[w1.heap.size]? = some (.cells #[.complex .f64 4607182418800017408 0, .slice none 0 0] 28 (0, 0)) := by rw [hW]; exact heap_alloc_new _ _
  have hws := hb1.size
  clear hW hb1 H1
  go_loopw [28] (fun i wr => ∃ (k : Nat) (v : Value), k ≤ lb ∧ i = .int .i64 k ∧ wr.heap[w1.heap.size]? = some (.cells #[.complex .f64 4607182418800017408 0, v] 28 (0, 0)) ∧ wr.ownsRow (w1.heap.size + 1) 33 5 v (min k 3) (cellsW c (min k 3)) ∧ Below w.heap.size w wr ∧ w1.heap.size < wr.heap.size) (fun i _ => lb - (intOf i).toNat)
  case atStart => exact ⟨0, _, Nat.zero_le _, rfl, hF, World.ownsRow_nil _ _ _ _, hbW, by omega⟩
  case round =>
    clear hF hbW hsW
    obtain ⟨k, v, hk, rfl, hF, hown, hbl, hsz⟩ := hrel
    by_cases hkl : k < lb
    · have hkl' : (k : Int) < (lb : Int) := by omega
      obtain ⟨b, off, rfl, hbw, t0, t1, t2⟩ := unhide HB k hkl
      have k0 : wr.cell? ⟨b, off + k * 3, none⟩ = some (.int .i8 (c k).1) := by rw [hbl.cell (by exact hbw)]; exact t0
      have k1 : wr.cell? ⟨b, off + k * 3 + 1, none⟩ = some (.int .i8 (c k).2.1) := by rw [hbl.cell (by exact hbw)]; exact t1
      have k2 : wr.cell? ⟨b, off + k * 3 + 2, none⟩ = some (.int .i8 (c k).2.2) := by rw [hbl.cell (by exact hbw)]; exact t2
      clear t0 t1 t2
      have kF : wr.cell? ⟨w1.heap.size, 1, none⟩ = some v := by rw [cell_of_row wr _ _ _ _ _ hF]; rfl
      have fF : wr.frozen? ⟨w1.heap.size, 1, none⟩ = false := frozen_of_row wr _ _ _ _ hF
      have hbr : w1.heap.size + 1 ≤ wr.heap.size := hsz
      by_cases hk3 : k < 3
      · have hk3' : (k : Int) < 3 := by omega
        have hmin : min k 3 = k := by omega
        rw [hmin] at hown
        obtain ⟨o1, ho1⟩ : ∃ o1, o1 = Obj.cells #[.int .i8 (c k).1, .int .i8 (c k).2.1, .int .i8 (c k).2.2] 30 := ⟨_, rfl⟩
        have hown2 : Hid (((wr.alloc (Obj.cells #[.int .i8 (c k).1, .int .i8 (c k).2.1, .int .i8 (c k).2.2] 30)).alloc (Obj.cells #[.complex .f64 (floatOfInt .f64 (c k).1) 0, .complex .f64 0 (floatOfInt .f64 (c k).2.1), .complex .f64 (floatOfInt .f64 (c k).2.2) 0, .complex .f64 0 0, .complex .f64 0 0] 33)).ownsRow (w1.heap.size + 1) 33 5 v k (cellsW c k)) := hide ((hown.alloc _).alloc _)
        have hnews : Hid (∀ j u, (rowW c k)[j]? = some u → ((wr.alloc (Obj.cells #[.int .i8 (c k).1, .int .i8 (c k).2.1, .int .i8 (c k).2.2] 30)).alloc (Obj.cells #[.complex .f64 (floatOfInt .f64 (c k).1) 0, .complex .f64 0 (floatOfInt .f64 (c k).2.1), .complex .f64 (floatOfInt .f64 (c k).2.2) 0, .complex .f64 0 0, .complex .f64 0 0] 33)).cell? ((⟨wr.heap.size + 1, 0, none⟩ : Addr).add j) = some u) := hide (by
          intro j u hu
          have hN : ((wr.alloc (Obj.cells #[.int .i8 (c k).1, .int .i8 (c k).2.1, .int .i8 (c k).2.2] 30)).alloc (Obj.cells #[.complex .f64 (floatOfInt .f64 (c k).1) 0, .complex .f64 0 (floatOfInt .f64 (c k).2.1), .complex .f64 (floatOfInt .f64 (c k).2.2) 0, .complex .f64 0 0, .complex .f64 0 0] 33)).heap[wr.heap.size + 1]? = some (.cells #[.complex .f64 (floatOfInt .f64 (c k).1) 0, .complex .f64 0 (floatOfInt .f64 (c k).2.1), .complex .f64 (floatOfInt .f64 (c k).2.2) 0, .complex .f64 0 0, .complex .f64 0 0] 33 (0, 0)) := by
            have := heap_alloc_new (wr.alloc (Obj.cells #[.int .i8 (c k).1, .int .i8 (c k).2.1, .int .i8 (c k).2.2] 30)) (Obj.cells #[.complex .f64 (floatOfInt .f64 (c k).1) 0, .complex .f64 0 (floatOfInt .f64 (c k).2.1), .complex .f64 (floatOfInt .f64 (c k).2.2) 0, .complex .f64 0 0, .complex .f64 0 0] 33)
            rwa [World.size_alloc] at this
          rw [Addr.add_mid, Nat.zero_add, cell_of_row _ _ _ _ _ _ hN, List.getElem?_toArray]
          exact hu)
        have hbase : Hid (w1.heap.size + 1 ≤ ((wr.alloc (Obj.cells #[.int .i8 (c k).1, .int .i8 (c k).2.1, .int .i8 (c k).2.2] 30)).alloc (Obj.cells #[.complex .f64 (floatOfInt .f64 (c k).1) 0, .complex .f64 0 (floatOfInt .f64 (c k).2.1), .complex .f64 (floatOfInt .f64 (c k).2.2) 0, .complex .f64 0 0, .complex .f64 0 0] 33)).heap.size) := hide (by simp; omega)
        have hH : Hid (((wr.alloc (Obj.cells #[.int .i8 (c k).1, .int .i8 (c k).2.1, .int .i8 (c k).2.2] 30)).alloc (Obj.cells #[.complex .f64 (floatOfInt .f64 (c k).1) 0, .complex .f64 0 (floatOfInt .f64 (c k).2.1), .complex .f64 (floatOfInt .f64 (c k).2.2) 0, .complex .f64 0 0, .complex .f64 0 0] 33)).heap.size = wr.heap.size + 2) := hide (by simp)
        have hapF := row_apart hown (Nat.lt_succ_self w1.heap.size)
        have HP := hide (And.intro hF (And.intro hown hbl))
        clear hF hown hbl ho1 o1
        go_wp2_with (first
          | (at_builtin; refine wpList_append_lies _ rfl (.tmp 36) (.tmp 50) 26 rfl (w1.heap.size + 1) 33 i0 (.agg #[c0, c0, c0, c0, c0]) 5 80 Try.underlying26 hi0 hz0 hz1 hz2 rfl (by decide) v k (cellsW c k) rfl hown2.out ⟨wr.heap.size + 1, 0, none⟩ 1 1 (rowW c k) rfl rfl hnews.out (rowW_one c k) Nat.one_pos (by unfold maxLen; omega) (by omega) hbase.out (wr.heap.size + 2) hH.out ?_; intro gg cap w9 hown9 hg9 hat9 hlt9; have kF9 : w9.cell? ⟨w1.heap.size, 1, none⟩ = some v := hg9.cell (by go_simp) hapF; have fF9 : w9.frozen? ⟨w1.heap.size, 1, none⟩ = false := (hg9.frozen_far _ (by simp; omega) hapF).trans (by go_simp))
          | fail)
        go_roundw
        case rel =>
          obtain ⟨hF, hown, hbl⟩ := unhide HP
          have hF9 : w9.heap[w1.heap.size]? = some (.cells #[.complex .f64 4607182418800017408 0, v] 28 (0, 0)) := by
            rw [hg9.block _ (by simp; omega) hapF, Below.heap_alloc _ _ _ (by simp; omega), Below.heap_alloc _ _ _ (by omega)]
            exact hF
          refine ⟨k + 1, .slice (some ⟨gg, 0, none⟩) (k + 1) cap, by omega, by go_num, ?_, ?_, ?_, ?_⟩
          · simp only [World.setCell, Array.getElem?_modify, if_pos, hF9, Option.map_some]
            rfl
          · rw [show min (k + 1) 3 = k + 1 by omega]
            exact ownsRow_setCell_below hown9 (Nat.lt_succ_self _) _
          · exact (((hbl.alloc hbl.size _).alloc (by have := hbl.size; simp; omega) _).grown hg9 (by have := hbl.size; simp; omega) (fun j e => by have := (hown.lt j e).1; omega)).setCell (by exact hws) _
          · have := hg9.size
            simp at this
            simp [World.setCell]; omega
        case measure => simp [intOf]; omega
      · have hk3' : ¬ ((k : Int) < 3) := by omega
        have HP := hide (And.intro hF (And.intro hown hbl))
        clear hF hown hbl
        go_wp2
        go_roundw
        case rel =>
          obtain ⟨hF, hown, hbl⟩ := unhide HP
          refine ⟨k + 1, v, by omega, by go_num, by rw [Below.heap_alloc _ _ _ (by omega)]; exact hF, ?_, hbl.alloc hbl.size _, by simp; omega⟩
          rw [show min (k + 1) 3 = min k 3 by omega]
          exact hown.alloc _
        case measure => simp [intOf]; omega
    · obtain rfl : k = lb := by omega
      obtain ⟨n, hn⟩ : ∃ n, n = min (min lu lv) 12 := ⟨_, rfl⟩
      obtain ⟨ns, hns⟩ : ∃ ns, ns = min k 3 := ⟨_, rfl⟩
      rw [← hns] at hown
      obtain ⟨ads, ls, c1, rfl⟩ : ∃ ao m cp, v = .slice ao m cp := by
        rcases hown.2 with ⟨rfl, _⟩ | ⟨g, cap, cur, rfl, _⟩
        · exact ⟨_, _, _, rfl⟩
        · exact ⟨_, _, _, rfl⟩
      have HN := hide hn
      have HP := hide (And.intro hF (And.intro hown hbl))
      clear hF hown hbl hn
      go_upto_region 10 with fail
      go_cut [10] from 54 (fun s10 wc => s10 = .int .i64 n ∧ wc = wr)
      case first =>
        by_cases h1 : (lu : Int) ≤ (lv : Int)
        · by_cases h2 : (lu : Int) ≤ 12
          · have HE : Hid (lu = n) := hide (by have := unhide HN; omega)
            go_wp2_with fail
            all_goals go_meet
            all_goals exact ⟨by rw [unhide HE], rfl⟩
          · have HE : Hid (12 = n) := hide (by have := unhide HN; omega)
            go_wp2_with fail
            all_goals go_meet
            all_goals exact ⟨by rw [← unhide HE]; rfl, rfl⟩
        · by_cases h2 : (lv : Int) ≤ 12
          · have HE : Hid (lv = n) := hide (by have := unhide HN; omega)
            go_wp2_with fail
            all_goals go_meet
            all_goals exact ⟨by rw [unhide HE], rfl⟩
          · have HE : Hid (12 = n) := hide (by have := unhide HN; omega)
            go_wp2_with fail
            all_goals go_meet
            all_goals exact ⟨by rw [← unhide HE]; rfl, rfl⟩
      case rest =>
        obtain ⟨rfl, rfl⟩ := hcut
        have hnu : n ≤ lu ∧ n ≤ lv ∧ n ≤ 12 := by have := unhide HN; omega
        clear HN
        obtain ⟨hF, hownS, hbl⟩ := unhide HP
        clear HP hsc
        obtain ⟨W2, hW2⟩ : ∃ W2, W2 = wc := ⟨_, rfl⟩
        rw [← hW2] at hF hownS hbl hsz ⊢
        clear hW2 wc
        have HP := hide (And.intro hF (And.intro hownS hbl))
        clear hF hownS hbl
        go_wp2_with fail
        go_loopw [11, 12, 13, 60] (fun vx vy vz i wr => ∃ (t : Nat) (px py pz : List Value), t ≤ n ∧ i = .int .i64 t ∧ wr.ownsRow W2.heap.size 25 1 vx t px ∧ wr.ownsRow W2.heap.size 25 1 vy t py ∧ wr.ownsRow W2.heap.size 25 1 vz t pz ∧
            PsAt px t (Xw us) ∧ PsAt py t (Yw vs) ∧ PsAt pz t (Zw us vs) ∧ Dif vx vy ∧ Dif vx vz ∧ Dif vy vz ∧ Below W2.heap.size W2 wr ∧ (t = 0 → vx = .slice none 0 0)) (fun _ _ _ i _ => n - (intOf i).toNat)
        case atStart => exact ⟨0, [], [], [], Nat.zero_le _, rfl, World.ownsRow_nil _ _ _ _, World.ownsRow_nil _ _ _ _, World.ownsRow_nil _ _ _ _, fun j hj => by omega, fun j hj => by omega, fun j hj => by omega, (fun g h => by cases h), (fun g h => by cases h), (fun g h => by cases h), Below.refl _ _, fun _ => rfl⟩
        case round =>
          obtain ⟨t, px, py, pz, htn, rfl, ox, oy, oz, qx, qy, qz, dxy, dxz, dyz, hb2, hnil⟩ := hrel
          by_cases ht : t < n
          · have ht' : (t : Int) < (n : Int) := by omega
            have ht0 : (0 : Int) ≤ (t : Int) := by omega
            have htu : (t : Int) < (lu : Int) := by omega
            have htv : (t : Int) < (lv : Int) := by omega
            obtain ⟨bu, offu, rfl, hbu, hcu⟩ := unhide HU t (by omega)
            obtain ⟨bv, offv, rfl, hbv, hcv⟩ := unhide HV t (by omega)
            have hwW2 := (unhide HP).2.2
            have hw2s := hwW2.size
            have kU : wr.cell? ⟨bu, offu + t, none⟩ = some (.int .i8 (us t)) := by rw [hb2.cell (by show bu < _; omega), hwW2.cell (by exact hbu)]; exact hcu
            have kV : wr.cell? ⟨bv, offv + t, none⟩ = some (.int .i8 (vs t)) := by rw [hb2.cell (by show bv < _; omega), hwW2.cell (by exact hbv)]; exact hcv
            have hu8 := unhide HU8 t
            have hv8 := unhide HV8 t
            obtain ⟨rz, iz, hadd, hzis⟩ := sum_w hu8 hv8
            have hrs := hb2.size
            have HQ := hide (And.intro ox (And.intro oy (And.intro oz (And.intro qx (And.intro qy (And.intro qz (And.intro dxy (And.intro dxz (And.intro dyz (And.intro hb2 (And.intro hu8 (And.intro hv8 hzis))))))))))))
            clear ox oy oz qx qy qz dxy dxz dyz hb2 hcu hcv hwW2 hu8 hv8 hzis hnil
            go_wp2_with fail
            go_quiet (fail)
            obtain ⟨W0, hW0⟩ : ∃ W0, W0 = wr.drewN nq := ⟨_, rfl⟩
            rw [← hW0]
            obtain ⟨ox, oy, oz, qx, qy, qz, dxy, dxz, dyz, hb2, hu8, hv8, hzis⟩ := unhide HQ
            have hst : Still wr W0 := by rw [hW0]; exact still_drewN _ _
            clear hW0 HQ kU kV
            have hs0 := (hst 0).size
            have ox0 := (ox.kept (hst.grown none) (by cases hv : u11.ownBlock <;> simp)).alloc (Obj.cells #[.complex .f64 (floatOfInt .f64 (us t)) 0] 25)
            have oy0 := (oy.kept (hst.grown none) (by cases hv : u12.ownBlock <;> simp)).alloc (Obj.cells #[.complex .f64 (floatOfInt .f64 (us t)) 0] 25)
            have oz0 := (oz.kept (hst.grown none) (by cases hv : u13.ownBlock <;> simp)).alloc (Obj.cells #[.complex .f64 (floatOfInt .f64 (us t)) 0] 25)
            have sx : Hid (t + 1 ≤ maxLen) := hide (by unfold maxLen; omega)
            have sy : Hid ((t + 1) * 16 ≤ 140737488355328) := hide (by omega)
            have sb : Hid (W2.heap.size ≤ (W0.alloc (Obj.cells #[.complex .f64 (floatOfInt .f64 (us t)) 0] 25)).heap.size) := hide (by simp; omega)
            have HQ := hide (And.intro qx (And.intro qy (And.intro qz (And.intro hb2 (And.intro hu8 (And.intro hv8 hzis))))))
            clear qx qy qz hb2 hu8 hv8 hzis ox oy oz
            go_wp2_with (first
              | (at_builtin; refine wpList_append_own_at _ rfl (.tmp 75) (.tmp 77) 34 rfl W2.heap.size 25 i1 (.complex .f64 0 0) 1 16 Try.underlying34 hi1 hy0 hy1 hy2 rfl Nat.one_pos u11 t px rfl ox0 ⟨W0.heap.size, 0, none⟩ 1 1 [.complex .f64 (floatOfInt .f64 (us t)) 0] rfl rfl (news_c W0 _ _) (one_c _ _) sx.out sy.out sb.out ?_; intro vx1 wb ox1 gx hnx ax)
              | (at_builtin; refine wpList_append_own_at _ rfl (.tmp 79) (.tmp 81) 34 rfl W2.heap.size 25 i1 (.complex .f64 0 0) 1 16 Try.underlying34 hi1 hy0 hy1 hy2 rfl Nat.one_pos u12 t py rfl ((oy0.kept gx dxy.symm.kept).alloc (Obj.cells #[.complex .f64 0 (floatOfInt .f64 (vs t))] 25)) ⟨wb.heap.size, 0, none⟩ 1 1 [.complex .f64 0 (floatOfInt .f64 (vs t))] rfl rfl (news_c wb _ _) (one_c _ _) sx.out sy.out (by have := gx.size; simp at this ⊢; omega) ?_; intro vy1 wd oy1 gy hny ay)
              | (at_builtin; refine wpList_append_own_at _ rfl (.tmp 83) (.tmp 87) 34 rfl W2.heap.size 25 i1 (.complex .f64 0 0) 1 16 Try.underlying34 hi1 hy0 hy1 hy2 rfl Nat.one_pos u13 t pz rfl ((((oz0.kept gx dxz.symm.kept).alloc (Obj.cells #[.complex .f64 0 (floatOfInt .f64 (vs t))] 25)).kept gy dyz.symm.kept).alloc (Obj.cells #[.complex .f64 rz iz] 25)) ⟨wd.heap.size, 0, none⟩ 1 1 [.complex .f64 rz iz] rfl rfl (news_c wd _ _) (one_c _ _) sx.out sy.out (by have := gx.size; have := gy.size; simp at *; omega) ?_; intro vz1 wf oz1 gz hnz az)
              | fail)
            go_roundw
            case rel =>
              obtain ⟨qx, qy, qz, hb2, hu8, hv8, hzis⟩ := unhide HQ
              have dxy1 : Dif vx1 u12 := dxy.grow ax (fun g e => (oy0.lt g e).2)
              have dxz1 : Dif vx1 u13 := dxz.grow ax (fun g e => (oz0.lt g e).2)
              have ox1a := ox1.alloc (Obj.cells #[.complex .f64 0 (floatOfInt .f64 (vs t))] 25)
              have oza := (oz0.kept gx dxz.symm.kept).alloc (Obj.cells #[.complex .f64 0 (floatOfInt .f64 (vs t))] 25)
              have dxy2 : Dif vx1 vy1 := (Dif.grow dxy1.symm ay (fun g e => (ox1a.lt g e).2)).symm
              have dyz1 : Dif vy1 u13 := dyz.grow ay (fun g e => (oza.lt g e).2)
              have ox2 := (ox1a.kept gy dxy1.kept).alloc (Obj.cells #[.complex .f64 rz iz] 25)
              have oy2 := oy1.alloc (Obj.cells #[.complex .f64 rz iz] 25)
              have dxz2 : Dif vx1 vz1 := (Dif.grow dxz1.symm az (fun g e => (ox2.lt g e).2)).symm
              have dyz2 : Dif vy1 vz1 := (Dif.grow dyz1.symm az (fun g e => (oy2.lt g e).2)).symm
              have b0 : Below W2.heap.size W2 W0 := hb2.grown (hst.grown none) hrs (fun j e => by cases e)
              have bx : Below W2.heap.size W2 wb := (b0.alloc b0.size _).grown gx (b0.alloc b0.size _).size (fun j e => (ox0.lt j e).1)
              have bY : Below W2.heap.size W2 wd := (bx.alloc bx.size _).grown gy (bx.alloc bx.size _).size (fun j e => (oy0.lt j e).1)
              have bZ : Below W2.heap.size W2 wf := (bY.alloc bY.size _).grown gz (bY.alloc bY.size _).size (fun j e => (oz0.lt j e).1)
              have lx : px.length = t := by have := ox0.1; omega
              have ly : py.length = t := by have := oy0.1; omega
              have lz : pz.length = t := by have := oz0.1; omega
              exact ⟨t + 1, _, _, _, by omega, by go_num, ox2.kept gz dxz1.kept, oy2.kept gz dyz1.kept, oz1, qx.one lx (x_is hu8), qy.one ly (y_is hv8), qz.one lz hzis, dxy2, dxz2, dyz2, bZ, fun h => by omega⟩
            case measure => simp [intOf]; omega
          · obtain rfl : t = n := by omega
            have hn12 : t ≤ 12 := by omega
            clear hnu htn hnil
            have lx : px.length = t := by have := ox.1; omega
            have hrs := hb2.size
            have oxw := ox.alloc (Obj.cells #[.complex .f64 0 0, .complex .f64 0 0] 25)
            have onx := qx.ones lx
            have HX := hide (And.intro ox (And.intro oy (And.intro oz (And.intro qx (And.intro qy (And.intro qz hb2))))))
            clear ox oy oz qx qy qz dxy dxz dyz hb2
            have s1 : Hid (0 + 2 ≤ maxLen) := hide (by unfold maxLen; omega)
            have s2 : Hid (2 + t ≤ maxLen) := hide (by unfold maxLen; omega)
            go_wp2_with (first
              | (at_builtin; refine wpList_append_own_at _ rfl (.tmp 90) (.tmp 91) 34 rfl wr.heap.size 25 i1 (.complex .f64 0 0) 1 16 Try.underlying34 hi1 hy0 hy1 hy2 rfl Nat.one_pos (.slice none 0 0) 0 [] rfl (World.ownsRow_nil _ _ _ _) ⟨wr.heap.size, 0, none⟩ 2 2 [.complex .f64 0 0, .complex .f64 0 0] rfl rfl (World.news_of_block (cs := #[.complex .f64 0 0, .complex .f64 0 0]) (t := 25) (fr := (0, 0)) (heap_alloc_new wr _)) (by intro u hu; simp at hu; subst hu; rfl) s1.out (by omega) (by simp) ?_; intro vl wl ol gl hnl al)
              | (at_builtin; refine wpList_append_row _ rfl (.tmp 92) (.tmp 93) 34 rfl wr.heap.size 25 i1 (.complex .f64 0 0) 1 16 Try.underlying34 hi1 hy0 hy1 hy2 rfl Nat.one_pos vl 2 _ rfl ol W2.heap.size u11 t px rfl (oxw.kept gl (by cases hv : u11.ownBlock <;> simp [Value.ownBlock])) onx s2.out (by omega) (by have := gl.size; simp at this ⊢; omega) ?_; intro vm wm om gm)
              | fail)
            obtain ⟨ox, oy, oz, qx, qy, qz, hb2⟩ := unhide HX
            obtain ⟨hF, hownS, hbl⟩ := unhide HP
            clear HX HP
            have hns3 : ns ≤ 3 := by omega
            have bl : Below wr.heap.size wr wl := ((Below.refl _ wr).alloc (Nat.le_refl _) _).grown gl (by simp) (fun j e => by cases e)
            have bwm : Below wr.heap.size wr wm := bl.grown gm bl.size (fun j e => (ol.lt j e).1)
            have bW2 : Below W2.heap.size W2 wm := hb2.trans (bwm.mono hb2.size)
            have bw : Below w.heap.size w wm := hbl.trans (bW2.mono hbl.size)
            have LX : ListIs wm u11 t (Xw us) := (list_of ox qx).below bwm
            have LY : ListIs wm u12 t (Yw vs) := (list_of oy qy).below bwm
            have LZ : ListIs wm u13 t (Zw us vs) := (list_of oz qz).below bwm
            rw [Nat.add_comm 2 t] at om
            have LL : ListIs wm vm (t + 2) (lateC (Xw us)) := list_of om (by have := ps_late qx; rw [Nat.add_comm 2 t] at this; exact this)
            have hS : SecsIs wm (.slice ads ls c1) ns (secW c) := (secs_W (unhide HC8) hownS).below bW2
            have f0 : wm.cell? ⟨w1.heap.size, 0, none⟩ = some (.complex .f64 4607182418800017408 0) := by rw [bW2.cell (by show w1.heap.size < _; omega), cell_of_row _ _ _ _ _ _ hF]; rfl
            have f1 : wm.cell? ⟨w1.heap.size, 1, none⟩ = some (.slice ads ls c1) := by rw [bW2.cell (by show w1.heap.size < _; omega), cell_of_row _ _ _ _ _ _ hF]; rfl
            have hFw : w1.heap.size < wm.heap.size := by have := bW2.size; omega
            obtain ⟨ax, cx, rfl, _⟩ := id LX
            obtain ⟨ay, cy, rfl, _⟩ := id LY
            obtain ⟨az, cz, rfl, _⟩ := id LZ
            obtain ⟨al', cl, rfl, _⟩ := id LL
            have HA : Hid (∀ (w0 w' : World) (lv : Value) (m : Nat) (X : Nat → C2), Still w0 w' → Below wm.heap.size wm w0 → ListIs wm lv m X → m ≤ 1000 → Calls Try.prog 6 #[.agg #[.complex .f64 4607182418800017408 0, .slice ads ls c1], lv] w' fun e w'' => ∃ A, e = .returned (.slice (some ⟨A, 0, none⟩) m m) ∧ w0.heap.size ≤ A ∧ A < w''.heap.size ∧ (∀ j, j < m → ∃ u, w''.cell? ⟨A, j, none⟩ = some u ∧ CIs u (ansN z1 ns (secW c) rest0 X j)) ∧ Below w0.heap.size w0 w'' ∧ Below wm.heap.size wm w'' ∧ w''.cell? ⟨w1.heap.size, 0, none⟩ = some (.complex .f64 4607182418800017408 0) ∧ w''.cell? ⟨w1.heap.size, 1, none⟩ = some (.slice ads ls c1)) := hide (by
              intro w0 w' lv m X hst h0 hl hm
              have h1 := h0.trans (hst wm.heap.size)
              refine (answers_any _ _ ns m _ lv z1 X (secW c) w' fin_one c1_is (hS.below h1) (by omega) (hl.below h1) hm).mono ?_
              rintro e w'' ⟨A, rfl, h2, h3, h4, h5⟩
              have hs1 := (hst 0).size
              have h6 : Below w0.heap.size w0 w'' := (hst w0.heap.size).trans (h5.mono hs1)
              have h7 : Below wm.heap.size wm w'' := h0.trans (h6.mono h0.size)
              exact ⟨A, rfl, by omega, h3, h4, h6, h7, (h7.cell (by exact hFw)).trans f0, (h7.cell (by exact hFw)).trans f1⟩)
            have HX := hide (And.intro LX (And.intro LY (And.intro LZ (And.intro LL bw))))
            clear LX LY LZ LL hS bw bW2 bwm bl ox oy oz qx qy qz hb2 hF hownS hbl om gm ol gl al hnl oxw onx hrs lx s1 s2
            have ht1 : Hid (t ≤ 1000) := hide (by omega)
            have ht2 : Hid (t + 2 ≤ 1000) := hide (by omega)
            go_region_held3 (fun w' => w'.cell? ⟨w1.heap.size, 0, none⟩ = some (.complex .f64 4607182418800017408 0) ∧ w'.cell? ⟨w1.heap.size, 1, none⟩ = some (.slice ads ls c1)) (go_keep)
              ((first
                | (go_at_call 6; refine (HA.out wB _ (.slice az t cz) t (Zw us vs) (by first | exact Still.refl _ | exact still_drew _) (unhide bB) HX.out.2.2.1 ht1.out).mono ?_; rintro e wC ⟨Ae, rfl, ze1, ze2, ze3', ze4', ze5', zeF0, zeF1⟩; have QE := hide ze3'; have bBC := hide ze4'; have bC := hide ze5'; clear ze3' ze4' ze5')
                | (go_at_call 6; refine (HA.out wA _ (.slice ay t cy) t (Yw vs) (by first | exact Still.refl _ | exact still_drew _) (unhide bA) HX.out.2.1 ht1.out).mono ?_; rintro e wB ⟨Ab, rfl, yb1, yb2, yb3', yb4', yb5', ybF0, ybF1⟩; have QB := hide yb3'; have bAB := hide yb4'; have bB := hide yb5'; clear yb3' yb4' yb5')
                | (go_at_call 6; refine (HA.out wm _ (.slice ax t cx) t (Xw us) (by first | exact Still.refl _ | exact still_drew _) (Below.refl _ _) HX.out.1 ht1.out).mono ?_; rintro e wA ⟨Aa, rfl, xa1, xa2, xa3', xa4', xa5', xaF0, xaF1⟩; have QA := hide xa3'; have bA := hide xa5'; clear xa3' xa4' xa5')
                | fail))
            go_wp2_with fail
            refine (HA.out wC _ (.slice al' (t + 2) cl) (t + 2) (lateC (Xw us)) (by first | exact Still.refl _ | exact still_drew _) (unhide bC) HX.out.2.2.2.1 ht2.out).mono ?_
            rintro e wD ⟨Ad, rfl, ld1, ld2, ld3', ld4', ld5', ldF0, ldF1⟩
            have QD := hide ld3'
            have bCD := hide ld4'
            have bD := hide ld5'
            clear ld3' ld4' ld5'
            have q1 := unhide bA
            have q2 := unhide bAB
            have q3 := unhide bBC
            have q4 := unhide bCD
            have s1 := q1.size
            have s2 := q2.size
            have s3 := q3.size
            have s4 := q4.size
            have RA : Hid (∀ j, j < t → ∃ ua, wD.cell? ⟨Aa, j, none⟩ = some ua ∧ CIs ua (ansN z1 ns (secW c) rest0 (Xw us) j)) := hide (fun j hj => by
              obtain ⟨u, h1, h2⟩ := unhide QA j hj
              exact ⟨u, by rw [q4.cell (by show Aa < _; omega), q3.cell (by show Aa < _; omega), q2.cell (by exact xa2)]; exact h1, h2⟩)
            have RB : Hid (∀ j, j < t → ∃ ub, wD.cell? ⟨Ab, j, none⟩ = some ub ∧ CIs ub (ansN z1 ns (secW c) rest0 (Yw vs) j)) := hide (fun j hj => by
              obtain ⟨u, h1, h2⟩ := unhide QB j hj
              exact ⟨u, by rw [q4.cell (by show Ab < _; omega), q3.cell (by exact yb2)]; exact h1, h2⟩)
            have RE : Hid (∀ j, j < t → ∃ ue, wD.cell? ⟨Ae, j, none⟩ = some ue ∧ CIs ue (ansN z1 ns (secW c) rest0 (Zw us vs) j)) := hide (fun j hj => by
              obtain ⟨u, h1, h2⟩ := unhide QE j hj
              exact ⟨u, by rw [q4.cell (by exact ze2)]; exact h1, h2⟩)
            have bwD : Hid (Below w.heap.size w wD) := hide (HX.out.2.2.2.2.trans ((unhide bD).mono HX.out.2.2.2.2.size))
            clear q1 q2 q3 q4 s1 s2 s3 s4 QA QB QE bA bAB bB bBC bC bCD bD HX HA f0 f1 xaF0 xaF1 ybF0 ybF1 zeF0 zeF1 ldF0 ldF1 xa1 xa2 yb1 yb2 ze1 ze2 hFw hns
            have eL : ((t + 2 : Nat) : Int) = (t : Int) + 2 := by omega
            go_wp2_with fail
            go_loopw [131] (fun i wr => ∃ k : Nat, k ≤ t ∧ i = .int .i64 k ∧ Still wD wr) (fun i _ => t - (intOf i).toNat)
            case atStart => exact ⟨0, Nat.zero_le _, rfl, Still.refl _⟩
            case round =>
              obtain ⟨m, hmt, rfl, hst⟩ := hrel
              by_cases hm : m < t
              · have hm' : (m : Int) < (t : Int) := by omega
                have hm0 : (0 : Int) ≤ (m : Int) := by omega
                have hm2 : (0 : Int) ≤ (m : Int) + 2 := by omega
                have hm3 : (m : Int) + 2 < (t : Int) + 2 := by omega
                obtain ⟨ua, ka, ca⟩ := unhide RA m hm
                obtain ⟨ub, kb, cb'⟩ := unhide RB m hm
                obtain ⟨ue, ke, ce⟩ := unhide RE m hm
                obtain ⟨ud, kd, cd⟩ := unhide QD (m + 2) (by omega)
                obtain ⟨ra, ia, rb, ib, re, ie, rd, jd, p, q, rfl, rfl, rfl, rfl, hadd, hn1, hn2⟩ := four hns3 (unhide HC8) (unhide HU8) (unhide HV8) m ca cb' ce cd
                have ka : wr.cell? ⟨Aa, m, none⟩ = some (.complex .f64 ra ia) := by rw [hst.cell]; exact ka
                have kb : wr.cell? ⟨Ab, m, none⟩ = some (.complex .f64 rb ib) := by rw [hst.cell]; exact kb
                have ke : wr.cell? ⟨Ae, m, none⟩ = some (.complex .f64 re ie) := by rw [hst.cell]; exact ke
                have kd : wr.cell? ⟨Ad, m + 2, none⟩ = some (.complex .f64 rd jd) := by rw [hst.cell]; exact kd
                have HT := hide hst
                clear hst ca cb' ce cd
                go_wp2_with fail
                go_quiet (fail)
                go_wp2_with fail
                go_roundw
                case rel => exact ⟨m + 1, by omega, by go_num, (unhide HT).trans (still_drewN _ _)⟩
                case measure => simp [intOf]; omega
              · obtain rfl : m = t := by omega
                obtain ⟨ud0, k0, c0'⟩ := unhide QD 0 (by omega)
                obtain ⟨ud1, k1, c1'⟩ := unhide QD 1 (by omega)
                obtain ⟨r0, j0, rfl, e0⟩ := firsts hns3 (unhide HC8) (unhide HU8) (by omega) c0'
                obtain ⟨r1', j1, rfl, e1⟩ := firsts hns3 (unhide HC8) (unhide HU8) (by omega) c1'
                have k0 : wr.cell? ⟨Ad, 0, none⟩ = some (.complex .f64 r0 j0) := by rw [hst.cell]; exact k0
                have k1 : wr.cell? ⟨Ad, 1, none⟩ = some (.complex .f64 r1' j1) := by rw [hst.cell]; exact k1
                have z0' : (0 : Int) < (m : Int) + 2 := by omega
                have z1' : (1 : Int) < (m : Int) + 2 := by omega
                have HT := hide hst
                clear hst c0' c1'
                go_wp2_with fail
                go_ret
                exact ⟨rfl, (unhide bwD).trans (unhide HT _)⟩
end Go.Proofs.Yteoglcelgcjpoaa
