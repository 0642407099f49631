/- Whether NaNs are the one that Save writes, and whether bytes are of Save's form: what plain and fits answer there. -/
import Derived.Test.YtnfgdhnoidpncaaSfi0
namespace Go.Proofs.Ytnfgdhnoidpncaa
open Go.RowKit
attribute [local go_sem] Oper.semAt_some

theorem below_put {S : Nat} {w W : World} (h : Below S w W) (l : Nat) (hl : S ≤ l) (o : Obj) : Below S w (W.putObj l o) := h.trans ⟨rfl, rfl, rfl, by simp [World.putObj], fun k hk => World.putObj_heap_other (by omega)⟩
theorem keeps_but {W W' : World} {B : Nat} {T : TypeId} {v : Value} (h : But (fun k => k = B) W W') (hB : Boxed W B T v) : KeepsOthers W W' :=
  KeepsOthers.of_grownBy (row := some B) ⟨h.os, h.tape, h.output, h.size, fun k hk hn => h.block k hk (fun e => hn (congrArg some e))⟩ (fun j o hj ho => by obtain rfl := Option.some.inj hj; rw [show W.heap[B]? = _ from hB] at ho; obtain rfl := Option.some.inj ho; rfl)

set_option maxRecDepth 100000 in
set_option maxHeartbeats 2000000 in
theorem plain_any {w : World} {A off q0 m cap : Nat} {X : Nat → Nat} (hA : A < w.heap.size) (hby : ∀ j, j < q0 + m → ∀ i, i < 8 → w.cell? ⟨A, 6 + 8 * j + i, none⟩ = some (.int .u8 (be8 (X j) i : Nat))) (hsm : ∀ j, j < q0 + m → X j < 18446744073709551616)
    (hnan : ∀ j, j < m → isnan (X (q0 + j)) = true → X (q0 + j) = 9221120237041090561) (hm : m ≤ 64) (hq : q0 ≤ 1000) (hcap : 8 * m ≤ cap) (hc9 : cap ≤ 9223372036854775807) (hoff : 0 < m → off = 6 + 8 * q0) :
    Calls Try.prog 47 #[.slice (some ⟨A, off, none⟩) (8 * m) cap] w fun e w' => e = .returned (.bool true) ∧ Below w.heap.size w w' := by
  have HX := hide (And.intro hby (And.intro hsm hnan))
  clear hby hsm hnan
  refine calls_marks Try.func47 rfl ?_
  simp only [Try.ntmps47, List.size_toArray, List.length_cons, List.length_nil, Nat.reduceAdd, Nat.reduceSub, Array.replicate_succ, Array.replicate_zero, List.push_toArray, List.append_toArray, List.nil_append, List.cons_append]
  go_wp2_with fail
  obtain ⟨w1, hw1⟩ : ∃ w1, w.alloc (Obj.cells #[Value.bool false] 4) = w1 := ⟨_, rfl⟩
  rw [hw1]
  have hr1 : Boxed w1 w.heap.size 4 (.bool false) := by rw [← hw1]; exact Boxed.new _ _ _
  have hb1 : Below w.heap.size w w1 := by rw [← hw1]; exact (Below.refl _ _).alloc (Nat.le_refl _) _
  have hs1 := hr1.lt
  clear hw1
  have H1 := hide (And.intro hr1 hb1)
  clear hr1 hb1
  refine (chunk_any (some ⟨A, off, none⟩) (8 * m) cap w1).mono ?_
  rintro e w2 ⟨rfl, hw2⟩
  obtain ⟨hr1, hb1⟩ := unhide H1
  have hb2 : Below w1.heap.size w1 w2 := by rw [hw2]; exact ((Below.refl _ _).alloc (Nat.le_refl _) _).alloc (by simp) _
  have hs2 : w1.heap.size + 1 < w2.heap.size := by rw [hw2]; simp
  have hl1 : w2.cell? ⟨w1.heap.size, 0, none⟩ = some (.slice (some ⟨A, off, none⟩) (8 * m) cap) := by rw [hw2, World.cell?_alloc_lt _ _ _ (by show w1.heap.size < _; simp)]; exact box_new _ _ _
  have hl2 : w2.cell? ⟨w1.heap.size + 1, 0, none⟩ = some (.int .i64 8) := by rw [hw2]; have := box_new (w1.alloc (.cells #[.slice (some ⟨A, off, none⟩) (8 * m) cap] 22)) (.int .i64 8) 3; rwa [World.size_alloc] at this
  clear hw2
  have hr2 : Boxed w2 w.heap.size 4 (.bool false) := (hb2.block _ hs1).trans hr1
  have hbw : Below w.heap.size w w2 := hb1.trans (hb2.mono (by omega))
  have H2 := hide (And.intro hr2 (And.intro hbw (And.intro hl1 hl2)))
  clear hr1 hb1 hb2 hl1 hl2 hr2 hbw H1
  go_wp2_with fail
  refine wp_rangeFunc_mut (ι := Nat) (gf := 58) (lb := #[.pointer (some ⟨w1.heap.size, 0, none⟩), .pointer (some ⟨w1.heap.size + 1, 0, none⟩)]) rfl chunk_enters
    (fun j v => j < m ∧ v = #[.slice (some ⟨A, off + 8 * j, none⟩) 8 8]) (fun i v h => by obtain ⟨_, rfl⟩ := h; rfl)
    (fun _ Wc => Below w2.heap.size w2 Wc) (fun _ Wc => Below w2.heap.size w2 Wc) (fun Wc => Below w2.heap.size w2 Wc)
    (fun _ Wc o h => below_put h _ (by omega) o) (fun _ Wc o h => below_put h _ (by omega) o) (fun Wc o h => below_put h _ (by omega) o) ?_ ?_ ?_
  · intro W1 BB hsW hbW hB hB1 hyield
    obtain ⟨hr2, hbw, hl1, hl2⟩ := unhide H2
    refine (chunk_iter (P := fun _ Wc => Below w2.heap.size w2 Wc ∧ BB Wc) ((hbW.cell (by show w1.heap.size < _; omega)).trans hl1) ((hbW.cell (by show w1.heap.size + 1 < _; omega)).trans hl2) hm hcap (by omega) (w2.heap.size + 1) (fun j W h => ⟨h.1.trans (still_drew W _), hB _ _ h.2 rfl rfl⟩) ⟨hbW, hB1⟩ ?_).mono ?_
    · rintro j W hj ⟨h1, h2⟩
      refine (hyield j _ W ⟨hj, rfl⟩ h1 h2).mono ?_
      rintro e W' ⟨rfl, g1, g2⟩
      refine ⟨rfl, ⟨g1, g2⟩, fun k hk => ?_⟩
      have hk2 : k < w2.heap.size := by omega
      exact (g1.block k hk2).trans (h1.block k hk2).symm
    · rintro e W' ⟨hv, h1, h2⟩
      exact ⟨hv, h1, h2⟩
  · rintro j v W8 KR ⟨hj, rfl⟩ hy hK
    have HKR := hide hK
    clear hK hy
    gi_wp2
    refine unhide HKR _ (fun W' hy' => ?_)
    obtain ⟨hby, hsm, hnan⟩ := unhide HX
    have hof := hoff (by omega)
    obtain ⟨hr2, hbw, hl1, hl2⟩ := unhide H2
    have hs' := hy'.size
    obtain ⟨W5, hW5⟩ : ∃ W5, W'.alloc (Obj.cells #[Value.slice (some ⟨A, off + 8 * j, none⟩) 8 8] 79) = W5 := ⟨_, rfl⟩
    have hRB : RB W5 W'.heap.size A (q0 + j) (q0 + j + 1) (6 + 8 * (q0 + j + 1)) X := by
      refine ⟨⟨_, by rw [← hW5]; exact Boxed.new _ _ _, fun _ => by congr 1; all_goals first | omega | (congr 2; omega)⟩, fun i hi b hb => ?_, fun i hi => hsm i (by omega), by have := hbw.size; omega, by omega, Nat.le_refl _, by omega⟩
      rw [← hW5, World.cell?_alloc_lt _ _ _ (by show A < _; have := hbw.size; omega), hy'.cell (by show A < _; have := hbw.size; omega), hbw.cell (by show A < _; omega)]
      exact hby i (by omega) b hb
    have hx := hsm (q0 + j) (by omega)
    have hnn := hnan j hj
    have Hw := hide (rword_any hRB (by omega))
    have hb5 : Below w2.heap.size w2 W5 := by rw [← hW5]; exact hy'.alloc hs' _
    have hko : KeepsOthers W' W5 := by rw [← hW5]; exact KeepsOthers.alloc _ _
    have Hk := hide (And.intro hb5 (And.intro hko hs'))
    have hfb := run_frombits
    have Hn := hide (fun W => isNaN_any (X (q0 + j)) hx W)
    clear hof hRB hb5 hko hy' hr2 hbw hl1 hl2 hby hsm hnan hs'
    gi_wp2_with fail
    refine ⟨trivial, rfl, CallsIn.inRound _ ((callsIn_wide (n := 0)).2 ((unhide Hw).mono ?_))⟩
    rintro e W6 ⟨rfl, hR6, hb6⟩
    obtain ⟨hb5, hko, hs'⟩ := unhide Hk
    obtain ⟨v6, hbx6, _⟩ := hR6.box
    have h6 : Below w2.heap.size w2 W6 := hb5.trans ⟨hb6.os, hb6.tape, hb6.output, hb6.size, fun k hk => hb6.block k (by have := hb5.size; omega) (by omega)⟩
    have hk6 : KeepsOthers W' W6 := hko.trans (keeps_but hb6 (by rw [← hW5]; exact Boxed.new _ _ _))
    have H6 := hide (And.intro h6 hk6)
    clear h6 hk6 hb5 hko hs' hb6 hR6 hbx6 Hw Hk
    cases hnx : isnan (X (q0 + j)) with
    | false =>
      rw [hnx] at Hn
      clear hnn hnx
      gi_wp2_with fail
      refine ⟨trivial, ?_⟩
      go_at_K
      gi_wp2_with fail
      refine ⟨trivial, rfl, CallsIn.inRound _ ((callsIn_wide (n := 0)).2 ((unhide Hn _).mono ?_))⟩
      rintro e W7 ⟨rfl, rfl⟩
      gi_wp2
      exact unhide H6
    | true =>
      have hxe : (((X (q0 + j) : Nat) : Int) != 9221120237041090561) = false := by rw [hnn hnx]; decide
      rw [hnx] at Hn
      clear hnn hnx
      gi_wp2_with fail
      refine ⟨trivial, ?_⟩
      go_at_K
      gi_wp2_with fail
      refine ⟨trivial, rfl, CallsIn.inRound _ ((callsIn_wide (n := 0)).2 ((unhide Hn _).mono ?_))⟩
      rintro e W7 ⟨rfl, rfl⟩
      gi_wp2
      exact unhide H6
  · intro Wd hR hmk
    obtain ⟨hr2, hbw, hl1, hl2⟩ := unhide H2
    have hrd : Boxed Wd w.heap.size 4 (.bool false) := (hR.block _ (by omega)).trans hr2
    have c1 := hrd.cell
    have c2 := hrd.frozen
    have HF := hide (And.intro hR (And.intro hmk (And.intro hrd hbw)))
    clear hR hmk hrd hbw hl1 hl2 hr2
    go_wp2
    obtain ⟨hR, hmk, hrd, hbw⟩ := unhide HF
    have hset := hrd.set (.bool true)
    refine leaves_marks [w2.heap.size] _ ⟨by simp, fun D hD => by simp at hD; subst hD; exact (Below.heap_setCell _ _ _ _ (by show w2.heap.size ≠ w.heap.size; omega)).trans hmk⟩ (fun W' q1 q2 q3 q4 q5 => ?_)
    have hcell : W'.cell? ⟨w.heap.size, 0, none⟩ = some (.bool true) := Boxed.cell (t := 4) ((q5 _ (by simp; omega)).trans hset)
    refine ⟨_, results_cell1 (a := 2) (t := 4) rfl rfl (by go_simp), rfl, ?_⟩
    have hs := hR.size
    refine hbw.trans ⟨q2.trans hR.os, q3.trans hR.tape, q4.trans hR.output, by rw [← q1]; simpa using hs, fun i hi => ?_⟩
    rw [q5 i (by simp; omega), Below.heap_setCell _ _ _ _ (by show i ≠ w.heap.size; omega)]
    exact hR.block i (by omega)

set_option maxRecDepth 100000 in
set_option maxHeartbeats 2000000 in
theorem fits_any {w : World} {A n cap gb : Nat} {X : Nat → Nat} (hA : A < w.heap.size) (hqv : ∀ j (hj : j < qvs.length), w.cell? ⟨A, j, none⟩ = some (.int .u8 (qvs[j].toNat : Int))) (h4 : w.cell? ⟨A, 4, none⟩ = some (.int .u8 (gb : Nat))) (hgb : gb < 8) (h5 : w.cell? ⟨A, 5, none⟩ = some (.int .u8 (n : Nat)))
    (hby : ∀ j, j < 4 + 14 * n → ∀ i, i < 8 → w.cell? ⟨A, 6 + 8 * j + i, none⟩ = some (.int .u8 (be8 (X j) i : Nat))) (hsm : ∀ j, j < 4 + 14 * n → X j < 18446744073709551616)
    (hnan : ∀ j, j < 4 * n → isnan (X (4 + 10 * n + j)) = true → X (4 + 10 * n + j) = 9221120237041090561) (hn : n ≤ 16) (hcap : 38 + 112 * n ≤ cap) (hc9 : cap ≤ 9223372036854775807) :
    Calls Try.prog 29 #[.slice (some ⟨A, 0, none⟩) (38 + 112 * n) cap] w fun e w' => e = .returned (.bool true) ∧ Below w.heap.size w w' := by
  have hcv := Go.Lib.run_convert_bytes_const (P := Try.prog) w 22 5 #[.int .u8 81, .int .u8 86, .int .u8 83, .int .u8 49] 4 4 Try.underlying22 Try.underlying5
  obtain ⟨w1, hw1⟩ : ∃ w1, w.alloc (Obj.cells #[.int .u8 81, .int .u8 86, .int .u8 83, .int .u8 49] 5 (4, 5)) = w1 := ⟨_, rfl⟩
  have hb1 : Below w.heap.size w w1 := by rw [← hw1]; exact (Below.refl _ _).alloc (Nat.le_refl _) _
  have hlow : ∀ j u, w.cell? ⟨A, j, none⟩ = some u → w1.cell? ⟨A, j, none⟩ = some u := fun j u h => (hb1.cell (by exact hA)).trans h
  have hqb : ∀ j (hj : j < qvs.length), w1.cell? ⟨w.heap.size, j, none⟩ = some (.int .u8 (qvs[j].toNat : Int)) := fun j hj => by
    rw [← hw1, cell_of_row _ w.heap.size _ _ _ _ (heap_alloc_new _ _)]
    have hj4 : j < 4 := hj
    rcases (by omega : j = 0 ∨ j = 1 ∨ j = 2 ∨ j = 3) with rfl | rfl | rfl | rfl <;> rfl
  have Hpre := hide (prefix_any A w.heap.size (38 + 112 * n) cap w1 (by omega) hcap (by omega) (fun j hj => hlow _ _ (hqv j hj)) hqb)
  have hpl := plain_any (w := w1) (A := A) (off := 38 + 112 * n - 8 * n * 4) (q0 := 4 + 10 * n) (m := 4 * n) (cap := cap - (38 + 112 * n - 8 * n * 4)) (X := X) (Nat.lt_of_lt_of_le hA hb1.size) (fun j hj i hi => hlow _ _ (hby j (by omega) i hi)) (fun j hj => hsm j (by omega)) hnan (by omega) (by omega) (by omega) (by omega) (fun _ => by omega)
  rw [show 8 * (4 * n) = 38 + 112 * n - (38 + 112 * n - 8 * n * 4) by omega] at hpl
  have Hpl := hide hpl
  have hpl0 := plain_any (w := w1) (A := A) (off := 0) (q0 := 4) (m := 0) (cap := 0) (X := X) (Nat.lt_of_lt_of_le hA hb1.size) (fun j hj i hi => hlow _ _ (hby j (by omega) i hi)) (fun j hj => hsm j (by omega)) (fun j hj => by omega) (by omega) (by omega) (by omega) (by omega) (fun h => by omega)
  have Hpl0 : Hid (Calls Try.prog 47 #[.slice (some ⟨A, 0, none⟩) 0 0] w1 fun e w' => e = .returned (.bool true) ∧ Below w1.heap.size w1 w') := hide hpl0
  clear hpl hpl0
  have d4 := hlow _ _ h4
  have d5 := hlow _ _ h5
  have hgb' : ((gb : Nat) : Int) < 8 := by omega
  have Hb1 := hide hb1
  clear hqv h4 h5 hby hsm hnan hlow hqb hb1
  by_cases hz : n = 0 ∧ cap = 38
  · obtain ⟨rfl, rfl⟩ := hz
    clear Hpl
    go_enter Try.func29, Try.ntmps29
    go_wp2_with fail
    refine (unhide Hpre).mono ?_
    rintro e w2 ⟨rfl, rfl⟩
    clear Hpre hcv hw1
    go_wp2_with fail
    refine (unhide Hpl0).mono ?_
    rintro e w3 ⟨rfl, hb3⟩
    have H3 := hide hb3
    clear hb3
    go_wp2
    go_ret
    exact ⟨rfl, (unhide Hb1).trans ((unhide H3).mono (unhide Hb1).size)⟩
  · have hne : ¬ cap = 38 + 112 * n - 8 * n * 4 := by omega
    clear hz Hpl0
    go_enter Try.func29, Try.ntmps29
    go_wp2_with fail
    refine (unhide Hpre).mono ?_
    rintro e w2 ⟨rfl, rfl⟩
    clear Hpre hcv hw1
    go_wp2_with fail
    refine (unhide Hpl).mono ?_
    rintro e w3 ⟨rfl, hb3⟩
    have H3 := hide hb3
    clear hb3
    go_wp2
    go_ret
    exact ⟨rfl, (unhide Hb1).trans ((unhide H3).mono (unhide Hb1).size)⟩
end Go.Proofs.Ytnfgdhnoidpncaa
