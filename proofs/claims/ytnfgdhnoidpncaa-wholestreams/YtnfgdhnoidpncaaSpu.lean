/- Samples pushed: what a stream's Push does. -/
import Derived.Test.YtnfgdhnoidpncaaSit
import Derived.Test.YtnfgdhnoidpncaaGwl
import Derived.Shelf.Abstract
import Derived.RangeFuncBound
namespace Go.Proofs.Ytnfgdhnoidpncaa
open Go.RowKit
attribute [local go_sem] Oper.semAt_some

set_option maxRecDepth 100000 in
theorem each_any (B : Nat) (ad : Option Addr) (m cl : Nat) (w : World) : Calls Try.prog 27 #[.pointer (some ⟨B, 0, none⟩), .slice ad m cl] w fun e w' =>
    e = .returned (.func (.func 44) #[] #[.pointer (some ⟨w.heap.size + 1, 0, none⟩), .pointer (some ⟨w.heap.size, 0, none⟩)]) ∧ w' = (w.alloc (.cells #[.pointer (some ⟨B, 0, none⟩)] 33)).alloc (.cells #[.slice ad m cl] 31) := by
  go_enter Try.func27, Try.ntmps27
  go_wp2
  go_ret
  exact ⟨rfl, rfl⟩
theorem each_enters : ∀ args w, (callFunc 44 args).run Try.prog w = .ok (.enter 44 args) w := enters_of Try.func44 (by kernel_rfl) rfl

theorem box_new (w : World) (v : Value) (t : TypeId) : (w.alloc (Obj.cells #[v] t)).cell? ⟨w.heap.size, 0, none⟩ = some v := by rw [cell_of_row _ w.heap.size _ _ _ _ (heap_alloc_new _ _)]; rfl
theorem ListIs.below {w w' : World} {m : Nat} {v : Value} {X : Nat → C2} (h : ListIs w v m X) (hb : Below w.heap.size w w') : ListIs w' v m X := by
  obtain ⟨ad, c, rfl, hs⟩ := h
  refine ⟨ad, c, rfl, fun j hj => ?_⟩
  obtain ⟨b, off, u, rfl, hb', hc, hu⟩ := hs j hj
  exact ⟨b, off, u, rfl, Nat.lt_of_lt_of_le hb' hb.size, (hb.cell hb').trans hc, hu⟩
/-- Behind j answers: they lie in block Ab, which block bx names; else only the stream's blocks B and A have changed. -/
def PU (w : World) (B A Ab bx m : Nat) (Y : Nat → C2) (j : Nat) (W : World) : Prop :=
  But (fun k => k = B ∨ k = A) w W ∧ Ab < W.heap.size ∧ bx < W.heap.size ∧ W.there Ab 0 m ∧ (∀ i, i < j → ∃ u, W.cell? ⟨Ab, i, none⟩ = some u ∧ CIs u (Y i)) ∧ W.cell? ⟨bx, 0, none⟩ = some (.slice (some ⟨Ab, 0, none⟩) m m)
theorem PU.keep {w W W' : World} {B A Ab bx m j : Nat} {Y : Nat → C2} {O : Nat → Prop} (h : PU w B A Ab bx m Y j W) (hb : But O W W') (hO : ∀ k, O k → (k = B ∨ k = A) ∨ w.heap.size ≤ k) (hA : ¬ O Ab) (hx : ¬ O bx) : PU w B A Ab bx m Y j W' := by
  obtain ⟨h1, h2, h3, h4, h5, h6⟩ := h
  have e1 := hb.block Ab h2 hA
  refine ⟨h1.trans hb hO, Nat.lt_of_lt_of_le h2 hb.size, Nat.lt_of_lt_of_le h3 hb.size, there_same e1 h4, fun i hi => ?_, hb.cell h6 hx⟩
  obtain ⟨u, hu, hc⟩ := h5 i hi
  exact ⟨u, by rw [World.cell?_of_block (w := W) e1]; exact hu, hc⟩
theorem but_put (W : World) (l : Nat) (o : Obj) : But (fun k => k = l) W (W.putObj l o) := ⟨rfl, rfl, rfl, by simp [World.putObj], fun k _ hn => World.putObj_heap_other hn⟩
theorem but_set (W : World) (a : Addr) (v : Value) : But (fun k => k = a.block) W (W.setCell a v) := ⟨rfl, rfl, rfl, by simp, fun k _ hn => Below.heap_setCell _ _ _ _ hn⟩

set_option maxRecDepth 100000 in
set_option maxHeartbeats 2000000 in
theorem spush_any {w : World} {O : Nat → Prop} {B A n cA gr gi : Nat} {sv v : Value} {G : C2} {sec : Nat → Sec} {g : Gu} {st : Nat → C2 × C2} {t c m : Nat} {X : Nat → C2} (hA : SA w O B A n cA gr gi sv G sec g st t c) (hv : ListIs w v m X) (hoff : ∀ b, O b → Off v m b)
    (hn : n ≤ 16) (hm : m ≤ 300) (ht : t ≤ 1000000000) (hc : c ≤ 1000000000000) :
    Calls Try.prog 11 #[.pointer (some ⟨B, 0, none⟩), v] w fun e w' => ∃ Ab, e = .returned (.slice (some ⟨Ab, 0, none⟩) m m) ∧ w.heap.size ≤ Ab ∧ Ab < w'.heap.size ∧ (∀ j, j < m → ∃ u, w'.cell? ⟨Ab, j, none⟩ = some u ∧ CIs u (wAnsN g G n sec st X j)) ∧
      SA w' O B A n cA gr gi sv G sec g (wStN g G n sec st X m) (t + m) (c + wCntN g G n sec st X m) ∧ But (fun k => k = B ∨ k = A) w w' := by
  obtain ⟨i0, hi, hz0, hz1, hz2⟩ := info_parts info_c
  obtain ⟨ad, cl, rfl, _⟩ := id hv
  have HA := hide hA
  have HV := hide (And.intro hv hoff)
  clear hA hv hoff
  refine calls_marks Try.func11 rfl ?_
  simp only [Try.ntmps11, List.size_toArray, List.length_cons, List.length_nil, Nat.reduceAdd, Nat.reduceSub, Array.replicate_succ, Array.replicate_zero, List.push_toArray, List.append_toArray, List.nil_append, List.cons_append]
  go_wp2_with (first
    | (refine wpList_make_full _ rfl _ _ 31 rfl w.heap.size 24 i0 (.complex .f64 0 0) 1 Try.underlying31 hi hz0 hz1 .i64 .i64 _ _ m rfl rfl rfl rfl (by rw [hz2]; omega) (by unfold maxLen; omega) (Nat.le_refl _) ?_; intro w2 hown hgr) | fail)
  obtain ⟨hth, hAw⟩ := own_there hown
  rw [Nat.mul_one] at hth
  clear hown hi hz0 hz1 hz2
  have hb2 : Below w.heap.size w w2 := (Below.refl _ w).grown hgr (Nat.le_refl _) (by intro k e; cases e)
  obtain ⟨w3, hw3⟩ : ∃ w3, w2.alloc (Obj.cells #[Value.slice (some ⟨w.heap.size, 0, none⟩) m m] 31) = w3 := ⟨_, rfl⟩
  have hbx : w3.cell? ⟨w2.heap.size, 0, none⟩ = some (.slice (some ⟨w.heap.size, 0, none⟩) m m) := by rw [← hw3]; exact box_new _ _ _
  have hb3 : Below w2.heap.size w2 w3 := by rw [← hw3]; exact (Below.refl _ _).alloc (Nat.le_refl _) _
  have hs3 : w3.heap.size = w2.heap.size + 1 := by rw [← hw3]; simp
  rw [hw3]
  have hs2 := hb2.size
  have HB := hide (And.intro hth (And.intro hb2 (And.intro hb3 hbx)))
  clear hth hb2 hb3 hbx hgr hw3
  refine (each_any B ad m cl w3).mono ?_
  rintro e w4' ⟨rfl, hw4⟩
  obtain ⟨hth, hb2, hb3, hbx⟩ := unhide HB
  have hb4 : Below w3.heap.size w3 w4' := by rw [hw4]; exact ((Below.refl _ _).alloc (Nat.le_refl _) _).alloc (by simp) _
  have hs4 : w4'.heap.size = w3.heap.size + 2 := by rw [hw4]; simp
  have hl1 : w4'.cell? ⟨w3.heap.size + 1, 0, none⟩ = some (.slice ad m cl) := by rw [hw4]; go_simp
  have hl2 : w4'.cell? ⟨w3.heap.size, 0, none⟩ = some (.pointer (some ⟨B, 0, none⟩)) := by rw [hw4]; go_simp
  clear hw4
  obtain ⟨C, hC⟩ : ∃ C : Nat → Prop, C = fun k => k = w3.heap.size + 1 ∨ k = w3.heap.size ∨ (0 < m ∧ ∃ off mm cc, Value.slice ad m cl = .slice (some ⟨k, off, none⟩) mm cc) := ⟨_, rfl⟩
  have hb04 : Below w.heap.size w w4' := (hb2.trans (hb3.mono hs2)).trans (hb4.mono (by omega))
  obtain ⟨hv, hoff⟩ := unhide HV
  have hSq : SeqAt w4' 44 #[.pointer (some ⟨w3.heap.size + 1, 0, none⟩), .pointer (some ⟨w3.heap.size, 0, none⟩)] C B m X := by
    refine ⟨rfl, _, _, _, rfl, by rw [hC]; exact .inl rfl, by rw [hC]; exact .inr (.inl rfl), hl1, hl2, hv.below hb04, fun h b off mm cc e => by rw [hC]; exact .inr (.inr ⟨h, off, mm, cc, e⟩)⟩
  have hA4 := (unhide HA).keep (w' := w4') (fun k hk => hb04.block k ((unhide HA).lt k hk)) hb04.size
  have hClt : ∀ k, C k → ¬ O k ∧ k < w4'.heap.size := fun k hk => by
    rw [hC] at hk
    rcases hk with rfl | rfl | ⟨h0, off, mm, cc, e⟩
    · exact ⟨fun e => by have := (unhide HA).lt _ e; omega, by omega⟩
    · exact ⟨fun e => by have := (unhide HA).lt _ e; omega, by omega⟩
    · refine ⟨fun hO => hoff k hO h0 _ _ _ _ e rfl, ?_⟩
      obtain ⟨ad', c', e', hl⟩ := hv
      obtain ⟨b, off', u, e2, hb, _⟩ := hl 0 h0
      subst e2
      have : b = k := by rw [e] at e'; simp at e'; omega
      omega
  have HCA : Hid (¬ C w.heap.size) := hide (by
    rw [hC]
    rintro (e | e | ⟨h0, off, mm, cc, e⟩)
    · omega
    · omega
    · obtain ⟨ad', c', e', hl⟩ := hv
      obtain ⟨b, off', u, e2, hb, _⟩ := hl 0 h0
      subst e2
      have : b = w.heap.size := by rw [e] at e'; injection e' with e1; injection e1 with e1; injection e1 with e1; exact e1.symm
      omega)
  have hAb : ∀ k, O k → k < w.heap.size := (unhide HA).lt
  have hOB := (unhide HA).oB
  have hOA := (unhide HA).oA
  have hPU : PU w B A w.heap.size w2.heap.size m (wAnsN g G n sec st X) 0 w4' :=
    ⟨But.low hb04, by omega, by omega, fun j hj => by
      have e : w4'.heap[w.heap.size]? = w2.heap[w.heap.size]? := (hb4.block _ (by omega)).trans (hb3.block _ hAw)
      rw [World.cell?_of_block (w := w2) e, World.frozen?_of_block (w := w2) e]; exact hth j hj, fun i hi => by omega, (World.cell?_of_block (w := w3) (hb4.block w2.heap.size (by omega))).trans hbx⟩
  have HB2 := hide (And.intro hSq (And.intro hA4 (And.intro hClt (And.intro hPU (And.intro hs3 (And.intro hs4 hAw))))))
  clear hs3 hs4 hAw hth hb2 hb3 hbx hb4 hl1 hl2 hb04 hv hoff hSq hA4 hClt hPU HB HV HA hC
  go_wp2_with fail
  refine wp_rangeFunc_mut (ι := Nat × World) (gf := 44) (lb := #[.pointer (some ⟨w3.heap.size + 1, 0, none⟩), .pointer (some ⟨w3.heap.size, 0, none⟩)]) rfl each_enters
    (fun i v => i.1 < m ∧ ∃ r c, v = #[.int .i64 (i.1 : Nat), .complex .f64 r c] ∧ CIs (.complex .f64 r c) (wAnsN g G n sec st X i.1))
    (fun i v h => by obtain ⟨_, r, c, rfl, _⟩ := h; rfl)
    (fun i Wc => PU w B A w.heap.size w2.heap.size m (wAnsN g G n sec st X) i.1 Wc ∧ (∀ k, O k ∨ C k → Wc.heap[k]? = i.2.heap[k]?) ∧ i.2.heap.size ≤ Wc.heap.size)
    (fun i Wc => PU w B A w.heap.size w2.heap.size m (wAnsN g G n sec st X) (i.1 + 1) Wc ∧ (∀ k, O k ∨ C k → Wc.heap[k]? = i.2.heap[k]?) ∧ i.2.heap.size ≤ Wc.heap.size)
    (fun Wc => PU w B A w.heap.size w2.heap.size m (wAnsN g G n sec st X) m Wc ∧ SA Wc O B A n cA gr gi sv G sec g (wStN g G n sec st X m) (t + m) (c + wCntN g G n sec st X m))
    ?_ ?_ ?_ ?_ ?_ ?_
  · rintro i Wc o ⟨h1, h2, h3⟩
    obtain ⟨_, hA4, hClt, _, hs3, hs4, hAw⟩ := unhide HB2
    refine ⟨h1.keep (but_put Wc _ o) (fun k hk => .inr (by subst hk; omega)) (by omega) (by omega), fun k hk => (World.putObj_heap_other (fun e => ?_)).trans (h2 k hk), by simpa [World.putObj] using h3⟩
    subst e
    exact hk.elim (fun hk => by have := hAb _ hk; omega) (fun hk => by have := (hClt _ hk).2; omega)
  · rintro i Wc o ⟨h1, h2, h3⟩
    obtain ⟨_, hA4, hClt, _, hs3, hs4, hAw⟩ := unhide HB2
    refine ⟨h1.keep (but_put Wc _ o) (fun k hk => .inr (by subst hk; omega)) (by omega) (by omega), fun k hk => (World.putObj_heap_other (fun e => ?_)).trans (h2 k hk), by simpa [World.putObj] using h3⟩
    subst e
    exact hk.elim (fun hk => by have := hAb _ hk; omega) (fun hk => by have := (hClt _ hk).2; omega)
  · rintro Wc o ⟨h1, h2⟩
    obtain ⟨_, hA4, hClt, _, hs3, hs4, hAw⟩ := unhide HB2
    exact ⟨h1.keep (but_put Wc _ o) (fun k hk => .inr (by subst hk; omega)) (by omega) (by omega), h2.keep (fun k hk => World.putObj_heap_other (fun e => by subst e; have := hAb _ hk; omega)) (by simp [World.putObj])⟩
  · intro W1 BB hs1 hb1 hB hB1 hyield
    obtain ⟨hSq, hA4, hClt, hPU, hs3, hs4, hAw⟩ := unhide HB2
    have hBlt := hAb B hOB
    have hAlt := hAb A hOA
    refine (siter_any (hSq.keep (fun k hk => hb1.block k (hClt k hk).2)) (hA4.keep (fun k hk => hb1.block k (by have := hAb k hk; omega)) hb1.size) (fun k hk => ⟨(hClt k hk).1, by have := (hClt k hk).2; omega⟩) hn hm ht hc (w4'.heap.size + 1)
      (fun j Wc => PU w B A w.heap.size w2.heap.size m (wAnsN g G n sec st X) j Wc ∧ BB Wc ∧ w4'.heap.size + 1 < Wc.heap.size) ?_ ?_ ?_).mono ?_
    · rintro j Wa Wb ⟨h1, h2, h3⟩ hbut
      exact ⟨h1.keep hbut (fun k hk => .inl hk) (by omega) (by omega), hB _ _ h2 (hbut.block _ (by omega) (by omega)) (hbut.block _ h3 (by omega)), by have := hbut.size; omega⟩
    · exact ⟨hPU.keep (But.low (O := fun _ => False) hb1) (fun _ e => e.elim) (fun e => e) (fun e => e), hB1, by omega⟩
    · rintro j r ci Wa hj hci ⟨h1, h2, h3⟩ hAt hCl
      refine (hyield (j, Wa) _ Wa ⟨hj, r, ci, rfl, hci⟩ ⟨h1, fun k hk => rfl, Nat.le_refl _⟩ h2).mono ?_
      rintro e W' ⟨rfl, ⟨g1, g2, g3⟩, g4⟩
      exact ⟨rfl, ⟨g1, g4, by (try dsimp only at g3); omega⟩, g2, g3⟩
    · rintro e W' ⟨hv, ⟨h1, h2, _⟩, hAt⟩
      exact ⟨hv, ⟨h1, hAt⟩, h2⟩
  · rintro ⟨j, Wi⟩ v W8 KR hv hy hK
    obtain ⟨hj, r, ci, rfl, hci⟩ := hv
    have HKR := hide hK
    have HE2 := hide hci
    clear hK hy hci
    have hj1 : (j : Int) < (m : Int) := by (try dsimp only at hj); omega
    gi_wp2
    refine unhide HKR _ (fun W' hy' => ?_)
    obtain ⟨⟨p1, p2, p3, p4, p5, p6⟩, hOw, hsz⟩ := hy'
    try dsimp only at p5 hOw hsz hj
    obtain ⟨uo, huo⟩ := Option.isSome_iff_exists.1 (p4 j hj).1
    have hfo := (p4 j hj).2
    rw [Nat.zero_add] at huo hfo
    have HP := hide (And.intro p1 (And.intro p2 (And.intro p3 (And.intro p4 (And.intro p5 (And.intro p6 (And.intro hOw hsz)))))))
    clear p1 p2 p3 p4 p5 hOw hsz
    have hsc := run_store_c
    gi_wp2
    obtain ⟨p1, p2, p3, p4, p5, p6, hOw, hsz⟩ := unhide HP
    obtain ⟨_, hA4, hClt, _, hs3, hs4, hAw⟩ := unhide HB2
    have hbs := but_set W' ⟨w.heap.size, j, none⟩ (.complex .f64 r ci)
    refine ⟨⟨⟨p1.trans hbs (fun k hk => .inr (by have : k = w.heap.size := hk; omega)), by simpa using p2, by simpa using p3, there_setCell p4 _ _, fun i hi => ?_, hbs.cell p6 (by show ¬ (w2.heap.size = w.heap.size); omega)⟩, fun k hk => ?_, by simpa using hsz⟩, KeepsOthers.setCell _ _ _⟩
    · by_cases hij : i = j
      · subst hij
        exact ⟨_, cell_eq huo, unhide HE2⟩
      · obtain ⟨u, hu1, hu2⟩ := p5 i (by omega)
        exact ⟨u, by rw [cell_ne (by intro e; have := (Addr.mk.inj e).2.1; omega)]; exact hu1, hu2⟩
    · refine (Below.heap_setCell _ _ _ _ ?_).trans (hOw k hk)
      intro e
      have e' : k = w.heap.size := e
      subst e'
      exact hk.elim (fun hk => by have := hAb _ hk; omega) (fun hk => absurd hk (unhide HCA))
  · rintro Wd ⟨h1, h2⟩ hmk
    obtain ⟨p1, p2, p3, p4, p5, p6⟩ := id h1
    have HF := hide (And.intro h1 (And.intro h2 hmk))
    clear h1 h2 hmk p1 p2 p3 p4 p5
    go_wp2
    obtain ⟨⟨p1, p2, p3, p4, p5, p6⟩, h2, hmk⟩ := unhide HF
    obtain ⟨_, hA4, hClt, _, hs3, hs4, hAw⟩ := unhide HB2
    refine leaves_marks [w4'.heap.size] _ ⟨by simp, fun D hD => by simp at hD; subst hD; exact hmk⟩ (fun W' q1 q2 q3 q4 q5 => ?_)
    have hw := p1.size
    have hbd : But (fun k => k = w4'.heap.size) Wd W' := ⟨q2, q3, q4, by omega, fun k _ hk => q5 k (by simpa using hk)⟩
    refine ⟨_, results_tmp (t := 4) rfl _ _ _, ?_⟩
    refine ⟨w.heap.size, rfl, Nat.le_refl _, by omega, fun j hj => ?_, h2.keep (fun k hk => q5 k (by simp; have := hAb k hk; omega)) (by omega), p1.trans hbd (fun k hk => .inr (by omega))⟩
    obtain ⟨u, hu1, hu2⟩ := p5 j hj
    exact ⟨u, hbd.cell hu1 (by show ¬ (w.heap.size = w4'.heap.size); omega), hu2⟩
end Go.Proofs.Ytnfgdhnoidpncaa
