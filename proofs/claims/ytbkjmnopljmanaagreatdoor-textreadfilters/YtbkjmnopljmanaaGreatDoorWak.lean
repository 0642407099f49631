/- Wa, Wb, Wc, Wd, We, Wf, Wg, Wh, Wi, Wj, Wk, one behind the other. -/
import Derived.Test.YtbkjmnopljmanaaGreatDoorZal
/- Sections: how their reading ends, as mathematics; rows of sections of a call's own. -/
namespace Go.Proofs.YtbkjmnopljmanaaGreatDoor
open Go.RowKit

/-- Five numbers, a blank ahead of each. -/
inductive Fv (s : ByteArray) : Nat → List (Nat × Nat) → ZEnd → Prop
  | done {a : Nat} {l : List (Nat × Nat)} (h : l.length = 5) : Fv s a l (.ok l a)
  | blank {a : Nat} {l : List (Nat × Nat)} (h : l.length < 5) (hb : bt s a ≠ 32) : Fv s a l (.bad 12 a)
  | num {a : Nat} {l : List (Nat × Nat)} {er q : Nat} (h : l.length < 5) (hb : bt s a = 32) (hN : NumAt s (a + 1) (.bad er q)) : Fv s a l (.bad er q)
  | step {a : Nat} {l : List (Nat × Nat)} {x y p2 : Nat} {o : ZEnd} (h : l.length < 5) (hb : bt s a = 32) (hN : NumAt s (a + 1) (.ok x y p2)) (k : Fv s p2 (l ++ [(x, y)]) o) : Fv s a l o
theorem fv_any {s : ByteArray} (hs : s.size ≤ 65536) : ∀ (n a : Nat) (l : List (Nat × Nat)), l.length + n = 5 → ∃ o, Fv s a l o
  | 0, a, l, h => ⟨_, .done h⟩
  | n + 1, a, l, h => by
    by_cases hb : bt s a = 32
    · obtain ⟨o, hN⟩ := num_any hs (a + 1)
      cases o with
      | bad er q => exact ⟨_, .num (by omega) hb hN⟩
      | ok x y p2 =>
        obtain ⟨o, k⟩ := fv_any hs n p2 (l ++ [(x, y)]) (by rw [List.length_append]; show l.length + 1 + n = 5; omega)
        exact ⟨o, .step (by omega) hb hN k⟩
    · exact ⟨_, .blank (by omega) hb⟩
theorem Fv.good {s : ByteArray} {c : Nat} {l : List (Nat × Nat)} {o : ZEnd} (h : Fv s c l o) : o.good := by
  induction h with
  | done _ => trivial
  | blank _ _ => exact .inl rfl
  | num _ _ hN => rcases hN.told with h | h; exact .inl h; exact .inr (.inl h)
  | step _ _ _ _ ih => exact ih
theorem Fv.five {s : ByteArray} {c : Nat} {l : List (Nat × Nat)} {o : ZEnd} (h : Fv s c l o) : ∀ l' p, o = .ok l' p → l'.length = 5 := by
  induction h with
  | done h => intro l' p e; injection e with e1 e2; subst e1; exact h
  | blank _ _ => intro l' p e; cases e
  | num _ _ hN => intro l' p e; cases e
  | step _ _ _ _ ih => exact ih
theorem Fv.told {s : ByteArray} {c : Nat} {l : List (Nat × Nat)} {o : ZEnd} (h : Fv s c l o) : ∀ l' p, o = .ok l' p → c ≤ s.size → (∃ m, l' = l ++ m ∧ FinL m ∧ (s.extract c p).toList = frontT m) ∧ c ≤ p ∧ p ≤ s.size := by
  induction h with
  | @done a l h =>
    intro l' p e hc
    injection e with e1 e2
    subst e1 e2
    refine ⟨⟨[], by simp, (fun _ h => by cases h), ?_⟩, by omega, hc⟩
    rw [ex_list]; simp [frontT]
  | blank _ _ => intro l' p e; cases e
  | num _ _ hN => intro l' p e; cases e
  | @step a l x y p2 o h hb hN k ih =>
    intro l' p e hc
    obtain ⟨t1, t2, t3, t4, t5, t6, t7⟩ := hN.told
    obtain ⟨⟨m, e1, e2, e3⟩, h1, h2⟩ := ih l' p e t6
    refine ⟨⟨(x, y) :: m, by rw [e1]; simp, ?_, ?_⟩, by omega, h2⟩
    · intro q hq
      rcases List.mem_cons.1 hq with rfl | hq
      · exact ⟨t1, t2, t3⟩
      · exact e2 q hq
    · rw [ex_cat s (show a ≤ a + 1 by omega) (show a + 1 ≤ p by omega), ex_one 32 hb, ex_cat s (show a + 1 ≤ p2 by omega) (show p2 ≤ p by omega), ← t7, e3]
      show _ = (32 :: numL x y) ++ frontT m
      simp
theorem Fv.full {s : ByteArray} {c : Nat} {l : List (Nat × Nat)} {o : ZEnd} (h : Fv s c l o) (h5 : l.length = 5) : o = .ok l c := by
  cases h with
  | done _ => rfl
  | blank h _ => omega
  | num h _ _ => omega
  | step h _ _ _ => omega
inductive SEnd where
  | bad (er q : Nat)
  | ok (ls : List (List (Nat × Nat)))
/-- Sections, up to the text's end. -/
inductive Sc (s : ByteArray) : Nat → List (List (Nat × Nat)) → SEnd → Prop
  | done {a : Nat} {ls : List (List (Nat × Nat))} (h : a = s.size) : Sc s a ls (.ok ls)
  | blank {a : Nat} {ls : List (List (Nat × Nat))} (h : a < s.size) (hb : bt s a ≠ 32) : Sc s a ls (.bad 12 a)
  | long {a : Nat} {ls : List (List (Nat × Nat))} (h : bt s a = 32) (hb : bt s (a + 1) = 124) (h16 : ls.length = 16) : Sc s a ls (.bad 2 (a + 1))
  | bar {a : Nat} {ls : List (List (Nat × Nat))} (h : bt s a = 32) (hb : bt s (a + 1) ≠ 124) : Sc s a ls (.bad 12 (a + 1))
  | five {a : Nat} {ls : List (List (Nat × Nat))} {er q : Nat} (h : bt s a = 32) (hb : bt s (a + 1) = 124) (h16 : ls.length ≠ 16) (k : Fv s (a + 2) [] (.bad er q)) : Sc s a ls (.bad er q)
  | step {a : Nat} {ls : List (List (Nat × Nat))} {l : List (Nat × Nat)} {p : Nat} {o : SEnd} (h : bt s a = 32) (hb : bt s (a + 1) = 124) (h16 : ls.length ≠ 16) (k : Fv s (a + 2) [] (.ok l p)) (r : Sc s p (ls ++ [l]) o) : Sc s a ls o
theorem sc_any {s : ByteArray} (hs : s.size ≤ 65536) : ∀ (n a : Nat) (ls : List (List (Nat × Nat))), a ≤ s.size → s.size - a ≤ n → ∃ o, Sc s a ls o
  | 0, a, ls, ha, h => ⟨_, .done (by omega)⟩
  | n + 1, a, ls, ha, h => by
    by_cases h0 : a = s.size
    · exact ⟨_, .done h0⟩
    by_cases hb : bt s a = 32
    · by_cases h1 : bt s (a + 1) = 124
      · by_cases h2 : ls.length = 16
        · exact ⟨_, .long hb h1 h2⟩
        obtain ⟨o, k⟩ := fv_any hs 5 (a + 2) [] rfl
        cases o with
        | bad er q => exact ⟨_, .five hb h1 h2 k⟩
        | ok l p =>
          have hlt : a + 1 < s.size := bt_lt.1 (by omega)
          obtain ⟨_, h3, h4⟩ := k.told l p rfl (by omega)
          obtain ⟨o, r⟩ := sc_any hs n p (ls ++ [l]) h4 (by omega)
          exact ⟨o, .step hb h1 h2 k r⟩
      · exact ⟨_, .bar hb h1⟩
    · exact ⟨_, .blank (by omega) hb⟩
def SEnd.good : SEnd → Prop
  | .bad er _ => er = 12 ∨ er = 5 ∨ er = 2
  | .ok _ => True
theorem Sc.good {s : ByteArray} {c : Nat} {ls : List (List (Nat × Nat))} {o : SEnd} (h : Sc s c ls o) : o.good := by
  induction h with
  | done _ => trivial
  | blank _ _ => exact .inl rfl
  | long _ _ _ => exact .inr (.inr rfl)
  | bar _ _ => exact .inl rfl
  | five _ _ _ k => exact k.good
  | step _ _ _ _ _ ih => exact ih
def secT (ls : List (List (Nat × Nat))) : List UInt8 := ls.flatMap fun l => [32, 124] ++ frontT l
def FivL (ls : List (List (Nat × Nat))) : Prop := ∀ l ∈ ls, l.length = 5 ∧ FinL l
theorem Sc.told {s : ByteArray} {c : Nat} {ls : List (List (Nat × Nat))} {o : SEnd} (h : Sc s c ls o) : ∀ lz, o = .ok lz → c ≤ s.size → ls.length ≤ 16 → (∃ m, lz = ls ++ m ∧ FivL m ∧ (s.extract c s.size).toList = secT m) ∧ lz.length ≤ 16 := by
  induction h with
  | @done a ls h =>
    intro lz e hc h16
    injection e with e1
    subst e1 h
    refine ⟨⟨[], by simp, (fun _ h => by cases h), ?_⟩, h16⟩
    rw [ex_list]; simp [secT]
  | blank _ _ => intro l' e; cases e
  | long _ _ _ => intro l' e; cases e
  | bar _ _ => intro l' e; cases e
  | five _ _ _ k => intro l' e; cases e
  | @step a ls l p o h hb h16 k r ih =>
    intro lz e hc hl
    have hlt : a + 1 < s.size := bt_lt.1 (by omega)
    obtain ⟨⟨m5, f1, f2, f3⟩, h3, h4⟩ := k.told l p rfl (by omega)
    rw [List.nil_append] at f1
    subst f1
    have h5 := k.five l p rfl
    obtain ⟨⟨m, e1, e2, e3⟩, hz⟩ := ih lz e h4 (by rw [List.length_append]; show ls.length + 1 ≤ 16; omega)
    refine ⟨⟨l :: m, by rw [e1]; simp, ?_, ?_⟩, hz⟩
    · intro q hq
      rcases List.mem_cons.1 hq with rfl | hq
      · exact ⟨h5, f2⟩
      · exact e2 q hq
    · rw [ex_cat s (show a ≤ a + 1 by omega) (show a + 1 ≤ s.size by omega), ex_one 32 h, ex_cat s (show a + 1 ≤ a + 2 by omega) (show a + 2 ≤ s.size by omega), ex_one 124 hb, ex_cat s (show a + 2 ≤ p by omega) h4, f3, e3]
      show _ = ([32, 124] ++ frontT l) ++ secT m
      simp
/-- Five cells, as many of them filled as there are numbers. -/
def fiveC (l : List (Nat × Nat)) : Array Value := (cxL l ++ List.replicate (5 - l.length) (Value.complex .f64 0 0)).toArray
theorem fiveC_at {l : List (Nat × Nat)} (h : l.length < 5) : (fiveC l)[l.length]? = some (.complex .f64 0 0) := by
  unfold fiveC
  rw [List.getElem?_toArray, List.getElem?_append_right (by rw [cxL_len]; exact Nat.le_refl _), cxL_len, Nat.sub_self, List.getElem?_replicate]
  rw [if_pos (by omega)]
theorem fiveC_put {l : List (Nat × Nat)} (h : l.length < 5) (x y : Nat) : (fiveC l).setIfInBounds l.length (.complex .f64 x y) = fiveC (l ++ [(x, y)]) := by
  unfold fiveC
  rw [List.setIfInBounds_toArray, List.set_append_right _ _ (by rw [cxL_len]; exact Nat.le_refl _), cxL_len, Nat.sub_self, cxL_app, List.length_append]
  obtain ⟨n, hn⟩ : ∃ n, 5 - l.length = n + 1 := ⟨5 - l.length - 1, by omega⟩
  have hn2 : 5 - (l.length + [(x, y)].length) = n := by show 5 - (l.length + 1) = n; omega
  rw [hn, hn2, List.replicate_succ, List.set_cons_zero, List.append_assoc]
  rfl
theorem list5 {l : List (Nat × Nat)} (h : l.length = 5) : ∃ x0 y0 x1 y1 x2 y2 x3 y3 x4 y4, l = [(x0, y0), (x1, y1), (x2, y2), (x3, y3), (x4, y4)] := by
  match l, h with
  | [(x0, y0), (x1, y1), (x2, y2), (x3, y3), (x4, y4)], _ => exact ⟨x0, y0, x1, y1, x2, y2, x3, y3, x4, y4, rfl⟩
/-- A row of sections of one's own. -/
def OwS (B : Nat) (w : World) (v : Value) (ls : List (List (Nat × Nat))) : Prop := w.ownsRow B 76 5 v ls.length (cxL ls.flatten)
theorem OwS.none (B : Nat) (w : World) : OwS B w (.slice none 0 0) [] := World.ownsRow_nil _ _ _ _
theorem OwS.but {B : Nat} {w w' : World} {v : Value} {l : List (List (Nat × Nat))} {O : Nat → Prop} (h : OwS B w v l) (hb : But O w w') (hO : ∀ k, B ≤ k → ¬ O k) : OwS B w' v l :=
  ⟨h.1, h.2.imp id fun ⟨g, cap, cur, h1, h2, h3, h4⟩ => ⟨g, cap, cur, h1, h2, by rw [hb.block g (Array.getElem?_eq_some_iff.1 h3).1 (hO g h2)]; exact h3, h4⟩⟩
theorem OwS.shape {B : Nat} {w : World} {v : Value} {l : List (List (Nat × Nat))} (h : OwS B w v l) : ∃ ad cap, v = .slice ad l.length cap := by
  rcases h.2 with ⟨rfl, h0⟩ | ⟨g, cap, cur, rfl, _⟩
  · exact ⟨Option.none, 0, by rw [h0]⟩
  · exact ⟨_, _, rfl⟩
theorem OwS.lower {B B' : Nat} {w : World} {v : Value} {l : List (List (Nat × Nat))} (h : OwS B w v l) (hB : B' ≤ B) : OwS B' w v l :=
  ⟨h.1, h.2.imp id fun ⟨g, cap, cur, h1, h2, h3⟩ => ⟨g, cap, cur, h1, Nat.le_trans hB h2, h3⟩⟩
theorem info_sec : (Tryz.prog.info? 76).map (fun i => (i.zero, i.size, i.bytes)) = some (some (.agg #[.complex .f64 0 0, .complex .f64 0 0, .complex .f64 0 0, .complex .f64 0 0, .complex .f64 0 0]), 5, 80) := by kernel_rfl
theorem infoSection : (Tryz.prog.info? 76).map (·.size) = some 5 := by kernel_rfl
theorem OwS.app {B : Nat} {w : World} {ops : Array Oper} {rest : List Oper} {o : Oper} {a : Act} {Q : Exit → Act → World → Prop} (hgd : o.guard = Option.none) (sl x : Operand)
    (ho : o.op = .call { callee := .builtin .append, args := #[sl, x], argTypes := #[36, 36] }) (v : Value) (ls : List (List (Nat × Nat))) (hs : a.eval sl = v) (hown : OwS B w v ls) (A : Nat) (l : List (Nat × Nat)) (hl5 : l.length = 5) (hx : a.eval x = .slice (some ⟨A, 0, Option.none⟩) 1 1)
    (hc : Blk w A (cxL l).toArray 76) (hl : ls.length ≤ 100) (hB : B ≤ w.heap.size)
    (h : ∀ v' w', OwS B w' v' (ls ++ [l]) → But (fun k => B ≤ k) w w' → wpList Tryz.prog ops Q rest (a.put o.dst v') w') : wpList Tryz.prog ops Q (o :: rest) a w := by
  obtain ⟨i0, hi, hz0, hz1, hz2⟩ := info_parts info_sec
  refine wpList_append_own w hgd sl x 36 ho B 76 i0 _ 5 80 Tryz.underlying36 hi hz0 hz1 hz2 rfl (by decide) v _ _ hs hown ⟨A, 0, Option.none⟩ 1 1 (cxL l) hx (by rw [cxL_len, hl5]) ?_ ?_ (by unfold maxLen; omega) (by omega) hB fun v' w' h2 h3 _ => ?_
  · intro j u hj
    rw [Addr.add_lit, Nat.zero_add]
    exact hc.cell j (by rw [List.getElem?_toArray]; exact hj)
  · intro u hu
    unfold cxL at hu
    rw [List.mem_map] at hu
    obtain ⟨p, _, rfl⟩ := hu
    rfl
  · refine h v' w' ?_ ⟨h3.os, h3.tape, h3.output, h3.size, fun k hk hn => h3.block k hk (fun e => hn (hown.lt k e.symm).1)⟩
    show w'.ownsRow _ _ _ _ _ _
    rw [List.flatten_append, cxL_app, List.length_append, List.flatten_singleton]; exact h2
end Go.Proofs.YtbkjmnopljmanaaGreatDoor

/- section of a text's reader. -/
namespace Go.Proofs.YtbkjmnopljmanaaGreatDoor
open Go.RowKit

def FPost (w : World) (b : Nat) (s : ByteArray) : ZEnd → Ending → World → Prop
  | .bad er q, e, w' => e = .panicked (pan q er) ∧ But (fun k => k = b) w w'
  | .ok l p, e, w' => e = .returned (.agg (cxL l).toArray) ∧ RdAt w' b s p ∧ But (fun k => k = b) w w'
theorem run_results_s {w : World} {tmps : Array Value} {b : Nat} {c0 c1 c2 c3 c4 : Value} (h2 : tmps.getD 2 undef = .pointer (some ⟨b, 0, none⟩)) (hr : Blk w b #[c0, c1, c2, c3, c4] 76) :
    (results Tryz.f52 tmps).run Tryz.prog w = .ok (.agg #[c0, c1, c2, c3, c4]) w := by
  have hl := run_loadVar_mid (P := Tryz.prog) w b 0 76 [c0, c1, c2, c3, c4] _ hr.range Tryz.underlying76 rfl infoSection
  rw [Array.getD_eq_getD_getElem?] at h2
  simp [results, h2, asAddr, hl]
theorem sec_alloc (w : World) : ∀ W, W = (w.alloc (.cells #[.complex .f64 0 0, .complex .f64 0 0, .complex .f64 0 0, .complex .f64 0 0, .complex .f64 0 0] 76)).alloc (.cells #[.complex .f64 0 0, .complex .f64 0 0, .complex .f64 0 0, .complex .f64 0 0, .complex .f64 0 0] 74) →
    Below w.heap.size w W ∧ Blk W w.heap.size #[.complex .f64 0 0, .complex .f64 0 0, .complex .f64 0 0, .complex .f64 0 0, .complex .f64 0 0] 76 ∧ Blk W (w.heap.size + 1) (fiveC []) 74 ∧ W.heap.size = w.heap.size + 1 + 1 := by
  rintro W rfl
  have h1 := alloc_size w (.cells #[.complex .f64 0 0, .complex .f64 0 0, .complex .f64 0 0, .complex .f64 0 0, .complex .f64 0 0] 76)
  refine ⟨((Below.refl _ _).alloc (Nat.le_refl _) _).alloc (by omega) _, Blk.alloc.below ((Below.refl _ _).alloc (Nat.le_refl _) _) (by omega), ?_, by rw [alloc_size, h1]⟩
  rw [← h1]; exact Blk.alloc
set_option maxRecDepth 100000 in
set_option maxHeartbeats 2000000 in
theorem section_any {B b a0 : Nat} {s : ByteArray} {o : ZEnd} (hB : B ≤ b) (hF : Fv s a0 [] o) (w : World) (hr : RdAt w b s a0) (hG : Gl B w) :
    Calls Tryz.prog 52 #[.pointer (some ⟨b, 0, none⟩)] w (FPost w b s o) := by
  obtain ⟨W, hW⟩ : ∃ W, W = (w.alloc (.cells #[.complex .f64 0 0, .complex .f64 0 0, .complex .f64 0 0, .complex .f64 0 0, .complex .f64 0 0] 76)).alloc (.cells #[.complex .f64 0 0, .complex .f64 0 0, .complex .f64 0 0, .complex .f64 0 0, .complex .f64 0 0] 74) := ⟨_, rfl⟩
  obtain ⟨hb, hR0, hA0, hsz0⟩ := sec_alloc w W hW
  have hlt := hr.1.lt
  have HG := hide (hG.on (hb.mono (by omega)))
  have HR := hide (hr.low hb)
  have HB := hide hb
  have EW := hide hW
  have HF := hide hF
  have KR := hide hR0
  have KA := hide hA0
  have hsc := run_store_c
  clear hW hb hr hG hF hR0 hA0
  go_enter Tryz.func52, Tryz.ntmps52
  go_wp2_with fail
  rw [← unhide EW]
  go_loopw [5] (fun i wr => ∃ (a : Nat) (l : List (Nat × Nat)), i = .int .i64 l.length ∧ l.length ≤ 5 ∧ Fv s a l o ∧ RdAt wr b s a ∧ Gl B wr ∧ Blk wr (w.heap.size + 1) (fiveC l) 74 ∧ But (fun k => k = b ∨ k = w.heap.size + 1) W wr) (fun i _ => 5 - (intOf i).toNat)
  case atStart => exact ⟨a0, [], rfl, by decide, unhide HF, unhide HR, unhide HG, unhide KA, But.refl _ _⟩
  case round =>
    obtain ⟨a, l, rfl, hl, hz, hr, hg, hA, hb⟩ := hrel
    have Hr := hide hr
    have Hg := hide hg
    have HA := hide hA
    have Hb := hide hb
    have hszr := hb.size
    have hW3 : Hid (∀ wr', But (fun k => k = b ∨ k = w.heap.size + 1) W wr' → But (fun k => k = b) w wr') := fun wr' h =>
      ((But.low (O := fun k => k = b) (unhide HB)).fresh2 h (fun k hk e => by rcases e with e | e; exact e; omega))
    clear hr hg hA hb
    cases hz with
    | done h5 =>
      obtain ⟨x0, y0, x1, y1, x2, y2, x3, y3, x4, y4, rfl⟩ := list5 h5
      have HA' : Blk wr (w.heap.size + 1) #[.complex .f64 x0 y0, .complex .f64 x1 y1, .complex .f64 x2 y2, .complex .f64 x3 y3, .complex .f64 x4 y4] 74 := unhide HA
      have k0 := HA'.cell 0 (v := .complex .f64 x0 y0) rfl
      have k1 := HA'.cell 1 (v := .complex .f64 x1 y1) rfl
      have k2 := HA'.cell 2 (v := .complex .f64 x2 y2) rfl
      have k3 := HA'.cell 3 (v := .complex .f64 x3 y3) rfl
      have k4 := HA'.cell 4 (v := .complex .f64 x4 y4) rfl
      have hR := (unhide KR).but (unhide Hb) (by omega)
      have r0 := hR.cell 0 (v := .complex .f64 0 0) rfl
      have r1 := hR.cell 1 (v := .complex .f64 0 0) rfl
      have r2 := hR.cell 2 (v := .complex .f64 0 0) rfl
      have r3 := hR.cell 3 (v := .complex .f64 0 0) rfl
      have r4 := hR.cell 4 (v := .complex .f64 0 0) rfl
      have f0 := hR.unfrozen 0
      have f1 := hR.unfrozen 1
      have f2 := hR.unfrozen 2
      have f3 := hR.unfrozen 3
      have f4 := hR.unfrozen 4
      have HR9 := hide hR
      clear hR HA'
      go_wp2_with fail
      have hN2 := (((((unhide HR9).put 0 (.complex .f64 x0 y0)).put 1 (.complex .f64 x1 y1)).put 2 (.complex .f64 x2 y2)).put 3 (.complex .f64 x3 y3)).put 4 (.complex .f64 x4 y4)
      have hset := ((((But.setCell (fun k => k = w.heap.size) wr ⟨w.heap.size, 0, none⟩ (.complex .f64 x0 y0) rfl).trans (But.setCell (fun k => k = w.heap.size) _ ⟨w.heap.size, 1, none⟩ (.complex .f64 x1 y1) rfl)).trans (But.setCell (fun k => k = w.heap.size) _ ⟨w.heap.size, 2, none⟩ (.complex .f64 x2 y2) rfl)).trans (But.setCell (fun k => k = w.heap.size) _ ⟨w.heap.size, 3, none⟩ (.complex .f64 x3 y3) rfl)).trans (But.setCell (fun k => k = w.heap.size) _ ⟨w.heap.size, 4, none⟩ (.complex .f64 x4 y4) rfl)
      refine bodyPost_ret (run_results_s rfl hN2) rfl ?_
      refine ⟨rfl, ⟨(unhide Hr).1.but hset (by omega), (unhide Hr).2⟩, ?_⟩
      exact (unhide hW3 _ (unhide Hb)).fresh2 hset (fun k hk e => by omega)
    | blank h5 hb32 =>
      have i1 : (l.length : Int) < 5 := by omega
      go_wp2_with (go_at_call 43; refine (must1_bad 32 (unhide Hr) hb32).mono ?_; rintro e w7 ⟨rfl, hb⟩; have B7 := hide ((unhide Hb).trans (hb.mono fun k e => .inl e)); clear hb)
      exact ⟨rfl, rfl, unhide hW3 _ (unhide B7)⟩
    | num h5 hb32 hN =>
      have i1 : (l.length : Int) < 5 := by omega
      have KN := hide (hN.prog B b hB)
      go_wp2_with (go_at_call 43; refine (must1_ok 32 (unhide Hr) hb32).mono ?_; rintro e w7 ⟨rfl, hr, hb⟩; have R7 := hide hr; have G7 := hide ((unhide Hg).but (unhide Hr) hB hb); have B7 := hide ((unhide Hb).trans (hb.mono fun k e => .inl e)); clear hr hb; refine Hid.out ?_)
      refine hide ?_
      go_wp2_with (go_at_call 44; refine (unhide KN _ (unhide R7) (unhide G7)).mono ?_; rintro e w8 ⟨rfl, hb⟩; have B8 := hide ((unhide B7).trans (hb.mono fun k e => .inl e)); clear hb)
      exact ⟨rfl, rfl, unhide hW3 _ (unhide B8)⟩
    | @step _ _ x y p2 _ h5 hb32 hN k =>
      have i1 : (l.length : Int) < 5 := by omega
      have i2 : ¬ (l.length : Int) < 0 := by omega
      have KN := hide (hN.prog B b hB)
      have hw1 : IntKind.i64.wrap ((l.length : Int) + 1) = (l.length : Int) + 1 := by simp [IntKind.wrap_i64]; omega
      go_wp2_with (go_at_call 43; refine (must1_ok 32 (unhide Hr) hb32).mono ?_; rintro e w7 ⟨rfl, hr, hb⟩; have R7 := hide hr; have G7 := hide ((unhide Hg).but (unhide Hr) hB hb); have A7 := hide ((unhide HA).but hb (by omega)); have B7 := hide ((unhide Hb).trans (hb.mono fun k e => .inl e)); clear hr hb; refine Hid.out ?_)
      refine hide ?_
      go_wp2_with (go_at_call 44; refine (unhide KN _ (unhide R7) (unhide G7)).mono ?_; rintro e w8 ⟨rfl, hr, hb⟩; have R8 := hide hr; have G8 := hide ((unhide G7).but (unhide R7) hB hb); have A8 := hide ((unhide A7).but hb (by omega)); have B8 := hide ((unhide B7).trans (hb.mono fun k e => .inl e)); clear hr hb; refine Hid.out ?_)
      refine hide ?_
      have c8 := (unhide A8).cell l.length (fiveC_at h5)
      have f8 := (unhide A8).unfrozen l.length
      go_wp2_with fail
      have hset := But.setCell (fun k => k = w.heap.size + 1) w8 ⟨w.heap.size + 1, l.length, none⟩ (.complex .f64 x y) rfl
      have hlt8 := (unhide R8).1.lt
      refine ⟨⟨p2, l ++ [(x, y)], ?_, ?_, k, (unhide R8).setOff (by omega), (unhide G8).on (hset.below (Below.refl B w8) (by omega) (fun k e => by omega)), ?_, (unhide B8).trans (hset.mono fun k e => .inr e)⟩, ?_⟩
      · rw [List.length_append]; rfl
      · rw [List.length_append]; show l.length + 1 ≤ 5; omega
      · rw [← fiveC_put h5]; exact (unhide A8).put l.length _
      · simp only [intOf]; omega
end Go.Proofs.YtbkjmnopljmanaaGreatDoor

/- filter of a text's reader. -/
namespace Go.Proofs.YtbkjmnopljmanaaGreatDoor
open Go.RowKit

theorem OwS.step_app {B : Nat} {w : World} {ops : Array Oper} {o : Oper} {a : Act} {K : Act → World → Prop} {Q : Exit → Act → World → Prop} {E : Prop} (hgd : o.guard = Option.none) (sl x : Operand)
    (ho : o.op = .call { callee := .builtin .append, args := #[sl, x], argTypes := #[36, 36] }) (v : Value) (ls : List (List (Nat × Nat))) (hs : a.eval sl = v) (hown : OwS B w v ls) (A : Nat) (l : List (Nat × Nat)) (hl5 : l.length = 5) (hx : a.eval x = .slice (some ⟨A, 0, Option.none⟩) 1 1)
    (hc : Blk w A (cxL l).toArray 76) (hl : ls.length ≤ 100) (hB : B ≤ w.heap.size)
    (h : ∀ v' w', OwS B w' v' (ls ++ [l]) → But (fun k => B ≤ k) w w' → K (a.put o.dst v') w') : if Region.wanted o (yielded ops a.tmps) = true then Oper.wp Tryz.prog o a w K Q else E := by
  have hw : Region.wanted o (yielded ops a.tmps) = true := by simp [Region.wanted, hgd]
  rw [if_pos hw]
  obtain ⟨i0, hi, hz0, hz1, hz2⟩ := info_parts info_sec
  refine wp_append_own w sl x 36 ho B 76 i0 _ 5 80 Tryz.underlying36 hi hz0 hz1 hz2 rfl (by decide) v _ _ hs hown ⟨A, 0, Option.none⟩ 1 1 (cxL l) hx (by rw [cxL_len, hl5]) ?_ ?_ (by unfold maxLen; omega) (by omega) hB fun v' w' h2 h3 _ => ?_
  · intro j u hj
    rw [Addr.add_lit, Nat.zero_add]
    exact hc.cell j (by rw [List.getElem?_toArray]; exact hj)
  · intro u hu
    unfold cxL at hu
    rw [List.mem_map] at hu
    obtain ⟨p, _, rfl⟩ := hu
    rfl
  · refine h v' w' ?_ ⟨h3.os, h3.tape, h3.output, h3.size, fun k hk hn => h3.block k hk (fun e => hn (hown.lt k e.symm).1)⟩
    show w'.ownsRow _ _ _ _ _ _
    rw [List.flatten_append, cxL_app, List.length_append, List.flatten_singleton]; exact h2
theorem section_from {B b a0 : Nat} {s : ByteArray} {o : ZEnd} (hB : B ≤ b) (hF : Fv s a0 [] o) (w : World) (hr : RdAt w b s a0) (hG : Gl B w) (W : World) (hs : Still w W) :
    Calls Tryz.prog 52 #[.pointer (some ⟨b, 0, none⟩)] W (FPost w b s o) :=
  (section_any hB hF W ⟨hr.1.but (But.still (O := fun _ => False) hs) (fun e => e), hr.2⟩ (hG.on (hs B))).mono fun e w' h => by
    cases o with
    | bad er q => exact ⟨h.1, (But.still hs).trans h.2⟩
    | ok l p => exact ⟨h.1, h.2.1, (But.still hs).trans h.2.2⟩
/-- A way that ends by a panic within a drawn region: nothing of the region is left. -/
theorem ends_here {G : Prop} (w : World) (a : Act) (h : G) : wpAny Tryz.prog .any #[] (fun _ _ _ => True) 0 #[] a w → G := fun _ => h
def SPost (w : World) (b : Nat) (s : ByteArray) (gx gy : Nat) : SEnd → Ending → World → Prop
  | .bad er q, e, w' => e = .panicked (pan q er) ∧ But (fun k => k = b) w w'
  | .ok ls, e, w' => ∃ v, e = .returned (.agg #[.complex .f64 gx gy, v]) ∧ RdAt w' b s s.size ∧ OwS w.heap.size w' v ls ∧ But (fun k => k = b) w w'
theorem fil_alloc (w : World) : ∀ W, W = (w.alloc (.cells #[.complex .f64 0 0, .slice none 0 0] 38)).alloc (.cells #[.complex .f64 0 0, .slice none 0 0] 38) →
    Below w.heap.size w W ∧ Blk W w.heap.size #[.complex .f64 0 0, .slice none 0 0] 38 ∧ Blk W (w.heap.size + 1) #[.complex .f64 0 0, .slice none 0 0] 38 ∧ W.heap.size = w.heap.size + 1 + 1 := by
  rintro W rfl
  have h1 := alloc_size w (.cells #[.complex .f64 0 0, .slice none 0 0] 38)
  refine ⟨((Below.refl _ _).alloc (Nat.le_refl _) _).alloc (by omega) _, Blk.alloc.below ((Below.refl _ _).alloc (Nat.le_refl _) _) (by omega), ?_, by rw [alloc_size, h1]⟩
  rw [← h1]; exact Blk.alloc
set_option maxRecDepth 100000 in
theorem filter_num {B b er q : Nat} {s : ByteArray} (hB : B ≤ b) (hS : Stand s 0 ⟨#[102, 105, 108, 116, 101, 114, 32]⟩ (ByteArray.mk #[102, 105, 108, 116, 101, 114, 32]).size) (h : PNum B b s 7 (.bad er q)) (w : World) (hr : RdAt w b s 0) (hG : Gl B w) :
    Calls Tryz.prog 31 #[.pointer (some ⟨b, 0, none⟩)] w fun e w' => e = .panicked (pan q er) ∧ But (fun k => k = b) w w' := by
  obtain ⟨W, hW⟩ : ∃ W, W = (w.alloc (.cells #[.complex .f64 0 0, .slice none 0 0] 38)).alloc (.cells #[.complex .f64 0 0, .slice none 0 0] 38) := ⟨_, rfl⟩
  obtain ⟨hb, _, _, _⟩ := fil_alloc w W hW
  have hlt := hr.1.lt
  have HM := hide (must_ok (t := ⟨#[102, 105, 108, 116, 101, 114, 32]⟩) (hr.low hb) (by decide) hS)
  have HG := hide (hG.on (hb.mono (by omega)))
  have HR := hide (hr.low hb)
  have HB := hide hb
  have EW := hide hW
  have HN := hide h
  clear hW hb hr hS hG h
  go_enter Tryz.func31, Tryz.ntmps31
  go_wp2_with (go_at_call 43; rw [← unhide EW]; refine (unhide HM).mono ?_; rintro e w1 ⟨rfl, hr, hb⟩; have R1 := hide hr; have G1 := hide ((unhide HG).but (unhide HR) hB hb); have B1 := hide hb; clear hb hr; refine Hid.out ?_)
  refine hide ?_
  go_wp2_with (go_at_call 44; refine (unhide HN _ (unhide R1) (unhide G1)).mono ?_; rintro e w2 ⟨rfl, hb⟩; have B2 := hide ((unhide B1).trans hb); clear hb)
  exact ⟨rfl, rfl, (But.low (O := fun k => k = b) (unhide HB)).trans (unhide B2)⟩
theorem run_results_f {w : World} {tmps : Array Value} {b : Nat} {c0 c1 : Value} (h2 : tmps.getD 2 undef = .pointer (some ⟨b, 0, none⟩)) (hr : Blk w b #[c0, c1] 38) :
    (results Tryz.f31 tmps).run Tryz.prog w = .ok (.agg #[c0, c1]) w := by
  have hl := run_loadVar_mid (P := Tryz.prog) w b 0 38 [c0, c1] _ hr.range Tryz.underlying38 rfl infoFilter
  rw [Array.getD_eq_getD_getElem?] at h2
  simp [results, h2, asAddr, hl]
set_option maxRecDepth 100000 in
set_option maxHeartbeats 4000000 in
theorem filter_run {B b gx gy p1 : Nat} {s : ByteArray} {o : SEnd} (hB : B ≤ b) (hS : Stand s 0 ⟨#[102, 105, 108, 116, 101, 114, 32]⟩ (ByteArray.mk #[102, 105, 108, 116, 101, 114, 32]).size) (hN : PNum B b s 7 (.ok gx gy p1)) (hZ : Sc s p1 [] o) (w : World) (hr : RdAt w b s 0) (hG : Gl B w) :
    Calls Tryz.prog 31 #[.pointer (some ⟨b, 0, none⟩)] w (SPost w b s gx gy o) := by
  obtain ⟨W, hW⟩ : ∃ W, W = (w.alloc (.cells #[.complex .f64 0 0, .slice none 0 0] 38)).alloc (.cells #[.complex .f64 0 0, .slice none 0 0] 38) := ⟨_, rfl⟩
  obtain ⟨hb, hR0, hF0, hsz0⟩ := fil_alloc w W hW
  have hlt := hr.1.lt
  have HM := hide (must_ok (t := ⟨#[102, 105, 108, 116, 101, 114, 32]⟩) (hr.low hb) (by decide) hS)
  have HG := hide (hG.on (hb.mono (by omega)))
  have HR := hide (hr.low hb)
  have HB := hide hb
  have EW := hide hW
  have HN := hide hN
  have HZ := hide hZ
  have K0 := hide (And.intro hR0 (And.intro hF0 hsz0))
  have hsc := run_store_c
  clear hW hb hr hS hG hN hZ hR0 hF0 hsz0
  go_enter Tryz.func31, Tryz.ntmps31
  go_wp2_with (go_at_call 43; rw [← unhide EW]; refine (unhide HM).mono ?_; rintro e w1 ⟨rfl, hr, hb⟩; have R1 := hide hr; have G1 := hide ((unhide HG).but (unhide HR) hB hb); have B1 := hide hb; clear hb hr; refine Hid.out ?_)
  refine hide ?_
  go_wp2_with (go_at_call 44; refine (unhide HN _ (unhide R1) (unhide G1)).mono ?_; rintro e w2 ⟨rfl, hr, hb⟩; have R2 := hide hr; have G2 := hide ((unhide G1).but (unhide R1) hB hb); have B2 := hide ((unhide B1).trans hb); clear hb hr; refine Hid.out ?_)
  refine hide ?_
  have hF2 := (unhide K0).2.1.but (unhide B2) (by omega)
  have cF := hF2.cell 0 (v := .complex .f64 0 0) rfl
  have fF := hF2.unfrozen 0
  have hset2 := But.setCell (fun k => k = w.heap.size + 1) w2 ⟨w.heap.size + 1, 0, none⟩ (.complex .f64 gx gy) rfl
  have R2' := hide ((unhide R2).setOff (F := w.heap.size + 1) (i := 0) (v := .complex .f64 gx gy) (by omega))
  have HF2 := hide (hF2.put 0 (.complex .f64 gx gy))
  have hR2 := (unhide K0).1.but (unhide B2) (by omega)
  have hsW := (unhide K0).2.2
  have hB2s := (unhide B2).size
  have HR2 := hide (hR2.but hset2 (by omega))
  have B2' := hide ((unhide B2).mono (O' := fun k => k = b ∨ k = w.heap.size + 1) (fun k e => .inl e) |>.trans (hset2.mono fun k e => .inr e))
  have G2' := hide ((unhide G2).on (hset2.below (Below.refl B w2) (by omega) (fun k e => by omega)))
  clear hF2 hR2
  go_wp2_with fail
  obtain ⟨w3, hw3⟩ : ∃ w3, w3 = w2.setCell ⟨w.heap.size + 1, 0, none⟩ (.complex .f64 gx gy) := ⟨_, rfl⟩
  rw [← hw3] at R2' HF2 HR2 B2' G2' hset2 ⊢
  have hs3 := hset2.size
  have F3 : Hid (Blk w3 (w.heap.size + 1) #[.complex .f64 gx gy, .slice none 0 0] 38) := unhide HF2
  have hF3 := (unhide F3).lt
  have HW3 : Hid (∀ wr, But (fun k => k = b ∨ k = w.heap.size + 1) w3 wr → But (fun k => k = b) w wr) := fun wr h =>
    ((But.low (O := fun k => k = b) (unhide HB)).fresh2 (((unhide B2')).trans h) (fun k hk e => by rcases e with e | e; exact e; omega))
  clear HF2 R2 R1 B1 B2 cF fF HM HR EW G1 G2 HN hset2 hw3
  go_loopw [12] (fun _ wr => ∃ (a : Nat) (ls : List (List (Nat × Nat))) (v : Value), RdAt wr b s a ∧ Gl B wr ∧ Blk wr (w.heap.size + 1) #[.complex .f64 gx gy, v] 38 ∧ OwS w3.heap.size wr v ls ∧ ls.length ≤ 16 ∧ Sc s a ls o ∧ But (fun k => k = b ∨ k = w.heap.size + 1) w3 wr)
    (fun _ wr => s.size - (intOf ((wr.cell? ⟨b, 1, none⟩).getD undef)).toNat)
  case atStart => exact ⟨p1, [], _, unhide R2', unhide G2', unhide F3, OwS.none _ _, by decide, unhide HZ, But.refl _ _⟩
  case round =>
    obtain ⟨a, ls, v, hr, hg, hf, ho, hl, hz, hb⟩ := hrel
    obtain ⟨ad, cap, rfl⟩ := ho.shape
    have Hr := hide hr
    have Hg := hide hg
    have Hf := hide hf
    have Ho := hide ho
    have Hb := hide hb
    have hszr := hb.size
    have hc1 := hr.1.cell 1 (v := .int .i64 (a : Int)) rfl
    have has := hr.2.1
    have HE := ended_any hr
    clear hr hg hf ho hb
    cases hz with
    | done h =>
      rw [decide_eq_true h] at HE
      have HE := hide HE
      have hRr := (unhide HR2).but (unhide Hb) (by omega)
      have g0 := (unhide Hf).cell 0 (v := .complex .f64 gx gy) rfl
      have g1 := (unhide Hf).cell 1 (v := .slice ad ls.length cap) rfl
      have r0 := hRr.cell 0 (v := .complex .f64 0 0) rfl
      have r1 := hRr.cell 1 (v := .slice none 0 0) rfl
      have u0 := hRr.unfrozen 0
      have u1 := hRr.unfrozen 1
      have HRr := hide hRr
      clear hRr
      go_wp2_with (go_at_call 41; refine (unhide HE).mono ?_; rintro e w5 ⟨rfl, m, rfl⟩)
      have hD : Blk (wr.drewN m) w.heap.size #[.complex .f64 0 0, .slice none 0 0] 38 := unhide HRr
      have hN2 := (hD.put 0 (.complex .f64 gx gy)).put 1 (.slice ad ls.length cap)
      have hset := (But.setCell (fun k => k = w.heap.size) (wr.drewN m) ⟨w.heap.size, 0, none⟩ (.complex .f64 gx gy) rfl).trans (But.setCell (fun k => k = w.heap.size) _ ⟨w.heap.size, 1, none⟩ (.slice ad ls.length cap) rfl)
      have hRd : RdAt (wr.drewN m) b s a := unhide Hr
      have hOz : OwS w3.heap.size (wr.drewN m) (.slice ad ls.length cap) ls := unhide Ho
      refine bodyPost_ret (run_results_f rfl hN2) rfl ?_
      rw [h] at hRd
      refine ⟨_, rfl, ⟨hRd.1.but hset (by omega), hRd.2⟩, (hOz.but hset (fun k h1 h2 => by omega)).lower (by omega), ?_⟩
      exact ((unhide HW3 _ (unhide Hb)).trans (But.still (still_drewN _ m))).fresh2 hset (fun k hk e => by omega)
    | blank h hb32 =>
      rw [decide_eq_false (by omega)] at HE
      have HE := hide HE
      go_wp2_with (first | (go_at_call 41; refine (unhide HE).mono ?_; rintro e w5 ⟨rfl, m, rfl⟩) | (go_at_call 43; refine (must1_bad (w := wr.drewN m) 32 (unhide Hr) hb32).mono ?_; rintro e w7 ⟨rfl, hb⟩; have B7 := hide (((unhide Hb).trans (But.still (still_drewN _ m))).trans (hb.mono fun k e => .inl e)); clear hb))
      exact ⟨rfl, rfl, unhide HW3 _ (unhide B7)⟩
    | long h hb h16 =>
      have ha : a < s.size := bt_lt.1 (by omega)
      rw [decide_eq_false (by omega)] at HE
      have HE := hide HE
      go_wp2_with (first | (go_at_call 41; refine (unhide HE).mono ?_; rintro e w5 ⟨rfl, m, rfl⟩) | (go_at_call 43; refine (must1_ok (w := wr.drewN m) 32 (unhide Hr) h).mono ?_; rintro e w6 ⟨rfl, hr, hb⟩; have R6 := hide hr; have G6 := hide (Gl.but (w := wr.drewN m) ((unhide Hg).on ((still_drewN wr m) B)) (unhide Hr) hB hb); have F6 := hide (Blk.but (w := wr.drewN m) (unhide Hf) hb (by omega)); have O6 := hide (OwS.but (w := wr.drewN m) (unhide Ho) hb (fun k h1 h2 => by omega)); have B6 := hide (((unhide Hb).trans (But.still (still_drewN _ m))).trans (hb.mono fun k e => .inl e)); clear hr hb; refine Hid.out ?_))
      refine hide ?_
      have c6 := (unhide F6).cell 1 (v := .slice ad ls.length cap) rfl
      have d6 := (unhide R6).1.cell 1 (v := .int .i64 ((a + 1 : Nat) : Int)) rfl
      rw [h16] at c6
      have HS := sees_any (t := ⟨#[124]⟩) (unhide R6)
      rw [yes1 (c := 124) hb] at HS
      have HS := hide HS
      have HGu := hide (fun n : Nat => giveUp_any (.pointer (some ⟨b, 0, none⟩)) (a + 1) 2 (w6.drewN n))
      obtain ⟨a1, ha1⟩ : ∃ a1, a1 = a + 1 := ⟨_, rfl⟩
      rw [← ha1] at d6 HGu
      have HA1 := hide ha1
      clear ha1
      go_wp2_with (first
        | (go_at_call 50; refine (unhide HS).mono ?_; rintro e w7 ⟨rfl, m7, rfl⟩)
        | (go_at_call 51; refine (unhide HGu _).mono ?_; rintro e w8 ⟨rfl, hw'⟩; obtain rfl := hw'.symm))
      rw [← unhide HA1]
      exact ⟨rfl, rfl, unhide HW3 _ ((unhide B6).trans (But.still (still_drewN _ _)))⟩
    | bar h hb =>
      have ha : a < s.size := bt_lt.1 (by omega)
      rw [decide_eq_false (by omega)] at HE
      have HE := hide HE
      go_wp2_with (first | (go_at_call 41; refine (unhide HE).mono ?_; rintro e w5 ⟨rfl, m, rfl⟩) | (go_at_call 43; refine (must1_ok (w := wr.drewN m) 32 (unhide Hr) h).mono ?_; rintro e w6 ⟨rfl, hr, hb⟩; have R6 := hide hr; have G6 := hide (Gl.but (w := wr.drewN m) ((unhide Hg).on ((still_drewN wr m) B)) (unhide Hr) hB hb); have F6 := hide (Blk.but (w := wr.drewN m) (unhide Hf) hb (by omega)); have O6 := hide (OwS.but (w := wr.drewN m) (unhide Ho) hb (fun k h1 h2 => by omega)); have B6 := hide (((unhide Hb).trans (But.still (still_drewN _ m))).trans (hb.mono fun k e => .inl e)); clear hr hb; refine Hid.out ?_))
      refine hide ?_
      have c6 := (unhide F6).cell 1 (v := .slice ad ls.length cap) rfl
      have d6 := (unhide R6).1.cell 1 (v := .int .i64 ((a + 1 : Nat) : Int)) rfl
      by_cases h16 : ls.length = 16
      · rw [h16] at c6
        have HS := sees_any (t := ⟨#[124]⟩) (unhide R6)
        rw [no1 (c := 124) hb] at HS
        have HS := hide HS
        go_wp2_with (first
          | (go_at_call 50; refine (unhide HS).mono ?_; rintro e w7 ⟨rfl, m7, rfl⟩)
          | (go_at_call 43; refine (must1_bad (w := w6.drewN m7) 124 (unhide R6) hb).mono ?_; rintro e w8 ⟨rfl, hb⟩; have B8 := hide (((unhide B6).trans (But.still (still_drewN _ m7))).trans (hb.mono fun k e => .inl e)); clear hb))
        exact ⟨rfl, rfl, unhide HW3 _ (unhide B8)⟩
      · have n16 : ((ls.length : Int) == 16) = false := by rw [beq_eq_false_iff_ne]; omega
        go_wp2_with (go_at_call 43; refine (must1_bad 124 (unhide R6) hb).mono ?_; rintro e w8 ⟨rfl, hb⟩; have B8 := hide ((unhide B6).trans (hb.mono fun k e => .inl e)); clear hb)
        exact ⟨rfl, rfl, unhide HW3 _ (unhide B8)⟩
    | five h hb h16 k =>
      have ha : a < s.size := bt_lt.1 (by omega)
      rw [decide_eq_false (by omega)] at HE
      have HE := hide HE
      go_wp2_with (first | (go_at_call 41; refine (unhide HE).mono ?_; rintro e w5 ⟨rfl, m, rfl⟩) | (go_at_call 43; refine (must1_ok (w := wr.drewN m) 32 (unhide Hr) h).mono ?_; rintro e w6 ⟨rfl, hr, hb⟩; have R6 := hide hr; have G6 := hide (Gl.but (w := wr.drewN m) ((unhide Hg).on ((still_drewN wr m) B)) (unhide Hr) hB hb); have F6 := hide (Blk.but (w := wr.drewN m) (unhide Hf) hb (by omega)); have O6 := hide (OwS.but (w := wr.drewN m) (unhide Ho) hb (fun k h1 h2 => by omega)); have B6 := hide (((unhide Hb).trans (But.still (still_drewN _ m))).trans (hb.mono fun k e => .inl e)); clear hr hb; refine Hid.out ?_))
      refine hide ?_
      have c6 := (unhide F6).cell 1 (v := .slice ad ls.length cap) rfl
      have d6 := (unhide R6).1.cell 1 (v := .int .i64 ((a + 1 : Nat) : Int)) rfl
      have n16 : ((ls.length : Int) == 16) = false := by rw [beq_eq_false_iff_ne]; omega
      go_wp2_with (go_at_call 43; refine (must1_ok 124 (unhide R6) hb).mono ?_; rintro e w7 ⟨rfl, hr, hb⟩; have R7 := hide hr; have G7 := hide ((unhide G6).but (unhide R6) hB hb); have F7 := hide ((unhide F6).but hb (by omega)); have O7 := hide ((unhide O6).but hb (fun k h1 h2 => by omega)); have B7 := hide ((unhide B6).trans (hb.mono fun k e => .inl e)); clear hr hb; refine Hid.out ?_)
      refine hide ?_
      have c7 := (unhide F7).cell 1 (v := .slice ad ls.length cap) rfl
      have KS := hide (section_from hB k _ (unhide R7) (unhide G7))
      go_wp2_with fail
      go_region_with (go_at_call 52; refine (unhide KS _ (by first | exact Still.refl _ | exact still_drew _ | exact (still_drew _).trans (still_drew _) | exact ((still_drew _).trans (still_drew _)).trans (still_drew _) | exact (((still_drew _).trans (still_drew _)).trans (still_drew _)).trans (still_drew _))).mono ?_; rintro e w8 ⟨rfl, hb⟩; have B8 := hide ((unhide B7).trans (hb.mono fun k e => .inl e)); clear hb; change bodyPost Tryz.prog Tryz.f31 (SPost w b s gx gy _) (Exit.panic _) _ _; refine ends_here w8 { tmps := #[], defers := [] } ⟨rfl, rfl, unhide HW3 _ (unhide B8)⟩ ?_)
      all_goals trivial
    | @step _ _ l p2 _ h hb h16 k r =>
      have ha : a < s.size := bt_lt.1 (by omega)
      rw [decide_eq_false (by omega)] at HE
      have HE := hide HE
      go_wp2_with (first | (go_at_call 41; refine (unhide HE).mono ?_; rintro e w5 ⟨rfl, m, rfl⟩) | (go_at_call 43; refine (must1_ok (w := wr.drewN m) 32 (unhide Hr) h).mono ?_; rintro e w6 ⟨rfl, hr, hb⟩; have R6 := hide hr; have G6 := hide (Gl.but (w := wr.drewN m) ((unhide Hg).on ((still_drewN wr m) B)) (unhide Hr) hB hb); have F6 := hide (Blk.but (w := wr.drewN m) (unhide Hf) hb (by omega)); have O6 := hide (OwS.but (w := wr.drewN m) (unhide Ho) hb (fun k h1 h2 => by omega)); have B6 := hide (((unhide Hb).trans (But.still (still_drewN _ m))).trans (hb.mono fun k e => .inl e)); clear hr hb; refine Hid.out ?_))
      refine hide ?_
      have c6 := (unhide F6).cell 1 (v := .slice ad ls.length cap) rfl
      have d6 := (unhide R6).1.cell 1 (v := .int .i64 ((a + 1 : Nat) : Int)) rfl
      have n16 : ((ls.length : Int) == 16) = false := by rw [beq_eq_false_iff_ne]; omega
      go_wp2_with (go_at_call 43; refine (must1_ok 124 (unhide R6) hb).mono ?_; rintro e w7 ⟨rfl, hr, hb⟩; have R7 := hide hr; have G7 := hide ((unhide G6).but (unhide R6) hB hb); have F7 := hide ((unhide F6).but hb (by omega)); have O7 := hide ((unhide O6).but hb (fun k h1 h2 => by omega)); have B7 := hide ((unhide B6).trans (hb.mono fun k e => .inl e)); clear hr hb; refine Hid.out ?_)
      refine hide ?_
      have c7 := (unhide F7).cell 1 (v := .slice ad ls.length cap) rfl
      have h5 := k.five l p2 rfl
      have hp2 := (k.told l p2 rfl (unhide R7).2.1).2
      obtain ⟨x0, y0, x1, y1, x2, y2, x3, y3, x4, y4, rfl⟩ := list5 h5
      have KS : Hid (∀ W, Still w7 W → Calls Tryz.prog 52 #[.pointer (some ⟨b, 0, none⟩)] W fun e w' => e = .returned (.agg #[.complex .f64 x0 y0, .complex .f64 x1 y1, .complex .f64 x2 y2, .complex .f64 x3 y3, .complex .f64 x4 y4]) ∧ RdAt w' b s p2 ∧ But (fun k => k = b) w7 w') := section_from hB k _ (unhide R7) (unhide G7)
      go_wp2_with fail
      go_region_law (first
        | (go_simp; go_at_call 52; refine (unhide KS _ (by first | exact Still.refl _ | exact still_drew _ | exact (still_drew _).trans (still_drew _) | exact ((still_drew _).trans (still_drew _)).trans (still_drew _) | exact (((still_drew _).trans (still_drew _)).trans (still_drew _)).trans (still_drew _))).mono ?_; rintro e w8 ⟨rfl, hr, hb⟩; have R8 := hide hr; have G8 := hide ((unhide G7).but (unhide R7) hB hb); have F8 := hide ((unhide F7).but hb (by omega)); have O8 := hide ((unhide O7).but hb (fun k h1 h2 => by omega)); have B8 := hide ((unhide B7).trans (hb.mono fun k e => .inl e)); have c8 := (unhide F8).cell 1 (v := .slice ad ls.length cap) rfl; have hal : Below w8.heap.size w8 (w8.alloc (.cells #[.complex .f64 x0 y0, .complex .f64 x1 y1, .complex .f64 x2 y2, .complex .f64 x3 y3, .complex .f64 x4 y4] 76)) := (Below.refl _ _).alloc (Nat.le_refl _) _; have F8a := hide ((unhide F8).below hal (unhide F8).lt); have O8a := hide ((unhide O8).but (But.low (O := fun _ => False) hal) (fun _ _ h => h)); have c8a := (unhide F8a).cell 1 (v := .slice ad ls.length cap) rfl; have HAL := hide hal; clear hal; clear hr hb; dsimp only)
        | (refine OwS.step_app rfl _ _ rfl _ ls rfl (unhide O8a) w8.heap.size [(x0, y0), (x1, y1), (x2, y2), (x3, y3), (x4, y4)] rfl rfl Blk.alloc (by omega) (by rw [alloc_size]; have := (unhide B8).size; omega) ?_; intro v9 w9 h1 h2; have O9 := hide h1; have B9 := hide h2; have F9 := hide ((unhide F8a).but h2 (by omega)); clear h1 h2; obtain ⟨ad9, cap9, e9⟩ := (unhide O9).shape; obtain ⟨n9, hn9⟩ : ∃ n9, n9 = (ls ++ [[(x0, y0), (x1, y1), (x2, y2), (x3, y3), (x4, y4)]]).length := ⟨_, rfl⟩; rw [← hn9] at e9; subst e9; clear hn9; have c9 := (unhide F9).cell 1 (v := .slice ad ls.length cap) rfl; have f9 := (unhide F9).unfrozen 1))
      all_goals go_wp2_with fail
      all_goals
        have hal := unhide HAL
        have hs8 := (unhide B8).size
        have hal8 := hal.size
        have R9 : Hid (RdAt w9 b s p2) := ⟨((unhide R8).1.below hal (unhide R8).1.lt).but (unhide B9) (by omega), (unhide R8).2⟩
        have B9' := hide (((unhide B8).trans (But.low hal)).fresh2 (unhide B9) (fun k hk e => by omega))
        have G9 := hide ((unhide G8).on ((hal.mono (by omega)).trans ((unhide B9).below (Below.refl B _) (by omega) (fun k e => by omega))))
        have hset := But.setCell (fun k => k = w.heap.size + 1) w9 ⟨w.heap.size + 1, 1, none⟩ (.slice ad9 n9 cap9) rfl
        have hs9 := (unhide B9).size
        refine ⟨⟨p2, ls ++ [[(x0, y0), (x1, y1), (x2, y2), (x3, y3), (x4, y4)]], .slice ad9 n9 cap9, (unhide R9).setOff (by omega), (unhide G9).on (hset.below (Below.refl B w9) (by omega) (fun k e => by omega)), (unhide F9).put 1 (.slice ad9 n9 cap9), (unhide O9).but hset (fun k h1 h2 => by omega), ?_, r, (unhide B9').trans (hset.mono fun k e => .inr e)⟩, ?_⟩
        · rw [List.length_append]; show ls.length + 1 ≤ 16; omega
        · rw [hc1, ((unhide R9).setOff (F := w.heap.size + 1) (i := 1) (v := .slice ad9 n9 cap9) (by omega)).1.cell 1 (v := .int .i64 (p2 : Int)) rfl]
          simp only [Option.getD_some, intOf]
          omega
end Go.Proofs.YtbkjmnopljmanaaGreatDoor

/- ReadFilter where a filter is read. -/
namespace Go.Proofs.YtbkjmnopljmanaaGreatDoor
open Go.RowKit

set_option maxRecDepth 100000 in
theorem rule_okFilter {b A0 gx gy : Nat} {s : ByteArray} {ls : List (List (Nat × Nat))} (hne : A0 ≠ b) (w : World) (hA : Blk w A0 #[.complex .f64 0 0, .slice none 0 0] 38)
    (H : Calls Tryz.prog 31 #[.pointer (some ⟨b, 0, none⟩)] w (SPost w b s gx gy (.ok ls))) :
    Calls Tryz.prog 30 #[.pointer (some ⟨b, 0, none⟩), .pointer (some ⟨A0, 0, none⟩)] w fun e w' => ∃ v, e = .returned (.tuple #[]) ∧ RdAt w' b s s.size ∧ Blk w' A0 #[.complex .f64 gx gy, v] 38 ∧ OwS w.heap.size w' v ls ∧ But (fun k => k = b ∨ k = A0) w w' := by
  have HN := hide H
  have HA := hide hA
  have hlA := hA.lt
  have hsc := run_store_c
  clear H hA
  go_enter Tryz.func30, Tryz.ntmps30
  go_wp2_with (go_at_call 31; refine (unhide HN).mono ?_; rintro e w1 ⟨v, rfl, hr, hz, hb⟩; obtain ⟨ad1, cap1, rfl⟩ := hz.shape; have R1 := hide hr; have B1 := hide hb; have OZ := hide hz; have hA1 := (unhide HA).but hb hne; have m0 := hA1.cell 0 (v := .complex .f64 0 0) rfl; have m1 := hA1.cell 1 (v := .slice none 0 0) rfl; have f0 := hA1.unfrozen 0; have f1 := hA1.unfrozen 1; have HA1 := hide hA1; clear hr hb hA1 hz)
  go_end0
  have hN2 := ((unhide HA1).put 0 (.complex .f64 gx gy)).put 1 (.slice ad1 ls.length cap1)
  have hset := (But.setCell (fun k => k = A0) w1 ⟨A0, 0, none⟩ (.complex .f64 gx gy) rfl).trans (But.setCell (fun k => k = A0) _ ⟨A0, 1, none⟩ (.slice ad1 ls.length cap1) rfl)
  refine ⟨_, rfl, ⟨(unhide R1).1.but hset (fun e => hne e.symm), (unhide R1).2⟩, hN2, (unhide OZ).but hset (fun k h1 h2 => by omega), ?_⟩
  exact ((unhide B1).mono fun k e => .inl e).trans (hset.mono fun k e => .inr e)
set_option maxRecDepth 100000 in
set_option maxHeartbeats 2000000 in
theorem whole_okFilter {B b A0 gx gy : Nat} {s : ByteArray} {ls : List (List (Nat × Nat))} (w : World) (hr : RdAt w b s 0) (hG : Gl B w) (hB : B ≤ b) (hA : Blk w A0 #[.complex .f64 0 0, .slice none 0 0] 38)
    (h : ∀ W, RdAt W b s 0 → Gl B W → Blk W A0 #[.complex .f64 0 0, .slice none 0 0] 38 → Calls Tryz.prog 30 #[.pointer (some ⟨b, 0, none⟩), .pointer (some ⟨A0, 0, none⟩)] W fun e w' => ∃ v, e = .returned (.tuple #[]) ∧ RdAt w' b s s.size ∧ Blk w' A0 #[.complex .f64 gx gy, v] 38 ∧ OwS W.heap.size w' v ls ∧ But (fun k => k = b ∨ k = A0) W w') :
    Calls Tryz.prog 18 #[.pointer (some ⟨b, 0, none⟩), .func (.func 30) #[] #[.pointer (some ⟨b, 0, none⟩), .pointer (some ⟨A0, 0, none⟩)]] w fun e w' => ∃ v, e = .returned (.tuple #[.int .i64 0, .int .i64 0]) ∧ Blk w' A0 #[.complex .f64 gx gy, v] 38 ∧ OwS w.heap.size w' v ls ∧ But (fun k => k = b ∨ k = A0) w w' := by
  have hmf := makeFunc_run
  have hlt := hr.1.lt
  have hlA := hA.lt
  have h9 : ¬ (65536 : Int) < (s.size : Int) := by have := hr.2.2; omega
  have c0 := hr.1.cell 0 (v := .string s) rfl
  obtain ⟨hWb, hP, hQ⟩ := two_alloc w
  have hszW := hQ.lt
  have HR := hide (h _ (hr.low hWb) (hG.on (hWb.mono (by omega))) (hA.below hWb hlA))
  have K := hide (And.intro hWb (And.intro hP hQ))
  clear hWb hP hQ h hr hG hA
  go_enter_defers Tryz.func18, Tryz.ntmps18
  go_wp2_with (first
    | (go_at_call 30; refine (unhide HR).mono ?_; rintro e w1 ⟨v, rfl, hr, hA, hz, hb⟩; have OZ := hide hz; have HA1 := hide hA; have B1 := hide hb; have HE := hide (ended_any hr); rw [decide_eq_true rfl] at HE; have hP1 := (unhide K).2.1.but hb (by omega); have hQ1 := (unhide K).2.2.but hb (by omega); have e1 := hP1.cell 0 (v := .int .i64 0) rfl; have e2 := hQ1.cell 0 (v := .int .i64 0) rfl; have f1 := hP1.unfrozen 0; have f2 := hQ1.unfrozen 0; have HP1 := hide hP1; have HQ1 := hide hQ1; clear hr hA hb hP1 hQ1 hz)
    | (go_at_call 41; refine (unhide HE).mono ?_; rintro e w2 ⟨rfl, m, rfl⟩))
  obtain ⟨T1, T2, T3⟩ := two_put0 (W := w1.drewN m) (.int .i64 0) (.int .i64 0) (show w.heap.size ≠ w.heap.size + 1 by omega) (unhide HP1) (unhide HQ1)
  have hB1 := (((But.low (O := fun k => k = b ∨ k = A0) (unhide K).1).trans (unhide B1)).trans (But.still (still_drewN _ m))).fresh T3 (fun k e => by omega)
  have hA9 := Blk.but (w := w1.drewN m) (unhide HA1) T3 (by omega)
  have hZ9 := OwS.but (w := w1.drewN m) (unhide OZ) T3 (fun k h1 h2 => by omega)
  generalize ((w1.drewN m).setCell ⟨w.heap.size, 0, none⟩ (.int .i64 0)).setCell ⟨w.heap.size + 1, 0, none⟩ (.int .i64 0) = W9 at *
  have hsz9 := (unhide K).1.size
  clear HR B1 HE e1 e2 f1 f2 OZ
  refine leaves_cons (f := 40) (args := #[.pointer (some ⟨w.heap.size, 0, none⟩), .pointer (some ⟨w.heap.size + 1, 0, none⟩)]) (by simp) (by simp [go_sem]) ?_
  refine (catch_idle _ _ W9).mono ?_
  rintro e u' w2 ⟨rfl, rfl, hw2⟩
  have hbl : Below W9.heap.size W9 w2 := by rw [hw2]; exact (Below.refl _ _).alloc (Nat.le_refl _) _
  clear hw2
  have d1 := (T1.below hbl T1.lt).cell 0 (v := .int .i64 0) rfl
  have d2 := (T2.below hbl T2.lt).cell 0 (v := .int .i64 0) rfl
  have R1 := hA9.below hbl hA9.lt
  have R2 := hB1.trans (But.low hbl)
  have R3 := (hZ9.but (But.low (O := fun _ => False) hbl) (fun _ _ h => h)).lower hsz9
  simp [Leaves, settle, results, Tryz.results18, go_sem, d1, d2]
  exact ⟨v, R1, R3, R2⟩
set_option maxRecDepth 100000 in
set_option maxHeartbeats 1000000 in
theorem read_fineFilter {s : ByteArray} {gx gy : Nat} {ls : List (List (Nat × Nat))} (w : World)
    (H : ∀ W, Below w.heap.size w W → Blk W (w.heap.size + 1) #[.complex .f64 0 0, .slice none 0 0] 38 → Blk W (w.heap.size + 1 + 1) #[.string s, .int .i64 0] 53 →
      Calls Tryz.prog 18 #[.pointer (some ⟨w.heap.size + 1 + 1, 0, none⟩), .func (.func 30) #[] #[.pointer (some ⟨w.heap.size + 1 + 1, 0, none⟩), .pointer (some ⟨w.heap.size + 1, 0, none⟩)]] W fun x w' => ∃ v, x = .returned (.tuple #[.int .i64 0, .int .i64 0]) ∧ Blk w' (w.heap.size + 1) #[.complex .f64 gx gy, v] 38 ∧ OwS W.heap.size w' v ls ∧ But (fun k => k = w.heap.size + 1 + 1 ∨ k = w.heap.size + 1) W w') :
    Calls Tryz.prog 11 #[.string s] w fun x w' => ∃ v, x = .returned (.tuple #[.agg #[.complex .f64 gx gy, v], .int .i64 0, .int .i64 0]) ∧ OwS w.heap.size w' v ls ∧ Below w.heap.size w w' := by
  have hmf := makeFunc_run
  have hsc := run_store_c
  obtain ⟨W, hW⟩ : ∃ W, W = ((w.alloc (.cells #[.complex .f64 0 0, .slice none 0 0] 38)).alloc (.cells #[.complex .f64 0 0, .slice none 0 0] 38)).alloc (.cells #[.string s, .int .i64 0] 53) := ⟨_, rfl⟩
  obtain ⟨h1, h2, h3, h4⟩ := alloc3Filter w s W hW
  have hsW := h4.lt
  have HW := hide (H _ h1 h3 h4)
  have H1 := hide h1
  have H2 := hide h2
  have EW := hide hW
  clear H h1 h2 h3 h4 hW
  go_enter Tryz.func11, Tryz.ntmps11
  go_wp2_with (go_at_call 18; rw [← unhide EW]; refine (unhide HW).mono ?_; rintro x w1 ⟨v, rfl, hA, hz, hb⟩; have B1 := hide hb; have A1 := hide hA; have OZ := hide hz; clear hb hA hz; refine Hid.out ?_)
  refine hide ?_
  obtain ⟨ad1, cap1, rfl⟩ := (unhide OZ).shape
  have hN := (unhide H2).but (unhide B1) (by omega)
  have c0 := hN.cell 0 (v := .complex .f64 0 0) rfl
  have c1 := hN.cell 1 (v := .slice none 0 0) rfl
  have f0 := hN.unfrozen 0
  have f1 := hN.unfrozen 1
  have a0 := (unhide A1).cell 0 (v := .complex .f64 gx gy) rfl
  have a1 := (unhide A1).cell 1 (v := .slice ad1 ls.length cap1) rfl
  have HN := hide hN
  clear hN
  go_wp2_with fail
  have hN2 := ((unhide HN).put 0 (.complex .f64 gx gy)).put 1 (.slice ad1 ls.length cap1)
  have hset := (But.setCell (fun k => k = w.heap.size) w1 ⟨w.heap.size, 0, none⟩ (.complex .f64 gx gy) rfl).trans (But.setCell (fun k => k = w.heap.size) _ ⟨w.heap.size, 1, none⟩ (.slice ad1 ls.length cap1) rfl)
  refine bodyPost_ret (run_resultsFilter rfl rfl rfl hN2) rfl ?_
  have hs1 := (unhide H1).size
  refine ⟨_, rfl, ((unhide OZ).but hset (fun k h1 h2 => by omega)).lower hs1, ?_⟩
  exact (((unhide B1).mono (O' := fun k => k = w.heap.size + 1 + 1 ∨ k = w.heap.size + 1 ∨ k = w.heap.size) (fun k e => by omega)).trans (hset.mono fun k e => .inr (.inr e))).below (unhide H1) (unhide H1).size (fun k e => by omega)
end Go.Proofs.YtbkjmnopljmanaaGreatDoor

/- The reference's reader, live or behind a fault. -/
namespace Go.Proofs.YtbkjmnopljmanaaGreatDoor
open Go.RowKit

/-- It stands at a place of which T holds, or it has met a fault of which E holds. -/
def LD (s : ByteArray) (b : Nat) (T : Nat → Prop) (E : Nat → Nat → Prop) (w : World) : Prop :=
  (∃ a, QdAt w b s a 0 0 ∧ T a) ∨ (∃ a er q, er ≠ 0 ∧ QdAt w b s a er q ∧ E er q)
theorem LD.mono {s : ByteArray} {b : Nat} {T T' : Nat → Prop} {E : Nat → Nat → Prop} {w : World} (h : LD s b T E w) (hT : ∀ a, a ≤ s.size → T a → T' a) : LD s b T' E w := by
  rcases h with ⟨a, h1, h2⟩ | h
  · exact .inl ⟨a, h1, hT a h1.2.1 h2⟩
  · exact .inr h
theorem LD.but {s : ByteArray} {b : Nat} {T : Nat → Prop} {E : Nat → Nat → Prop} {w w' : World} {O : Nat → Prop} (h : LD s b T E w) (hb : But O w w') (hO : ¬ O b) : LD s b T E w' := by
  rcases h with ⟨a, h1, h2⟩ | ⟨a, er, q, h1, h2, h3⟩
  · exact .inl ⟨a, h1.but8 hb hO, h2⟩
  · exact .inr ⟨a, er, q, h1, h2.but8 hb hO, h3⟩
theorem LD.lt {s : ByteArray} {b : Nat} {T : Nat → Prop} {E : Nat → Nat → Prop} {w : World} (h : LD s b T E w) : b < w.heap.size := by
  rcases h with ⟨a, h1, h2⟩ | ⟨a, er, q, h1, h2, h3⟩
  · exact h1.1.lt
  · exact h2.1.lt
theorem want_ld {b : Nat} {s t : ByteArray} {T T' : Nat → Prop} {E : Nat → Nat → Prop} (ht : t.size ≤ 100)
    (hT : ∀ a, T a → (Stand s a t t.size ∧ T' (a + t.size)) ∨ ∃ j, ∃ hj : j < t.size, Stand s a t j ∧ bt s (a + j) ≠ (t[j]'hj).toNat ∧ E 12 (a + j)) (w : World) (h : LD s b T E w) :
    Calls Tryz.prog 21 #[.pointer (some ⟨b, 0, none⟩), .string t] w fun e w' => e = .returned (.tuple #[]) ∧ LD s b T' E w' ∧ But (fun k => k = b) w w' := by
  rcases h with ⟨a, h1, h2⟩ | ⟨a, er, q, h1, h2, h3⟩
  · rcases hT a h2 with ⟨g1, g2⟩ | ⟨j, hj, g1, g2, g3⟩
    · exact (want_ok h1 ht g1).mono fun e w' ⟨k1, k2, k3⟩ => ⟨k1, .inl ⟨_, k2, g2⟩, k3⟩
    · exact (want_bad h1 ht j hj g1 g2).mono fun e w' ⟨k1, k2, k3⟩ => ⟨k1, .inr ⟨_, _, _, by decide, k2, g3⟩, k3⟩
  · exact (want_dead h1 ht h2).mono fun e w' ⟨k1, k2⟩ => by subst k2; exact ⟨k1, .inr ⟨a, er, q, h1, h2, h3⟩, But.refl _ _⟩
def NEnd (T : Nat → Nat → Nat → Prop) (E : Nat → Nat → Prop) : NOut → Prop
  | .bad er q => E er q
  | .ok x y p => T x y p
theorem num_ld {b : Nat} {s : ByteArray} {T : Nat → Prop} {T' : Nat → Nat → Nat → Prop} {E : Nat → Nat → Prop}
    (hT : ∀ a, T a → ∃ o, NumAt s a o ∧ NEnd T' E o) (w : World) (h : LD s b T E w) :
    Calls Tryz.prog 22 #[.pointer (some ⟨b, 0, none⟩), .bool true] w fun e w' => ∃ x y, e = .returned (.complex .f64 x y) ∧ LD s b (T' x y) E w' ∧ But (fun k => k = b) w w' := by
  rcases h with ⟨a, h1, h2⟩ | ⟨a, er, q, h1, h2, h3⟩
  · obtain ⟨o, hN, hE⟩ := hT a h2
    cases o with
    | bad er q =>
      have her : er ≠ 0 := by rcases hN.told with g | g <;> rw [g] <;> decide
      exact (hN.ref b w h1).mono fun e w' ⟨x, y, a', k1, k2, k3⟩ => ⟨x, y, k1, .inr ⟨_, _, _, her, k2, hE⟩, k3⟩
    | ok x y p => exact (hN.ref b w h1).mono fun e w' ⟨k1, k2, k3⟩ => ⟨x, y, k1, .inl ⟨_, k2, hE⟩, k3⟩
  · exact (rnum_dead true h1 w h2).mono fun e w' ⟨x, y, a', k1, k2, k3⟩ => ⟨x, y, k1, .inr ⟨_, _, _, h1, k2, h3⟩, k3⟩
theorem is_ld {b : Nat} {s : ByteArray} {T : Nat → Prop} {E : Nat → Nat → Prop} (c : Nat) (hc : c < 256) (w : World) (h : LD s b T E w) :
    Calls Tryz.prog 32 #[.pointer (some ⟨b, 0, none⟩), .int .u8 (c : Nat)] w fun e w' => ∃ v, e = .returned (.bool v) ∧ ((v = true ∧ ∃ a, QdAt w' b s a 0 0 ∧ T a ∧ bt s a = c) ∨ (v = false ∧ LD s b (fun a => T a ∧ bt s a ≠ c) E w')) ∧ But (fun k => k = b) w w' := by
  rcases h with ⟨a, h1, h2⟩ | ⟨a, er, q, h1, h2, h3⟩
  · by_cases h3 : bt s a = c
    · exact (is_yes hc h1 h3).mono fun e w' ⟨k1, k2, k3⟩ => ⟨true, k1, .inl ⟨rfl, a, k2, h2, h3⟩, k3⟩
    · exact (is_no hc h1 h3).mono fun e w' ⟨k1, k2, k3⟩ => ⟨false, k1, .inr ⟨rfl, .inl ⟨a, k2, h2, h3⟩⟩, k3⟩
  · exact (is_dead _ h1 h2).mono fun e w' ⟨k1, m, k2⟩ => ⟨false, k1, .inr ⟨rfl, .inr ⟨a, er, q, h1, by rw [k2]; exact h2.drew m, h3⟩⟩, by rw [k2]; exact But.still (still_drewN _ m)⟩
end Go.Proofs.YtbkjmnopljmanaaGreatDoor

/- DocReadFilter of the reference. -/
namespace Go.Proofs.YtbkjmnopljmanaaGreatDoor
open Go.RowKit

theorem Sc.e0 {s : ByteArray} {a : Nat} {ls : List (List (Nat × Nat))} {o : SEnd} (h : Sc s a ls o) (ha : a = s.size) : o = .ok ls := by
  have hb : bt s a = 256 := bt_end (by omega)
  cases h with
  | done _ => rfl
  | blank h _ => omega
  | long h _ _ => omega
  | bar h _ => omega
  | five h _ _ _ => omega
  | step h _ _ _ _ => omega
theorem Sc.e1 {s : ByteArray} {a : Nat} {ls : List (List (Nat × Nat))} {o : SEnd} (h : Sc s a ls o) (ha : a ≠ s.size) (h32 : bt s a ≠ 32) : o = .bad 12 a := by
  cases h with
  | done h => exact absurd h ha
  | blank h _ => rfl
  | long h _ _ => exact absurd h h32
  | bar h _ => exact absurd h h32
  | five h _ _ _ => exact absurd h h32
  | step h _ _ _ _ => exact absurd h h32
theorem Sc.e2 {s : ByteArray} {a : Nat} {ls : List (List (Nat × Nat))} {o : SEnd} (h : Sc s a ls o) (ha : a ≠ s.size) (h32 : bt s a = 32) (h124 : bt s (a + 1) ≠ 124) : o = .bad 12 (a + 1) := by
  cases h with
  | done h => exact absurd h ha
  | blank h h' => exact absurd h32 h'
  | long _ h _ => exact absurd h h124
  | bar h _ => rfl
  | five _ h _ _ => exact absurd h h124
  | step _ h _ _ _ => exact absurd h h124
theorem Sc.e3 {s : ByteArray} {a : Nat} {ls : List (List (Nat × Nat))} {o : SEnd} (h : Sc s a ls o) (ha : a ≠ s.size) (h32 : bt s a = 32) (h124 : bt s (a + 1) = 124) (h16 : ls.length = 16) : o = .bad 2 (a + 1) := by
  cases h with
  | done h => exact absurd h ha
  | blank h h' => exact absurd h32 h'
  | long _ h _ => rfl
  | bar _ h => exact absurd h124 h
  | five _ _ h _ => exact absurd h16 h
  | step _ _ h _ _ => exact absurd h16 h
def FE (s : ByteArray) (ls : List (List (Nat × Nat))) (o : SEnd) : ZEnd → Prop
  | .bad er q => o = .bad er q
  | .ok l p => Sc s p (ls ++ [l]) o ∧ ls.length + 1 ≤ 16
theorem Sc.e4 {s : ByteArray} {a : Nat} {ls : List (List (Nat × Nat))} {o : SEnd} (h : Sc s a ls o) (hl : ls.length ≤ 16) (ha : a ≠ s.size) (h32 : bt s a = 32) (h124 : bt s (a + 1) = 124) (h16 : ls.length ≠ 16) : ∃ o5, Fv s (a + 2) [] o5 ∧ FE s ls o o5 := by
  cases h with
  | done h => exact absurd h ha
  | blank h h' => exact absurd h32 h'
  | long _ _ h => exact absurd h h16
  | bar _ h => exact absurd h124 h
  | five _ _ _ k => exact ⟨_, k, rfl⟩
  | step _ _ _ k r => exact ⟨_, k, r, by omega⟩
theorem Fv.e1 {s : ByteArray} {a : Nat} {l : List (Nat × Nat)} {o : ZEnd} (h : Fv s a l o) (h5 : l.length < 5) (h32 : bt s a ≠ 32) : o = .bad 12 a := by
  cases h with
  | done h => omega
  | blank _ _ => rfl
  | num _ h _ => exact absurd h h32
  | step _ h _ _ => exact absurd h h32
theorem Fv.e2 {s : ByteArray} {a : Nat} {l : List (Nat × Nat)} {o : ZEnd} (h : Fv s a l o) (h5 : l.length < 5) (h32 : bt s a = 32) : ∃ on, NumAt s (a + 1) on ∧ NEnd (fun x y p => a < p ∧ Fv s p (l ++ [(x, y)]) o) (fun er q => o = .bad er q) on := by
  cases h with
  | done h => omega
  | blank _ h => exact absurd h32 h
  | num _ _ hN => exact ⟨_, hN, rfl⟩
  | step _ _ hN k => exact ⟨_, hN, by have := hN.told.2.2.2.2.1; omega, k⟩
theorem aMeas_lt {s : ByteArray} {b a : Nat} {T : Nat → Prop} {E : Nat → Nat → Prop} {w : World} (h : LD s b T E w) (hT : ∀ a', T a' → a < a') (ha : a ≤ s.size) : aMeas s b w < s.size + 2 - a := by
  rcases h with ⟨a', h1, h2⟩ | ⟨a', er, q, h1, h2, h3⟩
  · rw [aMeas_live h1]; have := hT a' h2; have := h1.2.1; omega
  · rw [aMeas_dead h1 h2]; omega
/-- A filter's text whole. -/
inductive FAll (s : ByteArray) : Nat → Nat → SEnd → Prop
  | word {gx gy j : Nat} (hj : j < (ByteArray.mk #[102, 105, 108, 116, 101, 114, 32]).size) (hS : Stand s 0 ⟨#[102, 105, 108, 116, 101, 114, 32]⟩ j) (hE : bt s (0 + j) ≠ ((ByteArray.mk #[102, 105, 108, 116, 101, 114, 32])[j]'hj).toNat) : FAll s gx gy (.bad 12 j)
  | num {gx gy er q : Nat} (hS : Stand s 0 ⟨#[102, 105, 108, 116, 101, 114, 32]⟩ (ByteArray.mk #[102, 105, 108, 116, 101, 114, 32]).size) (hN : NumAt s 7 (.bad er q)) : FAll s gx gy (.bad er q)
  | secs {gx gy p1 : Nat} {o : SEnd} (hS : Stand s 0 ⟨#[102, 105, 108, 116, 101, 114, 32]⟩ (ByteArray.mk #[102, 105, 108, 116, 101, 114, 32]).size) (hN : NumAt s 7 (.ok gx gy p1)) (r : Sc s p1 [] o) : FAll s gx gy o
def DPost (w : World) (gx gy : Nat) : SEnd → Ending → World → Prop
  | .bad er q, e, w' => e = .returned (.tuple #[.agg #[.complex .f64 0 0, .slice none 0 0], .int .i64 (q : Nat), .int .i64 (er : Nat)]) ∧ Below w.heap.size w w'
  | .ok ls, e, w' => ∃ v, e = .returned (.tuple #[.agg #[.complex .f64 gx gy, v], .int .i64 0, .int .i64 0]) ∧ OwS w.heap.size w' v ls ∧ Below w.heap.size w w'
theorem run_resultsDF {w : World} {tmps : Array Value} {y o : Value} {b : Nat} {c0 c1 : Value} (h2 : tmps.getD 2 undef = .pointer (some ⟨b, 0, none⟩)) (h3 : tmps.getD 3 undef = y) (h4 : tmps.getD 4 undef = o) (hr : Blk w b #[c0, c1] 38) :
    (results Tryz.f12 tmps).run Tryz.prog w = .ok (.tuple #[.agg #[c0, c1], y, o]) w := by
  have hl := run_loadVar_mid (P := Tryz.prog) w b 0 38 [c0, c1] _ hr.range Tryz.underlying38 rfl infoFilter
  rw [Array.getD_eq_getD_getElem?] at h2 h3 h4
  simp [results, h2, h3, h4, asAddr, hl]
theorem docf_alloc (w : World) (s : ByteArray) : ∀ W, W = (w.alloc (.cells #[.complex .f64 0 0, .slice none 0 0] 38)).alloc (.cells #[.string s, .int .i64 0, .int .i64 0, .int .i64 0] 59) →
    Below w.heap.size w W ∧ Blk W w.heap.size #[.complex .f64 0 0, .slice none 0 0] 38 ∧ Blk W (w.heap.size + 1) #[.string s, .int .i64 0, .int .i64 0, .int .i64 0] 59 := by
  rintro W rfl
  have h1 := alloc_size w (.cells #[.complex .f64 0 0, .slice none 0 0] 38)
  refine ⟨((Below.refl _ _).alloc (Nat.le_refl _) _).alloc (by omega) _, Blk.alloc.below ((Below.refl _ _).alloc (Nat.le_refl _) _) (by omega), ?_⟩
  rw [← h1]; exact Blk.alloc
set_option maxRecDepth 100000 in
theorem docfilter_long {s : ByteArray} (hs : 65536 < s.size) (w : World) :
    Calls Tryz.prog 12 #[.string s] w fun x w' => x = .returned (.tuple #[.agg #[.complex .f64 0 0, .slice none 0 0], .int .i64 0, .int .i64 2]) ∧ Below w.heap.size w w' := by
  have h9 : (65536 : Int) < (s.size : Int) := by omega
  have hsc := run_store_c
  go_enter Tryz.func12, Tryz.ntmps12
  go_wp2_with fail
  have hA : Blk (w.alloc (.cells #[.complex .f64 0 0, .slice none 0 0] 38)) w.heap.size #[.complex .f64 0 0, .slice none 0 0] 38 := Blk.alloc
  refine bodyPost_ret (run_resultsDF rfl rfl rfl hA) rfl ?_
  exact ⟨rfl, (Below.refl _ _).alloc (Nat.le_refl _) _⟩
set_option maxRecDepth 100000 in
set_option maxHeartbeats 4000000 in
theorem docfilter_any {s : ByteArray} {gx gy : Nat} {o : SEnd} (hs : s.size ≤ 65536) (hF : FAll s gx gy o) (w : World) :
    Calls Tryz.prog 12 #[.string s] w (DPost w gx gy o) := by
  have h9 : ¬ (65536 : Int) < (s.size : Int) := by omega
  have hsc := run_store_c
  obtain ⟨W, hW⟩ : ∃ W, W = (w.alloc (.cells #[.complex .f64 0 0, .slice none 0 0] 38)).alloc (.cells #[.string s, .int .i64 0, .int .i64 0, .int .i64 0] 59) := ⟨_, rfl⟩
  obtain ⟨hb, hR0, hq⟩ := docf_alloc w s W hW
  have hltW := hq.lt
  have hEr : Hid (∀ er q, o = .bad er q → er ≠ 0) := fun er q e => by
    cases hF with
    | word _ _ _ => injection e with e1 e2; omega
    | num _ hN => injection e with e1 e2; rw [← e1]; rcases hN.told with g | g <;> rw [g] <;> decide
    | secs _ _ r => subst e; rcases r.good with g | g | g <;> rw [g] <;> decide
  have L0 : LD s (w.heap.size + 1) (fun a => a = 0) (fun er q => o = .bad er q) W := .inl ⟨0, ⟨hq, Nat.zero_le _, hs⟩, rfl⟩
  have K1 := want_ld (t := ⟨#[102, 105, 108, 116, 101, 114, 32]⟩) (T' := fun a => ∃ on, NumAt s a on ∧ NEnd (fun x y p => x = gx ∧ y = gy ∧ Sc s p [] o) (fun er q => o = .bad er q) on) (by decide) (fun a ha => by
    subst ha
    cases hF with
    | word hj hS hE => exact .inr ⟨_, hj, hS, hE, by rw [Nat.zero_add]⟩
    | num hS hN => exact .inl ⟨hS, _, hN, rfl⟩
    | secs hS hN r => exact .inl ⟨hS, _, hN, rfl, rfl, r⟩) W L0
  have K1 := hide K1
  have HB := hide hb
  have HR0 := hide hR0
  have EW := hide hW
  clear hb hR0 hq hW L0 hF
  go_enter Tryz.func12, Tryz.ntmps12
  go_wp2_with (go_at_call 21; rw [← unhide EW]; refine (unhide K1).mono ?_; rintro e w1 ⟨rfl, hr, hb⟩; have L1 := hide hr; have B1 := hide hb; clear hr hb; refine Hid.out ?_)
  refine hide ?_
  go_wp2_with (go_at_call 22; refine (num_ld (T' := fun x y p => x = gx ∧ y = gy ∧ Sc s p [] o) (fun a h => h) _ (unhide L1)).mono ?_; rintro e w2 ⟨x, y, rfl, hr, hb⟩; have L2 := hide hr; have B2 := hide ((unhide B1).trans hb); clear hr hb; refine Hid.out ?_)
  refine hide ?_
  have hal : Below w2.heap.size w2 (w2.alloc (.cells #[.complex .f64 x y, .slice none 0 0] 38)) := (Below.refl _ _).alloc (Nat.le_refl _) _
  have L3 := hide ((unhide L2).but (But.low (O := fun _ => False) hal) (fun e => e))
  have F3 : Hid (Blk (w2.alloc (.cells #[.complex .f64 x y, .slice none 0 0] 38)) w2.heap.size #[.complex .f64 x y, .slice none 0 0] 38) := Blk.alloc
  have B3 := hide ((unhide B2).trans (But.low (O := fun k => k = w.heap.size + 1) hal))
  have hs2 := (unhide B2).size
  have hs3 := hal.size
  clear hal
  go_wp2_with fail
  obtain ⟨w3, hw3⟩ : ∃ w3, w3 = w2.alloc (.cells #[.complex .f64 x y, .slice none 0 0] 38) := ⟨_, rfl⟩
  rw [← hw3] at L3 F3 B3 hs3 ⊢
  have hF3 := (unhide F3).lt
  clear hw3 L2 L1 K1
  have HW3 : Hid (∀ wr, But (fun k => k = w.heap.size + 1 ∨ k = w2.heap.size) w3 wr → But (fun k => k = w.heap.size + 1 ∨ k = w2.heap.size) W wr) := fun wr h => ((unhide B3).mono fun k e => .inl e).trans h
  go_loopw [40] (fun _ wr => ∃ (ls : List (List (Nat × Nat))) (v : Value), OwS w3.heap.size wr v ls ∧ ls.length ≤ 17 ∧ Blk wr w2.heap.size #[.complex .f64 x y, v] 38 ∧ But (fun k => k = w.heap.size + 1 ∨ k = w2.heap.size) w3 wr ∧ LD s (w.heap.size + 1) (fun a => Sc s a ls o ∧ ls.length ≤ 16 ∧ x = gx ∧ y = gy) (fun er q => o = .bad er q) wr)
    (fun _ wr => aMeas s (w.heap.size + 1) wr)
  case atStart => exact ⟨[], _, OwS.none _ _, by decide, unhide F3, But.refl _ _, (unhide L3).mono fun a _ ⟨h1, h2, h3⟩ => ⟨h3, by decide, h1, h2⟩⟩
  case round =>
    obtain ⟨ls, v, ho, hl17, hf, hb, hal⟩ := hrel
    obtain ⟨ad, cap, rfl⟩ := ho.shape
    have Ho := hide ho
    have Hb := hide hb
    have Hf := hide hf
    have hszr := hb.size
    clear ho hb hf
    rcases hal with ⟨a, hr, hsc3, hl, hgx, hgy⟩ | ⟨a, er, q, he, hr, hq⟩
    rotate_left
    · have Hr := hide hr
      have hz : ((er : Int) == 0) = false := by rw [beq_eq_false_iff_ne]; omega
      have hz2 : ((er : Int) != 0) = true := by rw [bne, hz]; rfl
      obtain ⟨c0, c1, c2, c3⟩ := hr.cells
      clear hr
      go_wp2_with fail
      go_quiet (fail)
      have R6 := hide ((unhide Hr).drew nq)
      go_wp2_with (go_at_call 24; refine (rend_badE he (unhide R6)).mono ?_; rintro e w6 ⟨rfl, hb⟩; have B6 := hide (((unhide Hb).trans (But.still (still_drewN _ nq))).trans (hb.mono fun k e => .inl e)); clear hb; refine Hid.out ?_)
      refine hide ?_
      clear c0 c1 c2 c3
      have hN := (unhide HR0).but (unhide HW3 _ (unhide B6)) (by omega)
      have c0 := hN.cell 0 (v := .complex .f64 0 0) rfl
      have c1 := hN.cell 1 (v := .slice none 0 0) rfl
      have f0 := hN.unfrozen 0
      have f1 := hN.unfrozen 1
      have HN := hide hN
      clear hN
      go_wp2_with fail
      have hN2 := ((unhide HN).put 0 (.complex .f64 0 0)).put 1 (.slice none 0 0)
      have hset := (But.setCell (fun k => k = w.heap.size) w6 ⟨w.heap.size, 0, none⟩ (.complex .f64 0 0) rfl).trans (But.setCell (fun k => k = w.heap.size) _ ⟨w.heap.size, 1, none⟩ (.slice none 0 0) rfl)
      have hsW := (unhide HB).size
      refine bodyPost_ret (run_resultsDF rfl rfl rfl hN2) rfl ?_
      have hfin := ((((unhide HW3 _ (unhide B6))).mono (O' := fun k => k = w.heap.size + 1 ∨ k = w2.heap.size ∨ k = w.heap.size) (fun k e => by omega)).trans (hset.mono fun k e => .inr (.inr e))).below (unhide HB) (unhide HB).size (fun k e => by omega)
      subst hq
      exact ⟨rfl, hfin⟩
    obtain ⟨c0, c1, c2, c3⟩ := hr.cells
    have has := hr.2.1
    have hm := aMeas_live hr
    have Hr := hide hr
    have HGX := hide hgx
    have HGY := hide hgy
    clear hr hgx hgy
    by_cases hend : a = s.size
    · have hend2 : ¬ (a : Int) < (s.size : Int) := by omega
      go_wp2_with fail
      go_quiet (fail)
      have R6 := hide ((unhide Hr).drew nq)
      rw [hend] at R6
      go_wp2_with (go_at_call 24; refine (rend_ok (unhide R6)).mono ?_; rintro e w6 ⟨rfl, hb⟩; have B6 := hide (((unhide Hb).trans (But.still (still_drewN _ nq))).trans (hb.mono fun k e => .inl e)); have F6 := hide (Blk.but (w := wr.drewN nq) (unhide Hf) hb (by omega)); have O6 := hide (OwS.but (w := wr.drewN nq) (unhide Ho) hb (fun k h1 h2 => by omega)); clear hb; refine Hid.out ?_)
      refine hide ?_
      clear c0 c1 c2 c3
      have g0 := (unhide F6).cell 0 (v := .complex .f64 x y) rfl
      have g1 := (unhide F6).cell 1 (v := .slice ad ls.length cap) rfl
      have hN := (unhide HR0).but (unhide HW3 _ (unhide B6)) (by omega)
      have c0 := hN.cell 0 (v := .complex .f64 0 0) rfl
      have c1 := hN.cell 1 (v := .slice none 0 0) rfl
      have f0 := hN.unfrozen 0
      have f1 := hN.unfrozen 1
      have HN := hide hN
      clear hN
      go_wp2_with fail
      have hN2 := ((unhide HN).put 0 (.complex .f64 x y)).put 1 (.slice ad ls.length cap)
      have hset := (But.setCell (fun k => k = w.heap.size) w6 ⟨w.heap.size, 0, none⟩ (.complex .f64 x y) rfl).trans (But.setCell (fun k => k = w.heap.size) _ ⟨w.heap.size, 1, none⟩ (.slice ad ls.length cap) rfl)
      have hsW := (unhide HB).size
      refine bodyPost_ret (run_resultsDF rfl rfl rfl hN2) rfl ?_
      have hfin := ((((unhide HW3 _ (unhide B6))).mono (O' := fun k => k = w.heap.size + 1 ∨ k = w2.heap.size ∨ k = w.heap.size) (fun k e => by omega)).trans (hset.mono fun k e => .inr (.inr e))).below (unhide HB) (unhide HB).size (fun k e => by omega)
      obtain rfl := hsc3.e0 hend
      have hgx := unhide HGX
      have hgy := unhide HGY
      subst hgx hgy
      exact ⟨_, rfl, ((unhide O6).but hset (fun k h1 h2 => by omega)).lower (by omega), hfin⟩
    · have hlt : (a : Int) < (s.size : Int) := by omega
      go_wp2_with fail
      go_quiet (fail)
      go_wp2_with (go_at_call 21; refine (want_ld (t := ⟨#[32]⟩) (T := fun a' => a' = a) (T' := fun a' => a' = a + 1 ∧ bt s a = 32) (E := fun er q => o = .bad er q) (by decide) (fun a' ha' => by
          subst ha'
          by_cases h4 : bt s a' = 32
          · exact .inl ⟨stand1 h4, rfl, h4⟩
          · exact .inr ⟨0, by decide, stand0 _ _ _, h4, hsc3.e1 hend h4⟩) (wr.drewN nq) (.inl ⟨a, (unhide Hr).drew nq, rfl⟩)).mono ?_; rintro e w4 ⟨rfl, hr, hb⟩; have L4 := hide hr; have F4 := hide (Blk.but (w := wr.drewN nq) (unhide Hf) hb (by omega)); have O4 := hide (OwS.but (w := wr.drewN nq) (unhide Ho) hb (fun k h1 h2 => by omega)); have B4 := hide (((unhide Hb).trans (But.still (still_drewN _ nq))).trans (hb.mono fun k e => .inl e)); clear hr hb; refine Hid.out ?_)
      refine hide ?_
      clear c0 c1 c2 c3 Hr Hf Ho Hb
      have c4 := (unhide F4).cell 1 (v := .slice ad ls.length cap) rfl
      go_wp2_with (go_at_call 32; refine (is_ld 124 (by decide) _ (unhide L4)).mono ?_; rintro e w5 ⟨vb, rfl, hv, hb⟩; have V5 := hide hv; have F5 := hide ((unhide F4).but hb (by omega)); have O5 := hide ((unhide O4).but hb (fun k h1 h2 => by omega)); have B5 := hide ((unhide B4).trans (hb.mono fun k e => .inl e)); clear hv hb; refine Hid.out ?_)
      refine hide ?_
      clear c4 L4 F4 O4 B4
      have c5 := (unhide F5).cell 1 (v := .slice ad ls.length cap) rfl
      rcases unhide V5 with ⟨rfl, a', hr, ⟨ha', h32⟩, h124⟩ | ⟨rfl, hld⟩
      · clear V5
        subst ha'
        by_cases h16 : ls.length = 16
        · rw [h16] at c5
          have d1 := hr.cells.2.1
          obtain ⟨a1, ha1⟩ : ∃ a1, a1 = a + 1 := ⟨_, rfl⟩
          rw [← ha1] at d1 hr
          have HA1 := hide ha1
          have R5 := hide hr
          clear ha1 hr
          go_wp2_with (go_at_call 33; refine (fail_any 2 a1 (unhide R5)).mono ?_; rintro e w4 ⟨rfl, hr, hb⟩; have R4 := hide hr; have F4 := hide ((unhide F5).but hb (by omega)); have O4 := hide ((unhide O5).but hb (fun k h1 h2 => by omega)); have B4 := hide ((unhide B5).trans (hb.mono fun k e => .inl e)); clear hr hb; refine Hid.out ?_)
          refine hide ?_
          have L4 : Hid (LD s (w.heap.size + 1) (fun a' => a' = a + 1 ∧ bt s a = 32 ∧ (bt s (a + 1) = 124 → ls.length ≠ 16)) (fun er q => o = .bad er q) w4) := .inr ⟨_, _, _, by decide, unhide R4, by rw [unhide HA1]; exact hsc3.e3 hend h32 h124 h16⟩
          clear R4 R5 d1 F5 O5 B5 c5 HA1 h16
          have c4 := (unhide F4).cell 1 (v := .slice ad ls.length cap) rfl
          go_wp2_with (go_at_call 21; refine (want_ld (t := ⟨#[124]⟩) (T' := fun a' => a < a' ∧ ∃ o5, Fv s a' [] o5 ∧ FE s ls o o5) (by decide) (fun a' ⟨h1, h2, h3⟩ => by
              subst h1
              by_cases h4 : bt s (a + 1) = 124
              · obtain ⟨o5, k1, k2⟩ := hsc3.e4 hl hend h2 h4 (h3 h4)
                exact .inl ⟨stand1 h4, by show a < a + 1 + 1; omega, o5, k1, k2⟩
              · exact .inr ⟨0, by decide, stand0 _ _ _, h4, hsc3.e2 hend h2 h4⟩) _ (unhide L4)).mono ?_; rintro e w5 ⟨rfl, hr, hb⟩; have L5 := hide hr; have F5 := hide ((unhide F4).but hb (by omega)); have O5 := hide ((unhide O4).but hb (fun k h1 h2 => by omega)); have B5 := hide ((unhide B4).trans (hb.mono fun k e => .inl e)); clear hr hb; refine Hid.out ?_)
          refine hide ?_
          have hal : Below w5.heap.size w5 (w5.alloc (.cells #[.complex .f64 0 0, .complex .f64 0 0, .complex .f64 0 0, .complex .f64 0 0, .complex .f64 0 0] 74)) := (Below.refl _ _).alloc (Nat.le_refl _) _
          have L6 := hide ((unhide L5).but (But.low (O := fun _ => False) hal) (fun e => e))
          have A6 : Hid (Blk (w5.alloc (.cells #[.complex .f64 0 0, .complex .f64 0 0, .complex .f64 0 0, .complex .f64 0 0, .complex .f64 0 0] 74)) w5.heap.size (fiveC []) 74) := Blk.alloc
          have F6 := hide ((unhide F5).below hal (unhide F5).lt)
          have O6 := hide ((unhide O5).but (But.low (O := fun _ => False) hal) (fun _ _ e => e))
          have B6 := hide ((unhide B5).trans (But.low hal))
          have hs5 := (unhide B5).size
          have hF5 := (unhide F5).lt
          have HAL := hide hal
          clear hal c4
          go_wp2_with fail
          obtain ⟨w6, hw6⟩ : ∃ w6, w6 = w5.alloc (.cells #[.complex .f64 0 0, .complex .f64 0 0, .complex .f64 0 0, .complex .f64 0 0, .complex .f64 0 0] 74) := ⟨_, rfl⟩
          rw [← hw6] at L6 A6 F6 O6 B6 HAL ⊢
          clear hw6
          go_loopw [58] (fun i wr => ∃ (l : List (Nat × Nat)), i = .int .i64 l.length ∧ l.length ≤ 5 ∧ Blk wr w5.heap.size (fiveC l) 74 ∧ But (fun k => k = w.heap.size + 1 ∨ k = w5.heap.size) w6 wr ∧ LD s (w.heap.size + 1) (fun a' => a < a' ∧ ∃ o5, Fv s a' l o5 ∧ FE s ls o o5) (fun er q => o = .bad er q) wr)
            (fun i _ => 5 - (intOf i).toNat)
          case atStart => exact ⟨[], rfl, by decide, unhide A6, But.refl _ _, unhide L6⟩
          case round =>
            obtain ⟨l, rfl, hl5, hA, hbq, hld⟩ := hrel
            have HA := hide hA
            have Hq := hide hbq
            have HL := hide hld
            have hs6 := (unhide A6).lt
            have hszq := hbq.size
            have hB6 := (unhide B6).size
            clear hA hbq hld
            by_cases h5 : l.length < 5
            · have i1 : (l.length : Int) < 5 := by omega
              have i2 : ¬ (l.length : Int) < 0 := by omega
              have hw1 : IntKind.i64.wrap ((l.length : Int) + 1) = (l.length : Int) + 1 := by simp [IntKind.wrap_i64]; omega
              go_wp2_with (go_at_call 21; refine (want_ld (t := ⟨#[32]⟩) (T' := fun a' => ∃ on, NumAt s a' on ∧ NEnd (fun x y p => a < p ∧ ∃ o5, Fv s p (l ++ [(x, y)]) o5 ∧ FE s ls o o5) (fun er q => o = .bad er q) on) (by decide) (fun a' ⟨h1, o5, k1, k2⟩ => by
                  by_cases h4 : bt s a' = 32
                  · obtain ⟨on, g1, g2⟩ := k1.e2 h5 h4
                    refine .inl ⟨stand1 h4, on, g1, ?_⟩
                    cases on with
                    | bad er q => obtain rfl : o5 = .bad er q := g2; exact k2
                    | ok x y p => exact ⟨by have := g2.1; omega, o5, g2.2, k2⟩
                  · obtain rfl := k1.e1 h5 h4
                    exact .inr ⟨0, by decide, stand0 _ _ _, h4, k2⟩) _ (unhide HL)).mono ?_; rintro e w7 ⟨rfl, hr, hb⟩; have L7 := hide hr; have A7 := hide ((unhide HA).but hb (by omega)); have B7 := hide ((unhide Hq).trans (hb.mono fun k e => .inl e)); clear hr hb; refine Hid.out ?_)
              refine hide ?_
              go_wp2_with (go_at_call 22; refine (num_ld (T' := fun x y p => a < p ∧ ∃ o5, Fv s p (l ++ [(x, y)]) o5 ∧ FE s ls o o5) (fun a' h => h) _ (unhide L7)).mono ?_; rintro e w8 ⟨x8, y8, rfl, hr, hb⟩; have L8 := hide hr; have A8 := hide ((unhide A7).but hb (by omega)); have B8 := hide ((unhide B7).trans (hb.mono fun k e => .inl e)); clear hr hb; refine Hid.out ?_)
              refine hide ?_
              have c8 := (unhide A8).cell l.length (fiveC_at h5)
              have f8 := (unhide A8).unfrozen l.length
              go_wp2_with fail
              have hset := But.setCell (fun k => k = w5.heap.size) w8 ⟨w5.heap.size, l.length, none⟩ (.complex .f64 x8 y8) rfl
              refine ⟨⟨l ++ [(x8, y8)], ?_, ?_, ?_, (unhide B8).trans (hset.mono fun k e => .inr e), (unhide L8).but hset (by omega)⟩, ?_⟩
              · rw [List.length_append]; rfl
              · rw [List.length_append]; show l.length + 1 ≤ 5; omega
              · rw [← fiveC_put h5]; exact (unhide A8).put l.length _
              · simp only [intOf]; omega
            · have h55 : l.length = 5 := by omega
              obtain ⟨x0, y0, x1, y1, x2, y2, x3, y3, x4, y4, rfl⟩ := list5 h55
              have HA' : Blk wr w5.heap.size #[.complex .f64 x0 y0, .complex .f64 x1 y1, .complex .f64 x2 y2, .complex .f64 x3 y3, .complex .f64 x4 y4] 74 := unhide HA
              have k0 := HA'.cell 0 (v := .complex .f64 x0 y0) rfl
              have k1 := HA'.cell 1 (v := .complex .f64 x1 y1) rfl
              have k2 := HA'.cell 2 (v := .complex .f64 x2 y2) rfl
              have k3 := HA'.cell 3 (v := .complex .f64 x3 y3) rfl
              have k4 := HA'.cell 4 (v := .complex .f64 x4 y4) rfl
              have FQ := hide ((unhide F6).but (unhide Hq) (by omega))
              have OQ := hide (((unhide O5).but ((But.low (O := fun k => k = w.heap.size + 1) (unhide HAL)).fresh2 (unhide Hq) (fun k hk e => by omega)) (fun k h1 h2 => by omega)).but (But.low (O := fun _ => False) ((Below.refl _ wr).alloc (Nat.le_refl _) (.cells #[.complex .f64 x0 y0, .complex .f64 x1 y1, .complex .f64 x2 y2, .complex .f64 x3 y3, .complex .f64 x4 y4] 76))) (fun _ _ e => e))
              have g1 := (unhide FQ).cell 1 (v := .slice ad ls.length cap) rfl
              clear HA'
              go_wp2_with (at_builtin; refine OwS.app rfl _ _ rfl _ ls rfl (unhide OQ) wr.heap.size [(x0, y0), (x1, y1), (x2, y2), (x3, y3), (x4, y4)] rfl rfl Blk.alloc (by omega) (by rw [alloc_size]; omega) ?_; intro v9 w9 h1 h2; have O9 := hide h1; have B9 := hide h2; clear h1 h2; refine Hid.out ?_)
              refine hide ?_
              have hal : Below wr.heap.size wr (wr.alloc (.cells #[.complex .f64 x0 y0, .complex .f64 x1 y1, .complex .f64 x2 y2, .complex .f64 x3 y3, .complex .f64 x4 y4] 76)) := (Below.refl _ _).alloc (Nat.le_refl _) _
              have hal8 := hal.size
              have hFq := (unhide FQ).lt
              have F9 := hide (((unhide FQ).below hal hFq).but (unhide B9) (by omega))
              have L9 := hide (((unhide HL).but (But.low (O := fun _ => False) hal) (fun e => e)).but (unhide B9) (by omega))
              have Bq := hide ((unhide B6).fresh2 (unhide Hq) (fun k hk e => by omega))
              have B9' := hide (((unhide Bq).trans (But.low hal)).fresh2 (unhide B9) (fun k hk e => by omega))
              obtain ⟨ad9, cap9, e9⟩ := (unhide O9).shape
              obtain ⟨n9, hn9⟩ : ∃ n9, n9 = (ls ++ [[(x0, y0), (x1, y1), (x2, y2), (x3, y3), (x4, y4)]]).length := ⟨_, rfl⟩
              rw [← hn9] at e9
              subst e9
              clear hn9
              have c9 := (unhide F9).cell 1 (v := .slice ad ls.length cap) rfl
              have f9 := (unhide F9).unfrozen 1
              go_wp2_with fail
              have hset := But.setCell (fun k => k = w2.heap.size) w9 ⟨w2.heap.size, 1, none⟩ (.slice ad9 n9 cap9) rfl
              have hb9 := (unhide B9).size
              have LE := (unhide L9).but hset (by omega)
              refine ⟨⟨ls ++ [[(x0, y0), (x1, y1), (x2, y2), (x3, y3), (x4, y4)]], .slice ad9 n9 cap9, (unhide O9).but hset (fun k h1 h2 => by omega), ?_, (unhide F9).put 1 (.slice ad9 n9 cap9), (unhide B9').trans (hset.mono fun k e => .inr e), LE.mono fun a' _ ⟨g1, o5, g2, g3⟩ => ?_⟩, ?_⟩
              · rw [List.length_append]; show ls.length + 1 ≤ 17; omega
              · rw [g2.full h55] at g3
                exact ⟨g3.1, by rw [List.length_append]; exact g3.2, unhide HGX, unhide HGY⟩
              · rw [hm]; exact aMeas_lt LE (fun a' h => h.1) has
        · have n16 : ((ls.length : Int) == 16) = false := by rw [beq_eq_false_iff_ne]; omega
          have L4 : Hid (LD s (w.heap.size + 1) (fun a' => a' = a + 1 ∧ bt s a = 32 ∧ (bt s (a + 1) = 124 → ls.length ≠ 16)) (fun er q => o = .bad er q) w5) := .inl ⟨_, hr, rfl, h32, fun _ => h16⟩
          clear hr
          have F4 := F5
          have O4 := O5
          have B4 := B5
          have c4 := (unhide F4).cell 1 (v := .slice ad ls.length cap) rfl
          go_wp2_with (go_at_call 21; refine (want_ld (t := ⟨#[124]⟩) (T' := fun a' => a < a' ∧ ∃ o5, Fv s a' [] o5 ∧ FE s ls o o5) (by decide) (fun a' ⟨h1, h2, h3⟩ => by
              subst h1
              by_cases h4 : bt s (a + 1) = 124
              · obtain ⟨o5, k1, k2⟩ := hsc3.e4 hl hend h2 h4 (h3 h4)
                exact .inl ⟨stand1 h4, by show a < a + 1 + 1; omega, o5, k1, k2⟩
              · exact .inr ⟨0, by decide, stand0 _ _ _, h4, hsc3.e2 hend h2 h4⟩) _ (unhide L4)).mono ?_; rintro e w5 ⟨rfl, hr, hb⟩; have L5 := hide hr; have F5 := hide ((unhide F4).but hb (by omega)); have O5 := hide ((unhide O4).but hb (fun k h1 h2 => by omega)); have B5 := hide ((unhide B4).trans (hb.mono fun k e => .inl e)); clear hr hb; refine Hid.out ?_)
          refine hide ?_
          have hal : Below w5.heap.size w5 (w5.alloc (.cells #[.complex .f64 0 0, .complex .f64 0 0, .complex .f64 0 0, .complex .f64 0 0, .complex .f64 0 0] 74)) := (Below.refl _ _).alloc (Nat.le_refl _) _
          have L6 := hide ((unhide L5).but (But.low (O := fun _ => False) hal) (fun e => e))
          have A6 : Hid (Blk (w5.alloc (.cells #[.complex .f64 0 0, .complex .f64 0 0, .complex .f64 0 0, .complex .f64 0 0, .complex .f64 0 0] 74)) w5.heap.size (fiveC []) 74) := Blk.alloc
          have F6 := hide ((unhide F5).below hal (unhide F5).lt)
          have O6 := hide ((unhide O5).but (But.low (O := fun _ => False) hal) (fun _ _ e => e))
          have B6 := hide ((unhide B5).trans (But.low hal))
          have hs5 := (unhide B5).size
          have hF5 := (unhide F5).lt
          have HAL := hide hal
          clear hal c4
          go_wp2_with fail
          obtain ⟨w6, hw6⟩ : ∃ w6, w6 = w5.alloc (.cells #[.complex .f64 0 0, .complex .f64 0 0, .complex .f64 0 0, .complex .f64 0 0, .complex .f64 0 0] 74) := ⟨_, rfl⟩
          rw [← hw6] at L6 A6 F6 O6 B6 HAL ⊢
          clear hw6
          go_loopw [58] (fun i wr => ∃ (l : List (Nat × Nat)), i = .int .i64 l.length ∧ l.length ≤ 5 ∧ Blk wr w5.heap.size (fiveC l) 74 ∧ But (fun k => k = w.heap.size + 1 ∨ k = w5.heap.size) w6 wr ∧ LD s (w.heap.size + 1) (fun a' => a < a' ∧ ∃ o5, Fv s a' l o5 ∧ FE s ls o o5) (fun er q => o = .bad er q) wr)
            (fun i _ => 5 - (intOf i).toNat)
          case atStart => exact ⟨[], rfl, by decide, unhide A6, But.refl _ _, unhide L6⟩
          case round =>
            obtain ⟨l, rfl, hl5, hA, hbq, hld⟩ := hrel
            have HA := hide hA
            have Hq := hide hbq
            have HL := hide hld
            have hs6 := (unhide A6).lt
            have hszq := hbq.size
            have hB6 := (unhide B6).size
            clear hA hbq hld
            by_cases h5 : l.length < 5
            · have i1 : (l.length : Int) < 5 := by omega
              have i2 : ¬ (l.length : Int) < 0 := by omega
              have hw1 : IntKind.i64.wrap ((l.length : Int) + 1) = (l.length : Int) + 1 := by simp [IntKind.wrap_i64]; omega
              go_wp2_with (go_at_call 21; refine (want_ld (t := ⟨#[32]⟩) (T' := fun a' => ∃ on, NumAt s a' on ∧ NEnd (fun x y p => a < p ∧ ∃ o5, Fv s p (l ++ [(x, y)]) o5 ∧ FE s ls o o5) (fun er q => o = .bad er q) on) (by decide) (fun a' ⟨h1, o5, k1, k2⟩ => by
                  by_cases h4 : bt s a' = 32
                  · obtain ⟨on, g1, g2⟩ := k1.e2 h5 h4
                    refine .inl ⟨stand1 h4, on, g1, ?_⟩
                    cases on with
                    | bad er q => obtain rfl : o5 = .bad er q := g2; exact k2
                    | ok x y p => exact ⟨by have := g2.1; omega, o5, g2.2, k2⟩
                  · obtain rfl := k1.e1 h5 h4
                    exact .inr ⟨0, by decide, stand0 _ _ _, h4, k2⟩) _ (unhide HL)).mono ?_; rintro e w7 ⟨rfl, hr, hb⟩; have L7 := hide hr; have A7 := hide ((unhide HA).but hb (by omega)); have B7 := hide ((unhide Hq).trans (hb.mono fun k e => .inl e)); clear hr hb; refine Hid.out ?_)
              refine hide ?_
              go_wp2_with (go_at_call 22; refine (num_ld (T' := fun x y p => a < p ∧ ∃ o5, Fv s p (l ++ [(x, y)]) o5 ∧ FE s ls o o5) (fun a' h => h) _ (unhide L7)).mono ?_; rintro e w8 ⟨x8, y8, rfl, hr, hb⟩; have L8 := hide hr; have A8 := hide ((unhide A7).but hb (by omega)); have B8 := hide ((unhide B7).trans (hb.mono fun k e => .inl e)); clear hr hb; refine Hid.out ?_)
              refine hide ?_
              have c8 := (unhide A8).cell l.length (fiveC_at h5)
              have f8 := (unhide A8).unfrozen l.length
              go_wp2_with fail
              have hset := But.setCell (fun k => k = w5.heap.size) w8 ⟨w5.heap.size, l.length, none⟩ (.complex .f64 x8 y8) rfl
              refine ⟨⟨l ++ [(x8, y8)], ?_, ?_, ?_, (unhide B8).trans (hset.mono fun k e => .inr e), (unhide L8).but hset (by omega)⟩, ?_⟩
              · rw [List.length_append]; rfl
              · rw [List.length_append]; show l.length + 1 ≤ 5; omega
              · rw [← fiveC_put h5]; exact (unhide A8).put l.length _
              · simp only [intOf]; omega
            · have h55 : l.length = 5 := by omega
              obtain ⟨x0, y0, x1, y1, x2, y2, x3, y3, x4, y4, rfl⟩ := list5 h55
              have HA' : Blk wr w5.heap.size #[.complex .f64 x0 y0, .complex .f64 x1 y1, .complex .f64 x2 y2, .complex .f64 x3 y3, .complex .f64 x4 y4] 74 := unhide HA
              have k0 := HA'.cell 0 (v := .complex .f64 x0 y0) rfl
              have k1 := HA'.cell 1 (v := .complex .f64 x1 y1) rfl
              have k2 := HA'.cell 2 (v := .complex .f64 x2 y2) rfl
              have k3 := HA'.cell 3 (v := .complex .f64 x3 y3) rfl
              have k4 := HA'.cell 4 (v := .complex .f64 x4 y4) rfl
              have FQ := hide ((unhide F6).but (unhide Hq) (by omega))
              have OQ := hide (((unhide O5).but ((But.low (O := fun k => k = w.heap.size + 1) (unhide HAL)).fresh2 (unhide Hq) (fun k hk e => by omega)) (fun k h1 h2 => by omega)).but (But.low (O := fun _ => False) ((Below.refl _ wr).alloc (Nat.le_refl _) (.cells #[.complex .f64 x0 y0, .complex .f64 x1 y1, .complex .f64 x2 y2, .complex .f64 x3 y3, .complex .f64 x4 y4] 76))) (fun _ _ e => e))
              have g1 := (unhide FQ).cell 1 (v := .slice ad ls.length cap) rfl
              clear HA'
              go_wp2_with (at_builtin; refine OwS.app rfl _ _ rfl _ ls rfl (unhide OQ) wr.heap.size [(x0, y0), (x1, y1), (x2, y2), (x3, y3), (x4, y4)] rfl rfl Blk.alloc (by omega) (by rw [alloc_size]; omega) ?_; intro v9 w9 h1 h2; have O9 := hide h1; have B9 := hide h2; clear h1 h2; refine Hid.out ?_)
              refine hide ?_
              have hal : Below wr.heap.size wr (wr.alloc (.cells #[.complex .f64 x0 y0, .complex .f64 x1 y1, .complex .f64 x2 y2, .complex .f64 x3 y3, .complex .f64 x4 y4] 76)) := (Below.refl _ _).alloc (Nat.le_refl _) _
              have hal8 := hal.size
              have hFq := (unhide FQ).lt
              have F9 := hide (((unhide FQ).below hal hFq).but (unhide B9) (by omega))
              have L9 := hide (((unhide HL).but (But.low (O := fun _ => False) hal) (fun e => e)).but (unhide B9) (by omega))
              have Bq := hide ((unhide B6).fresh2 (unhide Hq) (fun k hk e => by omega))
              have B9' := hide (((unhide Bq).trans (But.low hal)).fresh2 (unhide B9) (fun k hk e => by omega))
              obtain ⟨ad9, cap9, e9⟩ := (unhide O9).shape
              obtain ⟨n9, hn9⟩ : ∃ n9, n9 = (ls ++ [[(x0, y0), (x1, y1), (x2, y2), (x3, y3), (x4, y4)]]).length := ⟨_, rfl⟩
              rw [← hn9] at e9
              subst e9
              clear hn9
              have c9 := (unhide F9).cell 1 (v := .slice ad ls.length cap) rfl
              have f9 := (unhide F9).unfrozen 1
              go_wp2_with fail
              have hset := But.setCell (fun k => k = w2.heap.size) w9 ⟨w2.heap.size, 1, none⟩ (.slice ad9 n9 cap9) rfl
              have hb9 := (unhide B9).size
              have LE := (unhide L9).but hset (by omega)
              refine ⟨⟨ls ++ [[(x0, y0), (x1, y1), (x2, y2), (x3, y3), (x4, y4)]], .slice ad9 n9 cap9, (unhide O9).but hset (fun k h1 h2 => by omega), ?_, (unhide F9).put 1 (.slice ad9 n9 cap9), (unhide B9').trans (hset.mono fun k e => .inr e), LE.mono fun a' _ ⟨g1, o5, g2, g3⟩ => ?_⟩, ?_⟩
              · rw [List.length_append]; show ls.length + 1 ≤ 17; omega
              · rw [g2.full h55] at g3
                exact ⟨g3.1, by rw [List.length_append]; exact g3.2, unhide HGX, unhide HGY⟩
              · rw [hm]; exact aMeas_lt LE (fun a' h => h.1) has
      · have L4 : Hid (LD s (w.heap.size + 1) (fun a' => a' = a + 1 ∧ bt s a = 32 ∧ (bt s (a + 1) = 124 → ls.length ≠ 16)) (fun er q => o = .bad er q) w5) := hld.mono fun a' _ ⟨⟨h1, h2⟩, h3⟩ => ⟨h1, h2, fun h4 => absurd h4 (by rw [← h1]; exact h3)⟩
        clear hld V5
        have F4 := F5
        have O4 := O5
        have B4 := B5
        have c4 := (unhide F4).cell 1 (v := .slice ad ls.length cap) rfl
        go_wp2_with (go_at_call 21; refine (want_ld (t := ⟨#[124]⟩) (T' := fun a' => a < a' ∧ ∃ o5, Fv s a' [] o5 ∧ FE s ls o o5) (by decide) (fun a' ⟨h1, h2, h3⟩ => by
            subst h1
            by_cases h4 : bt s (a + 1) = 124
            · obtain ⟨o5, k1, k2⟩ := hsc3.e4 hl hend h2 h4 (h3 h4)
              exact .inl ⟨stand1 h4, by show a < a + 1 + 1; omega, o5, k1, k2⟩
            · exact .inr ⟨0, by decide, stand0 _ _ _, h4, hsc3.e2 hend h2 h4⟩) _ (unhide L4)).mono ?_; rintro e w5 ⟨rfl, hr, hb⟩; have L5 := hide hr; have F5 := hide ((unhide F4).but hb (by omega)); have O5 := hide ((unhide O4).but hb (fun k h1 h2 => by omega)); have B5 := hide ((unhide B4).trans (hb.mono fun k e => .inl e)); clear hr hb; refine Hid.out ?_)
        refine hide ?_
        have hal : Below w5.heap.size w5 (w5.alloc (.cells #[.complex .f64 0 0, .complex .f64 0 0, .complex .f64 0 0, .complex .f64 0 0, .complex .f64 0 0] 74)) := (Below.refl _ _).alloc (Nat.le_refl _) _
        have L6 := hide ((unhide L5).but (But.low (O := fun _ => False) hal) (fun e => e))
        have A6 : Hid (Blk (w5.alloc (.cells #[.complex .f64 0 0, .complex .f64 0 0, .complex .f64 0 0, .complex .f64 0 0, .complex .f64 0 0] 74)) w5.heap.size (fiveC []) 74) := Blk.alloc
        have F6 := hide ((unhide F5).below hal (unhide F5).lt)
        have O6 := hide ((unhide O5).but (But.low (O := fun _ => False) hal) (fun _ _ e => e))
        have B6 := hide ((unhide B5).trans (But.low hal))
        have hs5 := (unhide B5).size
        have hF5 := (unhide F5).lt
        have HAL := hide hal
        clear hal c4
        go_wp2_with fail
        obtain ⟨w6, hw6⟩ : ∃ w6, w6 = w5.alloc (.cells #[.complex .f64 0 0, .complex .f64 0 0, .complex .f64 0 0, .complex .f64 0 0, .complex .f64 0 0] 74) := ⟨_, rfl⟩
        rw [← hw6] at L6 A6 F6 O6 B6 HAL ⊢
        clear hw6
        go_loopw [58] (fun i wr => ∃ (l : List (Nat × Nat)), i = .int .i64 l.length ∧ l.length ≤ 5 ∧ Blk wr w5.heap.size (fiveC l) 74 ∧ But (fun k => k = w.heap.size + 1 ∨ k = w5.heap.size) w6 wr ∧ LD s (w.heap.size + 1) (fun a' => a < a' ∧ ∃ o5, Fv s a' l o5 ∧ FE s ls o o5) (fun er q => o = .bad er q) wr)
          (fun i _ => 5 - (intOf i).toNat)
        case atStart => exact ⟨[], rfl, by decide, unhide A6, But.refl _ _, unhide L6⟩
        case round =>
          obtain ⟨l, rfl, hl5, hA, hbq, hld⟩ := hrel
          have HA := hide hA
          have Hq := hide hbq
          have HL := hide hld
          have hs6 := (unhide A6).lt
          have hszq := hbq.size
          have hB6 := (unhide B6).size
          clear hA hbq hld
          by_cases h5 : l.length < 5
          · have i1 : (l.length : Int) < 5 := by omega
            have i2 : ¬ (l.length : Int) < 0 := by omega
            have hw1 : IntKind.i64.wrap ((l.length : Int) + 1) = (l.length : Int) + 1 := by simp [IntKind.wrap_i64]; omega
            go_wp2_with (go_at_call 21; refine (want_ld (t := ⟨#[32]⟩) (T' := fun a' => ∃ on, NumAt s a' on ∧ NEnd (fun x y p => a < p ∧ ∃ o5, Fv s p (l ++ [(x, y)]) o5 ∧ FE s ls o o5) (fun er q => o = .bad er q) on) (by decide) (fun a' ⟨h1, o5, k1, k2⟩ => by
                by_cases h4 : bt s a' = 32
                · obtain ⟨on, g1, g2⟩ := k1.e2 h5 h4
                  refine .inl ⟨stand1 h4, on, g1, ?_⟩
                  cases on with
                  | bad er q => obtain rfl : o5 = .bad er q := g2; exact k2
                  | ok x y p => exact ⟨by have := g2.1; omega, o5, g2.2, k2⟩
                · obtain rfl := k1.e1 h5 h4
                  exact .inr ⟨0, by decide, stand0 _ _ _, h4, k2⟩) _ (unhide HL)).mono ?_; rintro e w7 ⟨rfl, hr, hb⟩; have L7 := hide hr; have A7 := hide ((unhide HA).but hb (by omega)); have B7 := hide ((unhide Hq).trans (hb.mono fun k e => .inl e)); clear hr hb; refine Hid.out ?_)
            refine hide ?_
            go_wp2_with (go_at_call 22; refine (num_ld (T' := fun x y p => a < p ∧ ∃ o5, Fv s p (l ++ [(x, y)]) o5 ∧ FE s ls o o5) (fun a' h => h) _ (unhide L7)).mono ?_; rintro e w8 ⟨x8, y8, rfl, hr, hb⟩; have L8 := hide hr; have A8 := hide ((unhide A7).but hb (by omega)); have B8 := hide ((unhide B7).trans (hb.mono fun k e => .inl e)); clear hr hb; refine Hid.out ?_)
            refine hide ?_
            have c8 := (unhide A8).cell l.length (fiveC_at h5)
            have f8 := (unhide A8).unfrozen l.length
            go_wp2_with fail
            have hset := But.setCell (fun k => k = w5.heap.size) w8 ⟨w5.heap.size, l.length, none⟩ (.complex .f64 x8 y8) rfl
            refine ⟨⟨l ++ [(x8, y8)], ?_, ?_, ?_, (unhide B8).trans (hset.mono fun k e => .inr e), (unhide L8).but hset (by omega)⟩, ?_⟩
            · rw [List.length_append]; rfl
            · rw [List.length_append]; show l.length + 1 ≤ 5; omega
            · rw [← fiveC_put h5]; exact (unhide A8).put l.length _
            · simp only [intOf]; omega
          · have h55 : l.length = 5 := by omega
            obtain ⟨x0, y0, x1, y1, x2, y2, x3, y3, x4, y4, rfl⟩ := list5 h55
            have HA' : Blk wr w5.heap.size #[.complex .f64 x0 y0, .complex .f64 x1 y1, .complex .f64 x2 y2, .complex .f64 x3 y3, .complex .f64 x4 y4] 74 := unhide HA
            have k0 := HA'.cell 0 (v := .complex .f64 x0 y0) rfl
            have k1 := HA'.cell 1 (v := .complex .f64 x1 y1) rfl
            have k2 := HA'.cell 2 (v := .complex .f64 x2 y2) rfl
            have k3 := HA'.cell 3 (v := .complex .f64 x3 y3) rfl
            have k4 := HA'.cell 4 (v := .complex .f64 x4 y4) rfl
            have FQ := hide ((unhide F6).but (unhide Hq) (by omega))
            have OQ := hide (((unhide O5).but ((But.low (O := fun k => k = w.heap.size + 1) (unhide HAL)).fresh2 (unhide Hq) (fun k hk e => by omega)) (fun k h1 h2 => by omega)).but (But.low (O := fun _ => False) ((Below.refl _ wr).alloc (Nat.le_refl _) (.cells #[.complex .f64 x0 y0, .complex .f64 x1 y1, .complex .f64 x2 y2, .complex .f64 x3 y3, .complex .f64 x4 y4] 76))) (fun _ _ e => e))
            have g1 := (unhide FQ).cell 1 (v := .slice ad ls.length cap) rfl
            clear HA'
            go_wp2_with (at_builtin; refine OwS.app rfl _ _ rfl _ ls rfl (unhide OQ) wr.heap.size [(x0, y0), (x1, y1), (x2, y2), (x3, y3), (x4, y4)] rfl rfl Blk.alloc (by omega) (by rw [alloc_size]; omega) ?_; intro v9 w9 h1 h2; have O9 := hide h1; have B9 := hide h2; clear h1 h2; refine Hid.out ?_)
            refine hide ?_
            have hal : Below wr.heap.size wr (wr.alloc (.cells #[.complex .f64 x0 y0, .complex .f64 x1 y1, .complex .f64 x2 y2, .complex .f64 x3 y3, .complex .f64 x4 y4] 76)) := (Below.refl _ _).alloc (Nat.le_refl _) _
            have hal8 := hal.size
            have hFq := (unhide FQ).lt
            have F9 := hide (((unhide FQ).below hal hFq).but (unhide B9) (by omega))
            have L9 := hide (((unhide HL).but (But.low (O := fun _ => False) hal) (fun e => e)).but (unhide B9) (by omega))
            have Bq := hide ((unhide B6).fresh2 (unhide Hq) (fun k hk e => by omega))
            have B9' := hide (((unhide Bq).trans (But.low hal)).fresh2 (unhide B9) (fun k hk e => by omega))
            obtain ⟨ad9, cap9, e9⟩ := (unhide O9).shape
            obtain ⟨n9, hn9⟩ : ∃ n9, n9 = (ls ++ [[(x0, y0), (x1, y1), (x2, y2), (x3, y3), (x4, y4)]]).length := ⟨_, rfl⟩
            rw [← hn9] at e9
            subst e9
            clear hn9
            have c9 := (unhide F9).cell 1 (v := .slice ad ls.length cap) rfl
            have f9 := (unhide F9).unfrozen 1
            go_wp2_with fail
            have hset := But.setCell (fun k => k = w2.heap.size) w9 ⟨w2.heap.size, 1, none⟩ (.slice ad9 n9 cap9) rfl
            have hb9 := (unhide B9).size
            have LE := (unhide L9).but hset (by omega)
            refine ⟨⟨ls ++ [[(x0, y0), (x1, y1), (x2, y2), (x3, y3), (x4, y4)]], .slice ad9 n9 cap9, (unhide O9).but hset (fun k h1 h2 => by omega), ?_, (unhide F9).put 1 (.slice ad9 n9 cap9), (unhide B9').trans (hset.mono fun k e => .inr e), LE.mono fun a' _ ⟨g1, o5, g2, g3⟩ => ?_⟩, ?_⟩
            · rw [List.length_append]; show ls.length + 1 ≤ 17; omega
            · rw [g2.full h55] at g3
              exact ⟨g3.1, by rw [List.length_append]; exact g3.2, unhide HGX, unhide HGY⟩
            · rw [hm]; exact aMeas_lt LE (fun a' h => h.1) has
end Go.Proofs.YtbkjmnopljmanaaGreatDoor

/- ReadFilter and DocReadFilter alike, for every text. -/
namespace Go.Proofs.YtbkjmnopljmanaaGreatDoor
open Go.RowKit

/-- Both answer the fault er at q. -/
structure FBad (s : ByteArray) (q er : Nat) : Prop where
  ne : er ≠ 0
  prog : ∀ w, Gl w.heap.size w → Calls Tryz.prog 11 #[.string s] w fun x w' => x = .returned (.tuple #[.agg #[.complex .f64 0 0, .slice none 0 0], .int .i64 (q : Nat), .int .i64 (er : Nat)]) ∧ Below w.heap.size w w'
  doc : ∀ w, Calls Tryz.prog 12 #[.string s] w fun x w' => x = .returned (.tuple #[.agg #[.complex .f64 0 0, .slice none 0 0], .int .i64 (q : Nat), .int .i64 (er : Nat)]) ∧ Below w.heap.size w w'
/-- Both answer this filter. -/
structure FFine (s : ByteArray) (gx gy : Nat) (ls : List (List (Nat × Nat))) : Prop where
  gain : FinL [(gx, gy)]
  five : FivL ls
  n : ls.length ≤ 16
  told : [102, 105, 108, 116, 101, 114, 32] ++ numL gx gy ++ secT ls = s.toList
  size : s.size ≤ 65536
  prog : ∀ w, Gl w.heap.size w → Calls Tryz.prog 11 #[.string s] w fun x w' => ∃ v, x = .returned (.tuple #[.agg #[.complex .f64 gx gy, v], .int .i64 0, .int .i64 0]) ∧ OwS w.heap.size w' v ls ∧ Below w.heap.size w w'
  doc : ∀ w, Calls Tryz.prog 12 #[.string s] w fun x w' => ∃ v, x = .returned (.tuple #[.agg #[.complex .f64 gx gy, v], .int .i64 0, .int .i64 0]) ∧ OwS w.heap.size w' v ls ∧ Below w.heap.size w w'
theorem filter_both (s : ByteArray) : (∃ q er, FBad s q er) ∨ (∃ gx gy ls, FFine s gx gy ls) := by
  by_cases hs : s.size ≤ 65536
  rotate_left
  · exact .inl ⟨0, 2, by decide, fun w _ => read_longFilter (by omega) w, fun w => docfilter_long (by omega) w⟩
  rcases stand_cases s 0 ⟨#[102, 105, 108, 116, 101, 114, 32]⟩ 7 (by decide) with hS | ⟨j, hj, _, h1, h2⟩
  rotate_left
  · exact .inl ⟨j, 12, by decide, fun w hG => read_badFilter hs (by decide) w hG fun w0 hr0 hG0 => filter_bad1 hj h1 h2 w0 hr0 hG0, fun w => docfilter_any (gx := 0) (gy := 0) hs (.word hj h1 h2) w⟩
  obtain ⟨o, hN⟩ := num_any hs 7
  cases o with
  | bad er q =>
    have her : er ≠ 0 := by rcases hN.told with g | g <;> rw [g] <;> decide
    exact .inl ⟨q, er, her, fun w hG => read_badFilter hs her w hG fun w0 hr0 hG0 => filter_num (B := w.heap.size) (by omega) hS (hN.prog _ _ (by omega)) w0 hr0 hG0, fun w => docfilter_any (gx := 0) (gy := 0) hs (.num hS hN) w⟩
  | ok gx gy p1 =>
    obtain ⟨t1, t2, t3, t4, t5, t6, t7⟩ := hN.told
    obtain ⟨o, hZ⟩ := sc_any hs s.size p1 [] t6 (by omega)
    cases o with
    | bad er q =>
      have her : er ≠ 0 := by rcases hZ.good with g | g | g <;> rw [g] <;> decide
      exact .inl ⟨q, er, her, fun w hG => read_badFilter hs her w hG fun w0 hr0 hG0 => (filter_run (B := w.heap.size) (by omega) hS (hN.prog _ _ (by omega)) hZ w0 hr0 hG0).mono fun _ _ h => h, fun w => docfilter_any hs (.secs hS hN hZ) w⟩
    | ok ls =>
      obtain ⟨⟨m, z1, z2, z3⟩, z4⟩ := hZ.told ls rfl t6 (by decide)
      rw [List.nil_append] at z1
      subst z1
      refine .inr ⟨gx, gy, ls, ?_, z2, z4, ?_, hs, fun w hG => ?_, fun w => docfilter_any hs (.secs hS hN hZ) w⟩
      · intro p hp
        rw [List.mem_singleton] at hp
        rw [hp]; exact ⟨t1, t2, t3⟩
      · rw [← ex_all s, ex_cat s (show 0 ≤ 7 by omega) (show 7 ≤ s.size by omega), ex_cat s (show 7 ≤ p1 by omega) (show p1 ≤ s.size by omega), ← t7, z3]
        have q1 := stand_ex hS 7 (by decide)
        rw [Nat.zero_add] at q1
        rw [q1, bl_mk, List.append_assoc]
        rfl
      · exact read_fineFilter w fun W h1 h2 h3 => whole_okFilter (B := w.heap.size) W ⟨h3, Nat.zero_le _, hs⟩ (hG.on h1) (by omega) h2 fun W2 hr2 hG2 hA2 => rule_okFilter (by omega) W2 hA2 (filter_run (B := w.heap.size) (by omega) hS (hN.prog _ _ (by omega)) hZ W2 hr2 hG2)
end Go.Proofs.YtbkjmnopljmanaaGreatDoor

/- Numbers appended to a row of bytes: no block of another kind is changed. -/
namespace Go.Proofs.YtbkjmnopljmanaaGreatDoor
open Go.RowKit

/-- Blocks below B stay, and blocks that are no bytes. -/
structure Bk (B : Nat) (w w' : World) : Prop where
  lo : Below B w w'
  kept : Lib.OthersKept 5 none w w'
theorem Bk.refl (B : Nat) (w : World) : Bk B w w := ⟨Below.refl _ _, Lib.OthersKept.refl _ _ _⟩
theorem Bk.trans {B : Nat} {a b c : World} (h : Bk B a b) (k : Bk B b c) : Bk B a c := ⟨h.lo.trans k.lo, h.kept.trans k.kept⟩
theorem Bk.old {B : Nat} {w w' : World} (h : Below w.heap.size w w') (hB : B ≤ w.heap.size) : Bk B w w' := ⟨h.mono hB, fun k o hk _ _ => by rw [h.block k (Array.getElem?_eq_some_iff.1 hk).1]; exact hk⟩
theorem Bk.alloc {B : Nat} {w w' : World} (h : Bk B w w') (hB : B ≤ w'.heap.size) (o : Obj) : Bk B w (w'.alloc o) := h.trans (Bk.old ((Below.refl _ _).alloc (Nat.le_refl _) _) hB)
theorem Bk.grown {B : Nat} {w w' : World} {v : Value} {l : List UInt8} (h : w.grownBy w' v.ownBlock) (hB : B ≤ w.heap.size) (hown : Ow B w v l) : Bk B w w' :=
  ⟨(Below.refl B w).grown h hB (fun k hk => (hown.lt k hk).1), fun k o hk _ ho => by
    rw [h.block k (Array.getElem?_eq_some_iff.1 hk).1 (fun e => ?_)]
    · exact hk
    · rcases hown.2 with ⟨rfl, _⟩ | ⟨g, cap, cur, rfl, h1, h2, _⟩
      · simp [Value.ownBlock] at e
      · simp [Value.ownBlock] at e
        subst e
        rw [h2] at hk
        exact ho cur (0, 0) (Option.some.inj hk).symm⟩
theorem Bk.blk {B : Nat} {w w' : World} {g : Nat} {cs : Array Value} (h : Bk B w w') (k : Blk w g cs 23) : Blk w' g cs 23 :=
  h.kept g _ k (by simp) (fun c fz e => by injection e with e1 e2 e3; exact absurd e2 (by decide))
theorem Ow.app_strK {B : Nat} {w : World} {ops : Array Oper} {rest : List Oper} {o : Oper} {a : Act} {Q : Exit → Act → World → Prop} (hgd : o.guard = Option.none) (sl x : Operand)
    (ho : o.op = .call { callee := .builtin .append, args := #[sl, x], argTypes := #[45, 9] }) (v : Value) (l : List UInt8) (hs : a.eval sl = v) (hown : Ow B w v l) (s : ByteArray) (hx : a.eval x = .string s)
    (hl : l.length ≤ 1000000) (hz : s.size ≤ 1000000) (hB : B ≤ w.heap.size)
    (h : ∀ v' w', Ow B w' v' (l ++ s.data.toList) → Bk B w w' → wpList Tryz.prog ops Q rest (a.put o.dst v') w') : wpList Tryz.prog ops Q (o :: rest) a w := by
  obtain ⟨i0, hi, hz0, hz1, hz2⟩ := info_parts info_u8
  refine Lib.wpList_append_own_string w hgd sl x 45 9 ho B 5 i0 Tryz.underlying45 Tryz.underlying9 hi hz0 hz1 hz2 v _ _ hs hown s hx (by unfold maxLen; omega) (by omega) hB fun v' w' h2 h3 _ => ?_
  refine h v' w' ?_ (Bk.grown h3 hB hown)
  have e1 : (l ++ s.data.toList).length = l.length + s.size := by rw [List.length_append]; rfl
  have e2 : Lib.byteCells (l ++ s.data.toList) = Lib.byteCells l ++ Lib.strCells s := by simp [Lib.byteCells, Lib.strCells]
  show w'.ownsRow _ _ _ _ _ _
  rw [e1, e2]; exact h2
theorem Ow.app_rowK {B : Nat} {w : World} {ops : Array Oper} {rest : List Oper} {o : Oper} {a : Act} {Q : Exit → Act → World → Prop} (hgd : o.guard = Option.none) (sl x : Operand)
    (ho : o.op = .call { callee := .builtin .append, args := #[sl, x], argTypes := #[45, 45] }) (v : Value) (l : List UInt8) (hs : a.eval sl = v) (hown : Ow B w v l) (A off m c : Nat) (l2 : List UInt8) (hx : a.eval x = .slice (some ⟨A, off, Option.none⟩) m c)
    (hm : l2.length = m) (hc : ∀ j (hj : j < l2.length), w.cell? ⟨A, off + j, Option.none⟩ = some (.int .u8 (l2[j]'hj).toNat))
    (hl : l.length ≤ 1000000) (hz : m ≤ 1000000) (hB : B ≤ w.heap.size)
    (h : ∀ v' w', Ow B w' v' (l ++ l2) → Bk B w w' → wpList Tryz.prog ops Q rest (a.put o.dst v') w') : wpList Tryz.prog ops Q (o :: rest) a w := by
  obtain ⟨i0, hi, hz0, hz1, hz2⟩ := info_parts info_u8
  refine wpList_append_own w hgd sl x 45 ho B 5 i0 (.int .u8 0) 1 1 Tryz.underlying45 hi hz0 hz1 hz2 rfl (by decide) v _ _ hs hown ⟨A, off, Option.none⟩ m c (Lib.byteCells l2) hx (by simp [Lib.byteCells, hm]) ?_ ?_ (by unfold maxLen; omega) (by omega) hB fun v' w' h2 h3 _ => ?_
  · intro j u hj
    have hj' : j < l2.length := by
      apply Nat.lt_of_not_le; intro hn
      rw [List.getElem?_eq_none (by simpa [Lib.byteCells] using hn)] at hj; cases hj
    have := hc j hj'
    simp [Lib.byteCells, hj'] at hj
    subst hj
    by_cases h0 : j = 0
    · subst h0; simp [Addr.add]
    · simp only [Addr.add, h0, if_false]; exact this
  · intro u hu
    simp [Lib.byteCells] at hu
    obtain ⟨b, _, rfl⟩ := hu
    rfl
  refine h v' w' ?_ (Bk.grown h3 hB hown)
  have e1 : (l ++ l2).length = l.length + m := by rw [List.length_append, hm]
  have e2 : Lib.byteCells (l ++ l2) = Lib.byteCells l ++ Lib.byteCells l2 := by simp [Lib.byteCells]
  show w'.ownsRow _ _ _ _ _ _
  rw [e1, e2]; exact h2

theorem format16K (B : Nat) (u0 : Nat) (hu0 : u0 < 18446744073709551616) (sv : Value) (l : List UInt8) (w : World) (hown : Ow B w sv l) (hBw : B ≤ w.heap.size) (hlim : l.length ≤ 1000000)
    (hT : TabAt (Tryz.lays29_ren.g 1) Lib.deBruijn64tab w) (hg : Tryz.lays29_ren.g 1 < w.heap.size) :
    Calls Tryz.prog 95 #[sv, .int .u64 (u0 : Nat), .int .i64 16, .bool false, .bool true] w fun e w' => ∃ v', e = .returned (.tuple #[v', .string ⟨#[]⟩]) ∧
      Ow B w' v' (l ++ hexL u0) ∧ Bk B w w' := by
  have HO := hide hown
  have HT : Hid (∀ w', Below w.heap.size w w' → TabAt (Tryz.lays29_ren.g 1) Lib.deBruijn64tab w') := fun w' hb j hj => by rw [hb.cell hg]; exact hT j hj
  have H0 : Hid (HexRow w (w.alloc (Obj.cells Tryz.zeroCells147 147)) u0 u0 []) := ⟨⟨_, Blk.alloc, by kernel_rfl, fun j hj => by simp at hj⟩, (Below.refl _ _).alloc (Nat.le_refl _) _, by simp, by simpa using hu0, by simp⟩
  clear hown hT hg
  go_enter Tryz.func95, Tryz.ntmps95
  go_wp2_with (first
    | (go_at_call 108; refine (pow2_16 _).mono ?_; rintro e w' ⟨rfl, rfl⟩)
    | (go_at_call 109; refine (tz_16 _ (unhide HT _ ((Below.refl _ _).alloc (Nat.le_refl _) _))).mono ?_; rintro e w' ⟨rfl, rfl⟩))
  go_loopw [1, 13] (fun vu vi wr => ∃ (u : Nat) (ds : List UInt8) (i : Int), vu = .int .u64 (u : Nat) ∧ vi = .int .i64 i ∧ Hid (i = 65 - (ds.length : Int)) ∧ HexRow w wr u0 u ds)
    (fun vu _ _ => (intOf vu).toNat)
  case atStart => exact ⟨u0, [], 65, rfl, rfl, rfl, unhide H0⟩
  case round =>
    obtain ⟨u, ds, i, rfl, rfl, hi, hr⟩ := hrel
    have h1 := hr.len
    have h2 := hr.few
    have h3 := hr.num
    by_cases hu : u < 16
    · obtain ⟨⟨v0, hc⟩, hf⟩ := hr.cell (65 - (ds.length + 1)) (by omega)
      obtain ⟨k, hk⟩ : ∃ k, k = 65 - (ds.length + 1) := ⟨_, rfl⟩
      have HP := hide (hr.last hu)
      rw [← hk] at hc hf HP
      have hik : i - 1 = (k : Int) := by have := unhide hi; omega
      have hk65 : (k : Int) < 65 := by omega
      have i16 : ¬ (16 : Int) ≤ (u : Int) := by omega
      have i36 : (u : Int) < 36 := by omega
      have HI := hide hk
      have hsl := slice65 w.heap.size k (by omega)
      have hdu := dig_at u hu
      have hlen : (dgc u :: ds).length = 65 - k := by rw [List.length_cons]; omega
      clear hk hr h2 h3
      go_wp2_with (at_builtin; (refine Ow.app_rowK rfl _ _ rfl sv l rfl ((unhide HO).low (unhide HP).2.2) w.heap.size k (65 - k) (65 - k) (dgc u :: ds) rfl hlen (unhide HP).2.1 hlim (by omega) (Nat.le_trans hBw (unhide HP).2.2.size) ?_); intro v' w' ho hb; have HO' := hide ho; have HB' := hide hb; clear ho hb)
      go_ret2
      refine ⟨_, rfl, ?_, (Bk.old (unhide HP).2.2 hBw).trans (unhide HB')⟩
      rw [(unhide HP).1]; exact unhide HO'
    · have hl : ds.length ≤ 14 := by
        apply Nat.le_of_not_lt
        intro h
        have : 16 - ds.length = 1 := by omega
        rw [this] at h2; omega
      have hub : u < 18446744073709551616 := Nat.lt_of_lt_of_le h2 (Nat.le_trans (Nat.pow_le_pow_right (by decide) (show 16 - ds.length ≤ 16 by omega)) (by decide))
      obtain ⟨d, hd⟩ : ∃ d, d = u % 16 := ⟨_, rfl⟩
      obtain ⟨q, hq⟩ : ∃ q, q = u / 16 := ⟨_, rfl⟩
      have hd16 : d < 16 := by omega
      have hand : bits .and .u64 (u : Int) 15 = (d : Int) := by
        have := bits_and_u64_nat u 15 hub (by decide)
        rw [hd, show u % 16 = u &&& 15 from (Nat.and_two_pow_sub_one_eq_mod u 4).symm]
        exact_mod_cast this
      have hsh : (u : Int) / 16 = (q : Int) := by omega
      obtain ⟨⟨v0, hc⟩, hf⟩ := hr.cell (65 - (ds.length + 1)) (by omega)
      have HP := hide (hr.put (dgc d) q (by rw [h3, hexL_step hu, ← hd, ← hq, List.append_assoc]; rfl) (by
        have e : 16 - ds.length = (16 - (ds.length + 1)) + 1 := by omega
        rw [e, Nat.pow_succ] at h2; omega) (by omega))
      have HR := hide hr
      obtain ⟨k, hk⟩ : ∃ k, k = 65 - (ds.length + 1) := ⟨_, rfl⟩
      rw [← hk] at hc hf HP
      have hik : i - 1 = (k : Int) := by have := unhide hi; omega
      have hk65 : (k : Int) < 65 := by omega
      have i16 : (16 : Int) ≤ (u : Int) := by omega
      have HI := hide hk
      have i36 : (d : Int) < 36 := by omega
      have Hq := hide hq
      clear hk hr h1 h2 h3 hd hq hub
      go_wp2_with fail
      rw [dig_at d hd16]
      exact ⟨⟨q, dgc d :: ds, k, rfl, rfl, (by have := unhide HI; show (k : Int) = _; rw [List.length_cons]; omega), unhide HP⟩, by have := unhide Hq; simp only [intOf]; omega⟩

theorem appendUint16K (B : Nat) (u0 : Nat) (hu0 : u0 < 18446744073709551616) (sv : Value) (l : List UInt8) (w : World) (hown : Ow B w sv l) (hBw : B ≤ w.heap.size) (hlim : l.length ≤ 1000000)
    (hT : TabAt (Tryz.lays29_ren.g 1) Lib.deBruijn64tab w) (hg : Tryz.lays29_ren.g 1 < w.heap.size) :
    Calls Tryz.prog 63 #[sv, .int .u64 (u0 : Nat), .int .i64 16] w fun e w' => ∃ v', e = .returned v' ∧ Ow B w' v' (l ++ hexL u0) ∧ Bk B w w' := by
  have HF := hide (format16K B u0 hu0 sv l w hown hBw hlim hT hg)
  clear hown hT hg
  have HI : Hid (Calls Tryz.prog 76 #[sv, .int .u64 (u0 : Nat), .int .i64 16] w fun e w' => ∃ v', e = .returned v' ∧ Ow B w' v' (l ++ hexL u0) ∧ Bk B w w') := by
    refine hide ?_
    go_enter Tryz.func76, Tryz.ntmps76
    go_wp2_with (go_at_call 95; refine (unhide HF).mono ?_; rintro e w' ⟨v', rfl, h1, h2⟩; have H1 := hide h1; have H2 := hide h2; clear h1 h2)
    go_ret
    exact ⟨_, rfl, unhide H1, unhide H2⟩
  go_enter Tryz.func63, Tryz.ntmps63
  go_wp2_with (go_at_call 76; refine (unhide HI).mono ?_; rintro e w' ⟨v', rfl, h1, h2⟩; have H1 := hide h1; have H2 := hide h2; clear h1 h2)
  go_ret
  exact ⟨_, rfl, unhide H1, unhide H2⟩
theorem fltWK_num (B : Nat) (b : Nat) (hb : b < 18446744073709551616) (sv : Value) (l : List UInt8) (w : World) (hown : Ow B w sv l) (hBw : B ≤ w.heap.size) (hlim : l.length ≤ 100000) (hG : Gl B w) (hn : isnan b = false) (hi : pw b ≠ 2047) (hs : ng b = false) :
    Calls Tryz.prog 49 #[sv, .float .f64 b] w fun e w' => ∃ v', e = .returned v' ∧ Ow B w' v' (l ++ fltN b) ∧ Bk B w w' := by
  have H1 := hide (isnan_run b hb w)
  have H2 := hide (signbit_any b hb w)
  have H3 := hide (fun w => isinf_any b hb hn w)
  have H4 := hide (fun w => split_any b hb w)
  have H5 := hide (fun w (hG : Gl B w) => odd_any (mant b) (expo b) (by have := mant_lt b; omega) (by have := expo_in b; omega) (by have := expo_in b; omega) w hG.tz)
  rw [hn] at H1
  rw [hs] at H2
  rw [decide_eq_false hi] at H3
  rw [splitOf_num hi] at H4
  have h6 := om_lt b
  have h7 := oe_in b
  have E : Hid (fltN b = [48, 120] ++ hexL (om (mant b)) ++ [112] ++ Lib.itoa (oe (mant b) (expo b))) := rfl
  generalize fltN b = F at E
  have h8 := hexL_len (om (mant b)) h6
  generalize om (mant b) = m at *
  generalize oe (mant b) (expo b) = x at *
  generalize mant b = m1 at *
  generalize expo b = x1 at *
  have HO := hide hown
  have HG := hide hG
  clear hown hG hn hi hs
  have A0 : ∀ (w : World) (c : UInt8) (j : Nat) (hj : j < [c].length), (w.alloc (Obj.cells #[Value.int IntKind.u8 (c.toNat : Nat)] 5)).cell? ⟨w.heap.size, 0 + j, none⟩ = some (.int .u8 ([c][j]'hj).toNat) := by
    intro w c j hj
    obtain rfl : j = 0 := by simpa using hj
    exact Blk.cell Blk.alloc 0 rfl
  have HA := hide A0
  clear A0
  go_enter Tryz.func49, Tryz.ntmps49
  go_wp2_with (first
    | (go_at_call 58; refine (unhide H1).mono ?_; rintro e w' ⟨rfl, hw'⟩; obtain rfl := hw'.symm)
    | (go_at_call 59; refine (unhide H2).mono ?_; rintro e w' ⟨rfl, hw'⟩; obtain rfl := hw'.symm)
    | (go_at_call 60; refine (unhide H3 _).mono ?_; rintro e w' ⟨rfl, hw'⟩; obtain rfl := hw'.symm)
    | (go_at_call 61; refine (unhide H4 _).mono ?_; rintro e w' ⟨rfl, hw'⟩; obtain rfl := hw'.symm)
    | (go_at_call 62; refine (unhide H5 _ (unhide HG)).mono ?_; rintro e w' ⟨rfl, hw'⟩; obtain rfl := hw'.symm)
    | (at_builtin; refine Ow.app_strK rfl _ _ rfl sv l rfl (unhide HO) ⟨#[48, 120]⟩ rfl (by omega) (by decide) hBw ?_; intro v1 w1 ho1 hb1; have HO1 : Hid (Ow B w1 v1 (l ++ [48, 120])) := ho1; have HB1 := hide hb1; clear ho1 hb1; refine Hid.out ?_))
  refine hide ?_
  have G1 := hide ((unhide HG).on (unhide HB1).lo)
  have S1 : B ≤ w1.heap.size := Nat.le_trans hBw (unhide HB1).lo.size
  have L1 : (l ++ [48, 120]).length ≤ 200000 := by simp; omega
  go_wp2_with (go_at_call 63; refine (appendUint16K B m (by omega) v1 _ w1 (unhide HO1) S1 (by omega) (unhide G1).tz (Nat.lt_of_lt_of_le (unhide G1).g2 S1)).mono ?_; rintro e w2 ⟨v2, rfl, ho2, hb2⟩; have HO2 := hide ho2; have HB2 := hide hb2; clear ho2 hb2; refine Hid.out ?_)
  refine hide ?_
  have G2 := hide ((unhide G1).on (unhide HB2).lo)
  have S2 : B ≤ w2.heap.size := Nat.le_trans S1 (unhide HB2).lo.size
  have L2 : (l ++ [48, 120] ++ hexL m).length ≤ 300000 := by simp; omega
  go_wp2_with (at_builtin; refine Ow.app_rowK rfl _ _ rfl v2 _ rfl ((unhide HO2).low ((Below.refl _ _).alloc (Nat.le_refl _) _)) w2.heap.size 0 1 1 [112] rfl rfl (unhide HA w2 112) (by omega) (by decide) (Nat.le_trans S2 ((Below.refl w2.heap.size w2).alloc (Nat.le_refl _) _).size) ?_; intro v3 w3 ho3 hb3; have HO3 := hide ho3; have HB3 := hide (((Bk.refl B w2).alloc S2 _).trans hb3); clear ho3 hb3; refine Hid.out ?_)
  refine hide ?_
  have G3 := hide ((unhide G2).on (unhide HB3).lo)
  have S3 : B ≤ w3.heap.size := Nat.le_trans S2 (unhide HB3).lo.size
  have L3 : (l ++ [48, 120] ++ hexL m ++ [112]).length ≤ 400000 := by simp; omega
  go_wp2_with (go_at_call 64; refine (Tryz.strconv_AppendInt B _ x (by omega) (by omega) v3 _ w3 (unhide HO3) S3 (by omega) (unhide G3).pow).mono ?_; rintro e w4 ⟨v4, rfl, ho4, hb4, hk4⟩; have HO4 := hide ho4; have HB4 : Hid (Bk B w3 w4) := ⟨hb4, hk4⟩; clear ho4 hb4 hk4)
  go_ret
  refine ⟨_, rfl, ?_, (unhide HB1).trans ((unhide HB2).trans ((unhide HB3).trans (unhide HB4)))⟩
  have e := unhide HO4
  rw [unhide E]
  unfold Ow
  have e1 : (l ++ ([48, 120] ++ hexL m ++ [112] ++ Lib.itoa x)).length = (l ++ [48, 120] ++ hexL m ++ [112]).length + (Lib.itoa x).length := by simp only [List.length_append]; omega
  have e2 : Lib.byteCells (l ++ ([48, 120] ++ hexL m ++ [112] ++ Lib.itoa x)) = Lib.byteCells (l ++ [48, 120] ++ hexL m ++ [112]) ++ Lib.byteCells (Lib.itoa x) := by simp [Lib.byteCells]
  rw [e1, e2]
  exact e

theorem fltWK_neg (B : Nat) (b : Nat) (hb : b < 18446744073709551616) (sv : Value) (l : List UInt8) (w : World) (hown : Ow B w sv l) (hBw : B ≤ w.heap.size) (hlim : l.length ≤ 100000) (hG : Gl B w) (hn : isnan b = false) (hi : pw b ≠ 2047) (hs : ng b = true) :
    Calls Tryz.prog 49 #[sv, .float .f64 b] w fun e w' => ∃ v', e = .returned v' ∧ Ow B w' v' (l ++ [45] ++ fltN b) ∧ Bk B w w' := by
  have H1 := hide (isnan_run b hb w)
  have H2 := hide (signbit_any b hb w)
  have H3 := hide (fun w => isinf_any b hb hn w)
  have H4 := hide (fun w => split_any b hb w)
  have H5 := hide (fun w (hG : Gl B w) => odd_any (mant b) (expo b) (by have := mant_lt b; omega) (by have := expo_in b; omega) (by have := expo_in b; omega) w hG.tz)
  rw [hn] at H1
  rw [hs] at H2
  rw [decide_eq_false hi] at H3
  rw [splitOf_num hi] at H4
  have h6 := om_lt b
  have h7 := oe_in b
  have E : Hid (fltN b = [48, 120] ++ hexL (om (mant b)) ++ [112] ++ Lib.itoa (oe (mant b) (expo b))) := rfl
  generalize fltN b = F at E
  have h8 := hexL_len (om (mant b)) h6
  generalize om (mant b) = m at *
  generalize oe (mant b) (expo b) = x at *
  generalize mant b = m1 at *
  generalize expo b = x1 at *
  have HO := hide hown
  have HG := hide hG
  clear hown hG hn hi hs
  have A0 : ∀ (w : World) (c : UInt8) (j : Nat) (hj : j < [c].length), (w.alloc (Obj.cells #[Value.int IntKind.u8 (c.toNat : Nat)] 5)).cell? ⟨w.heap.size, 0 + j, none⟩ = some (.int .u8 ([c][j]'hj).toNat) := by
    intro w c j hj
    obtain rfl : j = 0 := by simpa using hj
    exact Blk.cell Blk.alloc 0 rfl
  have HA := hide A0
  clear A0
  go_enter Tryz.func49, Tryz.ntmps49
  go_wp2_with (first
    | (go_at_call 58; refine (unhide H1).mono ?_; rintro e w' ⟨rfl, hw'⟩; obtain rfl := hw'.symm)
    | (go_at_call 59; refine (unhide H2).mono ?_; rintro e w' ⟨rfl, hw'⟩; obtain rfl := hw'.symm)
    | (at_builtin; refine Ow.app_rowK rfl _ _ rfl sv l rfl ((unhide HO).low ((Below.refl _ _).alloc (Nat.le_refl _) _)) w.heap.size 0 1 1 [45] rfl rfl (unhide HA w 45) (by omega) (by decide) (Nat.le_trans hBw ((Below.refl w.heap.size w).alloc (Nat.le_refl _) _).size) ?_; intro v0 w0 ho0 hb0; have HO0 := hide ho0; have HB0 := hide (((Bk.refl B w).alloc hBw _).trans hb0); clear ho0 hb0; refine Hid.out ?_))
  refine hide ?_
  have G0 := hide ((unhide HG).on (unhide HB0).lo)
  have S0 : B ≤ w0.heap.size := Nat.le_trans hBw (unhide HB0).lo.size
  clear HO HG hBw
  have HO := HO0
  have HG := G0
  have hBw := S0
  clear HO0 G0 S0
  go_wp2_with (first
    | (go_at_call 60; refine (unhide H3 _).mono ?_; rintro e w' ⟨rfl, hw'⟩; obtain rfl := hw'.symm)
    | (go_at_call 61; refine (unhide H4 _).mono ?_; rintro e w' ⟨rfl, hw'⟩; obtain rfl := hw'.symm)
    | (go_at_call 62; refine (unhide H5 _ (unhide HG)).mono ?_; rintro e w' ⟨rfl, hw'⟩; obtain rfl := hw'.symm)
    | (at_builtin; refine Ow.app_strK rfl _ _ rfl v0 (l ++ [45]) rfl (unhide HO) ⟨#[48, 120]⟩ rfl (by rw [List.length_append]; show l.length + 1 ≤ _; omega) (by decide) hBw ?_; intro v1 w1 ho1 hb1; have HO1 : Hid (Ow B w1 v1 ((l ++ [45]) ++ [48, 120])) := ho1; have HB1 := hide hb1; clear ho1 hb1; refine Hid.out ?_))
  refine hide ?_
  have G1 := hide ((unhide HG).on (unhide HB1).lo)
  have S1 : B ≤ w1.heap.size := Nat.le_trans hBw (unhide HB1).lo.size
  have L1 : ((l ++ [45]) ++ [48, 120]).length ≤ 200000 := by simp; omega
  go_wp2_with (go_at_call 63; refine (appendUint16K B m (by omega) v1 _ w1 (unhide HO1) S1 (by omega) (unhide G1).tz (Nat.lt_of_lt_of_le (unhide G1).g2 S1)).mono ?_; rintro e w2 ⟨v2, rfl, ho2, hb2⟩; have HO2 := hide ho2; have HB2 := hide hb2; clear ho2 hb2; refine Hid.out ?_)
  refine hide ?_
  have G2 := hide ((unhide G1).on (unhide HB2).lo)
  have S2 : B ≤ w2.heap.size := Nat.le_trans S1 (unhide HB2).lo.size
  have L2 : ((l ++ [45]) ++ [48, 120] ++ hexL m).length ≤ 300000 := by simp; omega
  go_wp2_with (at_builtin; refine Ow.app_rowK rfl _ _ rfl v2 _ rfl ((unhide HO2).low ((Below.refl _ _).alloc (Nat.le_refl _) _)) w2.heap.size 0 1 1 [112] rfl rfl (unhide HA w2 112) (by omega) (by decide) (Nat.le_trans S2 ((Below.refl w2.heap.size w2).alloc (Nat.le_refl _) _).size) ?_; intro v3 w3 ho3 hb3; have HO3 := hide ho3; have HB3 := hide (((Bk.refl B w2).alloc S2 _).trans hb3); clear ho3 hb3; refine Hid.out ?_)
  refine hide ?_
  have G3 := hide ((unhide G2).on (unhide HB3).lo)
  have S3 : B ≤ w3.heap.size := Nat.le_trans S2 (unhide HB3).lo.size
  have L3 : ((l ++ [45]) ++ [48, 120] ++ hexL m ++ [112]).length ≤ 400000 := by simp; omega
  go_wp2_with (go_at_call 64; refine (Tryz.strconv_AppendInt B _ x (by omega) (by omega) v3 _ w3 (unhide HO3) S3 (by omega) (unhide G3).pow).mono ?_; rintro e w4 ⟨v4, rfl, ho4, hb4, hk4⟩; have HO4 := hide ho4; have HB4 : Hid (Bk B w3 w4) := ⟨hb4, hk4⟩; clear ho4 hb4 hk4)
  go_ret
  refine ⟨_, rfl, ?_, (unhide HB0).trans ((unhide HB1).trans ((unhide HB2).trans ((unhide HB3).trans (unhide HB4))))⟩
  have e := unhide HO4
  rw [unhide E]
  unfold Ow
  have e1 : ((l ++ [45]) ++ ([48, 120] ++ hexL m ++ [112] ++ Lib.itoa x)).length = ((l ++ [45]) ++ [48, 120] ++ hexL m ++ [112]).length + (Lib.itoa x).length := by simp only [List.length_append]; omega
  have e2 : Lib.byteCells ((l ++ [45]) ++ ([48, 120] ++ hexL m ++ [112] ++ Lib.itoa x)) = Lib.byteCells ((l ++ [45]) ++ [48, 120] ++ hexL m ++ [112]) ++ Lib.byteCells (Lib.itoa x) := by simp [Lib.byteCells]
  rw [e1, e2]
  exact e
theorem fltWK_nan (B : Nat) (b : Nat) (hb : b < 18446744073709551616) (sv : Value) (l : List UInt8) (w : World) (hown : Ow B w sv l) (hBw : B ≤ w.heap.size) (hlim : l.length ≤ 100000) (hn : isnan b = true) :
    Calls Tryz.prog 49 #[sv, .float .f64 b] w fun e w' => ∃ v', e = .returned v' ∧ Ow B w' v' (l ++ [110, 97, 110]) ∧ Bk B w w' := by
  have H1 := hide (isnan_run b hb w)
  rw [hn] at H1
  have HO := hide hown
  clear hown hn
  go_enter Tryz.func49, Tryz.ntmps49
  go_wp2_with (first
    | (go_at_call 58; refine (unhide H1).mono ?_; rintro e w' ⟨rfl, hw'⟩; obtain rfl := hw'.symm)
    | (at_builtin; refine Ow.app_strK rfl _ _ rfl sv l rfl (unhide HO) ⟨#[110, 97, 110]⟩ rfl (by omega) (by decide) hBw ?_; intro v1 w1 ho1 hb1; have HO1 : Hid (Ow B w1 v1 (l ++ [110, 97, 110])) := ho1; have HB1 := hide hb1; clear ho1 hb1))
  go_ret
  exact ⟨_, rfl, unhide HO1, unhide HB1⟩
theorem fltWK_inf (B : Nat) (b : Nat) (hb : b < 18446744073709551616) (sv : Value) (l : List UInt8) (w : World) (hown : Ow B w sv l) (hBw : B ≤ w.heap.size) (hlim : l.length ≤ 100000) (hn : isnan b = false) (hi : pw b = 2047) (hs : ng b = false) :
    Calls Tryz.prog 49 #[sv, .float .f64 b] w fun e w' => ∃ v', e = .returned v' ∧ Ow B w' v' (l ++ [105, 110, 102]) ∧ Bk B w w' := by
  have H1 := hide (isnan_run b hb w)
  have H2 := hide (signbit_any b hb w)
  have H3 := hide (fun w => isinf_any b hb hn w)
  rw [hn] at H1
  rw [hs] at H2
  rw [decide_eq_true hi] at H3
  have HO := hide hown
  clear hown hn hs hi
  go_enter Tryz.func49, Tryz.ntmps49
  go_wp2_with (first
    | (go_at_call 58; refine (unhide H1).mono ?_; rintro e w' ⟨rfl, hw'⟩; obtain rfl := hw'.symm)
    | (go_at_call 59; refine (unhide H2).mono ?_; rintro e w' ⟨rfl, hw'⟩; obtain rfl := hw'.symm)
    | (go_at_call 60; refine (unhide H3 _).mono ?_; rintro e w' ⟨rfl, hw'⟩; obtain rfl := hw'.symm)
    | (at_builtin; refine Ow.app_strK rfl _ _ rfl sv l rfl (unhide HO) ⟨#[105, 110, 102]⟩ rfl (by omega) (by decide) hBw ?_; intro v1 w1 ho1 hb1; have HO1 : Hid (Ow B w1 v1 (l ++ [105, 110, 102])) := ho1; have HB1 := hide hb1; clear ho1 hb1))
  go_ret
  exact ⟨_, rfl, unhide HO1, unhide HB1⟩
theorem fltWK_ninf (B : Nat) (b : Nat) (hb : b < 18446744073709551616) (sv : Value) (l : List UInt8) (w : World) (hown : Ow B w sv l) (hBw : B ≤ w.heap.size) (hlim : l.length ≤ 100000) (hn : isnan b = false) (hi : pw b = 2047) (hs : ng b = true) :
    Calls Tryz.prog 49 #[sv, .float .f64 b] w fun e w' => ∃ v', e = .returned v' ∧ Ow B w' v' (l ++ [45] ++ [105, 110, 102]) ∧ Bk B w w' := by
  have H1 := hide (isnan_run b hb w)
  have H2 := hide (signbit_any b hb w)
  have H3 := hide (fun w => isinf_any b hb hn w)
  rw [hn] at H1
  rw [hs] at H2
  rw [decide_eq_true hi] at H3
  have HO := hide hown
  clear hown hn hs hi
  go_enter Tryz.func49, Tryz.ntmps49
  go_wp2_with (first
    | (go_at_call 58; refine (unhide H1).mono ?_; rintro e w' ⟨rfl, hw'⟩; obtain rfl := hw'.symm)
    | (go_at_call 59; refine (unhide H2).mono ?_; rintro e w' ⟨rfl, hw'⟩; obtain rfl := hw'.symm)
    | (at_builtin; refine Ow.app_rowK rfl _ _ rfl sv l rfl ((unhide HO).low ((Below.refl _ _).alloc (Nat.le_refl _) _)) w.heap.size 0 1 1 [45] rfl rfl (alloc_one w 45) (by omega) (by decide) (Nat.le_trans hBw ((Below.refl w.heap.size w).alloc (Nat.le_refl _) _).size) ?_; intro v0 w0 ho0 hb0; have HO0 := hide ho0; have HB0 := hide (((Bk.refl B w).alloc hBw _).trans hb0); clear ho0 hb0; refine Hid.out ?_))
  refine hide ?_
  have S0 : B ≤ w0.heap.size := Nat.le_trans hBw (unhide HB0).lo.size
  have L0 : (l ++ [45]).length ≤ 200000 := by simp; omega
  go_wp2_with (first
    | (go_at_call 60; refine (unhide H3 _).mono ?_; rintro e w' ⟨rfl, hw'⟩; obtain rfl := hw'.symm)
    | (at_builtin; refine Ow.app_strK rfl _ _ rfl v0 _ rfl (unhide HO0) ⟨#[105, 110, 102]⟩ rfl (by omega) (by decide) S0 ?_; intro v1 w1 ho1 hb1; have HO1 : Hid (Ow B w1 v1 (l ++ [45] ++ [105, 110, 102])) := ho1; have HB1 := hide hb1; clear ho1 hb1))
  go_ret
  exact ⟨_, rfl, unhide HO1, (unhide HB0).trans (unhide HB1)⟩

theorem fltK_any (B : Nat) (b : Nat) (hb : b < 18446744073709551616) (sv : Value) (l : List UInt8) (w : World) (hown : Ow B w sv l) (hBw : B ≤ w.heap.size) (hlim : l.length ≤ 100000) (hG : Gl B w) :
    Calls Tryz.prog 49 #[sv, .float .f64 b] w fun e w' => ∃ v', e = .returned v' ∧ Ow B w' v' (l ++ flt b) ∧ Bk B w w' := by
  unfold flt
  cases hn : isnan b
  · rw [if_neg (by simp)]
    by_cases hi : pw b = 2047
    · rw [if_pos hi]
      cases hs : ng b
      · rw [if_neg (by simp), List.nil_append]; exact fltWK_inf B b hb sv l w hown hBw hlim hn hi hs
      · rw [if_pos rfl, ← List.append_assoc]; exact fltWK_ninf B b hb sv l w hown hBw hlim hn hi hs
    · rw [if_neg hi]
      cases hs : ng b
      · rw [if_neg (by simp), List.nil_append]; exact fltWK_num B b hb sv l w hown hBw hlim hG hn hi hs
      · rw [if_pos rfl, ← List.append_assoc]; exact fltWK_neg B b hb sv l w hown hBw hlim hG hn hi hs
  · rw [if_pos rfl]; exact fltWK_nan B b hb sv l w hown hBw hlim hn

theorem numberK_any (B : Nat) (x y : Nat) (hx : x < 18446744073709551616) (hy : y < 18446744073709551616) (sv : Value) (l : List UInt8) (w : World) (hown : Ow B w sv l) (hBw : B ≤ w.heap.size) (hlim : l.length ≤ 90000) (hG : Gl B w) :
    Calls Tryz.prog 28 #[sv, .complex .f64 x y] w fun e w' => ∃ v', e = .returned v' ∧ Ow B w' v' (l ++ numL x y) ∧ Bk B w w' := by
  have hx1 := flt_len x
  have hy1 := flt_len y
  have HO := hide hown
  have HG := hide hG
  clear hown hG
  go_enter Tryz.func28, Tryz.ntmps28
  go_wp2_with (at_builtin; refine Ow.app_rowK rfl _ _ rfl sv _ rfl ((unhide HO).low ((Below.refl _ _).alloc (Nat.le_refl _) _)) w.heap.size 0 1 1 [40] rfl rfl (alloc_one w 40) (by omega) (by decide) (Nat.le_trans hBw ((Below.refl w.heap.size w).alloc (Nat.le_refl _) _).size) ?_; intro v0 w0 ho hb; have HO0 := hide ho; have HB0 := hide (((Bk.refl B w).alloc hBw _).trans hb); clear ho hb; refine Hid.out ?_)
  refine hide ?_
  have G0 := hide ((unhide HG).on (unhide HB0).lo)
  have S0 : B ≤ w0.heap.size := Nat.le_trans hBw (unhide HB0).lo.size
  have L0 : (l ++ [40]).length ≤ 90001 := by simp; omega
  go_wp2_with (go_at_call 49; refine (fltK_any B x hx v0 _ w0 (unhide HO0) S0 (by omega) (unhide G0)).mono ?_; rintro e w1 ⟨v1, rfl, ho, hb⟩; have HO1 := hide ho; have HB1 := hide hb; clear ho hb; refine Hid.out ?_)
  refine hide ?_
  have G1 := hide ((unhide G0).on (unhide HB1).lo)
  have S1 : B ≤ w1.heap.size := Nat.le_trans S0 (unhide HB1).lo.size
  have L1 : (l ++ [40] ++ flt x).length ≤ 90101 := by simp; omega
  go_wp2_with (at_builtin; refine Ow.app_rowK rfl _ _ rfl v1 _ rfl ((unhide HO1).low ((Below.refl _ _).alloc (Nat.le_refl _) _)) w1.heap.size 0 1 1 [44] rfl rfl (alloc_one w1 44) (by omega) (by decide) (Nat.le_trans S1 ((Below.refl w1.heap.size w1).alloc (Nat.le_refl _) _).size) ?_; intro v2 w2 ho hb; have HO2 := hide ho; have HB2 := hide (((Bk.refl B w1).alloc S1 _).trans hb); clear ho hb; refine Hid.out ?_)
  refine hide ?_
  have G2 := hide ((unhide G1).on (unhide HB2).lo)
  have S2 : B ≤ w2.heap.size := Nat.le_trans S1 (unhide HB2).lo.size
  have L2 : (l ++ [40] ++ flt x ++ [44]).length ≤ 90102 := by simp; omega
  go_wp2_with (go_at_call 49; refine (fltK_any B y hy v2 _ w2 (unhide HO2) S2 (by omega) (unhide G2)).mono ?_; rintro e w3 ⟨v3, rfl, ho, hb⟩; have HO3 := hide ho; have HB3 := hide hb; clear ho hb; refine Hid.out ?_)
  refine hide ?_
  have S3 : B ≤ w3.heap.size := Nat.le_trans S2 (unhide HB3).lo.size
  have L3 : (l ++ [40] ++ flt x ++ [44] ++ flt y).length ≤ 90202 := by simp; omega
  go_wp2_with (at_builtin; refine Ow.app_rowK rfl _ _ rfl v3 _ rfl ((unhide HO3).low ((Below.refl _ _).alloc (Nat.le_refl _) _)) w3.heap.size 0 1 1 [41] rfl rfl (alloc_one w3 41) (by omega) (by decide) (Nat.le_trans S3 ((Below.refl w3.heap.size w3).alloc (Nat.le_refl _) _).size) ?_; intro v4 w4 ho hb; have HO4 := hide ho; have HB4 := hide (((Bk.refl B w3).alloc S3 _).trans hb); clear ho hb)
  go_ret
  refine ⟨_, rfl, ?_, (unhide HB0).trans ((unhide HB1).trans ((unhide HB2).trans ((unhide HB3).trans (unhide HB4))))⟩
  have e : l ++ numL x y = l ++ [40] ++ flt x ++ [44] ++ flt y ++ [41] := by simp [numL]
  rw [e]
  exact unhide HO4
end Go.Proofs.YtbkjmnopljmanaaGreatDoor

/- Filters of sections compared: SameFilter; lists appended. -/
namespace Go.Proofs.YtbkjmnopljmanaaGreatDoor
open Go.RowKit

/-- A list of sections that can be read. -/
def SeAt (w : World) (v : Value) (ls : List (List (Nat × Nat))) : Prop := ∃ ad cap, v = .slice ad ls.length cap ∧ ∀ j (hj : j < ls.length), ∃ g, ad = some ⟨g, 0, none⟩ ∧ g < w.heap.size ∧ ∀ i u, (cxL (ls[j]'hj))[i]? = some u → w.cell? ⟨g, j * 5 + i, none⟩ = some u
theorem flat_at : ∀ (ls : List (List (Nat × Nat))), (∀ l ∈ ls, l.length = 5) → ∀ j (hj : j < ls.length) i, i < 5 → ls.flatten[j * 5 + i]? = (ls[j]'hj)[i]?
  | [], _, j, hj, _, _ => absurd hj (Nat.not_lt_zero _)
  | l :: ls, h, 0, _, i, hi => by
    have h5 := h l (by simp)
    rw [Nat.zero_mul, Nat.zero_add, List.flatten_cons, List.getElem?_append_left (by omega)]
    rfl
  | l :: ls, h, j + 1, hj, i, hi => by
    have h5 := h l (by simp)
    rw [List.flatten_cons, List.getElem?_append_right (by omega), h5, show (j + 1) * 5 + i - 5 = j * 5 + i by omega]
    exact flat_at ls (fun m hm => h m (by simp [hm])) j (by simpa using hj) i hi
theorem OwS.at {B : Nat} {w : World} {v : Value} {ls : List (List (Nat × Nat))} (h : OwS B w v ls) (h5 : FivL ls) : SeAt w v ls := by
  rcases h.2 with ⟨rfl, h0⟩ | ⟨g, cap, cur, rfl, h1, h2, _⟩
  · exact ⟨Option.none, 0, by rw [h0], fun j hj => by omega⟩
  · refine ⟨_, _, rfl, fun j hj => ⟨g, rfl, (Array.getElem?_eq_some_iff.1 h2).1, fun i u hu => ?_⟩⟩
    have hl := (h5 (ls[j]'hj) (List.getElem_mem hj)).1
    have hi : i < 5 := by
      have := (List.getElem?_eq_some_iff.1 hu).1
      rw [cxL_len, hl] at this
      exact this
    have := World.ownsRow.cells h (g := g) rfl (j * 5 + i) u (by
      unfold cxL at hu ⊢
      rw [List.getElem?_map] at hu ⊢
      rw [flat_at ls (fun m hm => (h5 m hm).1) j hj i hi]
      exact hu)
    rwa [Addr.add_lit, Nat.zero_add] at this
theorem SeAt.low {w w' : World} {v : Value} {ls : List (List (Nat × Nat))} (h : SeAt w v ls) (hb : Below w.heap.size w w') : SeAt w' v ls := by
  obtain ⟨ad, cap, h1, h2⟩ := h
  exact ⟨ad, cap, h1, fun j hj => by obtain ⟨g, k1, k2, k3⟩ := h2 j hj; exact ⟨g, k1, Nat.lt_of_lt_of_le k2 hb.size, fun i u hu => by rw [hb.cell k2]; exact k3 i u hu⟩⟩
theorem SeAt.nil (w : World) : SeAt w (.slice none 0 0) [] := ⟨none, 0, rfl, fun _ hj => absurd hj (Nat.not_lt_zero _)⟩
theorem two_new (w : World) (o p : Obj) : Below w.heap.size w ((w.alloc o).alloc p) := ((Below.refl _ _).alloc (Nat.le_refl _) _).alloc (by rw [alloc_size]; omega) _
set_option maxRecDepth 100000 in
theorem numbers27_any (x0 y0 x1 y1 x2 y2 x3 y3 x4 y4 : Nat) (w : World) :
    Calls Tryz.prog 34 #[.agg #[.complex .f64 x0 y0, .complex .f64 x1 y1, .complex .f64 x2 y2, .complex .f64 x3 y3, .complex .f64 x4 y4]] w fun e w' => ∃ A, e = .returned (.slice (some ⟨A, 0, none⟩) 5 5) ∧ Blk w' A (cxL [(x0, y0), (x1, y1), (x2, y2), (x3, y3), (x4, y4)]).toArray 23 ∧ w.heap.size ≤ A ∧ Below w.heap.size w w' := by
  go_enter Tryz.func34, Tryz.ntmps34
  go_wp2_with fail
  go_ret
  refine ⟨_, rfl, ?_, ?_, two_new _ _ _⟩
  · first | exact Blk.alloc | (rw [← alloc_size w (.cells #[.complex .f64 x0 y0, .complex .f64 x1 y1, .complex .f64 x2 y2, .complex .f64 x3 y3, .complex .f64 x4 y4] 76)]; exact Blk.alloc)
  · omega
set_option maxRecDepth 100000 in
theorem coeffs_any (x0 y0 x1 y1 x2 y2 x3 y3 x4 y4 : Nat) (w : World) :
    Calls Tryz.prog 36 #[.agg #[.complex .f64 x0 y0, .complex .f64 x1 y1, .complex .f64 x2 y2, .complex .f64 x3 y3, .complex .f64 x4 y4]] w fun e w' => ∃ A, e = .returned (.slice (some ⟨A, 0, none⟩) 5 5) ∧ Blk w' A (cxL [(x0, y0), (x1, y1), (x2, y2), (x3, y3), (x4, y4)]).toArray 23 ∧ w.heap.size ≤ A ∧ Below w.heap.size w w' := by
  go_enter Tryz.func36, Tryz.ntmps36
  go_wp2_with fail
  go_ret
  refine ⟨_, rfl, ?_, ?_, two_new _ _ _⟩
  · first | exact Blk.alloc | (rw [← alloc_size w (.cells #[.complex .f64 x0 y0, .complex .f64 x1 y1, .complex .f64 x2 y2, .complex .f64 x3 y3, .complex .f64 x4 y4] 76)]; exact Blk.alloc)
  · omega
theorem blk_at {w : World} {A : Nat} {l : List (Nat × Nat)} (h : Blk w A (cxL l).toArray 23) : CxAt w (.slice (some ⟨A, 0, none⟩) l.length l.length) l :=
  ⟨_, _, rfl, fun j hj => ⟨A, rfl, h.lt, h.cell j (by rw [List.getElem?_toArray]; unfold cxL; rw [List.getElem?_map, List.getElem?_eq_getElem hj]; rfl)⟩⟩
theorem SeAt.cells {w : World} {ad : Option Addr} {k : Nat} {ls : List (List (Nat × Nat))} (h : ∀ j (hj : j < ls.length), ∃ g, ad = some ⟨g, 0, none⟩ ∧ g < w.heap.size ∧ ∀ i u, (cxL (ls[j]'hj))[i]? = some u → w.cell? ⟨g, j * 5 + i, none⟩ = some u) (hk : k < ls.length) (x0 y0 x1 y1 x2 y2 x3 y3 x4 y4 : Nat) (hl : ls[k]'hk = [(x0, y0), (x1, y1), (x2, y2), (x3, y3), (x4, y4)]) :
    ∃ g, ad = some ⟨g, 0, none⟩ ∧ g < w.heap.size ∧ w.cell? ⟨g, k * 5, none⟩ = some (.complex .f64 x0 y0) ∧ w.cell? ⟨g, k * 5 + 1, none⟩ = some (.complex .f64 x1 y1) ∧ w.cell? ⟨g, k * 5 + 2, none⟩ = some (.complex .f64 x2 y2) ∧ w.cell? ⟨g, k * 5 + 3, none⟩ = some (.complex .f64 x3 y3) ∧ w.cell? ⟨g, k * 5 + 4, none⟩ = some (.complex .f64 x4 y4) := by
  obtain ⟨g, h1, h2, h3⟩ := h k hk
  rw [hl] at h3
  exact ⟨g, h1, h2, h3 0 _ rfl, h3 1 _ rfl, h3 2 _ rfl, h3 3 _ rfl, h3 4 _ rfl⟩
theorem same5_any (x0 y0 x1 y1 x2 y2 x3 y3 x4 y4 : Nat) (A A' : Nat) (w : World) (h : Blk w A (cxL [(x0, y0), (x1, y1), (x2, y2), (x3, y3), (x4, y4)]).toArray 23) (k : Blk w A' (cxL [(x0, y0), (x1, y1), (x2, y2), (x3, y3), (x4, y4)]).toArray 23) :
    Calls Tryz.prog 26 #[.slice (some ⟨A, 0, none⟩) 5 5, .slice (some ⟨A', 0, none⟩) 5 5] w fun e w' => e = .returned (.bool true) ∧ Still w w' := sameAll_any (blk_at h) (blk_at k) (by show 5 ≤ 1000; decide)
set_option maxRecDepth 100000 in
set_option maxHeartbeats 2000000 in
theorem sameFilter_any {w : World} {ls : List (List (Nat × Nat))} {v u : Value} {gx gy : Nat} (hz : SeAt w v ls) (jz : SeAt w u ls) (h5 : FivL ls) (nz : ls.length ≤ 16) :
    Calls Tryz.prog 13 #[.agg #[.complex .f64 gx gy, v], .agg #[.complex .f64 gx gy, u]] w fun e w' => e = .returned (.bool true) ∧ Below w.heap.size w w' := by
  obtain ⟨ad1, cap1, rfl, k1⟩ := id hz
  obtain ⟨ad2, cap2, rfl, k2⟩ := id jz
  obtain ⟨W, hW⟩ : ∃ W, W = (w.alloc (.cells #[.complex .f64 gx gy, .slice ad1 ls.length cap1] 38)).alloc (.cells #[.complex .f64 gx gy, .slice ad2 ls.length cap2] 38) := ⟨_, rfl⟩
  have h1 := alloc_size w (.cells #[.complex .f64 gx gy, .slice ad1 ls.length cap1] 38)
  have hb : Below w.heap.size w W := by rw [hW]; exact two_new _ _ _
  have hA : Blk W w.heap.size #[.complex .f64 gx gy, .slice ad1 ls.length cap1] 38 := by rw [hW]; exact Blk.alloc.below ((Below.refl _ _).alloc (Nat.le_refl _) _) (by omega)
  have hB : Blk W (w.heap.size + 1) #[.complex .f64 gx gy, .slice ad2 ls.length cap2] 38 := by rw [hW, ← h1]; exact Blk.alloc
  have hltW := hB.lt
  have K1 := hide k1
  have K2 := hide k2
  have HB := hide hb
  have HA := hide hA
  have HC := hide hB
  have EW := hide hW
  have H5 := hide h5
  have c0 := hA.cell 0 (v := .complex .f64 gx gy) rfl
  have c1 := hA.cell 1 (v := .slice ad1 ls.length cap1) rfl
  have d0 := hB.cell 0 (v := .complex .f64 gx gy) rfl
  have d1 := hB.cell 1 (v := .slice ad2 ls.length cap2) rfl
  have n1 : ((ls.length : Int) != (ls.length : Int)) = false := by simp
  clear hz jz k1 k2 hb hA hB hW h1 h5
  go_enter Tryz.func13, Tryz.ntmps13
  go_upto_region 1 with fail
  rw [← unhide EW]
  go_wp2_with (go_at_call 17; refine (same2_any _ _ _).mono ?_; rintro e w' ⟨rfl, hw'⟩; obtain rfl := hw'.symm)
  go_loopw [24] (fun i wr => ∃ k : Nat, k ≤ ls.length ∧ i = .int .i64 k ∧ Hid (Below W.heap.size W wr)) (fun i _ => ls.length - (intOf i).toNat)
  case atStart => exact ⟨0, Nat.zero_le _, rfl, Below.refl _ _⟩
  case round =>
    obtain ⟨k, hk, rfl, hs⟩ := hrel
    by_cases hkm : k < ls.length
    · have i1 : (k : Int) < (ls.length : Int) := by omega
      have i2 : ¬ (k : Int) < 0 := by omega
      obtain ⟨x0, y0, x1, y1, x2, y2, x3, y3, x4, y4, hl⟩ := list5 (unhide H5 (ls[k]'hkm) (List.getElem_mem hkm)).1
      obtain ⟨g1, rfl, hg1, l0, l1, l2, l3, l4⟩ := SeAt.cells (unhide K1) hkm x0 y0 x1 y1 x2 y2 x3 y3 x4 y4 hl
      obtain ⟨g2, rfl, hg2, m0, m1, m2, m3, m4⟩ := SeAt.cells (unhide K2) hkm x0 y0 x1 y1 x2 y2 x3 y3 x4 y4 hl
      have hB0 := (unhide HB).trans (hs.out.mono (unhide HB).size)
      have hwr := hs.out.size
      have F : Hid (∀ w', Below wr.heap.size wr w' → (w'.cell? ⟨w.heap.size, 1, none⟩ = some (.slice (some ⟨g1, 0, none⟩) ls.length cap1) ∧ w'.cell? ⟨w.heap.size + 1, 1, none⟩ = some (.slice (some ⟨g2, 0, none⟩) ls.length cap2)) ∧ (w'.cell? ⟨g1, k * 5, none⟩ = some (.complex .f64 x0 y0) ∧ w'.cell? ⟨g1, k * 5 + 1, none⟩ = some (.complex .f64 x1 y1) ∧ w'.cell? ⟨g1, k * 5 + 2, none⟩ = some (.complex .f64 x2 y2) ∧ w'.cell? ⟨g1, k * 5 + 3, none⟩ = some (.complex .f64 x3 y3) ∧ w'.cell? ⟨g1, k * 5 + 4, none⟩ = some (.complex .f64 x4 y4)) ∧
          (w'.cell? ⟨g2, k * 5, none⟩ = some (.complex .f64 x0 y0) ∧ w'.cell? ⟨g2, k * 5 + 1, none⟩ = some (.complex .f64 x1 y1) ∧ w'.cell? ⟨g2, k * 5 + 2, none⟩ = some (.complex .f64 x2 y2) ∧ w'.cell? ⟨g2, k * 5 + 3, none⟩ = some (.complex .f64 x3 y3) ∧ w'.cell? ⟨g2, k * 5 + 4, none⟩ = some (.complex .f64 x4 y4))) := fun w' hb' => by
        have hBB := hB0.trans (hb'.mono (by omega))
        have hWW := hs.out.trans (hb'.mono (by omega))
        refine ⟨⟨(hWW.cell (by show w.heap.size < _; omega)).trans c1, (hWW.cell (by show w.heap.size + 1 < _; omega)).trans d1⟩, ⟨?_, ?_, ?_, ?_, ?_⟩, ?_, ?_, ?_, ?_, ?_⟩
        all_goals (rw [hBB.cell (by assumption)]; assumption)
      obtain ⟨⟨p1, p2⟩, ⟨q0, q1, q2, q3, q4⟩, s0, s1, s2, s3, s4⟩ := unhide F wr (Below.refl _ _)
      have KN := hide (numbers27_any x0 y0 x1 y1 x2 y2 x3 y3 x4 y4)
      clear l0 l1 l2 l3 l4 m0 m1 m2 m3 m4 hB0 hl
      go_wp2_with fail
      go_cut [40] (fun b wx => b = .bool false ∧ Hid (Below wr.heap.size wr wx))
      case first =>
        go_region_with (first
          | (go_at_call 34; refine (unhide KN _).mono ?_; first
              | (rintro e w8 ⟨A8, rfl, hk8, hA8, hb8⟩; have hb8' : Below wr.heap.size wr w8 := ((still_drew wr) wr.heap.size).trans hb8; have K8 := hide hk8; have B8 := hide hb8'; obtain ⟨⟨p1', p2'⟩, ⟨q0', q1', q2', q3', q4'⟩, s0', s1', s2', s3', s4'⟩ := unhide F w8 hb8'; clear hk8 hb8 hb8')
              | (rintro e w9 ⟨A9, rfl, hk9, hA9, hb9⟩; have K9 := hide hk9; have B9 := hide (below_next (unhide B8) hb9); have K89 := hide ((unhide K8).below hb9 (unhide K8).lt); clear hk9 hb9))
          | (go_at_call 26; refine (same5_any _ _ _ _ _ _ _ _ _ _ _ _ _ (unhide K89) (unhide K9)).mono ?_; rintro e w10 ⟨rfl, hs10⟩; have S10 := hide hs10; clear hs10))
        all_goals go_wp2_with fail
        all_goals go_meet
        all_goals exact ⟨rfl, (unhide B9).trans ((unhide S10) _)⟩
      case rest =>
      obtain ⟨hY, hX⟩ := hcut
      subst hY
      go_wp2_with fail
      refine ⟨⟨k + 1, by omega, rfl, hs.out.trans (hX.out.mono hwr)⟩, ?_⟩
      simp only [intOf]
      omega
    · obtain rfl : k = ls.length := by omega
      have i1 : ¬ (ls.length : Int) < (ls.length : Int) := by omega
      go_wp2
      go_ret
      exact ⟨rfl, (unhide HB).trans (hs.out.mono (unhide HB).size)⟩
end Go.Proofs.YtbkjmnopljmanaaGreatDoor

/- Filter of package text: a filter of sections written. -/
namespace Go.Proofs.YtbkjmnopljmanaaGreatDoor
open Go.RowKit

set_option maxRecDepth 100000 in
set_option maxHeartbeats 1000000 in
theorem listK_any {B A : Nat} {w : World} {l : List (Nat × Nat)} {sv : Value} {t : List UInt8} (h : Blk w A (cxL l).toArray 23) (hf : FinL l) (hl : l.length ≤ 24) (hown : Ow B w sv t) (hBw : B ≤ w.heap.size) (hlim : t.length ≤ 70000) (hG : Gl B w) :
    Calls Tryz.prog 29 #[sv, .slice (some ⟨A, 0, none⟩) l.length l.length] w fun e w' => ∃ v', e = .returned v' ∧ Ow B w' v' (t ++ frontT l) ∧ Bk B w w' := by
  have K := hide h
  have HF := hide hf
  have HO := hide hown
  have HG := hide hG
  clear h hf hown hG
  go_enter Tryz.func29, Tryz.ntmps29
  go_wp2_with fail
  go_loopw [0, 9] (fun vb i wr => ∃ k : Nat, k ≤ l.length ∧ i = .int .i64 k ∧ Hid (Ow B wr vb (t ++ frontT (l.take k))) ∧ Hid (Bk B w wr)) (fun _ i _ => l.length - (intOf i).toNat)
  case atStart => exact ⟨0, Nat.zero_le _, rfl, by show Ow _ _ _ _; rw [List.take_zero]; exact (by simpa [frontT] using unhide HO), Bk.refl _ _⟩
  case round =>
    obtain ⟨k, hk, rfl, ho, hbw⟩ := hrel
    by_cases hkm : k < l.length
    · have i1 : (k : Int) < (l.length : Int) := by omega
      have i2 : ¬ (k : Int) < 0 := by omega
      have c := ((hbw.out).blk (unhide K)).cell k (v := .complex .f64 (l[k]'hkm).1 (l[k]'hkm).2) (by rw [List.getElem?_toArray]; unfold cxL; rw [List.getElem?_map, List.getElem?_eq_getElem hkm]; rfl)
      have hp := unhide HF (l[k]'hkm) (List.getElem_mem hkm)
      have hszr := hbw.out.lo.size
      have hfl := front_len (l.take k)
      have hft := front_take hkm
      have hlk : (l.take k).length = k := by rw [List.length_take]; omega
      rw [hlk] at hfl
      have HT := hide hft
      have HP := hide hp
      clear hft hp hlk
      generalize (l[k]'hkm).1 = x at *
      generalize (l[k]'hkm).2 = y at *
      have hal : Below wr.heap.size wr (wr.alloc (Obj.cells #[Value.int IntKind.u8 32] 5)) := (Below.refl _ _).alloc (Nat.le_refl _) _
      have O2 := hide (ho.out.low hal)
      have B2 := hide (hbw.out.trans (Bk.old hal (by omega)))
      have L2 : (t ++ frontT (l.take k)).length ≤ 80000 := by rw [List.length_append]; omega
      have L3 : (t ++ frontT (l.take k) ++ [32]).length ≤ 80001 := by rw [List.length_append]; show _ + 1 ≤ _; omega
      clear hal ho
      go_wp2_with (first
        | (at_builtin; refine Ow.app_rowK rfl _ _ rfl _ _ rfl (unhide O2) wr.heap.size 0 1 1 [32] rfl rfl (alloc_one wr 32) (by omega) (by decide) (by rw [alloc_size]; omega) ?_; intro v3 w3 h1 h2; have O3 := hide h1; have B3 := hide ((unhide B2).trans h2); clear h1 h2)
        | (go_at_call 28; refine (numberK_any B x y (unhide HP).1 (unhide HP).2.1 v3 _ w3 (unhide O3) (by have := (unhide B3).lo.size; omega) (by omega) ((unhide HG).on (unhide B3).lo)).mono ?_; rintro e w4 ⟨v4, rfl, h1, h2⟩; have O4 := hide h1; have B4 := hide ((unhide B3).trans h2); clear h1 h2))
      refine ⟨⟨k + 1, by omega, rfl, ?_, unhide B4⟩, ?_⟩
      · show Ow _ _ _ _
        rw [unhide HT]
        have e : t ++ (frontT (l.take k) ++ [32] ++ numL x y) = t ++ frontT (l.take k) ++ [32] ++ numL x y := by simp
        rw [e]; exact unhide O4
      · simp only [intOf]
        omega
    · obtain rfl : k = l.length := by omega
      have i1 : ¬ (l.length : Int) < (l.length : Int) := by omega
      have ho2 := ho.out
      rw [List.take_length] at ho2
      have HO2 := hide ho2
      clear ho2 ho
      go_wp2
      go_ret
      exact ⟨_, rfl, unhide HO2, hbw.out⟩
theorem sec_len {ls : List (List (Nat × Nat))} (h : FivL ls) : (secT ls).length ≤ 1100 * ls.length := by
  induction ls with
  | nil => exact Nat.le_refl 0
  | cons l ls ih =>
    show (([32, 124] ++ frontT l) ++ secT ls).length ≤ 1100 * (ls.length + 1)
    have h1 := front_len l
    have h2 := (h l (by simp)).1
    have h3 := ih (fun m hm => h m (by simp [hm]))
    rw [List.length_append, List.length_append]
    show 2 + _ + _ ≤ _
    omega
theorem sec_take {ls : List (List (Nat × Nat))} {k : Nat} (hk : k < ls.length) : secT (ls.take (k + 1)) = secT (ls.take k) ++ [32, 124] ++ frontT (ls[k]'hk) := by
  rw [List.take_succ_eq_append_getElem hk]
  unfold secT
  rw [List.flatMap_append]
  simp
/-- A filter's text. -/
def filT (gx gy : Nat) (ls : List (List (Nat × Nat))) : List UInt8 := [102, 105, 108, 116, 101, 114, 32] ++ numL gx gy ++ secT ls
set_option maxRecDepth 100000 in
set_option maxHeartbeats 2000000 in
theorem filW_any {w : World} {ls : List (List (Nat × Nat))} {v : Value} {gx gy : Nat} (hz : SeAt w v ls) (h5 : FivL ls) (fg : FinL [(gx, gy)]) (nz : ls.length ≤ 16) (hG : Gl w.heap.size w) :
    Calls Tryz.prog 14 #[.agg #[.complex .f64 gx gy, v]] w fun e w' => e = .returned (.tuple #[.string ⟨(filT gx gy ls).toArray⟩, .int .i64 0]) ∧ Below w.heap.size w w' := by
  obtain ⟨ad1, cap1, rfl, k1⟩ := id hz
  have hg := fg (gx, gy) (by simp)
  obtain ⟨W, hW⟩ : ∃ W, W = w.alloc (.cells #[.complex .f64 gx gy, .slice ad1 ls.length cap1] 38) := ⟨_, rfl⟩
  obtain ⟨hb, hB⟩ := box_at (w := w) (cs := #[.complex .f64 gx gy, .slice ad1 ls.length cap1]) (t := 38)
  rw [← hW] at hb hB
  have hltF := hB.lt
  have c0 := hB.cell 0 (v := .complex .f64 gx gy) rfl
  have c1 := hB.cell 1 (v := .slice ad1 ls.length cap1) rfl
  have HNF : Hid (∀ w1 : World, Calls Tryz.prog 35 #[.slice (some ⟨w1.heap.size, 0, none⟩) 1 1] (w1.alloc (.cells #[.complex .f64 gx gy] 23)) fun e w' => e = .returned (.bool true) ∧ w' = w1.alloc (.cells #[.complex .f64 gx gy] 23)) := fun w1 => by
    have := nfin1_any w1.heap.size gx gy hg.1 hg.2.1 (w1.alloc (.cells #[.complex .f64 gx gy] 23)) (Blk.alloc.cell 0 rfl)
    rwa [hg.2.2] at this
  have i16 : ¬ (16 : Int) < (ls.length : Int) := by omega
  have HB := hide hb
  have HBk := hide hB
  have K1 := hide k1
  have H5 := hide h5
  have Hgg := hide hg
  have HG := hide ((hG.on hb).up hb.size)
  have EW := hide hW
  clear hz h5 fg k1 hb hB hW hg hG
  go_enter Tryz.func14, Tryz.ntmps14
  go_upto_region 1 with fail
  rw [← unhide EW]
  go_wp2_with (go_at_call 35; refine (unhide HNF _).mono ?_; rintro e w' ⟨rfl, hw'⟩; obtain rfl := hw'.symm; refine Hid.out ?_)
  refine hide ?_
  obtain ⟨w1, hw1⟩ : ∃ w1, w1 = W.alloc (.cells #[.complex .f64 gx gy] 23) := ⟨_, rfl⟩
  have B1 : Hid (Below W.heap.size W w1) := by rw [hw1]; exact (Below.refl _ _).alloc (Nat.le_refl _) _
  rw [← hw1]
  clear hw1
  have hF1 := (unhide HBk).below (unhide B1) hltF
  have q2 := hF1.cell 0 (v := .complex .f64 gx gy) rfl
  have hs1 := (unhide B1).size
  have hcv := Go.Lib.run_convert_bytes_const (P := Tryz.prog) w1 45 5 #[.int .u8 102, .int .u8 105, .int .u8 108, .int .u8 116, .int .u8 101, .int .u8 114, .int .u8 32] 7 7 Tryz.underlying45 Tryz.underlying5
  have hal : Below w1.heap.size w1 (w1.alloc (.cells #[.int .u8 102, .int .u8 105, .int .u8 108, .int .u8 116, .int .u8 101, .int .u8 114, .int .u8 32] 5 (7, 8))) := (Below.refl _ _).alloc (Nat.le_refl _) _
  have q2' := (hal.cell (p := ⟨w.heap.size, 0, none⟩) (by show w.heap.size < _; omega)).trans q2
  have X1 := hide ((unhide B1).trans (hal.mono hs1))
  have LI : Hid (Lies W.heap.size (w1.alloc (.cells #[.int .u8 102, .int .u8 105, .int .u8 108, .int .u8 116, .int .u8 101, .int .u8 114, .int .u8 32] 5 (7, 8))) (.slice (some ⟨w1.heap.size, 0, none⟩) 7 7) [102, 105, 108, 116, 101, 114, 32]) := by
    refine ⟨w1.heap.size, rfl, hs1, by rw [alloc_size]; omega, fun j hj => ?_⟩
    rw [cell_of_row _ w1.heap.size _ _ _ _ (heap_alloc_new _ _)]
    have hj7 : j < 7 := hj
    rcases (by omega : j = 0 ∨ j = 1 ∨ j = 2 ∨ j = 3 ∨ j = 4 ∨ j = 5 ∨ j = 6) with rfl | rfl | rfl | rfl | rfl | rfl | rfl <;> rfl
  clear hal hF1
  go_wp2_with (go_at_call 28; refine (number_lies W.heap.size gx gy (unhide Hgg).1 (unhide Hgg).2.1 _ _ _ (unhide LI) (Nat.le_trans hs1 (by rw [alloc_size]; omega)) (by decide) ((unhide HG).on (unhide X1))).mono ?_; rintro e w2 ⟨v2, rfl, h1, h2⟩; have Y2 := hide h1; have X2 := hide ((unhide X1).trans h2); clear h1 h2; refine Hid.out ?_)
  refine hide ?_
  have hgl : (numL gx gy).length ≤ 203 := by have h1 := flt_len gx; have h2 := flt_len gy; unfold numL; simp; omega
  have m2 := ((unhide X2).cell (p := ⟨w.heap.size, 1, none⟩) hltF).trans c1
  go_wp2_with fail
  obtain ⟨T0, hT0⟩ : ∃ T0, T0 = [102, 105, 108, 116, 101, 114, 32] ++ numL gx gy := ⟨_, rfl⟩
  have hl0 : T0.length ≤ 300 := by rw [hT0, List.length_append]; show 7 + _ ≤ _; omega
  rw [← hT0] at Y2
  have HT0 := hide hT0
  clear hT0
  go_loopw [4, 25] (fun vb i wr => ∃ k : Nat, k ≤ ls.length ∧ i = .int .i64 k ∧ Hid (Ow W.heap.size wr vb (T0 ++ secT (ls.take k))) ∧ Hid (Below W.heap.size W wr)) (fun _ i _ => ls.length - (intOf i).toNat)
  case atStart => exact ⟨0, Nat.zero_le _, rfl, by show Ow _ _ _ _; rw [List.take_zero]; exact (by simpa [secT] using unhide Y2), unhide X2⟩
  case round =>
    obtain ⟨k, hk, rfl, ho, hbw⟩ := hrel
    by_cases hkm : k < ls.length
    · have i1 : (k : Int) < (ls.length : Int) := by omega
      have i2 : ¬ (k : Int) < 0 := by omega
      have hf5 := unhide H5 (ls[k]'hkm) (List.getElem_mem hkm)
      have hst := sec_take hkm
      obtain ⟨x0, y0, x1, y1, x2, y2, x3, y3, x4, y4, hl⟩ := list5 hf5.1
      obtain ⟨g1, rfl, hg1, l0, l1, l2, l3, l4⟩ := SeAt.cells (unhide K1) hkm x0 y0 x1 y1 x2 y2 x3 y3 x4 y4 hl
      rw [hl] at hst hf5
      have hB0 := (unhide HB).trans (hbw.out.mono (unhide HB).size)
      rw [← hB0.cell (by assumption)] at l0 l1 l2 l3 l4
      have hwr := hbw.out.size
      have hsl := sec_len (ls := ls.take k) (fun m hm => unhide H5 m (List.mem_of_mem_take hm))
      have hlk : (ls.take k).length = k := by rw [List.length_take]; omega
      rw [hlk] at hsl
      have L1 : (T0 ++ secT (ls.take k)).length ≤ 20000 := by rw [List.length_append]; omega
      have L2 : (T0 ++ secT (ls.take k) ++ [32, 124]).length ≤ 20002 := by rw [List.length_append]; show _ + 2 ≤ _; omega
      have HST := hide hst
      have HF5 := hide hf5.2
      have KN := hide (coeffs_any x0 y0 x1 y1 x2 y2 x3 y3 x4 y4)
      have hal : Below wr.heap.size wr (wr.alloc (.cells #[.complex .f64 x0 y0, .complex .f64 x1 y1, .complex .f64 x2 y2, .complex .f64 x3 y3, .complex .f64 x4 y4] 76)) := (Below.refl _ _).alloc (Nat.le_refl _) _
      have O3 := hide (ho.out.low hal)
      have B3 := hide (hbw.out.trans (hal.mono hwr))
      have hsc := run_store_c
      clear hst hf5 hl hB0 hlk hal ho
      go_wp2_with (go_at_call 36; refine (unhide KN _).mono ?_; rintro e w4 ⟨A4, rfl, hk4, hA4, hb4⟩; have K4 := hide hk4; have O4 := hide ((unhide O3).low hb4); have B4 := hide (below_next (unhide B3) hb4); clear hk4 hb4; refine Hid.out ?_)
      refine hide ?_
      have hs4 := (unhide B4).size
      have HF4 : Hid (Calls Tryz.prog 35 #[.slice (some ⟨A4, 0, none⟩) 5 5] w4 fun e w' => e = .returned (.bool true) ∧ w' = w4) := nfinL_any (blk_at (unhide K4)) (unhide HF5) (by show 5 ≤ 1000; decide)
      go_wp2_with (go_at_call 35; refine (unhide HF4).mono ?_; rintro e w' ⟨rfl, hw'⟩; obtain rfl := hw'.symm; refine Hid.out ?_)
      refine hide ?_
      go_wp2_with (at_builtin; refine Ow.app_strK rfl _ _ rfl _ _ rfl (unhide O4) ⟨#[32, 124]⟩ rfl (by omega) (by decide) hs4 ?_; intro v5 w5 h1 h2; have O5 : Hid (Ow W.heap.size w5 v5 (T0 ++ secT (ls.take k) ++ [32, 124])) := h1; have K5 := hide (h2.blk (unhide K4)); have B5 := hide ((unhide B4).trans h2.lo); clear h1 h2; refine Hid.out ?_)
      refine hide ?_
      have hs5 := (unhide B5).size
      have HL : Hid (Calls Tryz.prog 29 #[v5, .slice (some ⟨A4, 0, none⟩) 5 5] w5 fun e w' => ∃ v', e = .returned v' ∧ Ow W.heap.size w' v' (T0 ++ secT (ls.take k) ++ [32, 124] ++ frontT [(x0, y0), (x1, y1), (x2, y2), (x3, y3), (x4, y4)]) ∧ Bk W.heap.size w5 w') := listK_any (unhide K5) (unhide HF5) (by show 5 ≤ 24; decide) (unhide O5) hs5 (by omega) ((unhide HG).on (unhide B5))
      go_wp2_with (go_at_call 29; refine (unhide HL).mono ?_; rintro e w6 ⟨v6, rfl, h1, h2⟩; have O6 := hide h1; have B6 := hide ((unhide B5).trans h2.lo); clear h1 h2)
      refine ⟨⟨k + 1, by omega, rfl, ?_, unhide B6⟩, ?_⟩
      · show Ow _ _ _ _
        rw [unhide HST]
        have e : T0 ++ (secT (ls.take k) ++ [32, 124] ++ frontT [(x0, y0), (x1, y1), (x2, y2), (x3, y3), (x4, y4)]) = T0 ++ secT (ls.take k) ++ [32, 124] ++ frontT [(x0, y0), (x1, y1), (x2, y2), (x3, y3), (x4, y4)] := by simp only [List.append_assoc]
        rw [e]; exact unhide O6
      · simp only [intOf]
        omega
    · obtain rfl : k = ls.length := by omega
      have i1 : ¬ (ls.length : Int) < (ls.length : Int) := by omega
      have ho2 := ho.out
      rw [List.take_length] at ho2
      have hcv2 := Ow.str ho2 (by rw [unhide HT0]; intro e; have := congrArg List.length e; simp at this)
      have XD := hide ((unhide HB).trans (hbw.out.mono (unhide HB).size))
      have e0 : T0 ++ secT ls = filT gx gy ls := by rw [unhide HT0]; rfl
      rw [e0] at hcv2
      obtain ⟨T, hT⟩ : ∃ T : ByteArray, T = ⟨(filT gx gy ls).toArray⟩ := ⟨_, rfl⟩
      rw [← hT] at hcv2
      have HT := hide hT
      clear hT ho2 ho e0
      go_wp2_with fail
      go_ret2
      refine ⟨?_, unhide XD⟩
      rw [← unhide HT]
      try rfl
end Go.Proofs.YtbkjmnopljmanaaGreatDoor

/- TextReadFilters' walk. -/
namespace Go.Proofs.YtbkjmnopljmanaaGreatDoor
open Go.RowKit

set_option maxRecDepth 100000 in
set_option maxHeartbeats 2000000 in
theorem readFilters_any (s : ByteArray) (w : World) (hG : Gl w.heap.size w) : Calls Tryz.prog 4 #[.string s] w fun e w' => e = .returned (.bool true) ∧ Below w.heap.size w w' := by
  have G0 := hide hG
  clear hG
  rcases filter_both s with ⟨q, er, Z⟩ | ⟨gx, gy, ls, Z⟩
  · have HR := hide Z.prog
    have HD := hide Z.doc
    have hne := Z.ne
    have n1 : ((q : Int) != (q : Int)) = false := by simp
    have n2 : ((er : Int) != (er : Int)) = false := by simp
    have n3 : ((er : Int) == 0) = false := by rw [beq_eq_false_iff_ne]; omega
    clear Z hne
    have hsc := run_store_c
    go_enter Tryz.func4, Tryz.ntmps4
    go_wp2_with (go_at_call 11; refine (unhide HR _ (unhide G0)).mono ?_; rintro e w1 ⟨rfl, hb⟩; have B1 := hide hb; have G1 := hide ((unhide G0).next hb); clear hb; refine Hid.out ?_)
    refine hide ?_
    have al1 : Below w1.heap.size w1 (w1.alloc (.cells #[.complex .f64 0 0, .slice none 0 0] 38)) := (Below.refl _ _).alloc (Nat.le_refl _) _
    have bk1 : Blk (w1.alloc (.cells #[.complex .f64 0 0, .slice none 0 0] 38)) w1.heap.size #[.complex .f64 0 0, .slice none 0 0] 38 := Blk.alloc
    have AL1 := hide al1
    have BK1 := hide bk1
    clear al1 bk1
    go_wp2_with (go_at_call 12; refine (unhide HD _).mono ?_; rintro e w2 ⟨rfl, hb⟩; have B2 := hide (below_next (unhide AL1) hb); have BK2 := hide ((unhide BK1).below hb (unhide BK1).lt); clear hb; refine Hid.out ?_)
    refine hide ?_
    have al2 : Below w2.heap.size w2 (w2.alloc (.cells #[.complex .f64 0 0, .slice none 0 0] 38)) := (Below.refl _ _).alloc (Nat.le_refl _) _
    have bk2 : Blk (w2.alloc (.cells #[.complex .f64 0 0, .slice none 0 0] 38)) w2.heap.size #[.complex .f64 0 0, .slice none 0 0] 38 := Blk.alloc
    have AL2 := hide al2
    have BL2 := hide bk2
    have G2 := hide (((unhide G1).next (unhide B2)).next al2)
    have BK3 := hide ((unhide BK2).below al2 (unhide BK2).lt)
    clear al2 bk2
    go_wp2_with (go_at_call 8; refine (awake_any _ (unhide G2)).mono ?_; rintro e w3 ⟨rfl, hb⟩; have B3 := hide (below_next (unhide AL2) hb); have G3 := hide ((unhide G2).next hb); have BK4 := hide ((unhide BK3).below hb (unhide BK3).lt); have BL4 := hide ((unhide BL2).below hb (unhide BL2).lt); clear hb; refine Hid.out ?_)
    refine hide ?_
    have c0 := (unhide BK4).cell 0 (v := .complex .f64 0 0) rfl
    have c1 := (unhide BK4).cell 1 (v := .slice none 0 0) rfl
    have d0 := (unhide BL4).cell 0 (v := .complex .f64 0 0) rfl
    have d1 := (unhide BL4).cell 1 (v := .slice none 0 0) rfl
    have W13 := hide (below_next (unhide B2) (unhide B3))
    go_wp2_with (go_at_call 13; refine (sameFilter_any (ls := []) ((SeAt.nil w1).low (unhide W13)) ((SeAt.nil w2).low (unhide B3)) (fun _ h => by cases h) (by decide)).mono ?_; rintro e w4 ⟨rfl, hb⟩; have B4 := hide (below_next (unhide W13) hb); have G4 := hide ((unhide G3).next hb); have BK5 := hide ((unhide BK4).below hb (unhide BK4).lt); clear hb; refine Hid.out ?_)
    refine hide ?_
    go_wp2_with fail
    go_ret
    exact ⟨rfl, below_next (unhide B1) (unhide B4)⟩
  · have HR := hide Z.prog
    have HD := hide Z.doc
    have nz := Z.n
    have HF := hide Z
    have hq : (filT gx gy ls == s.toList) = true := by
      have := Z.told
      unfold filT
      rw [this]; simp
    clear Z
    have hsc := run_store_c
    go_enter Tryz.func4, Tryz.ntmps4
    go_wp2_with (go_at_call 11; refine (unhide HR _ (unhide G0)).mono ?_; rintro e w1 ⟨v, rfl, oz, hb⟩; obtain ⟨ad1, cap1, rfl, _⟩ := id (oz.at (unhide HF).five); have Z1 := hide (oz.at (unhide HF).five); clear oz; have B1 := hide hb; have G1 := hide ((unhide G0).next hb); clear hb; refine Hid.out ?_)
    refine hide ?_
    have al1 : Below w1.heap.size w1 (w1.alloc (.cells #[.complex .f64 gx gy, .slice ad1 ls.length cap1] 38)) := (Below.refl _ _).alloc (Nat.le_refl _) _
    have bk1 : Blk (w1.alloc (.cells #[.complex .f64 gx gy, .slice ad1 ls.length cap1] 38)) w1.heap.size #[.complex .f64 gx gy, .slice ad1 ls.length cap1] 38 := Blk.alloc
    have AL1 := hide al1
    have BK1 := hide bk1
    clear al1 bk1
    go_wp2_with (go_at_call 12; refine (unhide HD _).mono ?_; rintro e w2 ⟨u, rfl, oz, hb⟩; obtain ⟨ad3, cap3, rfl, _⟩ := id (oz.at (unhide HF).five); have U2 := hide (oz.at (unhide HF).five); clear oz; have B2 := hide (below_next (unhide AL1) hb); have BK2 := hide ((unhide BK1).below hb (unhide BK1).lt); clear hb; refine Hid.out ?_)
    refine hide ?_
    have al2 : Below w2.heap.size w2 (w2.alloc (.cells #[.complex .f64 gx gy, .slice ad3 ls.length cap3] 38)) := (Below.refl _ _).alloc (Nat.le_refl _) _
    have bk2 : Blk (w2.alloc (.cells #[.complex .f64 gx gy, .slice ad3 ls.length cap3] 38)) w2.heap.size #[.complex .f64 gx gy, .slice ad3 ls.length cap3] 38 := Blk.alloc
    have AL2 := hide al2
    have BL2 := hide bk2
    have G2 := hide (((unhide G1).next (unhide B2)).next al2)
    have BK3 := hide ((unhide BK2).below al2 (unhide BK2).lt)
    clear al2 bk2
    go_wp2_with (go_at_call 8; refine (awake_any _ (unhide G2)).mono ?_; rintro e w3 ⟨rfl, hb⟩; have B3 := hide (below_next (unhide AL2) hb); have G3 := hide ((unhide G2).next hb); have BK4 := hide ((unhide BK3).below hb (unhide BK3).lt); have BL4 := hide ((unhide BL2).below hb (unhide BL2).lt); clear hb; refine Hid.out ?_)
    refine hide ?_
    have c0 := (unhide BK4).cell 0 (v := .complex .f64 gx gy) rfl
    have c1 := (unhide BK4).cell 1 (v := .slice ad1 ls.length cap1) rfl
    have d0 := (unhide BL4).cell 0 (v := .complex .f64 gx gy) rfl
    have d1 := (unhide BL4).cell 1 (v := .slice ad3 ls.length cap3) rfl
    have W13 := hide (below_next (unhide B2) (unhide B3))
    go_wp2_with (go_at_call 13; refine (sameFilter_any (ls := ls) ((unhide Z1).low (unhide W13)) ((unhide U2).low (unhide B3)) (unhide HF).five (by omega)).mono ?_; rintro e w4 ⟨rfl, hb⟩; have B4 := hide (below_next (unhide W13) hb); have G4 := hide ((unhide G3).next hb); have BK5 := hide ((unhide BK4).below hb (unhide BK4).lt); clear hb; refine Hid.out ?_)
    refine hide ?_
    have e0 := (unhide BK5).cell 0 (v := .complex .f64 gx gy) rfl
    have e1 := (unhide BK5).cell 1 (v := .slice ad1 ls.length cap1) rfl
    go_wp2_with (go_at_call 14; refine (filW_any ((unhide Z1).low (unhide B4)) (unhide HF).five (unhide HF).gain (by omega) (unhide G4)).mono ?_; rintro e w5 ⟨rfl, hb⟩; have B5 := hide (below_next (unhide B4) hb); clear hb)
    go_ret
    exact ⟨rfl, below_next (unhide B1) (unhide B5)⟩
end Go.Proofs.YtbkjmnopljmanaaGreatDoor
