/- quaverref25's DocStep. -/
import Derived.Test.YtlajalfdcfkmpabNw
import Derived.Test.YtlajalfdcfkmpabQs
namespace Go.Proofs.Ytlajalfdcfkmpab
open Go.RowKit Go.Maps

theorem fits25_any (n : Int) (w : World) :
    Calls Try.prog 47 #[.int .i64 n] w fun e w' => e = .returned (.bool (fitsB n)) ∧ w' = w := by
  by_cases h1 : 1 ≤ n
  · by_cases h2 : n ≤ 31
    · rw [show fitsB n = true by simp [fitsB]; omega]
      go_enter Try.func47, Try.ntmps47
      go_wp2
      go_ret
      exact ⟨rfl, rfl⟩
    · rw [show fitsB n = false by simp [fitsB]; omega]
      go_enter Try.func47, Try.ntmps47
      go_wp2
      go_ret
      exact ⟨rfl, rfl⟩
  · rw [show fitsB n = false by simp [fitsB]; omega]
    go_enter Try.func47, Try.ntmps47
    go_wp2
    go_ret
    exact ⟨rfl, rfl⟩
theorem prod80 (m n : Int) : (kp m * kp n).natAbs ≤ 4611686018427387904 := by
  have := prod_bound (kp_low m) (kp_low n)
  omega
theorem boxes (w : World) (a b c : Array Value) (t u : TypeId) :
    Blk (((w.alloc (.cells a t)).alloc (.cells b u)).alloc (.cells c u)) w.heap.size a t ∧ Blk (((w.alloc (.cells a t)).alloc (.cells b u)).alloc (.cells c u)) (w.heap.size + 1) b u ∧ Blk (((w.alloc (.cells a t)).alloc (.cells b u)).alloc (.cells c u)) (w.heap.size + 1 + 1) c u ∧ Below w.heap.size w (((w.alloc (.cells a t)).alloc (.cells b u)).alloc (.cells c u)) := by
  have s1 : (w.alloc (.cells a t)).heap.size = w.heap.size + 1 := by simp
  have s2 : ((w.alloc (.cells a t)).alloc (.cells b u)).heap.size = w.heap.size + 1 + 1 := by simp
  have h1 : Blk (w.alloc (.cells a t)) w.heap.size a t := Blk.alloc
  have h2 : Blk ((w.alloc (.cells a t)).alloc (.cells b u)) (w.heap.size + 1) b u := by rw [← s1]; exact Blk.alloc
  have h3 : Blk (((w.alloc (.cells a t)).alloc (.cells b u)).alloc (.cells c u)) (w.heap.size + 1 + 1) c u := by rw [← s2]; exact Blk.alloc
  have b1 := Joins.below_alloc1 w (.cells a t)
  have b2 := Joins.below_alloc1 (w.alloc (.cells a t)) (.cells b u)
  have b3 := Joins.below_alloc1 ((w.alloc (.cells a t)).alloc (.cells b u)) (.cells c u)
  exact ⟨(h1.below b2 h1.lt).below b3 (h1.below b2 h1.lt).lt, h2.below b3 h2.lt, h3, (b1.trans (b2.mono b1.size)).trans (b3.mono (b1.trans (b2.mono b1.size)).size)⟩
def ds3V (A : Nat) (f : Fx) (st : St) (x : Int) : Nat → Value → Prop
  | 17, v => v = .pointer (some ⟨A, 1, none⟩)
  | 18, v => v = .int .i64 f.b0
  | 19, v => v = .int .i64 x
  | 21, v => v = .pointer (some ⟨A, 2, none⟩)
  | 22, v => v = .int .i64 f.b1
  | 23, v => v = .pointer (some ⟨A + 1, 0, none⟩)
  | 24, v => v = .int .i64 st.x1
  | 27, v => v = .pointer (some ⟨A, 3, none⟩)
  | 28, v => v = .int .i64 f.b2
  | 29, v => v = .pointer (some ⟨A + 1, 1, none⟩)
  | 30, v => v = .int .i64 st.x2
  | _, _ => True
def ds4V (A : Nat) (f : Fx) (st : St) (u : Value) : Nat → Value → Prop
  | 33, v => v = u
  | 34, v => v = .pointer (some ⟨A, 4, none⟩)
  | 35, v => v = .int .i64 f.a1
  | 36, v => v = .pointer (some ⟨A + 1, 2, none⟩)
  | 37, v => v = .int .i64 st.y1
  | 40, v => v = .pointer (some ⟨A, 5, none⟩)
  | 41, v => v = .int .i64 f.a2
  | 42, v => v = .pointer (some ⟨A + 1, 3, none⟩)
  | 43, v => v = .int .i64 st.y2
  | _, _ => True
def tupR (R : Int) : Value := .tuple #[.int .i64 (kp R), .bool (offB R)]
def ds5V (A : Nat) (f : Fx) (R : Int) (u : Value) : Nat → Value → Prop
  | 10, v => v = .int .i64 (kp R)
  | 11, v => v = .bool (offB R)
  | 46, v => v = tupR R
  | 47, v => v = u
  | 48, v => v = .pointer (some ⟨A, 0, none⟩)
  | 49, v => v = .int .i64 f.bits
  | 52, v => v = tupR R
  | 53, v => v = .int .i64 (kp R)
  | 54, v => v = .bool (offB R)
  | _, _ => True
def ds6V (A : Nat) (st : St) (x Yk : Int) (Ok : Bool) : Nat → Value → Prop
  | 6, v => v = .int .i64 Yk
  | 8, v => v = .bool Ok
  | 55, v => v = .int .i64 Yk
  | 56, v => v = .int .i64 x
  | 57, v => v = .int .i64 (kp x)
  | 58, v => v = .pointer (some ⟨A + 1, 0, none⟩)
  | 59, v => v = .int .i64 st.x1
  | 60, v => v = .int .i64 (kp st.x1)
  | 61, v => v = .int .i64 Yk
  | 62, v => v = .pointer (some ⟨A + 1, 2, none⟩)
  | 63, v => v = .int .i64 st.y1
  | 64, v => v = .int .i64 (kp st.y1)
  | 65, v => v = .agg #[.int .i64 (kp x), .int .i64 (kp st.x1), .int .i64 Yk, .int .i64 (kp st.y1)]
  | 66, v => v = .bool Ok
  | _, _ => True
def cK (k : Nat) (W : World) (N : Nat) (cs : Array Value) (listed : Array Bool) (w' : World) : Prop := w' = if listed.getD k false then W.drew.setCells N 0 cs.toList else W.drew
section
variable {k : Nat} {W w' : World} {N : Nat} {cs : Array Value} {listed : Array Bool}
theorem cK.start {n : Nat} : cK k W N cs (Array.replicate n false) W.drew := by unfold cK; rw [getD_rep2]; rfl
theorem cK.same (h : cK k W N cs listed w') (i : Nat) (hi : i ≠ k) : cK k W N cs (listed.setIfInBounds i true) w' := by
  unfold cK; rw [getD_set_ne false hi]; exact h
theorem cK.pre (h : cK k W N cs listed w') (hu : listed.getD k false = false) : w' = W.drew := by
  unfold cK at h; rw [hu] at h; exact h
theorem cK.store (h : cK k W N cs listed w') (hu : listed.getD k false = false) (hs : k < listed.size) : cK k W N cs (listed.setIfInBounds k true) (w'.setCells N 0 cs.toList) := by
  rw [h.pre hu]
  unfold cK
  rw [lset rfl hs]; rfl
end
theorem SlotInv.notYet1 {ops : Array Oper} {a0 : Act} {V : Nat → Value → Prop} {C : Array Bool → Act → World → Prop} {listed : Array Bool} {a : Act} {w : World} (hI : SlotInv ops a0 V C listed a w) {n : Nat} (hsz : listed.size = n) (k : Nat) {o : Oper} (ho : ops[k]? = some o) (i : Nat)
    (hr : (decide (i < n) && o.after.toList.any (fun e => decide (e.on = i) && Region.binds .any e)) = true) (hl : listed.getD i true = false) : listed.getD k false = false := by
  simp only [Bool.and_eq_true, decide_eq_true_eq, List.any_eq_true] at hr
  obtain ⟨hi, e, he, h2, h3⟩ := hr
  have hf := unl hl hsz hi
  cases h : listed.getD k false with
  | false => rfl
  | true =>
    have := hI.closed k o ho h e (by simpa using he) h3
    rw [h2, hf] at this
    cases this
theorem okR_bS {o : Oper} {a : Act} {w : World} {R : Value → World → Prop} {x y z u : Operand} {p q r s : Int} (hop : o.op = .build 44 #[(0, x), (1, y), (2, z), (3, u)]) (hx : a.eval x = .int .i64 p) (hy : a.eval y = .int .i64 q) (hz : a.eval z = .int .i64 r) (hu : a.eval u = .int .i64 s) (h : R (.agg #[.int .i64 p, .int .i64 q, .int .i64 r, .int .i64 s]) w) : StepOkR Try.prog o a w R := by
  refine .inl ⟨_, w, ?_, h⟩
  simp [execOp, hop, hx, hy, hz, hu]
  go_simp
theorem res_doc {w : World} {tmps : Array Value} {y o : Value} {b : Nat} {c0 c1 c2 c3 : Value} (h6 : tmps.getD 6 undef = y) (h7 : tmps.getD 7 undef = .pointer (some ⟨b, 0, none⟩)) (h8 : tmps.getD 8 undef = o) (hr : Blk w b #[c0, c1, c2, c3] 44) :
    (results Try.f35 tmps).run Try.prog w = .ok (.tuple #[y, .agg #[c0, c1, c2, c3], o]) w := by
  have hl := run_loadVar_mid (P := Try.prog) w b 0 44 [c0, c1, c2, c3] _ hr.range Try.underlying44 rfl infoSt
  rw [Array.getD_eq_getD_getElem?] at h6 h7 h8
  simp [results, h6, h7, h8, asAddr, hl]
theorem rnd_red (z : Int) (t k : Nat) : rnd (z * 2 ^ k) (t + k) = rnd z t := by
  have hk : (0 : Int) < 2 ^ k := Int.pow_pos (by decide)
  have e1 : z * 2 ^ k / 2 ^ (t + k) = z / 2 ^ t := by rw [Int.pow_add, Int.mul_ediv_mul_of_pos_left _ _ hk]
  have e2 : z * 2 ^ k % 2 ^ (t + k) = z % 2 ^ t * 2 ^ k := by
    rw [Int.pow_add, Int.mul_comm z, Int.mul_comm (2 ^ t), Int.mul_emod_mul_of_pos _ _ hk, Int.mul_comm]
  unfold rnd
  rw [e1, e2, Int.pow_add, ← Int.mul_assoc]
  have i1 : (2 : Int) ^ t * 2 ^ k < 2 * (z % 2 ^ t) * 2 ^ k ↔ 2 ^ t < 2 * (z % 2 ^ t) := ⟨fun h => Int.lt_of_mul_lt_mul_right h (Int.le_of_lt hk), fun h => Int.mul_lt_mul_of_pos_right h hk⟩
  have i2 : 2 * (z % 2 ^ t) * 2 ^ k = (2 : Int) ^ t * 2 ^ k ↔ 2 * (z % 2 ^ t) = 2 ^ t := ⟨fun h => Int.eq_of_mul_eq_mul_right (Int.ne_of_gt hk) h, fun h => by rw [h]⟩
  simp only [i1, i2]
theorem okR_ext {o : Oper} {a : Act} {w : World} {R : Value → World → Prop} {x : Operand} {vs : Array Value} {k : Nat} {v : Value} (hop : o.op = .extract x k) (hx : a.eval x = .tuple vs) (hv : vs[k]? = some v) (h : R v w) : StepOkR Try.prog o a w R := by
  refine .inl ⟨v, w, ?_, h⟩
  simp [execOp, hop, hx]
  go_simp
theorem loadN (p : Addr) (n : Int) (w : World) (h : w.cell? p = some (.int .i64 n)) : (Instr.loadAt 3 (.pointer (some p))).run Try.prog w = .ok (.int .i64 n) w := by go_simp
theorem five_b3 {a b c : Int} (h1 : a.natAbs ≤ 4611686018427387904) (h2 : b.natAbs ≤ 4611686018427387904) (h3 : c.natAbs ≤ 4611686018427387904) : (a + b + c).natAbs < 2 ^ 80 := by
  show _ < 1208925819614629174706176
  omega
theorem five_b4 {a b c d : Int} (h1 : a.natAbs ≤ 4611686018427387904) (h2 : b.natAbs ≤ 4611686018427387904) (h3 : c.natAbs ≤ 4611686018427387904) (h4 : d.natAbs ≤ 4611686018427387904) : (a + b + c - d).natAbs < 2 ^ 80 := by
  show _ < 1208925819614629174706176
  omega
theorem five_b5 {a b c d e : Int} (h1 : a.natAbs ≤ 4611686018427387904) (h2 : b.natAbs ≤ 4611686018427387904) (h3 : c.natAbs ≤ 4611686018427387904) (h4 : d.natAbs ≤ 4611686018427387904) (h5 : e.natAbs ≤ 4611686018427387904) : (a + b + c - d - e).natAbs < 2 ^ 70 := by
  show _ < 1180591620717411303424
  omega
set_option maxRecDepth 100000 in
set_option maxHeartbeats 4000000 in
theorem doc_step (f : Fx) (st : St) (x : Int) (hf : fitsB f.bits = true) (w : World) :
    Calls Try.prog 35 #[.agg #[.int .i64 f.bits, .int .i64 f.b0, .int .i64 f.b1, .int .i64 f.b2, .int .i64 f.a1, .int .i64 f.a2], .agg #[.int .i64 st.x1, .int .i64 st.x2, .int .i64 st.y1, .int .i64 st.y2], .int .i64 x] w fun e w' => e = .returned (.tuple #[.int .i64 (ans f st x), .agg #[.int .i64 (kp x), .int .i64 (kp st.x1), .int .i64 (ans f st x), .int .i64 (kp st.y1)], .bool (outs f st x)]) ∧ Below w.heap.size w w' := by
  have HFi := hide (fits25_any f.bits)
  rw [hf] at HFi
  have c1 : (kp f.b0 * kp x).natAbs < 2 ^ 80 := Nat.lt_of_le_of_lt (prod80 _ _) (by decide)
  have c2 : (kp f.b1 * kp st.x1).natAbs < 2 ^ 80 := Nat.lt_of_le_of_lt (prod80 _ _) (by decide)
  have c3 : (kp f.b2 * kp st.x2).natAbs < 2 ^ 80 := Nat.lt_of_le_of_lt (prod80 _ _) (by decide)
  have c12 : (kp f.b0 * kp x + kp f.b1 * kp st.x1).natAbs < 2 ^ 80 := by
    have g1 := prod80 f.b0 x
    have g2 := prod80 f.b1 st.x1
    show _ < 1208925819614629174706176
    generalize kp f.b0 * kp x = p1 at *
    generalize kp f.b1 * kp st.x1 = p2 at *
    clear c1 c2 c3
    omega
  obtain ⟨A, hA⟩ : ∃ A, w.heap.size = A := ⟨_, rfl⟩
  obtain ⟨hBA, hBB, hBZ, hlw⟩ := boxes w #[.int .i64 f.bits, .int .i64 f.b0, .int .i64 f.b1, .int .i64 f.b2, .int .i64 f.a1, .int .i64 f.a2] #[.int .i64 st.x1, .int .i64 st.x2, .int .i64 st.y1, .int .i64 st.y2] #[.int .i64 0, .int .i64 0, .int .i64 0, .int .i64 0] 34 44
  obtain ⟨W, hW⟩ : ∃ W, W = ((w.alloc (Obj.cells #[.int .i64 f.bits, .int .i64 f.b0, .int .i64 f.b1, .int .i64 f.b2, .int .i64 f.a1, .int .i64 f.a2] 34)).alloc (Obj.cells #[.int .i64 st.x1, .int .i64 st.x2, .int .i64 st.y1, .int .i64 st.y2] 44)).alloc (Obj.cells #[.int .i64 0, .int .i64 0, .int .i64 0, .int .i64 0] 44) := ⟨_, rfl⟩
  rw [← hW] at hBA hBB hBZ hlw
  rw [hA] at hBA hBB hBZ
  have HA := hide hA
  have y0 := hBA.cell 0 rfl
  go_enter Try.func35, Try.ntmps35
  go_upto_region 1 with fail
  rw [← hW]
  clear hW hA
  go_wp2_with fail
  refine (unhide HFi _).mono ?_
  rintro e w' ⟨rfl, hw'⟩
  obtain rfl := hw'
  clear y0 HFi
  go_upto_region 3 with fail
  rename_i K hK
  have HKK := hide hK
  clear hK
  obtain ⟨W, hWW⟩ : ∃ v, v = w' := ⟨_, rfl⟩
  subst hWW
  refine region_slotsA (ds3V A f st x) (kD W 17 [⟨3, 20, fun w v => QA w v (kp f.b0 * kp x) 0⟩, ⟨8, 25, fun w v => QA w v (kp f.b1 * kp st.x1) 0⟩, ⟨9, 26, fun w v => QA w v (kp f.b0 * kp x + kp f.b1 * kp st.x1) 0⟩, ⟨14, 31, fun w v => QA w v (kp f.b2 * kp st.x2) 0⟩, ⟨15, 32, fun w v => QA w v (kp f.b0 * kp x + kp f.b1 * kp st.x1 + kp f.b2 * kp st.x2) 0⟩, ⟨16, 9, PA W⟩] (fun a w => ∃ N, a.eval (.tmp 9) = .pointer (some ⟨N, 0, none⟩) ∧ W.heap.size ≤ N ∧ QF W N (fun z t => z = kp f.b0 * kp x + kp f.b1 * kp st.x1 + kp f.b2 * kp st.x2 ∧ t = 0) w)) (by kernel_rfl) (by kernel_rfl) (by kernel_rfl) 67 (by kernel_rfl) rfl kD.start ?_ ?_
  · as_aux_lemma =>
    intro listed a w1 i o hI ho hsz hl hd
    have hi : i < 18 := by simpa using (Array.getElem?_eq_some_iff.1 ho).1
    have hsz' : listed.size = 18 := by simpa using hsz
    have e2 : a.eval (.tmp 2) = .int .i64 x := (hI.base 2 (by kernel_rfl)).trans rfl
    have e3 : a.eval (.tmp 3) = .pointer (some ⟨A, 0, none⟩) := (hI.base 3 (by kernel_rfl)).trans rfl
    have e4 : a.eval (.tmp 4) = .pointer (some ⟨A + 1, 0, none⟩) := (hI.base 4 (by kernel_rfl)).trans rfl
    have hc : kD W 17 [⟨3, 20, fun w v => QA w v (kp f.b0 * kp x) 0⟩, ⟨8, 25, fun w v => QA w v (kp f.b1 * kp st.x1) 0⟩, ⟨9, 26, fun w v => QA w v (kp f.b0 * kp x + kp f.b1 * kp st.x1) 0⟩, ⟨14, 31, fun w v => QA w v (kp f.b2 * kp st.x2) 0⟩, ⟨15, 32, fun w v => QA w v (kp f.b0 * kp x + kp f.b1 * kp st.x1 + kp f.b2 * kp st.x2) 0⟩, ⟨16, 9, PA W⟩] (fun a w => ∃ N, a.eval (.tmp 9) = .pointer (some ⟨N, 0, none⟩) ∧ W.heap.size ≤ N ∧ QF W N (fun z t => z = kp f.b0 * kp x + kp f.b1 * kp st.x1 + kp f.b2 * kp st.x2 ∧ t = 0) w) listed a w1 := hI.world
    have lk : listed.getD 17 false = false := hI.notYet hsz' 17 rfl (by kernel_rfl) hi hl
    obtain ⟨hB0, hps⟩ := hc.1 lk
    have kA := hBA.below hB0 hBA.lt
    have kB := hBB.below hB0 hBB.lt
    rcases (by omega : i = 0 ∨ i = 1 ∨ i = 2 ∨ i = 3 ∨ i = 4 ∨ i = 5 ∨ i = 6 ∨ i = 7 ∨ i = 8 ∨ i = 9 ∨ i = 10 ∨ i = 11 ∨ i = 12 ∨ i = 13 ∨ i = 14 ∨ i = 15 ∨ i = 16 ∨ i = 17) with rfl | rfl | rfl | rfl | rfl | rfl | rfl | rfl | rfl | rfl | rfl | rfl | rfl | rfl | rfl | rfl | rfl | rfl
    all_goals obtain rfl := Option.some.inj ho
    · exact okR_field rfl e3 (fieldFx _ 1 (by decide) _) ⟨slotR rfl rfl, hc.same lk 0 rfl (by decide) (by simp)⟩
    · have k1 := hI.slot 0 _ 17 rfl rfl (hd ⟨0, .data⟩ (by simp) rfl)
      exact okR_load rfl k1 (loadI _ _ _ (kA.cell 1 rfl)) ⟨slotR rfl rfl, hc.same lk 1 rfl (by decide) (by simp)⟩
    · exact okR_move rfl e2 ⟨slotR rfl rfl, hc.same lk 2 rfl (by decide) (by simp)⟩
    · have k1 := hI.slot 1 _ 18 rfl rfl (hd ⟨1, .data⟩ (by simp) rfl)
      have k2 := hI.slot 2 _ 19 rfl rfl (hd ⟨2, .data⟩ (by simp) rfl)
      refine okR_call2 enter_product rfl k1 k2 ((product_any _ _ _).mono ?_)
      rintro e w' ⟨v, rfl, hv, hB⟩
      refine ⟨v, rfl, slotR rfl trivial, hc.made lk 3 hI.size (show 20 < 67 by omega) rfl (by decide) hB ?_ ?_⟩
      · intro c hc' he
        simp only [List.mem_cons, List.mem_nil_iff, or_false] at hc'
        rcases hc' with rfl | rfl | rfl | rfl | rfl | rfl
        · exact ⟨rfl, hv⟩
        · simp at he
        · simp at he
        · simp at he
        · simp at he
        · simp at he
      · intro c hc' hne
        simp only [List.mem_cons, List.mem_nil_iff, or_false] at hc'
        rcases hc' with rfl | rfl | rfl | rfl | rfl | rfl
        · exact absurd rfl hne
        · exact ⟨by simp, QA.keep _ _ hB⟩
        · exact ⟨by simp, QA.keep _ _ hB⟩
        · exact ⟨by simp, QA.keep _ _ hB⟩
        · exact ⟨by simp, QA.keep _ _ hB⟩
        · exact ⟨by simp, PA.keep _ _ hB⟩
    · exact okR_field rfl e3 (fieldFx _ 2 (by decide) _) ⟨slotR rfl rfl, hc.same lk 4 rfl (by decide) (by simp)⟩
    · have k1 := hI.slot 4 _ 21 rfl rfl (hd ⟨4, .data⟩ (by simp) rfl)
      exact okR_load rfl k1 (loadI _ _ _ (kA.cell 2 rfl)) ⟨slotR rfl rfl, hc.same lk 5 rfl (by decide) (by simp)⟩
    · exact okR_field rfl e4 (fieldSt _ 0 (by decide) _) ⟨slotR rfl rfl, hc.same lk 6 rfl (by decide) (by simp)⟩
    · have k1 := hI.slot 6 _ 23 rfl rfl (hd ⟨6, .data⟩ (by simp) rfl)
      exact okR_load rfl k1 (loadI _ _ _ (kB.cell 0 rfl)) ⟨slotR rfl rfl, hc.same lk 7 rfl (by decide) (by simp)⟩
    · have k1 := hI.slot 5 _ 22 rfl rfl (hd ⟨5, .data⟩ (by simp) rfl)
      have k2 := hI.slot 7 _ 24 rfl rfl (hd ⟨7, .data⟩ (by simp) rfl)
      refine okR_call2 enter_product rfl k1 k2 ((product_any _ _ _).mono ?_)
      rintro e w' ⟨v, rfl, hv, hB⟩
      refine ⟨v, rfl, slotR rfl trivial, hc.made lk 8 hI.size (show 25 < 67 by omega) rfl (by decide) hB ?_ ?_⟩
      · intro c hc' he
        simp only [List.mem_cons, List.mem_nil_iff, or_false] at hc'
        rcases hc' with rfl | rfl | rfl | rfl | rfl | rfl
        · simp at he
        · exact ⟨rfl, hv⟩
        · simp at he
        · simp at he
        · simp at he
        · simp at he
      · intro c hc' hne
        simp only [List.mem_cons, List.mem_nil_iff, or_false] at hc'
        rcases hc' with rfl | rfl | rfl | rfl | rfl | rfl
        · exact ⟨by simp, QA.keep _ _ hB⟩
        · exact absurd rfl hne
        · exact ⟨by simp, QA.keep _ _ hB⟩
        · exact ⟨by simp, QA.keep _ _ hB⟩
        · exact ⟨by simp, QA.keep _ _ hB⟩
        · exact ⟨by simp, PA.keep _ _ hB⟩
    · have j1 := hps ⟨3, 20, fun w v => QA w v (kp f.b0 * kp x) 0⟩ (by simp) (hd ⟨3, .data⟩ (by simp) rfl)
      have j2 := hps ⟨8, 25, fun w v => QA w v (kp f.b1 * kp st.x1) 0⟩ (by simp) (hd ⟨8, .data⟩ (by simp) rfl)
      refine okR_call2 enter_AddQ rfl rfl rfl ((add0_any j1 j2 c1 c2).mono ?_)
      rintro e w' ⟨v, rfl, hv, hB⟩
      refine ⟨v, rfl, slotR rfl trivial, hc.made lk 9 hI.size (show 26 < 67 by omega) rfl (by decide) hB ?_ ?_⟩
      · intro c hc' he
        simp only [List.mem_cons, List.mem_nil_iff, or_false] at hc'
        rcases hc' with rfl | rfl | rfl | rfl | rfl | rfl
        · simp at he
        · simp at he
        · exact ⟨rfl, hv⟩
        · simp at he
        · simp at he
        · simp at he
      · intro c hc' hne
        simp only [List.mem_cons, List.mem_nil_iff, or_false] at hc'
        rcases hc' with rfl | rfl | rfl | rfl | rfl | rfl
        · exact ⟨by simp, QA.keep _ _ hB⟩
        · exact ⟨by simp, QA.keep _ _ hB⟩
        · exact absurd rfl hne
        · exact ⟨by simp, QA.keep _ _ hB⟩
        · exact ⟨by simp, QA.keep _ _ hB⟩
        · exact ⟨by simp, PA.keep _ _ hB⟩
    · exact okR_field rfl e3 (fieldFx _ 3 (by decide) _) ⟨slotR rfl rfl, hc.same lk 10 rfl (by decide) (by simp)⟩
    · have k1 := hI.slot 10 _ 27 rfl rfl (hd ⟨10, .data⟩ (by simp) rfl)
      exact okR_load rfl k1 (loadI _ _ _ (kA.cell 3 rfl)) ⟨slotR rfl rfl, hc.same lk 11 rfl (by decide) (by simp)⟩
    · exact okR_field rfl e4 (fieldSt _ 1 (by decide) _) ⟨slotR rfl rfl, hc.same lk 12 rfl (by decide) (by simp)⟩
    · have k1 := hI.slot 12 _ 29 rfl rfl (hd ⟨12, .data⟩ (by simp) rfl)
      exact okR_load rfl k1 (loadI _ _ _ (kB.cell 1 rfl)) ⟨slotR rfl rfl, hc.same lk 13 rfl (by decide) (by simp)⟩
    · have k1 := hI.slot 11 _ 28 rfl rfl (hd ⟨11, .data⟩ (by simp) rfl)
      have k2 := hI.slot 13 _ 30 rfl rfl (hd ⟨13, .data⟩ (by simp) rfl)
      refine okR_call2 enter_product rfl k1 k2 ((product_any _ _ _).mono ?_)
      rintro e w' ⟨v, rfl, hv, hB⟩
      refine ⟨v, rfl, slotR rfl trivial, hc.made lk 14 hI.size (show 31 < 67 by omega) rfl (by decide) hB ?_ ?_⟩
      · intro c hc' he
        simp only [List.mem_cons, List.mem_nil_iff, or_false] at hc'
        rcases hc' with rfl | rfl | rfl | rfl | rfl | rfl
        · simp at he
        · simp at he
        · simp at he
        · exact ⟨rfl, hv⟩
        · simp at he
        · simp at he
      · intro c hc' hne
        simp only [List.mem_cons, List.mem_nil_iff, or_false] at hc'
        rcases hc' with rfl | rfl | rfl | rfl | rfl | rfl
        · exact ⟨by simp, QA.keep _ _ hB⟩
        · exact ⟨by simp, QA.keep _ _ hB⟩
        · exact ⟨by simp, QA.keep _ _ hB⟩
        · exact absurd rfl hne
        · exact ⟨by simp, QA.keep _ _ hB⟩
        · exact ⟨by simp, PA.keep _ _ hB⟩
    · have j1 := hps ⟨9, 26, fun w v => QA w v (kp f.b0 * kp x + kp f.b1 * kp st.x1) 0⟩ (by simp) (hd ⟨9, .data⟩ (by simp) rfl)
      have j2 := hps ⟨14, 31, fun w v => QA w v (kp f.b2 * kp st.x2) 0⟩ (by simp) (hd ⟨14, .data⟩ (by simp) rfl)
      refine okR_call2 enter_AddQ rfl rfl rfl ((add0_any j1 j2 c12 c3).mono ?_)
      rintro e w' ⟨v, rfl, hv, hB⟩
      refine ⟨v, rfl, slotR rfl trivial, hc.made lk 15 hI.size (show 32 < 67 by omega) rfl (by decide) hB ?_ ?_⟩
      · intro c hc' he
        simp only [List.mem_cons, List.mem_nil_iff, or_false] at hc'
        rcases hc' with rfl | rfl | rfl | rfl | rfl | rfl
        · simp at he
        · simp at he
        · simp at he
        · simp at he
        · exact ⟨rfl, hv⟩
        · simp at he
      · intro c hc' hne
        simp only [List.mem_cons, List.mem_nil_iff, or_false] at hc'
        rcases hc' with rfl | rfl | rfl | rfl | rfl | rfl
        · exact ⟨by simp, QA.keep _ _ hB⟩
        · exact ⟨by simp, QA.keep _ _ hB⟩
        · exact ⟨by simp, QA.keep _ _ hB⟩
        · exact ⟨by simp, QA.keep _ _ hB⟩
        · exact absurd rfl hne
        · exact ⟨by simp, PA.keep _ _ hB⟩
    · refine okR_allocQ rfl ?_
      have hB := Joins.below_alloc1 w1 (.cells zQ 92)
      refine ⟨slotR rfl trivial, hc.made lk 16 hI.size (show 9 < 67 by omega) rfl (by decide) hB ?_ ?_⟩
      · intro c hc' he
        simp only [List.mem_cons, List.mem_nil_iff, or_false] at hc'
        rcases hc' with rfl | rfl | rfl | rfl | rfl | rfl
        · simp at he
        · simp at he
        · simp at he
        · simp at he
        · simp at he
        · exact ⟨rfl, PA.new hB0⟩
      · intro c hc' hne
        simp only [List.mem_cons, List.mem_nil_iff, or_false] at hc'
        rcases hc' with rfl | rfl | rfl | rfl | rfl | rfl
        · exact ⟨by simp, QA.keep _ _ hB⟩
        · exact ⟨by simp, QA.keep _ _ hB⟩
        · exact ⟨by simp, QA.keep _ _ hB⟩
        · exact ⟨by simp, QA.keep _ _ hB⟩
        · exact ⟨by simp, QA.keep _ _ hB⟩
        · exact absurd rfl hne
    · have j1 := hps ⟨15, 32, fun w v => QA w v (kp f.b0 * kp x + kp f.b1 * kp st.x1 + kp f.b2 * kp st.x2) 0⟩ (by simp) (hd ⟨15, .data⟩ (by simp) rfl)
      obtain ⟨N, k9, hN, kZ⟩ := hps ⟨16, 9, PA W⟩ (by simp) (hd ⟨16, .data⟩ (by simp) rfl)
      obtain ⟨a1, n1', c1', a2, n2', c2', hv⟩ := QA.form j1
      have j2 : QR (fun z t => z = kp f.b0 * kp x + kp f.b1 * kp st.x1 + kp f.b2 * kp st.x2 ∧ t = 0) w1 (a.eval (.tmp 32)) := ⟨_, _, j1, rfl, rfl⟩
      simp only at hv
      rw [hv] at j2
      exact okR_store rfl k9 hv (run_storeAt_mid w1 N 0 92 #[.bool (decide (kp f.b0 * kp x + kp f.b1 * kp st.x1 + kp f.b2 * kp st.x2 < 0)), .slice a1 n1' c1', .slice a2 n2' c2'] kZ.there infoQ (by simp [Value.oneCell'])) ⟨slotN rfl, kD.last (by omega) ⟨N, k9, hN, QF.store j2 kZ hB0 hN⟩⟩
  · intro listed a' w2 hI hall
    obtain ⟨N, k9, hN, c0, c1', c2', hb, ⟨z, t, hq, hz, ht⟩, hB2⟩ := hI.world.2 (hall 17 (by decide))
    subst hz ht
    have E := hI.frame [9, 17, 18, 19, 20, 21, 22, 23, 24, 25, 26, 27, 28, 29, 30, 31, 32] (by kernel_rfl)
    simp only [putAll] at E
    generalize a'.eval (.tmp 17) = y17 at E
    generalize a'.eval (.tmp 18) = y18 at E
    generalize a'.eval (.tmp 19) = y19 at E
    generalize a'.eval (.tmp 20) = y20 at E
    generalize a'.eval (.tmp 21) = y21 at E
    generalize a'.eval (.tmp 22) = y22 at E
    generalize a'.eval (.tmp 23) = y23 at E
    generalize a'.eval (.tmp 24) = y24 at E
    generalize a'.eval (.tmp 25) = y25 at E
    generalize a'.eval (.tmp 26) = y26 at E
    generalize a'.eval (.tmp 27) = y27 at E
    generalize a'.eval (.tmp 28) = y28 at E
    generalize a'.eval (.tmp 29) = y29 at E
    generalize a'.eval (.tmp 30) = y30 at E
    generalize a'.eval (.tmp 31) = y31 at E
    generalize a'.eval (.tmp 32) = y32 at E
    rw [k9] at E
    simp only [Act.put, List.setIfInBounds_toArray, List.set_cons_zero, List.set_cons_succ] at E
    clear hI hall k9
    subst E
    refine unhide HKK _ _ ?_
    clear HKK
    obtain ⟨x1, x2, x3, x4, x5, x6, hvv⟩ := hq.form
    have hcc : #[c0, c1', c2'] = #[.bool (decide (kp f.b0 * kp x + kp f.b1 * kp st.x1 + kp f.b2 * kp st.x2 < 0)), .slice x1 x2 x3, .slice x4 x5 x6] := by injection hvv
    rw [hcc] at hb hq
    obtain ⟨s3, hs3⟩ : ∃ s3, decide (kp f.b0 * kp x + kp f.b1 * kp st.x1 + kp f.b2 * kp st.x2 < 0) = s3 := ⟨_, rfl⟩
    rw [hs3] at hb hq
    clear hcc hvv hs3
    have g4 := prod80 f.a1 st.y1
    have g5 := prod80 f.a2 st.y2
    have g1 := prod80 f.b0 x
    have g2 := prod80 f.b1 st.x1
    have g3 := prod80 f.b2 st.x2
    have d3 : (kp f.b0 * kp x + kp f.b1 * kp st.x1 + kp f.b2 * kp st.x2).natAbs < 2 ^ 80 := five_b3 g1 g2 g3
    have d4 : (kp f.b0 * kp x + kp f.b1 * kp st.x1 + kp f.b2 * kp st.x2 - kp f.a1 * kp st.y1).natAbs < 2 ^ 80 := five_b4 g1 g2 g3 g4
    have d5 : (kp f.b0 * kp x + kp f.b1 * kp st.x1 + kp f.b2 * kp st.x2 - kp f.a1 * kp st.y1 - kp f.a2 * kp st.y2).natAbs < 2 ^ 70 := five_b5 g1 g2 g3 g4 g5
    have e4' : (kp f.a1 * kp st.y1).natAbs < 2 ^ 80 := Nat.lt_of_le_of_lt g4 (by decide)
    have e5' : (kp f.a2 * kp st.y2).natAbs < 2 ^ 80 := Nat.lt_of_le_of_lt g5 (by decide)
    clear g1 g2 g3 g4 g5 c1 c2 c3 c12
    have jA := hBA.below hB2 hBA.lt
    have jB := hBB.below hB2 hBB.lt
    have jZ := hBZ.below hB2 hBZ.lt
    have hBAk := hBA
    have hBBk := hBB
    have hBZk := hBZ
    clear hBA hBB hBZ
    go_upto_region 4 with fail
    rename_i K hK
    have HKK := hide hK
    clear hK
    refine region_slotsA (ds4V A f st (.agg #[.bool s3, .slice x1 x2 x3, .slice x4 x5 x6])) (kC w2 13 [⟨5, 38, fun w v => QA w v (kp f.a1 * kp st.y1) 0⟩, ⟨6, 39, fun w v => QA w v (kp f.b0 * kp x + kp f.b1 * kp st.x1 + kp f.b2 * kp st.x2 - kp f.a1 * kp st.y1) 0⟩, ⟨11, 44, fun w v => QA w v (kp f.a2 * kp st.y2) 0⟩, ⟨12, 45, fun w v => QA w v (kp f.b0 * kp x + kp f.b1 * kp st.x1 + kp f.b2 * kp st.x2 - kp f.a1 * kp st.y1 - kp f.a2 * kp st.y2) 0⟩] (QF W N (fun z t => z = kp f.b0 * kp x + kp f.b1 * kp st.x1 + kp f.b2 * kp st.x2 - kp f.a1 * kp st.y1 - kp f.a2 * kp st.y2 ∧ t = 0))) (by kernel_rfl) (by kernel_rfl) (by kernel_rfl) 67 (by kernel_rfl) rfl kC.start ?_ ?_
    · as_aux_lemma =>
      intro listed a w1 i o hI ho hsz hl hd
      have hi : i < 14 := by simpa using (Array.getElem?_eq_some_iff.1 ho).1
      have hsz' : listed.size = 14 := by simpa using hsz
      have e3 : a.eval (.tmp 3) = .pointer (some ⟨A, 0, none⟩) := (hI.base 3 (by kernel_rfl)).trans rfl
      have e4 : a.eval (.tmp 4) = .pointer (some ⟨A + 1, 0, none⟩) := (hI.base 4 (by kernel_rfl)).trans rfl
      have e9 : a.eval (.tmp 9) = .pointer (some ⟨N, 0, none⟩) := (hI.base 9 (by kernel_rfl)).trans rfl
      have hc : kC w2 13 [⟨5, 38, fun w v => QA w v (kp f.a1 * kp st.y1) 0⟩, ⟨6, 39, fun w v => QA w v (kp f.b0 * kp x + kp f.b1 * kp st.x1 + kp f.b2 * kp st.x2 - kp f.a1 * kp st.y1) 0⟩, ⟨11, 44, fun w v => QA w v (kp f.a2 * kp st.y2) 0⟩, ⟨12, 45, fun w v => QA w v (kp f.b0 * kp x + kp f.b1 * kp st.x1 + kp f.b2 * kp st.x2 - kp f.a1 * kp st.y1 - kp f.a2 * kp st.y2) 0⟩] (QF W N (fun z t => z = kp f.b0 * kp x + kp f.b1 * kp st.x1 + kp f.b2 * kp st.x2 - kp f.a1 * kp st.y1 - kp f.a2 * kp st.y2 ∧ t = 0)) listed a w1 := hI.world
      have lk : listed.getD 13 false = false := hI.notYet hsz' 13 rfl (by kernel_rfl) hi hl
      obtain ⟨hB0, hps⟩ := hc.1 lk
      have kA := jA.below hB0 jA.lt
      have kB := jB.below hB0 jB.lt
      have kQ := hb.below hB0 hb.lt
      rcases (by omega : i = 0 ∨ i = 1 ∨ i = 2 ∨ i = 3 ∨ i = 4 ∨ i = 5 ∨ i = 6 ∨ i = 7 ∨ i = 8 ∨ i = 9 ∨ i = 10 ∨ i = 11 ∨ i = 12 ∨ i = 13) with rfl | rfl | rfl | rfl | rfl | rfl | rfl | rfl | rfl | rfl | rfl | rfl | rfl | rfl
      all_goals obtain rfl := Option.some.inj ho
      · exact okR_load rfl e9 (loadQ _ _ _ _ _ _ _ _ _ kQ) ⟨slotR rfl rfl, hc.same 0 rfl (by decide) (by simp)⟩
      · exact okR_field rfl e3 (fieldFx _ 4 (by decide) _) ⟨slotR rfl rfl, hc.same 1 rfl (by decide) (by simp)⟩
      · have k1 := hI.slot 1 _ 34 rfl rfl (hd ⟨1, .data⟩ (by simp) rfl)
        exact okR_load rfl k1 (loadI _ _ _ (kA.cell 4 rfl)) ⟨slotR rfl rfl, hc.same 2 rfl (by decide) (by simp)⟩
      · exact okR_field rfl e4 (fieldSt _ 2 (by decide) _) ⟨slotR rfl rfl, hc.same 3 rfl (by decide) (by simp)⟩
      · have k1 := hI.slot 3 _ 36 rfl rfl (hd ⟨3, .data⟩ (by simp) rfl)
        exact okR_load rfl k1 (loadI _ _ _ (kB.cell 2 rfl)) ⟨slotR rfl rfl, hc.same 4 rfl (by decide) (by simp)⟩
      · have k1 := hI.slot 2 _ 35 rfl rfl (hd ⟨2, .data⟩ (by simp) rfl)
        have k2 := hI.slot 4 _ 37 rfl rfl (hd ⟨4, .data⟩ (by simp) rfl)
        refine okR_call2 enter_product rfl k1 k2 ((product_any _ _ _).mono ?_)
        rintro e w' ⟨v, rfl, hv, hB⟩
        refine ⟨v, rfl, slotR rfl trivial, hc.made lk 5 hI.size (show 38 < 67 by omega) rfl (by decide) hB ?_ ?_⟩
        · intro c hc' he
          simp only [List.mem_cons, List.mem_nil_iff, or_false] at hc'
          rcases hc' with rfl | rfl | rfl | rfl
          · exact ⟨rfl, hv⟩
          · simp at he
          · simp at he
          · simp at he
        · intro c hc' hne
          simp only [List.mem_cons, List.mem_nil_iff, or_false] at hc'
          rcases hc' with rfl | rfl | rfl | rfl
          · exact absurd rfl hne
          · exact ⟨by simp, QA.keep _ _ hB⟩
          · exact ⟨by simp, QA.keep _ _ hB⟩
          · exact ⟨by simp, QA.keep _ _ hB⟩
      · have k1 := hI.slot 0 _ 33 rfl rfl (hd ⟨0, .data⟩ (by simp) rfl)
        have j2 := hps ⟨5, 38, fun w v => QA w v (kp f.a1 * kp st.y1) 0⟩ (by simp) (hd ⟨5, .data⟩ (by simp) rfl)
        refine okR_call2 enter_SubQ rfl k1 rfl ((sub0_any (hq.below hB0) j2 d3 e4').mono ?_)
        rintro e w' ⟨v, rfl, hv, hB⟩
        refine ⟨v, rfl, slotR rfl trivial, hc.made lk 6 hI.size (show 39 < 67 by omega) rfl (by decide) hB ?_ ?_⟩
        · intro c hc' he
          simp only [List.mem_cons, List.mem_nil_iff, or_false] at hc'
          rcases hc' with rfl | rfl | rfl | rfl
          · simp at he
          · exact ⟨rfl, hv⟩
          · simp at he
          · simp at he
        · intro c hc' hne
          simp only [List.mem_cons, List.mem_nil_iff, or_false] at hc'
          rcases hc' with rfl | rfl | rfl | rfl
          · exact ⟨by simp, QA.keep _ _ hB⟩
          · exact absurd rfl hne
          · exact ⟨by simp, QA.keep _ _ hB⟩
          · exact ⟨by simp, QA.keep _ _ hB⟩
      · exact okR_field rfl e3 (fieldFx _ 5 (by decide) _) ⟨slotR rfl rfl, hc.same 7 rfl (by decide) (by simp)⟩
      · have k1 := hI.slot 7 _ 40 rfl rfl (hd ⟨7, .data⟩ (by simp) rfl)
        exact okR_load rfl k1 (loadI _ _ _ (kA.cell 5 rfl)) ⟨slotR rfl rfl, hc.same 8 rfl (by decide) (by simp)⟩
      · exact okR_field rfl e4 (fieldSt _ 3 (by decide) _) ⟨slotR rfl rfl, hc.same 9 rfl (by decide) (by simp)⟩
      · have k1 := hI.slot 9 _ 42 rfl rfl (hd ⟨9, .data⟩ (by simp) rfl)
        exact okR_load rfl k1 (loadI _ _ _ (kB.cell 3 rfl)) ⟨slotR rfl rfl, hc.same 10 rfl (by decide) (by simp)⟩
      · have k1 := hI.slot 8 _ 41 rfl rfl (hd ⟨8, .data⟩ (by simp) rfl)
        have k2 := hI.slot 10 _ 43 rfl rfl (hd ⟨10, .data⟩ (by simp) rfl)
        refine okR_call2 enter_product rfl k1 k2 ((product_any _ _ _).mono ?_)
        rintro e w' ⟨v, rfl, hv, hB⟩
        refine ⟨v, rfl, slotR rfl trivial, hc.made lk 11 hI.size (show 44 < 67 by omega) rfl (by decide) hB ?_ ?_⟩
        · intro c hc' he
          simp only [List.mem_cons, List.mem_nil_iff, or_false] at hc'
          rcases hc' with rfl | rfl | rfl | rfl
          · simp at he
          · simp at he
          · exact ⟨rfl, hv⟩
          · simp at he
        · intro c hc' hne
          simp only [List.mem_cons, List.mem_nil_iff, or_false] at hc'
          rcases hc' with rfl | rfl | rfl | rfl
          · exact ⟨by simp, QA.keep _ _ hB⟩
          · exact ⟨by simp, QA.keep _ _ hB⟩
          · exact absurd rfl hne
          · exact ⟨by simp, QA.keep _ _ hB⟩
      · have j1 := hps ⟨6, 39, fun w v => QA w v (kp f.b0 * kp x + kp f.b1 * kp st.x1 + kp f.b2 * kp st.x2 - kp f.a1 * kp st.y1) 0⟩ (by simp) (hd ⟨6, .data⟩ (by simp) rfl)
        have j2 := hps ⟨11, 44, fun w v => QA w v (kp f.a2 * kp st.y2) 0⟩ (by simp) (hd ⟨11, .data⟩ (by simp) rfl)
        refine okR_call2 enter_SubQ rfl rfl rfl ((sub0_any j1 j2 d4 e5').mono ?_)
        rintro e w' ⟨v, rfl, hv, hB⟩
        refine ⟨v, rfl, slotR rfl trivial, hc.made lk 12 hI.size (show 45 < 67 by omega) rfl (by decide) hB ?_ ?_⟩
        · intro c hc' he
          simp only [List.mem_cons, List.mem_nil_iff, or_false] at hc'
          rcases hc' with rfl | rfl | rfl | rfl
          · simp at he
          · simp at he
          · simp at he
          · exact ⟨rfl, hv⟩
        · intro c hc' hne
          simp only [List.mem_cons, List.mem_nil_iff, or_false] at hc'
          rcases hc' with rfl | rfl | rfl | rfl
          · exact ⟨by simp, QA.keep _ _ hB⟩
          · exact ⟨by simp, QA.keep _ _ hB⟩
          · exact ⟨by simp, QA.keep _ _ hB⟩
          · exact absurd rfl hne
      · have j1 := hps ⟨12, 45, fun w v => QA w v (kp f.b0 * kp x + kp f.b1 * kp st.x1 + kp f.b2 * kp st.x2 - kp f.a1 * kp st.y1 - kp f.a2 * kp st.y2) 0⟩ (by simp) (hd ⟨12, .data⟩ (by simp) rfl)
        obtain ⟨a1, n1', c1', a2, n2', c2', hv⟩ := QA.form j1
        have j2 : QR (fun z t => z = kp f.b0 * kp x + kp f.b1 * kp st.x1 + kp f.b2 * kp st.x2 - kp f.a1 * kp st.y1 - kp f.a2 * kp st.y2 ∧ t = 0) w1 (a.eval (.tmp 45)) := ⟨_, _, j1, rfl, rfl⟩
        simp only at hv
        rw [hv] at j2
        exact okR_store rfl e9 hv (run_storeAt_mid w1 N 0 92 #[.bool (decide (kp f.b0 * kp x + kp f.b1 * kp st.x1 + kp f.b2 * kp st.x2 - kp f.a1 * kp st.y1 - kp f.a2 * kp st.y2 < 0)), .slice a1 n1' c1', .slice a2 n2' c2'] kQ.there infoQ (by simp [Value.oneCell'])) ⟨slotN rfl, kC.last (by omega) (QF.store2 j2 kQ (hB2.trans (hB0.mono hB2.size)) hN)⟩
    · intro listed a' w3 hI hall
      obtain ⟨c0, c1', c2', hb3, ⟨z, t, hq3, hz, ht⟩, hB3⟩ := hI.world.2 (hall 13 (by decide))
      subst hz ht
      have E := hI.frame [33, 34, 35, 36, 37, 38, 39, 40, 41, 42, 43, 44, 45] (by kernel_rfl)
      simp only [putAll] at E
      generalize a'.eval (.tmp 33) = y33 at E
      generalize a'.eval (.tmp 34) = y34 at E
      generalize a'.eval (.tmp 35) = y35 at E
      generalize a'.eval (.tmp 36) = y36 at E
      generalize a'.eval (.tmp 37) = y37 at E
      generalize a'.eval (.tmp 38) = y38 at E
      generalize a'.eval (.tmp 39) = y39 at E
      generalize a'.eval (.tmp 40) = y40 at E
      generalize a'.eval (.tmp 41) = y41 at E
      generalize a'.eval (.tmp 42) = y42 at E
      generalize a'.eval (.tmp 43) = y43 at E
      generalize a'.eval (.tmp 44) = y44 at E
      generalize a'.eval (.tmp 45) = y45 at E
      simp only [Act.put, List.setIfInBounds_toArray, List.set_cons_zero, List.set_cons_succ] at E
      clear hI hall
      subst E
      refine unhide HKK _ _ ?_
      clear HKK hb hq d3 d4 e4' e5'
      obtain ⟨u1, u2, u3, u4, u5, u6, hvv⟩ := hq3.form
      have hcc : #[c0, c1', c2'] = #[.bool (decide (kp f.b0 * kp x + kp f.b1 * kp st.x1 + kp f.b2 * kp st.x2 - kp f.a1 * kp st.y1 - kp f.a2 * kp st.y2 < 0)), .slice u1 u2 u3, .slice u4 u5 u6] := by injection hvv
      rw [hcc] at hb3 hq3
      obtain ⟨s5, hs5⟩ : ∃ s5, decide (kp f.b0 * kp x + kp f.b1 * kp st.x1 + kp f.b2 * kp st.x2 - kp f.a1 * kp st.y1 - kp f.a2 * kp st.y2 < 0) = s5 := ⟨_, rfl⟩
      rw [hs5] at hb3 hq3
      clear hcc hvv hs5
      have hf' : 1 ≤ f.bits ∧ f.bits ≤ 31 := by simpa [fitsB] using hf
      obtain ⟨n, hn⟩ : ∃ n : Nat, f.bits = n := ⟨f.bits.toNat, by omega⟩
      have hn31 : n ≤ 31 := by omega
      obtain ⟨R, hR⟩ : ∃ R, rnd (kp f.b0 * kp x + kp f.b1 * kp st.x1 + kp f.b2 * kp st.x2 - kp f.a1 * kp st.y1 - kp f.a2 * kp st.y2) n = R := ⟨_, rfl⟩
      have jA3 : Blk w3 A #[.int .i64 f.bits, .int .i64 f.b0, .int .i64 f.b1, .int .i64 f.b2, .int .i64 f.a1, .int .i64 f.a2] 34 := by
        have := hBAk.below hB3 hBAk.lt
        exact this
      have jB3 : Blk w3 (A + 1) #[.int .i64 st.x1, .int .i64 st.x2, .int .i64 st.y1, .int .i64 st.y2] 44 := hBBk.below hB3 hBBk.lt
      have jZ3 : Blk w3 (A + 1 + 1) #[.int .i64 0, .int .i64 0, .int .i64 0, .int .i64 0] 44 := hBZk.below hB3 hBZk.lt
      have HN := hide hn
      clear jA jB jZ hB2 hn
      go_upto_region 5 with fail
      rename_i K hK
      have HKK := hide hK
      clear hK
      refine region_slotsA (ds5V A f R (.agg #[.bool s5, .slice u1 u2 u3, .slice u4 u5 u6])) (kC w3 100 [⟨3, 50, fun w v => QA w v (2 ^ n) 0⟩, ⟨4, 51, fun w v => ∃ z t, QA w v z t ∧ t ≤ 31 ∧ z.natAbs < 2 ^ 70 ∧ rnd z t = R⟩] (fun _ => False)) (by kernel_rfl) (by kernel_rfl) (by kernel_rfl) 67 (by kernel_rfl) rfl kC.start ?_ ?_
      · as_aux_lemma =>
        intro listed a w1 i o hI ho hsz hl hd
        have hi : i < 11 := by simpa using (Array.getElem?_eq_some_iff.1 ho).1
        have hsz' : listed.size = 11 := by simpa using hsz
        have e3 : a.eval (.tmp 3) = .pointer (some ⟨A, 0, none⟩) := (hI.base 3 (by kernel_rfl)).trans rfl
        have e9 : a.eval (.tmp 9) = .pointer (some ⟨N, 0, none⟩) := (hI.base 9 (by kernel_rfl)).trans rfl
        have hc : kC w3 100 [⟨3, 50, fun w v => QA w v (2 ^ n) 0⟩, ⟨4, 51, fun w v => ∃ z t, QA w v z t ∧ t ≤ 31 ∧ z.natAbs < 2 ^ 70 ∧ rnd z t = R⟩] (fun _ => False) listed a w1 := hI.world
        have lk : listed.getD 100 false = false := by rw [Array.getD_eq_getD_getElem?, Array.getElem?_eq_none (by omega)]; rfl
        obtain ⟨hB0, hps⟩ := hc.1 lk
        have kA := jA3.below hB0 jA3.lt
        have kQ := hb3.below hB0 hb3.lt
        rcases (by omega : i = 0 ∨ i = 1 ∨ i = 2 ∨ i = 3 ∨ i = 4 ∨ i = 5 ∨ i = 6 ∨ i = 7 ∨ i = 8 ∨ i = 9 ∨ i = 10) with rfl | rfl | rfl | rfl | rfl | rfl | rfl | rfl | rfl | rfl | rfl
        all_goals obtain rfl := Option.some.inj ho
        · exact okR_load rfl e9 (loadQ _ _ _ _ _ _ _ _ _ kQ) ⟨slotR rfl rfl, hc.same 0 rfl (by decide) (by simp)⟩
        · exact okR_field rfl e3 (fieldFx _ 0 (by decide) _) ⟨slotR rfl rfl, hc.same 1 rfl (by decide) (by simp)⟩
        · have k1 := hI.slot 1 _ 48 rfl rfl (hd ⟨1, .data⟩ (by simp) rfl)
          exact okR_load rfl k1 (loadN _ _ _ (kA.cell 0 rfl)) ⟨slotR rfl rfl, hc.same 2 rfl (by decide) (by simp)⟩
        · have k1 := hI.slot 2 _ 49 rfl rfl (hd ⟨2, .data⟩ (by simp) rfl)
          refine okR_call1 enter_scale rfl (k1.trans (by rw [unhide HN])) ((scale_any n hn31 _).mono ?_)
          rintro e w' ⟨v, rfl, hv, hB⟩
          refine ⟨v, rfl, slotR rfl trivial, hc.made lk 3 hI.size (show 50 < 67 by omega) rfl (by decide) hB ?_ ?_⟩
          · intro c hc' he
            simp only [List.mem_cons, List.mem_nil_iff, or_false] at hc'
            rcases hc' with rfl | rfl
            · exact ⟨rfl, hv⟩
            · simp at he
          · intro c hc' hne
            simp only [List.mem_cons, List.mem_nil_iff, or_false] at hc'
            rcases hc' with rfl | rfl
            · exact absurd rfl hne
            · exact ⟨by simp, fun x ⟨z, t, g1, g2⟩ => ⟨z, t, g1.below hB, g2⟩⟩
        · have k1 := hI.slot 0 _ 47 rfl rfl (hd ⟨0, .data⟩ (by simp) rfl)
          have j2 := hps ⟨3, 50, fun w v => QA w v (2 ^ n) 0⟩ (by simp) (hd ⟨3, .data⟩ (by simp) rfl)
          refine okR_call2 enter_QuoQ rfl k1 rfl ((quoQ_any (k := n) (hq3.below hB0) j2 rfl rfl (Nat.lt_trans d5 (pow_lt (k := 1000) (by decide))) (by omega) (.inr (.inl (by omega)))).mono ?_)
          rintro e w' ⟨v, z, t, rfl, hv, h3, h4, hB⟩
          rw [Nat.zero_add] at h3 h4
          have hx : ∃ z t, QA w' v z t ∧ t ≤ 31 ∧ z.natAbs < 2 ^ 70 ∧ rnd z t = R := by
            refine ⟨z, t, hv, by omega, Nat.lt_of_le_of_lt ?_ d5, ?_⟩
            · rw [← h4, Int.natAbs_mul]
              exact Nat.le_mul_of_pos_right _ (Int.natAbs_pos.2 (Int.ne_of_gt (Int.pow_pos (by decide))))
            · rw [← hR, ← h4]
              have := rnd_red z t (n - t)
              rw [show t + (n - t) = n by omega] at this
              exact this.symm
          refine ⟨v, rfl, slotR rfl trivial, hc.made lk 4 hI.size (show 51 < 67 by omega) rfl (by decide) hB ?_ ?_⟩
          · intro c hc' he
            simp only [List.mem_cons, List.mem_nil_iff, or_false] at hc'
            rcases hc' with rfl | rfl
            · simp at he
            · exact ⟨rfl, hx⟩
          · intro c hc' hne
            simp only [List.mem_cons, List.mem_nil_iff, or_false] at hc'
            rcases hc' with rfl | rfl
            · exact ⟨by simp, QA.keep _ _ hB⟩
            · exact absurd rfl hne
        · obtain ⟨z, t, g1, g2, g3, g4⟩ := hps ⟨4, 51, fun w v => ∃ z t, QA w v z t ∧ t ≤ 31 ∧ z.natAbs < 2 ^ 70 ∧ rnd z t = R⟩ (by simp) (hd ⟨4, .data⟩ (by simp) rfl)
          refine okR_call1 enter_Round rfl rfl ((round_any g1 g3 g2).mono ?_)
          rintro e w' ⟨rfl, hB⟩
          rw [g4]
          refine ⟨_, rfl, slotR rfl rfl, hc.made lk 5 hI.size (show 52 < 67 by omega) rfl (by decide) hB (by simp) ?_⟩
          intro c hc' hne
          simp only [List.mem_cons, List.mem_nil_iff, or_false] at hc'
          rcases hc' with rfl | rfl
          · exact ⟨by simp, QA.keep _ _ hB⟩
          · exact ⟨by simp, fun x ⟨z, t, g1, g2⟩ => ⟨z, t, g1.below hB, g2⟩⟩
        · have k1 := hI.slot 5 _ 52 rfl rfl (hd ⟨5, .data⟩ (by simp) rfl)
          exact okR_move rfl k1 ⟨slotR rfl rfl, hc.same 6 rfl (by decide) (by simp)⟩
        · have k1 := hI.slot 6 _ 46 rfl rfl (hd ⟨6, .data⟩ (by simp) rfl)
          exact okR_ext rfl k1 rfl ⟨slotR rfl rfl, hc.same 7 rfl (by decide) (by simp)⟩
        · have k1 := hI.slot 6 _ 46 rfl rfl (hd ⟨6, .data⟩ (by simp) rfl)
          exact okR_ext rfl k1 rfl ⟨slotR rfl rfl, hc.same 8 rfl (by decide) (by simp)⟩
        · have k1 := hI.slot 7 _ 53 rfl rfl (hd ⟨7, .data⟩ (by simp) rfl)
          exact okR_assign rfl k1 ⟨slotR rfl rfl, hc.same 9 rfl (by decide) (by simp)⟩
        · have k1 := hI.slot 8 _ 54 rfl rfl (hd ⟨8, .data⟩ (by simp) rfl)
          exact okR_assign rfl k1 ⟨slotR rfl rfl, hc.same 10 rfl (by decide) (by simp)⟩
      · intro listed a' w4 hI hall
        have lk : listed.getD 100 false = false := by
          cases h : listed.getD 100 false with
          | false => rfl
          | true => exact (hI.world.2 h).elim
        obtain ⟨hB4, _⟩ := hI.world.1 lk
        have k10 : a'.eval (.tmp 10) = .int .i64 (kp R) := hI.slot 9 _ 10 rfl rfl (hall 9 (by decide))
        have k11 : a'.eval (.tmp 11) = .bool (offB R) := hI.slot 10 _ 11 rfl rfl (hall 10 (by decide))
        have E := hI.frame [10, 11, 46, 47, 48, 49, 50, 51, 52, 53, 54] (by kernel_rfl)
        simp only [putAll] at E
        generalize a'.eval (.tmp 46) = y46 at E
        generalize a'.eval (.tmp 47) = y47 at E
        generalize a'.eval (.tmp 48) = y48 at E
        generalize a'.eval (.tmp 49) = y49 at E
        generalize a'.eval (.tmp 50) = y50 at E
        generalize a'.eval (.tmp 51) = y51 at E
        generalize a'.eval (.tmp 52) = y52 at E
        generalize a'.eval (.tmp 53) = y53 at E
        generalize a'.eval (.tmp 54) = y54 at E
        rw [k10, k11] at E
        simp only [Act.put, List.setIfInBounds_toArray, List.set_cons_zero, List.set_cons_succ] at E
        clear hI hall k10 k11 lk
        subst E
        refine unhide HKK _ _ ?_
        clear HKK hb3 hq3 d5
        have jB4 : Blk w4 (A + 1) #[.int .i64 st.x1, .int .i64 st.x2, .int .i64 st.y1, .int .i64 st.y2] 44 := jB3.below hB4 jB3.lt
        have jZ4 : Blk w4 (A + 1 + 1) #[.int .i64 0, .int .i64 0, .int .i64 0, .int .i64 0] 44 := jZ3.below hB4 jZ3.lt
        have hlow4 : Below w.heap.size w w4 := (hlw.trans (hB3.mono hlw.size)).trans (hB4.mono (hlw.trans (hB3.mono hlw.size)).size)
        have hans : ans f st x = kp R ∧ outs f st x = offB R := by
          have hfit : f.fits := by unfold Fx.fits; omega
          have hraw : ansRaw f st x = R := by
            unfold ansRaw tot
            rw [← hR, unhide HN]
            rfl
          unfold ans outs
          rw [if_pos hfit, hraw, decide_eq_true hfit, Bool.true_and]
          exact ⟨rfl, rfl⟩
        have HAns := hide hans
        have HA4 := hide hlow4
        clear jA3 jB3 jZ3 hB3 hB4 hlw hans hlow4 hR hf' hn31
        obtain ⟨Yk, hYk⟩ : ∃ Yk, kp R = Yk := ⟨_, rfl⟩
        obtain ⟨Ok, hOk⟩ : ∃ Ok, offB R = Ok := ⟨_, rfl⟩
        rw [hYk, hOk] at HAns ⊢
        clear hYk hOk
        go_upto_region 6 with fail
        refine region_slots (ds6V A st x Yk Ok) (cK 13 w4 (A + 1 + 1) #[.int .i64 (kp x), .int .i64 (kp st.x1), .int .i64 Yk, .int .i64 (kp st.y1)]) (by kernel_rfl) (by kernel_rfl) (by kernel_rfl) 67 (by kernel_rfl) rfl cK.start ?_ ?_
        · as_aux_lemma =>
          intro listed a w1 i o hI ho hsz hl hd
          have hi : i < 15 := by simpa using (Array.getElem?_eq_some_iff.1 ho).1
          have hsz' : listed.size = 15 := by simpa using hsz
          have e2 : a.eval (.tmp 2) = .int .i64 x := (hI.base 2 (by kernel_rfl)).trans rfl
          have e4 : a.eval (.tmp 4) = .pointer (some ⟨A + 1, 0, none⟩) := (hI.base 4 (by kernel_rfl)).trans rfl
          have e7 : a.eval (.tmp 7) = .pointer (some ⟨A + 1 + 1, 0, none⟩) := (hI.base 7 (by kernel_rfl)).trans rfl
          have e10 : a.eval (.tmp 10) = .int .i64 Yk := (hI.base 10 (by kernel_rfl)).trans rfl
          have e11 : a.eval (.tmp 11) = .bool Ok := (hI.base 11 (by kernel_rfl)).trans rfl
          have hc : cK 13 w4 (A + 1 + 1) #[.int .i64 (kp x), .int .i64 (kp st.x1), .int .i64 Yk, .int .i64 (kp st.y1)] listed w1 := hI.world
          rcases (by omega : i = 0 ∨ i = 1 ∨ i = 2 ∨ i = 3 ∨ i = 4 ∨ i = 5 ∨ i = 6 ∨ i = 7 ∨ i = 8 ∨ i = 9 ∨ i = 10 ∨ i = 11 ∨ i = 12 ∨ i = 13 ∨ i = 14) with rfl | rfl | rfl | rfl | rfl | rfl | rfl | rfl | rfl | rfl | rfl | rfl | rfl | rfl | rfl
          all_goals obtain rfl := Option.some.inj ho
          · exact okR_move rfl e10 ⟨slotR rfl rfl, hc.same 0 (by decide)⟩
          · exact okR_move rfl e2 ⟨slotR rfl rfl, hc.same 1 (by decide)⟩
          · have k1 := hI.slot 1 _ 56 rfl rfl (hd ⟨1, .data⟩ (by simp) rfl)
            refine okR_call1 enter_Kept rfl k1 ((kept25_any _ _).mono ?_)
            rintro e w' ⟨rfl, hw'⟩
            rw [hw']
            exact ⟨_, rfl, slotR rfl rfl, hc.same 2 (by decide)⟩
          · exact okR_field rfl e4 (fieldSt _ 0 (by decide) _) ⟨slotR rfl rfl, hc.same 3 (by decide)⟩
          · obtain rfl := hc.pre (hI.notYet1 hsz' 13 rfl 4 (by kernel_rfl) hl)
            have k1 := hI.slot 3 _ 58 rfl rfl (hd ⟨3, .data⟩ (by simp) rfl)
            exact okR_load rfl k1 (loadI _ _ _ (jB4.cell 0 rfl)) ⟨slotR rfl rfl, hc.same 4 (by decide)⟩
          · have k1 := hI.slot 4 _ 59 rfl rfl (hd ⟨4, .data⟩ (by simp) rfl)
            refine okR_call1 enter_Kept rfl k1 ((kept25_any _ _).mono ?_)
            rintro e w' ⟨rfl, hw'⟩
            rw [hw']
            exact ⟨_, rfl, slotR rfl rfl, hc.same 5 (by decide)⟩
          · exact okR_move rfl e10 ⟨slotR rfl rfl, hc.same 6 (by decide)⟩
          · exact okR_field rfl e4 (fieldSt _ 2 (by decide) _) ⟨slotR rfl rfl, hc.same 7 (by decide)⟩
          · obtain rfl := hc.pre (hI.notYet1 hsz' 13 rfl 8 (by kernel_rfl) hl)
            have k1 := hI.slot 7 _ 62 rfl rfl (hd ⟨7, .data⟩ (by simp) rfl)
            exact okR_load rfl k1 (loadI _ _ _ (jB4.cell 2 rfl)) ⟨slotR rfl rfl, hc.same 8 (by decide)⟩
          · have k1 := hI.slot 8 _ 63 rfl rfl (hd ⟨8, .data⟩ (by simp) rfl)
            refine okR_call1 enter_Kept rfl k1 ((kept25_any _ _).mono ?_)
            rintro e w' ⟨rfl, hw'⟩
            rw [hw']
            exact ⟨_, rfl, slotR rfl rfl, hc.same 9 (by decide)⟩
          · have k1 := hI.slot 2 _ 57 rfl rfl (hd ⟨2, .data⟩ (by simp) rfl)
            have k2 := hI.slot 5 _ 60 rfl rfl (hd ⟨5, .data⟩ (by simp) rfl)
            have k3 := hI.slot 6 _ 61 rfl rfl (hd ⟨6, .data⟩ (by simp) rfl)
            have k4 := hI.slot 9 _ 64 rfl rfl (hd ⟨9, .data⟩ (by simp) rfl)
            exact okR_bS rfl k1 k2 k3 k4 ⟨slotR rfl rfl, hc.same 10 (by decide)⟩
          · exact okR_move rfl e11 ⟨slotR rfl rfl, hc.same 11 (by decide)⟩
          · have k1 := hI.slot 0 _ 55 rfl rfl (hd ⟨0, .data⟩ (by simp) rfl)
            exact okR_assign rfl k1 ⟨slotR rfl rfl, hc.same 12 (by decide)⟩
          · have l13 := unl hl hsz' (by omega)
            obtain rfl := hc.pre l13
            have k1 := hI.slot 10 _ 65 rfl rfl (hd ⟨10, .data⟩ (by simp) rfl)
            exact okR_store rfl e7 k1 (run_storeAt_mid _ (A + 1 + 1) 0 44 #[.int .i64 (kp x), .int .i64 (kp st.x1), .int .i64 Yk, .int .i64 (kp st.y1)] (show World.there (w4.drew) (A + 1 + 1) 0 4 from jZ4.there) infoSt (by simp [Value.oneCell'])) ⟨slotN rfl, hc.store l13 (by omega)⟩
          · have k1 := hI.slot 11 _ 66 rfl rfl (hd ⟨11, .data⟩ (by simp) rfl)
            exact okR_assign rfl k1 ⟨slotR rfl rfl, hc.same 14 (by decide)⟩
        · intro listed a' w5 hI hall
          have hw5 : w5 = w4.drew.setCells (A + 1 + 1) 0 #[.int .i64 (kp x), .int .i64 (kp st.x1), .int .i64 Yk, .int .i64 (kp st.y1)].toList := by
            have h := hI.world
            unfold cK at h
            rw [hall 13 (by decide)] at h
            exact h
          have hb5 : Blk w5 (A + 1 + 1) #[.int .i64 (kp x), .int .i64 (kp st.x1), .int .i64 Yk, .int .i64 (kp st.y1)] 44 := by
            rw [hw5]
            exact Blk.cut (w := w4.drew) (cs := #[.int .i64 0, .int .i64 0, .int .i64 0, .int .i64 0]) jZ4 rfl
          have hl5 : Below w.heap.size w w5 := by
            rw [hw5]
            exact Below.setCells (unhide HA4).drew (by rw [unhide HA]; omega) 0 _
          have k6 : a'.eval (.tmp 6) = .int .i64 Yk := hI.slot 12 _ 6 rfl rfl (hall 12 (by decide))
          have k8 : a'.eval (.tmp 8) = .bool Ok := hI.slot 14 _ 8 rfl rfl (hall 14 (by decide))
          have E := hI.frame [6, 8, 55, 56, 57, 58, 59, 60, 61, 62, 63, 64, 65, 66] (by kernel_rfl)
          simp only [putAll] at E
          generalize a'.eval (.tmp 55) = y55 at E
          generalize a'.eval (.tmp 56) = y56 at E
          generalize a'.eval (.tmp 57) = y57 at E
          generalize a'.eval (.tmp 58) = y58 at E
          generalize a'.eval (.tmp 59) = y59 at E
          generalize a'.eval (.tmp 60) = y60 at E
          generalize a'.eval (.tmp 61) = y61 at E
          generalize a'.eval (.tmp 62) = y62 at E
          generalize a'.eval (.tmp 63) = y63 at E
          generalize a'.eval (.tmp 64) = y64 at E
          generalize a'.eval (.tmp 65) = y65 at E
          generalize a'.eval (.tmp 66) = y66 at E
          rw [k6, k8] at E
          simp only [Act.put, List.setIfInBounds_toArray, List.set_cons_zero, List.set_cons_succ] at E
          clear hI hall k6 k8 hw5
          subst E
          have HH := hide (And.intro hb5 hl5)
          clear hb5 hl5 jB4 jZ4
          go_wp2_with fail
          refine bodyPost_ret (res_doc rfl rfl rfl (unhide HH).1) rfl ?_
          exact ⟨by rw [(unhide HAns).1, (unhide HAns).2]; rfl, (unhide HH).2⟩
end Go.Proofs.Ytlajalfdcfkmpab
