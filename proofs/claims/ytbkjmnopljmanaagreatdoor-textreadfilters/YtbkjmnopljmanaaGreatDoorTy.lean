/- number of a text's reader; the closures of whole and Read. -/
import Derived.Test.YtbkjmnopljmanaaGreatDoorTx
import Derived.Defers
import Derived.Recover
namespace Go.Proofs.YtbkjmnopljmanaaGreatDoor
open Go.RowKit

/-- How a reader's rule ends. -/
inductive Out where
  | bad (q : Nat)
  | ok (v : Value) (p : Nat)
def EndsAt (w : World) (b : Nat) (s : ByteArray) : Out → Ending → World → Prop
  | .bad q, e, w' => e = .panicked (pan q 12) ∧ But (fun k => k = b) w w'
  | .ok v p, e, w' => e = .returned v ∧ RdAt w' b s p ∧ But (fun k => k = b) w w'
def FloatTo (B b : Nat) (s : ByteArray) (p : Nat) (c : UInt8) (o : Out) : Prop := ∀ w, RdAt w b s p → Gl B w → Calls Tryz.prog 54 #[.pointer (some ⟨b, 0, none⟩), .string ⟨#[c]⟩] w (EndsAt w b s o)
def NumberTo (B b : Nat) (s : ByteArray) (p : Nat) (o : Out) : Prop := ∀ w, RdAt w b s p → Gl B w → Calls Tryz.prog 38 #[.pointer (some ⟨b, 0, none⟩)] w (EndsAt w b s o)
theorem Gl.but {B b : Nat} {w w' : World} {s : ByteArray} {p : Nat} (h : Gl B w) (hr : RdAt w b s p) (hB : B ≤ b) (hb : But (fun k => k = b) w w') : Gl B w' :=
  h.on (hb.below (Below.refl B w) (Nat.le_trans hB (Nat.le_of_lt hr.1.lt)) (fun k e => by rw [e]; exact hB))

theorem number_bad0 {B b : Nat} {s : ByteArray} {p : Nat} (h1 : bt s p ≠ 40) : NumberTo B b s p (.bad p) := by
  intro w hr hG
  have R0 := hide hr
  clear hr hG
  go_enter Tryz.func38, Tryz.ntmps38
  go_wp2_with (go_at_call 43; refine (must1_bad 40 (unhide R0) h1).mono ?_; rintro e w1 ⟨rfl, hb⟩; have B1 := hide hb; clear hb)
  exact ⟨rfl, rfl, unhide B1⟩
theorem number_bad1 {B b : Nat} {s : ByteArray} {p q : Nat} (hB : B ≤ b) (h1 : bt s p = 40) (h2 : FloatTo B b s (p + 1) 44 (.bad q)) : NumberTo B b s p (.bad q) := by
  intro w hr hG
  have R0 := hide hr
  have HG := hide hG
  have H2 := hide h2
  clear hr hG h2
  go_enter Tryz.func38, Tryz.ntmps38
  go_wp2_with (first
    | (go_at_call 43; refine (must1_ok 40 (unhide R0) h1).mono ?_; rintro e w1 ⟨rfl, hr, hb⟩; have R1 := hide hr; have B1 := hide hb; clear hr hb)
    | (go_at_call 54; refine (unhide H2 _ (unhide R1) ((unhide HG).but (unhide R0) hB (unhide B1))).mono ?_; rintro e w2 ⟨rfl, hb⟩; have B2 := hide ((unhide B1).trans hb); clear hb))
  exact ⟨rfl, rfl, unhide B2⟩
theorem number_bad2 {B b : Nat} {s : ByteArray} {p q x p1 : Nat} (hB : B ≤ b) (h1 : bt s p = 40) (h2 : FloatTo B b s (p + 1) 44 (.ok (.float .f64 x) p1)) (h3 : FloatTo B b s p1 41 (.bad q)) : NumberTo B b s p (.bad q) := by
  intro w hr hG
  have R0 := hide hr
  have HG := hide hG
  have H2 := hide h2
  have H3 := hide h3
  clear hr hG h2 h3
  go_enter Tryz.func38, Tryz.ntmps38
  go_wp2_with (first
    | (go_at_call 43; refine (must1_ok 40 (unhide R0) h1).mono ?_; rintro e w1 ⟨rfl, hr, hb⟩; have R1 := hide hr; have B1 := hide hb; clear hr hb)
    | (go_at_call 54; refine (unhide H2 _ (unhide R1) ((unhide HG).but (unhide R0) hB (unhide B1))).mono ?_; rintro e w2 ⟨rfl, hr, hb⟩; have R2 := hide hr; have B2 := hide ((unhide B1).trans hb); clear hr hb; refine Hid.out ?_))
  refine hide ?_
  go_wp2_with (go_at_call 54; refine (unhide H3 _ (unhide R2) ((unhide HG).but (unhide R0) hB (unhide B2))).mono ?_; rintro e w3 ⟨rfl, hb⟩; have B3 := hide ((unhide B2).trans hb); clear hb)
  exact ⟨rfl, rfl, unhide B3⟩
theorem number_ok {B b : Nat} {s : ByteArray} {p x y p1 p2 : Nat} (hB : B ≤ b) (h1 : bt s p = 40) (h2 : FloatTo B b s (p + 1) 44 (.ok (.float .f64 x) p1)) (h3 : FloatTo B b s p1 41 (.ok (.float .f64 y) p2)) : NumberTo B b s p (.ok (.complex .f64 x y) p2) := by
  intro w hr hG
  have R0 := hide hr
  have HG := hide hG
  have H2 := hide h2
  have H3 := hide h3
  clear hr hG h2 h3
  go_enter Tryz.func38, Tryz.ntmps38
  go_wp2_with (first
    | (go_at_call 43; refine (must1_ok 40 (unhide R0) h1).mono ?_; rintro e w1 ⟨rfl, hr, hb⟩; have R1 := hide hr; have B1 := hide hb; clear hr hb)
    | (go_at_call 54; refine (unhide H2 _ (unhide R1) ((unhide HG).but (unhide R0) hB (unhide B1))).mono ?_; rintro e w2 ⟨rfl, hr, hb⟩; have R2 := hide hr; have B2 := hide ((unhide B1).trans hb); clear hr hb; refine Hid.out ?_))
  refine hide ?_
  go_wp2_with (go_at_call 54; refine (unhide H3 _ (unhide R2) ((unhide HG).but (unhide R0) hB (unhide B2))).mono ?_; rintro e w3 ⟨rfl, hr, hb⟩; have R3 := hide hr; have B3 := hide ((unhide B2).trans hb); clear hr hb)
  go_ret
  exact ⟨rfl, unhide R3, unhide B3⟩

theorem assert_nil (w : World) : (Instr.typeAssert .nilIface 20 83 true).run Tryz.prog w = .ok (.tuple #[.agg #[.int .i64 0, .int .i64 0], .bool false]) w := by kernel_rfl
theorem assert_fault (a e : Nat) (w : World) : (Instr.typeAssert (.iface 83 (.agg #[.int .i64 (a : Nat), .int .i64 (e : Nat)])) 20 83 true).run Tryz.prog w = .ok (.tuple #[.agg #[.int .i64 (a : Nat), .int .i64 (e : Nat)], .bool true]) w := by kernel_rfl
set_option maxRecDepth 100000 in
set_option maxHeartbeats 2000000 in
theorem catch_idle (p q : Addr) (w : World) :
    CallsD Tryz.prog 40 #[.pointer (some p), .pointer (some q)] .returning w fun e u' w' => e = .returned (.tuple #[]) ∧ u' = .returning ∧ w' = w.alloc (.cells #[.int .i64 0, .int .i64 0] 83) := by
  refine callsD_of_wpS Tryz.func40 rfl fun c₀ cs hu => ?_
  have hta := assert_nil
  apply wpS_seq
  apply wpS_region
  simp [wpOpsS, go_sem, recoverD, hu, Tryz.ntmps40, Exit.thenS, hta]
  apply wpS_seq
  apply wpS_region
  simp [wpOpsS, go_sem, Exit.thenS]
  refine wpS_cond (t := false) (by simp [Act.eval, Array.replicate]) ?_
  simp only [Bool.false_eq_true, if_false]
  refine wpS_of_wp (wp_skip ?_)
  cases c₀
  simp_all [bodyPostS, results, Tryz.results40]

theorem two_put {w W : World} {pb qb : Nat} {u v : Value} (x y : Value) (hne : pb ≠ qb) (hA : Below w.heap.size w W) (hp : Blk W pb #[u] 3) (hq : Blk W qb #[v] 26) :
    Blk ((W.setCell ⟨pb, 0, none⟩ x).setCell ⟨qb, 0, none⟩ y).drew pb #[x] 3 ∧ Blk ((W.setCell ⟨pb, 0, none⟩ x).setCell ⟨qb, 0, none⟩ y).drew qb #[y] 26 ∧ But (fun k => k = pb ∨ k = qb) w ((W.setCell ⟨pb, 0, none⟩ x).setCell ⟨qb, 0, none⟩ y).drew := by
  have h1 : Blk (W.setCell ⟨pb, 0, none⟩ x) pb #[x] 3 := hp.put 0 x
  have h2 : Blk (W.setCell ⟨pb, 0, none⟩ x) qb #[v] 26 := (Below.heap_setCell _ _ _ _ (fun e => hne e.symm)).trans hq
  have h3 : Blk ((W.setCell ⟨pb, 0, none⟩ x).setCell ⟨qb, 0, none⟩ y) qb #[y] 26 := h2.put 0 y
  have h4 : Blk ((W.setCell ⟨pb, 0, none⟩ x).setCell ⟨qb, 0, none⟩ y) pb #[x] 3 := (Below.heap_setCell _ _ _ _ hne).trans h1
  exact ⟨h4, h3, ((But.low hA).trans (But.setCell _ _ _ _ (.inl rfl))).trans ((But.setCell _ _ _ _ (.inr rfl)).trans (But.still (still_drew _)))⟩

set_option maxRecDepth 100000 in
set_option maxHeartbeats 2000000 in
theorem catch_pan (pb qb at_ e_ : Nat) (hne : pb ≠ qb) (u v : Value) (w : World) (hp : Blk w pb #[u] 3) (hq : Blk w qb #[v] 26) :
    CallsD Tryz.prog 40 #[.pointer (some ⟨pb, 0, none⟩), .pointer (some ⟨qb, 0, none⟩)] (.panicking (pan at_ e_)) w fun e u' w' => e = .returned (.tuple #[]) ∧
      u' = .panicking [{ v := .iface 83 (.agg #[.int .i64 (at_ : Nat), .int .i64 (e_ : Nat)]), recovered := true }] ∧ Blk w' pb #[.int .i64 (at_ : Nat)] 3 ∧ Blk w' qb #[.int .i64 (e_ : Nat)] 26 ∧ But (fun k => k = pb ∨ k = qb) w w' := by
  unfold pan
  refine callsD_of_wpS Tryz.func40 rfl fun c₀ cs hu => ?_
  have hta := assert_fault at_ e_
  apply wpS_seq
  apply wpS_region
  simp [wpOpsS, go_sem, recoverD, hu, Tryz.ntmps40, Exit.thenS, hta]
  apply wpS_seq
  apply wpS_region
  simp [wpOpsS, go_sem, Exit.thenS]
  refine wpS_cond (t := true) (by simp [Act.eval, Array.replicate]) ?_
  simp only [if_true]
  refine wpS_of_wp ?_
  have hpl := hp.lt
  have hql := hq.lt
  simp [Array.replicate]
  have HA : Below w.heap.size w (w.alloc (Obj.cells #[Value.int IntKind.i64 at_, Value.int IntKind.i64 e_] 83)) := (Below.refl _ _).alloc (Nat.le_refl _) _
  have HF : Blk (w.alloc (Obj.cells #[Value.int IntKind.i64 at_, Value.int IntKind.i64 e_] 83)) w.heap.size #[Value.int IntKind.i64 at_, Value.int IntKind.i64 e_] 83 := Blk.alloc
  have HP := hp.below HA hpl
  have HQ := hq.below HA hql
  generalize w.alloc (Obj.cells #[Value.int IntKind.i64 at_, Value.int IntKind.i64 e_] 83) = W at *
  have c0 := HF.cell 0 (v := .int .i64 (at_ : Nat)) rfl
  have c1 := HF.cell 1 (v := .int .i64 (e_ : Nat)) rfl
  have c2 := HP.cell 0 (v := u) rfl
  have c3 := HQ.cell 0 (v := v) rfl
  have f2 := HP.unfrozen 0
  have f3 := HQ.unfrozen 0
  have n1 : w.heap.size ≠ pb := by omega
  have n2 : w.heap.size ≠ qb := by omega
  have K := hide (And.intro HA (And.intro HP HQ))
  clear HA HP HQ HF hp hq hta
  go_region
  have T := two_put (.int .i64 (at_ : Nat)) (.int .i64 (e_ : Nat)) hne (unhide K).1 (unhide K).2.1 (unhide K).2.2
  obtain ⟨T1, T2, T3⟩ := T
  generalize ((W.setCell ⟨pb, 0, none⟩ (.int .i64 (at_ : Nat))).setCell ⟨qb, 0, none⟩ (.int .i64 (e_ : Nat))).drew = W2 at *
  simp [bodyPostS, results, Tryz.results40]
  exact ⟨T1, T2, T3⟩

theorem run_store_c (a : Addr) (x y : Nat) (m : Mode) (w : World) : (store a (.complex .f64 x y) m).run Tryz.prog w = stored Tryz.prog w a (.complex .f64 x y) m := run_store Tryz.prog w a _ m rfl
/-- What Read's rule leaves. -/
theorem read1_ok {B b A0 p : Nat} {s : ByteArray} {x y : Nat} (h : NumberTo B b s 0 (.ok (.complex .f64 x y) p)) (hne : A0 ≠ b) (w : World) (hr : RdAt w b s 0) (hG : Gl B w) (hA : Blk w A0 #[.complex .f64 0 0] 23) :
    Calls Tryz.prog 37 #[.pointer (some ⟨b, 0, none⟩), .pointer (some ⟨A0, 0, none⟩)] w fun e w' => e = .returned (.tuple #[]) ∧ RdAt w' b s p ∧ Blk w' A0 #[.complex .f64 x y] 23 ∧ But (fun k => k = b ∨ k = A0) w w' := by
  have HN := hide (h w hr hG)
  have HA := hide hA
  have hsc := run_store_c
  clear h hr hG hA
  go_enter Tryz.func37, Tryz.ntmps37
  go_wp2_with (go_at_call 38; refine (unhide HN).mono ?_; rintro e w1 ⟨rfl, hr, hb⟩; have R1 := hide hr; have B1 := hide hb; have hA1 := (unhide HA).but hb hne; have c1 := hA1.cell 0 (v := .complex .f64 0 0) rfl; have f1 := hA1.unfrozen 0; have HA1 := hide hA1; clear hr hb hA1)
  go_end0
  refine ⟨rfl, ⟨(Below.heap_setCell _ _ _ _ (fun e => hne e.symm)).trans (unhide R1).1, (unhide R1).2⟩, (unhide HA1).put 0 _, ((unhide B1).mono fun k e => .inl e).trans (But.setCell _ _ _ _ (.inr rfl))⟩
theorem read1_bad {B b A0 q : Nat} {s : ByteArray} (h : NumberTo B b s 0 (.bad q)) (w : World) (hr : RdAt w b s 0) (hG : Gl B w) :
    Calls Tryz.prog 37 #[.pointer (some ⟨b, 0, none⟩), .pointer (some ⟨A0, 0, none⟩)] w fun e w' => e = .panicked (pan q 12) ∧ But (fun k => k = b) w w' := by
  have HN := hide (h w hr hG)
  clear h hr hG
  go_enter Tryz.func37, Tryz.ntmps37
  go_wp2_with (go_at_call 38; refine (unhide HN).mono ?_; rintro e w1 ⟨rfl, hb⟩; have B1 := hide hb; clear hb)
  exact ⟨rfl, rfl, unhide B1⟩
end Go.Proofs.YtbkjmnopljmanaaGreatDoor
