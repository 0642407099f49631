/- Ya, Yb, Yc, one behind the other. -/
import Derived.Test.YtbkjmnopljmanaaGreatDoorUa
import Derived.Deep.MidRow
import Derived.Test.YtbkjmnopljmanaaGreatDoorVg
import Derived.Test.YtbkjmnopljmanaaGreatDoorVj
import Derived.Lib.SlBytesConst
import Derived.ArgAppend
import Derived.Deep.RegionLaw
/- whole at fault, or too long, for the rules of ReadZpk and ReadFilter; ReadZpk and ReadFilter with an error. -/
namespace Go.Proofs.YtbkjmnopljmanaaGreatDoor
open Go.RowKit

theorem Blk.range {w : World} {b : Nat} {cs : Array Value} {t : TypeId} (h : Blk w b cs t) : w.rangeAt b 0 cs.toList := fun j v hv => by
  rw [Nat.zero_add]
  exact h.cell j (by simpa using hv)
theorem infoZpk : (Tryz.prog.info? 25).map (·.size) = some 3 := by kernel_rfl
theorem run_resultsZpk {w : World} {tmps : Array Value} {y o : Value} {b : Nat} {c0 c1 c2 : Value} (h2 : tmps.getD 2 undef = .pointer (some ⟨b, 0, none⟩)) (h3 : tmps.getD 3 undef = y) (h4 : tmps.getD 4 undef = o) (hr : Blk w b #[c0, c1, c2] 25) :
    (results Tryz.f6 tmps).run Tryz.prog w = .ok (.tuple #[.agg #[c0, c1, c2], y, o]) w := by
  have hl := run_loadVar_mid (P := Tryz.prog) w b 0 25 [c0, c1, c2] _ hr.range Tryz.underlying25 rfl infoZpk
  rw [Array.getD_eq_getD_getElem?] at h2 h3 h4
  simp [results, h2, h3, h4, asAddr, hl]
set_option maxRecDepth 100000 in
set_option maxHeartbeats 2000000 in
theorem whole_badZpk {B b A0 q er : Nat} {s : ByteArray} (w : World) (hr : RdAt w b s 0) (hG : Gl B w) (hB : B ≤ b)
    (h : ∀ W, RdAt W b s 0 → Gl B W → Calls Tryz.prog 19 #[.pointer (some ⟨b, 0, none⟩), .pointer (some ⟨A0, 0, none⟩)] W fun e w' => e = .panicked (pan q er) ∧ But (fun k => k = b) W w') :
    Calls Tryz.prog 18 #[.pointer (some ⟨b, 0, none⟩), .func (.func 19) #[] #[.pointer (some ⟨b, 0, none⟩), .pointer (some ⟨A0, 0, none⟩)]] w fun e w' => e = .returned (.tuple #[.int .i64 (q : Nat), .int .i64 (er : Nat)]) ∧ But (fun k => k = b) w w' := by
  have hmf := makeFunc_run
  have hlt := hr.1.lt
  have h9 : ¬ (65536 : Int) < (s.size : Int) := by have := hr.2.2; omega
  have c0 := hr.1.cell 0 (v := .string s) rfl
  obtain ⟨hWb, hP, hQ⟩ := two_alloc w
  have HR := hide (h _ (hr.low hWb) (hG.on (hWb.mono (by omega))))
  have K := hide (And.intro hWb (And.intro hP hQ))
  clear hWb hP hQ h hr hG
  go_enter_defers Tryz.func18, Tryz.ntmps18
  go_wp2_with (go_at_call 19; refine (unhide HR).mono ?_; rintro e w1 ⟨rfl, hb⟩; have B1 := hide hb; clear hb)
  have hP1 := (unhide K).2.1.but (unhide B1) (by omega)
  have hQ1 := (unhide K).2.2.but (unhide B1) (by omega)
  have hB1 := (But.low (O := fun k => k = b) (unhide K).1).trans (unhide B1)
  clear K HR B1
  refine leaves_cons (f := 40) (args := #[.pointer (some ⟨w.heap.size, 0, none⟩), .pointer (some ⟨w.heap.size + 1, 0, none⟩)]) (by simp) (by simp [go_sem]) ?_
  refine (catch_pan w.heap.size (w.heap.size + 1) q er (by omega) _ _ w1 hP1 hQ1).mono ?_
  rintro e u' w2 ⟨rfl, rfl, hp2, hq2, hb2⟩
  have d1 := hp2.cell 0 (v := .int .i64 (q : Nat)) rfl
  have d2 := hq2.cell 0 (v := .int .i64 (er : Nat)) rfl
  simp [Leaves, settle, results, Tryz.results18, go_sem, d1, d2]
  exact hB1.fresh hb2 (fun k e => by omega)
set_option maxRecDepth 100000 in
theorem whole_longZpk {b A0 : Nat} {s : ByteArray} (hs : 65536 < s.size) (w : World) (hr : Blk w b #[.string s, .int .i64 0] 53) :
    Calls Tryz.prog 18 #[.pointer (some ⟨b, 0, none⟩), .func (.func 19) #[] #[.pointer (some ⟨b, 0, none⟩), .pointer (some ⟨A0, 0, none⟩)]] w fun e w' => e = .returned (.tuple #[.int .i64 0, .int .i64 2]) ∧ Below w.heap.size w w' := by
  have hlt := hr.lt
  have h9 : (65536 : Int) < (s.size : Int) := by omega
  have c0 := hr.cell 0 (v := .string s) rfl
  clear hr
  go_enter_defers Tryz.func18, Tryz.ntmps18
  go_wp2_with fail
  have h1 := alloc_size w (.cells #[.int .i64 0] 3)
  have hbl : Below w.heap.size w ((w.alloc (.cells #[.int .i64 0] 3)).alloc (.cells #[.int .i64 2] 26)) := ((Below.refl _ _).alloc (Nat.le_refl _) _).alloc (by omega) _
  have T1 : Blk ((w.alloc (.cells #[.int .i64 0] 3)).alloc (.cells #[.int .i64 2] 26)) w.heap.size #[.int .i64 0] 3 := Blk.alloc.below ((Below.refl _ _).alloc (Nat.le_refl _) _) (by omega)
  have T2 : Blk ((w.alloc (.cells #[.int .i64 0] 3)).alloc (.cells #[.int .i64 2] 26)) (w.heap.size + 1) #[.int .i64 2] 26 := by
    rw [← h1]; exact Blk.alloc
  have d1 := T1.cell 0 (v := .int .i64 0) rfl
  have d2 := T2.cell 0 (v := .int .i64 2) rfl
  clear h1 T1 T2
  generalize (w.alloc (.cells #[.int .i64 0] 3)).alloc (.cells #[.int .i64 2] 26) = W9 at *
  simp [bodyPostD, Leaves, results, Tryz.results18, go_sem, d1, d2]
  exact hbl
theorem alloc3Zpk (w : World) (s : ByteArray) : ∀ W, W = ((w.alloc (.cells #[.slice none 0 0, .slice none 0 0, .complex .f64 0 0] 25)).alloc (.cells #[.slice none 0 0, .slice none 0 0, .complex .f64 0 0] 25)).alloc (.cells #[.string s, .int .i64 0] 53) →
    Below w.heap.size w W ∧ Blk W w.heap.size #[.slice none 0 0, .slice none 0 0, .complex .f64 0 0] 25 ∧ Blk W (w.heap.size + 1) #[.slice none 0 0, .slice none 0 0, .complex .f64 0 0] 25 ∧ Blk W (w.heap.size + 1 + 1) #[.string s, .int .i64 0] 53 := by
  rintro W rfl
  have h1 := alloc_size w (.cells #[.slice none 0 0, .slice none 0 0, .complex .f64 0 0] 25)
  have h2 := alloc_size (w.alloc (.cells #[.slice none 0 0, .slice none 0 0, .complex .f64 0 0] 25)) (.cells #[.slice none 0 0, .slice none 0 0, .complex .f64 0 0] 25)
  have b1 : Below w.heap.size w (w.alloc (.cells #[.slice none 0 0, .slice none 0 0, .complex .f64 0 0] 25)) := (Below.refl _ _).alloc (Nat.le_refl _) _
  have b2 := b1.alloc (by omega) (.cells #[.slice none 0 0, .slice none 0 0, .complex .f64 0 0] 25)
  have b3 := b2.alloc (by omega) (.cells #[.string s, .int .i64 0] 53)
  refine ⟨b3, (Blk.alloc (w := w)).below (((Below.refl _ _).alloc (Nat.le_refl _) _).alloc (by omega) _) (by omega), ?_, ?_⟩
  · rw [← h1]; exact Blk.alloc.below ((Below.refl _ _).alloc (Nat.le_refl _) _) (by omega)
  · rw [← h1, ← h2]; exact Blk.alloc
set_option maxRecDepth 100000 in
theorem read_errZpk {s : ByteArray} {a e : Int} (he : (e == 0) = false) (w : World)
    (H : ∀ W, Below w.heap.size w W → Blk W (w.heap.size + 1) #[.slice none 0 0, .slice none 0 0, .complex .f64 0 0] 25 → Blk W (w.heap.size + 1 + 1) #[.string s, .int .i64 0] 53 →
      Calls Tryz.prog 18 #[.pointer (some ⟨w.heap.size + 1 + 1, 0, none⟩), .func (.func 19) #[] #[.pointer (some ⟨w.heap.size + 1 + 1, 0, none⟩), .pointer (some ⟨w.heap.size + 1, 0, none⟩)]] W fun x w' => x = .returned (.tuple #[.int .i64 a, .int .i64 e]) ∧ But (fun k => k = w.heap.size + 1 + 1 ∨ k = w.heap.size + 1) W w') :
    Calls Tryz.prog 6 #[.string s] w fun x w' => x = .returned (.tuple #[.agg #[.slice none 0 0, .slice none 0 0, .complex .f64 0 0], .int .i64 a, .int .i64 e]) ∧ Below w.heap.size w w' := by
  have hmf := makeFunc_run
  have hsc := run_store_c
  obtain ⟨W, hW⟩ : ∃ W, W = ((w.alloc (.cells #[.slice none 0 0, .slice none 0 0, .complex .f64 0 0] 25)).alloc (.cells #[.slice none 0 0, .slice none 0 0, .complex .f64 0 0] 25)).alloc (.cells #[.string s, .int .i64 0] 53) := ⟨_, rfl⟩
  obtain ⟨h1, h2, h3, h4⟩ := alloc3Zpk w s W hW
  have HW := hide (H _ h1 h3 h4)
  have H1 := hide h1
  have H2 := hide h2
  have EW := hide hW
  clear H h1 h2 h3 h4 hW
  go_enter Tryz.func6, Tryz.ntmps6
  go_wp2_with (go_at_call 18; rw [← unhide EW]; refine (unhide HW).mono ?_; rintro x w1 ⟨rfl, hb⟩; have B1 := hide hb; clear hb; refine Hid.out ?_)
  refine hide ?_
  have hN := (unhide H2).but (unhide B1) (by omega)
  have c0 := hN.cell 0 (v := .slice none 0 0) rfl
  have f0 := hN.unfrozen 0
  have c1 := hN.cell 1 (v := .slice none 0 0) rfl
  have f1 := hN.unfrozen 1
  have c2 := hN.cell 2 (v := .complex .f64 0 0) rfl
  have f2 := hN.unfrozen 2
  have HN := hide hN
  clear hN
  go_wp2_with fail
  have hN2 := ((((unhide HN).put 0 (.slice none 0 0)).put 1 (.slice none 0 0)).put 2 (.complex .f64 0 0))
  have hB2 := (But.trans ((But.trans (But.setCell (fun k => k = w.heap.size + 1 + 1 ∨ k = w.heap.size + 1 ∨ k = w.heap.size) w1 ⟨w.heap.size, 0, none⟩ (.slice none 0 0) (.inr (.inr rfl))) (But.setCell (fun k => k = w.heap.size + 1 + 1 ∨ k = w.heap.size + 1 ∨ k = w.heap.size) _ ⟨w.heap.size, 1, none⟩ (.slice none 0 0) (.inr (.inr rfl))))) (But.setCell (fun k => k = w.heap.size + 1 + 1 ∨ k = w.heap.size + 1 ∨ k = w.heap.size) _ ⟨w.heap.size, 2, none⟩ (.complex .f64 0 0) (.inr (.inr rfl))))
  refine bodyPost_ret (run_resultsZpk rfl rfl rfl hN2) rfl ?_
  refine ⟨rfl, ?_⟩
  exact (((unhide B1).mono (O' := fun k => k = w.heap.size + 1 + 1 ∨ k = w.heap.size + 1 ∨ k = w.heap.size) (fun k e => by omega)).trans hB2).below (unhide H1) (unhide H1).size (fun k e => by omega)
theorem infoFilter : (Tryz.prog.info? 38).map (·.size) = some 2 := by kernel_rfl
theorem run_resultsFilter {w : World} {tmps : Array Value} {y o : Value} {b : Nat} {c0 c1 : Value} (h2 : tmps.getD 2 undef = .pointer (some ⟨b, 0, none⟩)) (h3 : tmps.getD 3 undef = y) (h4 : tmps.getD 4 undef = o) (hr : Blk w b #[c0, c1] 38) :
    (results Tryz.f11 tmps).run Tryz.prog w = .ok (.tuple #[.agg #[c0, c1], y, o]) w := by
  have hl := run_loadVar_mid (P := Tryz.prog) w b 0 38 [c0, c1] _ hr.range Tryz.underlying38 rfl infoFilter
  rw [Array.getD_eq_getD_getElem?] at h2 h3 h4
  simp [results, h2, h3, h4, asAddr, hl]
set_option maxRecDepth 100000 in
set_option maxHeartbeats 2000000 in
theorem whole_badFilter {B b A0 q er : Nat} {s : ByteArray} (w : World) (hr : RdAt w b s 0) (hG : Gl B w) (hB : B ≤ b)
    (h : ∀ W, RdAt W b s 0 → Gl B W → Calls Tryz.prog 30 #[.pointer (some ⟨b, 0, none⟩), .pointer (some ⟨A0, 0, none⟩)] W fun e w' => e = .panicked (pan q er) ∧ But (fun k => k = b) W w') :
    Calls Tryz.prog 18 #[.pointer (some ⟨b, 0, none⟩), .func (.func 30) #[] #[.pointer (some ⟨b, 0, none⟩), .pointer (some ⟨A0, 0, none⟩)]] w fun e w' => e = .returned (.tuple #[.int .i64 (q : Nat), .int .i64 (er : Nat)]) ∧ But (fun k => k = b) w w' := by
  have hmf := makeFunc_run
  have hlt := hr.1.lt
  have h9 : ¬ (65536 : Int) < (s.size : Int) := by have := hr.2.2; omega
  have c0 := hr.1.cell 0 (v := .string s) rfl
  obtain ⟨hWb, hP, hQ⟩ := two_alloc w
  have HR := hide (h _ (hr.low hWb) (hG.on (hWb.mono (by omega))))
  have K := hide (And.intro hWb (And.intro hP hQ))
  clear hWb hP hQ h hr hG
  go_enter_defers Tryz.func18, Tryz.ntmps18
  go_wp2_with (go_at_call 30; refine (unhide HR).mono ?_; rintro e w1 ⟨rfl, hb⟩; have B1 := hide hb; clear hb)
  have hP1 := (unhide K).2.1.but (unhide B1) (by omega)
  have hQ1 := (unhide K).2.2.but (unhide B1) (by omega)
  have hB1 := (But.low (O := fun k => k = b) (unhide K).1).trans (unhide B1)
  clear K HR B1
  refine leaves_cons (f := 40) (args := #[.pointer (some ⟨w.heap.size, 0, none⟩), .pointer (some ⟨w.heap.size + 1, 0, none⟩)]) (by simp) (by simp [go_sem]) ?_
  refine (catch_pan w.heap.size (w.heap.size + 1) q er (by omega) _ _ w1 hP1 hQ1).mono ?_
  rintro e u' w2 ⟨rfl, rfl, hp2, hq2, hb2⟩
  have d1 := hp2.cell 0 (v := .int .i64 (q : Nat)) rfl
  have d2 := hq2.cell 0 (v := .int .i64 (er : Nat)) rfl
  simp [Leaves, settle, results, Tryz.results18, go_sem, d1, d2]
  exact hB1.fresh hb2 (fun k e => by omega)
set_option maxRecDepth 100000 in
theorem whole_longFilter {b A0 : Nat} {s : ByteArray} (hs : 65536 < s.size) (w : World) (hr : Blk w b #[.string s, .int .i64 0] 53) :
    Calls Tryz.prog 18 #[.pointer (some ⟨b, 0, none⟩), .func (.func 30) #[] #[.pointer (some ⟨b, 0, none⟩), .pointer (some ⟨A0, 0, none⟩)]] w fun e w' => e = .returned (.tuple #[.int .i64 0, .int .i64 2]) ∧ Below w.heap.size w w' := by
  have hlt := hr.lt
  have h9 : (65536 : Int) < (s.size : Int) := by omega
  have c0 := hr.cell 0 (v := .string s) rfl
  clear hr
  go_enter_defers Tryz.func18, Tryz.ntmps18
  go_wp2_with fail
  have h1 := alloc_size w (.cells #[.int .i64 0] 3)
  have hbl : Below w.heap.size w ((w.alloc (.cells #[.int .i64 0] 3)).alloc (.cells #[.int .i64 2] 26)) := ((Below.refl _ _).alloc (Nat.le_refl _) _).alloc (by omega) _
  have T1 : Blk ((w.alloc (.cells #[.int .i64 0] 3)).alloc (.cells #[.int .i64 2] 26)) w.heap.size #[.int .i64 0] 3 := Blk.alloc.below ((Below.refl _ _).alloc (Nat.le_refl _) _) (by omega)
  have T2 : Blk ((w.alloc (.cells #[.int .i64 0] 3)).alloc (.cells #[.int .i64 2] 26)) (w.heap.size + 1) #[.int .i64 2] 26 := by
    rw [← h1]; exact Blk.alloc
  have d1 := T1.cell 0 (v := .int .i64 0) rfl
  have d2 := T2.cell 0 (v := .int .i64 2) rfl
  clear h1 T1 T2
  generalize (w.alloc (.cells #[.int .i64 0] 3)).alloc (.cells #[.int .i64 2] 26) = W9 at *
  simp [bodyPostD, Leaves, results, Tryz.results18, go_sem, d1, d2]
  exact hbl
theorem alloc3Filter (w : World) (s : ByteArray) : ∀ W, W = ((w.alloc (.cells #[.complex .f64 0 0, .slice none 0 0] 38)).alloc (.cells #[.complex .f64 0 0, .slice none 0 0] 38)).alloc (.cells #[.string s, .int .i64 0] 53) →
    Below w.heap.size w W ∧ Blk W w.heap.size #[.complex .f64 0 0, .slice none 0 0] 38 ∧ Blk W (w.heap.size + 1) #[.complex .f64 0 0, .slice none 0 0] 38 ∧ Blk W (w.heap.size + 1 + 1) #[.string s, .int .i64 0] 53 := by
  rintro W rfl
  have h1 := alloc_size w (.cells #[.complex .f64 0 0, .slice none 0 0] 38)
  have h2 := alloc_size (w.alloc (.cells #[.complex .f64 0 0, .slice none 0 0] 38)) (.cells #[.complex .f64 0 0, .slice none 0 0] 38)
  have b1 : Below w.heap.size w (w.alloc (.cells #[.complex .f64 0 0, .slice none 0 0] 38)) := (Below.refl _ _).alloc (Nat.le_refl _) _
  have b2 := b1.alloc (by omega) (.cells #[.complex .f64 0 0, .slice none 0 0] 38)
  have b3 := b2.alloc (by omega) (.cells #[.string s, .int .i64 0] 53)
  refine ⟨b3, (Blk.alloc (w := w)).below (((Below.refl _ _).alloc (Nat.le_refl _) _).alloc (by omega) _) (by omega), ?_, ?_⟩
  · rw [← h1]; exact Blk.alloc.below ((Below.refl _ _).alloc (Nat.le_refl _) _) (by omega)
  · rw [← h1, ← h2]; exact Blk.alloc
set_option maxRecDepth 100000 in
theorem read_errFilter {s : ByteArray} {a e : Int} (he : (e == 0) = false) (w : World)
    (H : ∀ W, Below w.heap.size w W → Blk W (w.heap.size + 1) #[.complex .f64 0 0, .slice none 0 0] 38 → Blk W (w.heap.size + 1 + 1) #[.string s, .int .i64 0] 53 →
      Calls Tryz.prog 18 #[.pointer (some ⟨w.heap.size + 1 + 1, 0, none⟩), .func (.func 30) #[] #[.pointer (some ⟨w.heap.size + 1 + 1, 0, none⟩), .pointer (some ⟨w.heap.size + 1, 0, none⟩)]] W fun x w' => x = .returned (.tuple #[.int .i64 a, .int .i64 e]) ∧ But (fun k => k = w.heap.size + 1 + 1 ∨ k = w.heap.size + 1) W w') :
    Calls Tryz.prog 11 #[.string s] w fun x w' => x = .returned (.tuple #[.agg #[.complex .f64 0 0, .slice none 0 0], .int .i64 a, .int .i64 e]) ∧ Below w.heap.size w w' := by
  have hmf := makeFunc_run
  have hsc := run_store_c
  obtain ⟨W, hW⟩ : ∃ W, W = ((w.alloc (.cells #[.complex .f64 0 0, .slice none 0 0] 38)).alloc (.cells #[.complex .f64 0 0, .slice none 0 0] 38)).alloc (.cells #[.string s, .int .i64 0] 53) := ⟨_, rfl⟩
  obtain ⟨h1, h2, h3, h4⟩ := alloc3Filter w s W hW
  have HW := hide (H _ h1 h3 h4)
  have H1 := hide h1
  have H2 := hide h2
  have EW := hide hW
  clear H h1 h2 h3 h4 hW
  go_enter Tryz.func11, Tryz.ntmps11
  go_wp2_with (go_at_call 18; rw [← unhide EW]; refine (unhide HW).mono ?_; rintro x w1 ⟨rfl, hb⟩; have B1 := hide hb; clear hb; refine Hid.out ?_)
  refine hide ?_
  have hN := (unhide H2).but (unhide B1) (by omega)
  have c0 := hN.cell 0 (v := .complex .f64 0 0) rfl
  have f0 := hN.unfrozen 0
  have c1 := hN.cell 1 (v := .slice none 0 0) rfl
  have f1 := hN.unfrozen 1
  have HN := hide hN
  clear hN
  go_wp2_with fail
  have hN2 := (((unhide HN).put 0 (.complex .f64 0 0)).put 1 (.slice none 0 0))
  have hB2 := (But.trans (But.setCell (fun k => k = w.heap.size + 1 + 1 ∨ k = w.heap.size + 1 ∨ k = w.heap.size) w1 ⟨w.heap.size, 0, none⟩ (.complex .f64 0 0) (.inr (.inr rfl))) (But.setCell (fun k => k = w.heap.size + 1 + 1 ∨ k = w.heap.size + 1 ∨ k = w.heap.size) _ ⟨w.heap.size, 1, none⟩ (.slice none 0 0) (.inr (.inr rfl))))
  refine bodyPost_ret (run_resultsFilter rfl rfl rfl hN2) rfl ?_
  refine ⟨rfl, ?_⟩
  exact (((unhide B1).mono (O' := fun k => k = w.heap.size + 1 + 1 ∨ k = w.heap.size + 1 ∨ k = w.heap.size) (fun k e => by omega)).trans hB2).below (unhide H1) (unhide H1).size (fun k e => by omega)
end Go.Proofs.YtbkjmnopljmanaaGreatDoor

/- zpk and filter of a text's reader at fault in their fronts; ReadZpk and ReadFilter of such texts. -/
namespace Go.Proofs.YtbkjmnopljmanaaGreatDoor
open Go.RowKit

theorem stand_cases (s : ByteArray) (p : Nat) (t : ByteArray) : ∀ k, k ≤ t.size → Stand s p t k ∨ ∃ j, ∃ hj : j < t.size, j < k ∧ Stand s p t j ∧ bt s (p + j) ≠ (t[j]'hj).toNat
  | 0, _ => .inl fun i _ h => absurd h (Nat.not_lt_zero _)
  | k + 1, h => by
    rcases stand_cases s p t k (by omega) with h1 | ⟨j, hj, hk, h1, h2⟩
    · by_cases e : bt s (p + k) = (t[k]'(by omega)).toNat
      · refine .inl fun i hi hk => ?_
        by_cases g : i = k
        · subst g; exact e
        · exact h1 i hi (by omega)
      · exact .inr ⟨k, by omega, by omega, h1, e⟩
    · exact .inr ⟨j, hj, by omega, h1, h2⟩
theorem finite_bad {B b : Nat} {s : ByteArray} {p q : Nat} (h : NumberTo B b s p (.bad q)) (w : World) (hr : RdAt w b s p) (hG : Gl B w) :
    Calls Tryz.prog 44 #[.pointer (some ⟨b, 0, none⟩)] w fun e w' => e = .panicked (pan q 12) ∧ But (fun k => k = b) w w' := by
  have c1 := hr.1.cell 1 (v := .int .i64 (p : Int)) rfl
  have HN := hide (h w hr hG)
  clear h hr hG
  go_enter Tryz.func44, Tryz.ntmps44
  go_wp2_with (go_at_call 38; refine (unhide HN).mono ?_; rintro e w1 ⟨rfl, hb⟩; have B1 := hide hb; clear hb)
  exact ⟨rfl, rfl, unhide B1⟩
theorem twoZpk (w : World) : ∀ W, W = (w.alloc (.cells #[.slice none 0 0, .slice none 0 0, .complex .f64 0 0] 25)).alloc (.cells #[.slice none 0 0, .slice none 0 0, .complex .f64 0 0] 25) → Below w.heap.size w W := by
  rintro W rfl
  have h1 := alloc_size w (.cells #[.slice none 0 0, .slice none 0 0, .complex .f64 0 0] 25)
  exact ((Below.refl _ _).alloc (Nat.le_refl _) _).alloc (by omega) _
set_option maxRecDepth 100000 in
theorem zpk_bad1 {B b : Nat} {s : ByteArray} {j : Nat} (hj : j < (ByteArray.mk #[122, 112, 107, 32]).size) (hS : Stand s 0 ⟨#[122, 112, 107, 32]⟩ j) (hE : bt s (0 + j) ≠ ((ByteArray.mk #[122, 112, 107, 32])[j]'hj).toNat) (w : World) (hr : RdAt w b s 0) (_hG : Gl B w) :
    Calls Tryz.prog 20 #[.pointer (some ⟨b, 0, none⟩)] w fun e w' => e = .panicked (pan j 12) ∧ But (fun k => k = b) w w' := by
  obtain ⟨W, hW⟩ : ∃ W, W = (w.alloc (.cells #[.slice none 0 0, .slice none 0 0, .complex .f64 0 0] 25)).alloc (.cells #[.slice none 0 0, .slice none 0 0, .complex .f64 0 0] 25) := ⟨_, rfl⟩
  have hb := twoZpk w W hW
  have HM := must_bad (t := ⟨#[122, 112, 107, 32]⟩) (hr.low hb) (by decide) j hj hS hE
  rw [Nat.zero_add] at HM
  have HM := hide HM
  have HB := hide hb
  have EW := hide hW
  clear hW hb hr hS hE
  go_enter Tryz.func20, Tryz.ntmps20
  go_wp2_with (go_at_call 43; rw [← unhide EW]; refine (unhide HM).mono ?_; rintro e w1 ⟨rfl, hb⟩; have B1 := hide hb; clear hb)
  exact ⟨rfl, rfl, (But.low (O := fun k => k = b) (unhide HB)).trans (unhide B1)⟩
set_option maxRecDepth 100000 in
theorem zpk_bad2 {B b q : Nat} {s : ByteArray} (hB : B ≤ b) (hS : Stand s 0 ⟨#[122, 112, 107, 32]⟩ (ByteArray.mk #[122, 112, 107, 32]).size) (h : NumberTo B b s 4 (.bad q)) (w : World) (hr : RdAt w b s 0) (hG : Gl B w) :
    Calls Tryz.prog 20 #[.pointer (some ⟨b, 0, none⟩)] w fun e w' => e = .panicked (pan q 12) ∧ But (fun k => k = b) w w' := by
  obtain ⟨W, hW⟩ : ∃ W, W = (w.alloc (.cells #[.slice none 0 0, .slice none 0 0, .complex .f64 0 0] 25)).alloc (.cells #[.slice none 0 0, .slice none 0 0, .complex .f64 0 0] 25) := ⟨_, rfl⟩
  have hb := twoZpk w W hW
  have hlt := hr.1.lt
  have HM := hide (must_ok (t := ⟨#[122, 112, 107, 32]⟩) (hr.low hb) (by decide) hS)
  have HG := hide (hG.on (hb.mono (by omega)))
  have HR := hide (hr.low hb)
  have HB := hide hb
  have EW := hide hW
  have HN := hide h
  clear hW hb hr hS hG h
  go_enter Tryz.func20, Tryz.ntmps20
  go_wp2_with (go_at_call 43; rw [← unhide EW]; refine (unhide HM).mono ?_; rintro e w1 ⟨rfl, hr, hb⟩; have R1 := hide hr; have G1 := hide ((unhide HG).but (unhide HR) hB hb); have B1 := hide hb; clear hb hr; refine Hid.out ?_)
  refine hide ?_
  go_wp2_with (go_at_call 44; refine (finite_bad (unhide HN) _ (unhide R1) (unhide G1)).mono ?_; rintro e w2 ⟨rfl, hb⟩; have B2 := hide ((unhide B1).trans hb); clear hb)
  exact ⟨rfl, rfl, (But.low (O := fun k => k = b) (unhide HB)).trans (unhide B2)⟩
theorem rule_badZpk {B b A0 q er : Nat} {s : ByteArray} (h : ∀ w, RdAt w b s 0 → Gl B w → Calls Tryz.prog 20 #[.pointer (some ⟨b, 0, none⟩)] w fun e w' => e = .panicked (pan q er) ∧ But (fun k => k = b) w w') (w : World) (hr : RdAt w b s 0) (hG : Gl B w) :
    Calls Tryz.prog 19 #[.pointer (some ⟨b, 0, none⟩), .pointer (some ⟨A0, 0, none⟩)] w fun e w' => e = .panicked (pan q er) ∧ But (fun k => k = b) w w' := by
  have HN := hide (h w hr hG)
  clear h hr hG
  go_enter Tryz.func19, Tryz.ntmps19
  go_wp2_with (go_at_call 20; refine (unhide HN).mono ?_; rintro e w1 ⟨rfl, hb⟩; have B1 := hide hb; clear hb)
  exact ⟨rfl, rfl, unhide B1⟩
theorem read_badZpk {s : ByteArray} {q er : Nat} (hs : s.size ≤ 65536) (her : er ≠ 0) (w : World) (hG : Gl w.heap.size w)
    (h : ∀ w0, RdAt w0 (w.heap.size + 1 + 1) s 0 → Gl w.heap.size w0 → Calls Tryz.prog 20 #[.pointer (some ⟨w.heap.size + 1 + 1, 0, none⟩)] w0 fun e w' => e = .panicked (pan q er) ∧ But (fun k => k = w.heap.size + 1 + 1) w0 w') :
    Calls Tryz.prog 6 #[.string s] w fun x w' => x = .returned (.tuple #[.agg #[.slice none 0 0, .slice none 0 0, .complex .f64 0 0], .int .i64 (q : Nat), .int .i64 (er : Nat)]) ∧ Below w.heap.size w w' :=
  read_errZpk (by rw [beq_eq_false_iff_ne]; omega) w fun W h1 _ h3 => (whole_badZpk (B := w.heap.size) W ⟨h3, Nat.zero_le _, hs⟩ (hG.on h1) (by omega) (rule_badZpk h)).mono fun _ _ ⟨k1, k2⟩ => ⟨k1, k2.mono fun _ e => .inl e⟩
theorem read_longZpk {s : ByteArray} (hs : 65536 < s.size) (w : World) :
    Calls Tryz.prog 6 #[.string s] w fun x w' => x = .returned (.tuple #[.agg #[.slice none 0 0, .slice none 0 0, .complex .f64 0 0], .int .i64 0, .int .i64 2]) ∧ Below w.heap.size w w' :=
  read_errZpk (by decide) w fun W _ _ h3 => (whole_longZpk hs W h3).mono fun _ _ ⟨k1, k2⟩ => ⟨k1, But.low k2⟩
theorem twoFilter (w : World) : ∀ W, W = (w.alloc (.cells #[.complex .f64 0 0, .slice none 0 0] 38)).alloc (.cells #[.complex .f64 0 0, .slice none 0 0] 38) → Below w.heap.size w W := by
  rintro W rfl
  have h1 := alloc_size w (.cells #[.complex .f64 0 0, .slice none 0 0] 38)
  exact ((Below.refl _ _).alloc (Nat.le_refl _) _).alloc (by omega) _
set_option maxRecDepth 100000 in
theorem filter_bad1 {B b : Nat} {s : ByteArray} {j : Nat} (hj : j < (ByteArray.mk #[102, 105, 108, 116, 101, 114, 32]).size) (hS : Stand s 0 ⟨#[102, 105, 108, 116, 101, 114, 32]⟩ j) (hE : bt s (0 + j) ≠ ((ByteArray.mk #[102, 105, 108, 116, 101, 114, 32])[j]'hj).toNat) (w : World) (hr : RdAt w b s 0) (_hG : Gl B w) :
    Calls Tryz.prog 31 #[.pointer (some ⟨b, 0, none⟩)] w fun e w' => e = .panicked (pan j 12) ∧ But (fun k => k = b) w w' := by
  obtain ⟨W, hW⟩ : ∃ W, W = (w.alloc (.cells #[.complex .f64 0 0, .slice none 0 0] 38)).alloc (.cells #[.complex .f64 0 0, .slice none 0 0] 38) := ⟨_, rfl⟩
  have hb := twoFilter w W hW
  have HM := must_bad (t := ⟨#[102, 105, 108, 116, 101, 114, 32]⟩) (hr.low hb) (by decide) j hj hS hE
  rw [Nat.zero_add] at HM
  have HM := hide HM
  have HB := hide hb
  have EW := hide hW
  clear hW hb hr hS hE
  go_enter Tryz.func31, Tryz.ntmps31
  go_wp2_with (go_at_call 43; rw [← unhide EW]; refine (unhide HM).mono ?_; rintro e w1 ⟨rfl, hb⟩; have B1 := hide hb; clear hb)
  exact ⟨rfl, rfl, (But.low (O := fun k => k = b) (unhide HB)).trans (unhide B1)⟩
set_option maxRecDepth 100000 in
theorem filter_bad2 {B b q : Nat} {s : ByteArray} (hB : B ≤ b) (hS : Stand s 0 ⟨#[102, 105, 108, 116, 101, 114, 32]⟩ (ByteArray.mk #[102, 105, 108, 116, 101, 114, 32]).size) (h : NumberTo B b s 7 (.bad q)) (w : World) (hr : RdAt w b s 0) (hG : Gl B w) :
    Calls Tryz.prog 31 #[.pointer (some ⟨b, 0, none⟩)] w fun e w' => e = .panicked (pan q 12) ∧ But (fun k => k = b) w w' := by
  obtain ⟨W, hW⟩ : ∃ W, W = (w.alloc (.cells #[.complex .f64 0 0, .slice none 0 0] 38)).alloc (.cells #[.complex .f64 0 0, .slice none 0 0] 38) := ⟨_, rfl⟩
  have hb := twoFilter w W hW
  have hlt := hr.1.lt
  have HM := hide (must_ok (t := ⟨#[102, 105, 108, 116, 101, 114, 32]⟩) (hr.low hb) (by decide) hS)
  have HG := hide (hG.on (hb.mono (by omega)))
  have HR := hide (hr.low hb)
  have HB := hide hb
  have EW := hide hW
  have HN := hide h
  clear hW hb hr hS hG h
  go_enter Tryz.func31, Tryz.ntmps31
  go_wp2_with (go_at_call 43; rw [← unhide EW]; refine (unhide HM).mono ?_; rintro e w1 ⟨rfl, hr, hb⟩; have R1 := hide hr; have G1 := hide ((unhide HG).but (unhide HR) hB hb); have B1 := hide hb; clear hb hr; refine Hid.out ?_)
  refine hide ?_
  go_wp2_with (go_at_call 44; refine (finite_bad (unhide HN) _ (unhide R1) (unhide G1)).mono ?_; rintro e w2 ⟨rfl, hb⟩; have B2 := hide ((unhide B1).trans hb); clear hb)
  exact ⟨rfl, rfl, (But.low (O := fun k => k = b) (unhide HB)).trans (unhide B2)⟩
theorem rule_badFilter {B b A0 q er : Nat} {s : ByteArray} (h : ∀ w, RdAt w b s 0 → Gl B w → Calls Tryz.prog 31 #[.pointer (some ⟨b, 0, none⟩)] w fun e w' => e = .panicked (pan q er) ∧ But (fun k => k = b) w w') (w : World) (hr : RdAt w b s 0) (hG : Gl B w) :
    Calls Tryz.prog 30 #[.pointer (some ⟨b, 0, none⟩), .pointer (some ⟨A0, 0, none⟩)] w fun e w' => e = .panicked (pan q er) ∧ But (fun k => k = b) w w' := by
  have HN := hide (h w hr hG)
  clear h hr hG
  go_enter Tryz.func30, Tryz.ntmps30
  go_wp2_with (go_at_call 31; refine (unhide HN).mono ?_; rintro e w1 ⟨rfl, hb⟩; have B1 := hide hb; clear hb)
  exact ⟨rfl, rfl, unhide B1⟩
theorem read_badFilter {s : ByteArray} {q er : Nat} (hs : s.size ≤ 65536) (her : er ≠ 0) (w : World) (hG : Gl w.heap.size w)
    (h : ∀ w0, RdAt w0 (w.heap.size + 1 + 1) s 0 → Gl w.heap.size w0 → Calls Tryz.prog 31 #[.pointer (some ⟨w.heap.size + 1 + 1, 0, none⟩)] w0 fun e w' => e = .panicked (pan q er) ∧ But (fun k => k = w.heap.size + 1 + 1) w0 w') :
    Calls Tryz.prog 11 #[.string s] w fun x w' => x = .returned (.tuple #[.agg #[.complex .f64 0 0, .slice none 0 0], .int .i64 (q : Nat), .int .i64 (er : Nat)]) ∧ Below w.heap.size w w' :=
  read_errFilter (by rw [beq_eq_false_iff_ne]; omega) w fun W h1 _ h3 => (whole_badFilter (B := w.heap.size) W ⟨h3, Nat.zero_le _, hs⟩ (hG.on h1) (by omega) (rule_badFilter h)).mono fun _ _ ⟨k1, k2⟩ => ⟨k1, k2.mono fun _ e => .inl e⟩
theorem read_longFilter {s : ByteArray} (hs : 65536 < s.size) (w : World) :
    Calls Tryz.prog 11 #[.string s] w fun x w' => x = .returned (.tuple #[.agg #[.complex .f64 0 0, .slice none 0 0], .int .i64 0, .int .i64 2]) ∧ Below w.heap.size w w' :=
  read_errFilter (by decide) w fun W _ _ h3 => (whole_longFilter hs W h3).mono fun _ _ ⟨k1, k2⟩ => ⟨k1, But.low k2⟩
end Go.Proofs.YtbkjmnopljmanaaGreatDoor

/- TextLong's walk: the making of the text. -/
namespace Go.Proofs.YtbkjmnopljmanaaGreatDoor
open Go.RowKit

def base (j : Nat) : List UInt8 := [40, 48, 120, 49, 112] ++ List.replicate j 49
theorem base_len (j : Nat) : (base j).length = 5 + j := by unfold base; rw [List.length_append, List.length_replicate]; rfl
theorem base_succ (j : Nat) : base j ++ [49] = base (j + 1) := by
  unfold base
  rw [List.append_assoc, ← List.replicate_succ']
/-- The text that is played: its first bytes are s's. -/
def longL (s : ByteArray) (j : Nat) : List UInt8 := s.toList.take (min s.size 5) ++ (base j).drop (min s.size 5)
theorem long_len (s : ByteArray) (j : Nat) : (longL s j).length = 5 + j := by
  unfold longL
  rw [List.length_append, List.length_take, List.length_drop, base_len, bl_len]
  omega
theorem long_eq (s : ByteArray) (j k : Nat) (hk : k = min s.size 5) : [] ++ (s.extract 0 k).data.toList ++ (base j).drop k = longL s j := by
  unfold longL
  rw [List.nil_append, ← Go.ByteArray.toList_eq, ex_list, List.drop_zero, Nat.sub_zero, ← hk]
theorem long_at (s : ByteArray) (j i : Nat) (h : 5 ≤ i) (h' : i < 5 + j) : bt ⟨(longL s j).toArray⟩ i = 49 := by
  have hl := long_len s j
  have hi : i < (ByteArray.mk (longL s j).toArray).size := by show i < (longL s j).toArray.size; simp [hl]; omega
  rw [bt_of hi]
  have e : (ByteArray.mk (longL s j).toArray)[i] = (longL s j)[i]'(by omega) := by
    show (longL s j).toArray[i]'_ = _
    simp
  rw [e]
  have : (longL s j)[i]'(by omega) = 49 := by
    unfold longL
    have ht : (s.toList.take (min s.size 5)).length = min s.size 5 := by rw [List.length_take, bl_len]; omega
    rw [List.getElem_append_right (by omega), List.getElem_drop]
    unfold base
    rw [List.getElem_append_right (by simp; omega)]
    simp
  rw [this]
  rfl

/-- A row that only lies there, full. -/
def Lies (B : Nat) (w : World) (v : Value) (l : List UInt8) : Prop := ∃ g, v = .slice (some ⟨g, 0, none⟩) l.length l.length ∧ B ≤ g ∧ g < w.heap.size ∧ ∀ j (hj : j < l.length), w.cell? ⟨g, j, none⟩ = some (.int .u8 (l[j]'hj).toNat)
theorem Lies.low {B : Nat} {w w' : World} {v : Value} {l : List UInt8} (h : Lies B w v l) (hb : Below w.heap.size w w') : Lies B w' v l := by
  obtain ⟨g, h1, h2, h3, h4⟩ := h
  exact ⟨g, h1, h2, Nat.lt_of_lt_of_le h3 hb.size, fun j hj => by rw [hb.cell h3]; exact h4 j hj⟩
theorem base_lies (w : World) : Lies w.heap.size (w.alloc (.cells #[.int .u8 40, .int .u8 48, .int .u8 120, .int .u8 49, .int .u8 112] 5 (5, 6))) (.slice (some ⟨w.heap.size, 0, none⟩) 5 5) (base 0) := by
  refine ⟨w.heap.size, rfl, Nat.le_refl _, by rw [alloc_size]; omega, fun j hj => ?_⟩
  rw [cell_of_row _ w.heap.size _ _ _ _ (heap_alloc_new _ _)]
  have hj5 : j < 5 := hj
  rcases (by omega : j = 0 ∨ j = 1 ∨ j = 2 ∨ j = 3 ∨ j = 4) with rfl | rfl | rfl | rfl | rfl <;> rfl
theorem Lies.app_row {B : Nat} {w : World} {ops : Array Oper} {rest : List Oper} {o : Oper} {a : Act} {Q : Exit → Act → World → Prop} (hgd : o.guard = Option.none) (sl x : Operand)
    (ho : o.op = .call { callee := .builtin .append, args := #[sl, x], argTypes := #[45, 45] }) (v : Value) (l : List UInt8) (hs : a.eval sl = v) (hown : Lies B w v l) (A m c : Nat) (l2 : List UInt8) (hx : a.eval x = .slice (some ⟨A, 0, Option.none⟩) m c)
    (hm : l2.length = m) (hm0 : 0 < m) (hc : ∀ j (hj : j < l2.length), w.cell? ⟨A, j, Option.none⟩ = some (.int .u8 (l2[j]'hj).toNat))
    (hl : l.length ≤ 1000000) (hz : m ≤ 1000000) (hB : B ≤ w.heap.size)
    (h : ∀ v' w', Ow B w' v' (l ++ l2) → Below B w w' → wpList Tryz.prog ops Q rest (a.put o.dst v') w') : wpList Tryz.prog ops Q (o :: rest) a w := by
  obtain ⟨i0, hi, hz0, hz1, hz2⟩ := info_parts info_u8
  obtain ⟨g, rfl, h2, h3, h4⟩ := hown
  have cl : ∀ (l : List UInt8) (A : Nat), (∀ j (hj : j < l.length), w.cell? ⟨A, j, Option.none⟩ = some (.int .u8 (l[j]'hj).toNat)) → ∀ j u, (Lib.byteCells l)[j]? = some u → w.cell? ((⟨A, 0, Option.none⟩ : Addr).add j) = some u := fun l A hh j u hj => by
    have hj' : j < l.length := by
      apply Nat.lt_of_not_le; intro hn
      rw [List.getElem?_eq_none (by simpa [Lib.byteCells] using hn)] at hj; cases hj
    have := hh j hj'
    simp [Lib.byteCells, hj'] at hj
    subst hj
    rw [Addr.add_lit, Nat.zero_add]; exact this
  refine wpList_append_grows w hgd sl x 45 ho 5 i0 (.int .u8 0) 1 1 Tryz.underlying45 hi hz0 hz1 hz2 rfl (by decide) (some ⟨g, 0, Option.none⟩) l.length l.length (Lib.byteCells l) hs (fun e => by cases e) (by simp [Lib.byteCells]) (fun b e => by injection e with e; subst e; exact cl l g h4) ⟨A, 0, Option.none⟩ m c (Lib.byteCells l2) hx (by simp [Lib.byteCells, hm]) (cl l2 A hc) ?_ (by omega) (by unfold maxLen; omega) (by omega) fun v' w' r1 r2 => ?_
  · intro u hu
    simp [Lib.byteCells] at hu
    obtain ⟨b, _, rfl⟩ := hu
    rfl
  · have hbl : Below w.heap.size w w' := (Below.refl _ w).grown r2 (Nat.le_refl _) (fun k hk => by cases hk)
    refine h v' w' ?_ (hbl.mono hB)
    have e1 : (l ++ l2).length = l.length + m := by rw [List.length_append, hm]
    have e2 : Lib.byteCells (l ++ l2) = Lib.byteCells l ++ Lib.byteCells l2 := by simp [Lib.byteCells]
    show w'.ownsRow _ _ _ _ _ _
    rw [e1, e2]
    exact ⟨r1.1, r1.2.imp id fun ⟨g, cap, cur, h1, h2, h3⟩ => ⟨g, cap, cur, h1, Nat.le_trans hB h2, h3⟩⟩
theorem Ow.shape {B : Nat} {w : World} {v : Value} {l : List UInt8} (h : Ow B w v l) (hl : l ≠ []) : ∃ g cap, v = .slice (some ⟨g, 0, Option.none⟩) l.length cap ∧ B ≤ g ∧ g < w.heap.size ∧ l.length ≤ cap ∧ cap ≤ maxLen ∧ ∀ j (hj : j < l.length), w.cell? ⟨g, j, Option.none⟩ = some (.int .u8 (l[j]'hj).toNat) := by
  rcases h.2 with ⟨_, h0⟩ | ⟨g, cap, cur, rfl, h1, h2, h3, h4, h5⟩
  · exact absurd (List.length_eq_zero_iff.1 h0) hl
  · refine ⟨g, cap, rfl, h1, (Array.getElem?_eq_some_iff.1 h2).1, h3, h4, fun j hj => ?_⟩
    have := World.ownsRow.cells h (g := g) rfl j (.int .u8 (l[j]'hj).toNat) (by simp [Lib.byteCells, hj])
    rwa [Addr.add_lit, Nat.zero_add] at this
theorem same1_any (x : Nat) (w : World) : Calls Tryz.prog 39 #[.float .f64 x, .float .f64 x] w fun e w' => e = .returned (.bool true) ∧ w' = w := by
  have hx := run_bits
  have hb : ((x : Int) == (x : Int)) = true := by simp
  go_enter Tryz.func39, Tryz.ntmps39
  go_wp2
  go_ret
  exact ⟨rfl, rfl⟩
set_option maxRecDepth 100000 in
theorem same2_any (x y : Nat) (w : World) : Calls Tryz.prog 17 #[.complex .f64 x y, .complex .f64 x y] w fun e w' => e = .returned (.bool true) ∧ w' = w := by
  go_enter Tryz.func17, Tryz.ntmps17
  go_wp2_with (go_at_call 39; refine (same1_any _ _).mono ?_; rintro e w' ⟨rfl, hw'⟩; obtain rfl := hw'.symm)
  go_ret
  exact ⟨rfl, rfl⟩
/-- What is read of such a text. -/
structure LongReads (t : ByteArray) (r x y a er q1 q2 : Nat) : Prop where
  zero : r = 0 → er = 12
  more : r ≠ 0 → er = 2 ∧ q1 = 0 ∧ q2 = 0
  read : ∀ w, Gl w.heap.size w → Calls Tryz.prog 15 #[.string t] w fun e w' => e = .returned (.tuple #[.complex .f64 x y, .int .i64 (a : Nat), .int .i64 (er : Nat)]) ∧ Below w.heap.size w w'
  doc : ∀ w, Calls Tryz.prog 16 #[.string t] w fun e w' => e = .returned (.tuple #[.complex .f64 x y, .int .i64 (a : Nat), .int .i64 (er : Nat)]) ∧ Below w.heap.size w w'
  zpk : ∀ w, Gl w.heap.size w → Calls Tryz.prog 6 #[.string t] w fun e w' => e = .returned (.tuple #[.agg #[.slice none 0 0, .slice none 0 0, .complex .f64 0 0], .int .i64 (q1 : Nat), .int .i64 (er : Nat)]) ∧ Below w.heap.size w w'
  filter : ∀ w, Gl w.heap.size w → Calls Tryz.prog 11 #[.string t] w fun e w' => e = .returned (.tuple #[.agg #[.complex .f64 0 0, .slice none 0 0], .int .i64 (q2 : Nat), .int .i64 (er : Nat)]) ∧ Below w.heap.size w w'
theorem long_reads (t : ByteArray) (r : Nat) (hts : t.size = 65536 + r) (Hat : ∀ i, 5 ≤ i → i < t.size → bt t i = 49) : ∃ x y a er q1 q2, LongReads t r x y a er q1 q2 := by
  by_cases hr : r = 0
  · subst hr
    have hs : t.size ≤ 65536 := by omega
    obtain ⟨x, y, a, e, R⟩ := read_both t
    have he : e = 12 := by
      rcases R.he with h | h | h
      · exfalso
        have ht := (R.told h).1
        have l1 : t.toList.getLast? = some 41 := by rw [← ht]; unfold numL; exact List.getLast?_concat ..
        have l2 : t.toList.getLast? = some 49 := by
          have hl : t.toList.length = 65536 := by rw [bl_len]; omega
          rw [List.getLast?_eq_getElem?, hl, List.getElem?_eq_getElem (by omega)]
          have h1 := Hat 65535 (by omega) (by omega)
          rw [bt_of (by omega)] at h1
          have e : t.toList[65535] = t[65535] := by simp only [Go.ByteArray.toList_eq]; rfl
          change some t.toList[65535] = some 49
          rw [e]
          congr 1
          exact UInt8.toNat_inj.1 h1
        rw [l1] at l2
        exact absurd l2 (by decide)
      · exact absurd h (R.lng hs)
      · exact h
    subst he
    have hz : ∃ q1, ∀ w, Gl w.heap.size w → Calls Tryz.prog 6 #[.string t] w fun e w' => e = .returned (.tuple #[.agg #[.slice none 0 0, .slice none 0 0, .complex .f64 0 0], .int .i64 (q1 : Nat), .int .i64 ((12 : Nat) : Int)]) ∧ Below w.heap.size w w' := by
      rcases stand_cases t 0 ⟨#[122, 112, 107, 32]⟩ 4 (by decide) with h | ⟨j, hj, _, h1, h2⟩
      · have h5 : bt t (4 + 1) = 49 := Hat 5 (by omega) (by omega)
        by_cases h4 : bt t 4 = 40
        · refine ⟨5, fun w hG => read_badZpk hs (by decide) w hG fun w0 hr0 hG0 => zpk_bad2 (B := w.heap.size) (by omega) h (number_bad1 (by omega) h4 fun w1 hr1 hG1 => float_vbad hr1 (value_0x_bad hr1 (by omega) (by omega) (by omega) 5 (.inl ⟨by omega, rfl⟩))) w0 hr0 hG0⟩
        · exact ⟨4, fun w hG => read_badZpk hs (by decide) w hG fun w0 hr0 hG0 => zpk_bad2 (B := w.heap.size) (by omega) h (number_bad0 h4) w0 hr0 hG0⟩
      · exact ⟨j, fun w hG => read_badZpk hs (by decide) w hG fun w0 hr0 hG0 => zpk_bad1 hj h1 h2 w0 hr0 hG0⟩
    have hf : ∃ q2, ∀ w, Gl w.heap.size w → Calls Tryz.prog 11 #[.string t] w fun e w' => e = .returned (.tuple #[.agg #[.complex .f64 0 0, .slice none 0 0], .int .i64 (q2 : Nat), .int .i64 ((12 : Nat) : Int)]) ∧ Below w.heap.size w w' := by
      rcases stand_cases t 0 ⟨#[102, 105, 108, 116, 101, 114, 32]⟩ 7 (by decide) with h | ⟨j, hj, _, h1, h2⟩
      · exfalso
        have h5 := Hat 5 (by omega) (by omega)
        have := h 5 (by decide) (by decide)
        rw [Nat.zero_add, h5] at this
        exact absurd this (by decide)
      · exact ⟨j, fun w hG => read_badFilter hs (by decide) w hG fun w0 hr0 hG0 => filter_bad1 hj h1 h2 w0 hr0 hG0⟩
    obtain ⟨q1, hz⟩ := hz
    obtain ⟨q2, hf⟩ := hf
    exact ⟨x, y, a, 12, q1, q2, fun _ => rfl, fun h => absurd rfl h, R.prog, R.doc, hz, hf⟩
  · have hs : 65536 < t.size := by omega
    exact ⟨0, 0, 0, 2, 0, 0, fun h => absurd h hr, fun _ => ⟨rfl, rfl, rfl⟩, fun w _ => read_long hs w, fun w => (docread_long hs w).mono fun e w' ⟨h1, h2⟩ => ⟨h1, by rw [h2]; exact Below.refl _ _⟩, fun w _ => read_longZpk hs w, fun w _ => read_longFilter hs w⟩
theorem Ow.step_str {B : Nat} {w : World} {ops : Array Oper} {o : Oper} {a : Act} {K : Act → World → Prop} {Q : Exit → Act → World → Prop} {E : Prop} (hgd : o.guard = Option.none) (sl x : Operand)
    (ho : o.op = .call { callee := .builtin .append, args := #[sl, x], argTypes := #[45, 9] }) (v : Value) (l : List UInt8) (hs : a.eval sl = v) (hown : Ow B w v l) (s : ByteArray) (hx : a.eval x = .string s)
    (hl : l.length ≤ 1000000) (hz : s.size ≤ 1000000) (hB : B ≤ w.heap.size)
    (h : ∀ v' w', Ow B w' v' (l ++ s.data.toList) → Below B w w' → K (a.put o.dst v') w') : if Region.wanted o (yielded ops a.tmps) = true then Oper.wp Tryz.prog o a w K Q else E := by
  have hw : Region.wanted o (yielded ops a.tmps) = true := by simp [Region.wanted, hgd]
  rw [if_pos hw]
  obtain ⟨i0, hi, hz0, hz1, hz2⟩ := info_parts info_u8
  obtain ⟨v', w', hr, h2, h3, h4⟩ := Lib.run_append_own_string (P := Tryz.prog) w B 45 9 o.type 5 i0 Tryz.underlying45 Tryz.underlying9 hi hz0 hz1 hz2 v _ _ hown s (by unfold maxLen; omega) (by omega) hB
  unfold Oper.wp execOp
  simp only [ho, resolve, invoke, builtin, Sem.run_bind, Sem.run_pure, Result.andThen_ok, List.map_toArray, List.map_cons, List.map_nil, hs, hx, hr]
  refine h v' w' ?_ ((Below.refl B w).grown h3 hB (fun k hk => (hown.lt k hk).1))
  have e1 : (l ++ s.data.toList).length = l.length + s.size := by rw [List.length_append]; rfl
  have e2 : Lib.byteCells (l ++ s.data.toList) = Lib.byteCells l ++ Lib.strCells s := by simp [Lib.byteCells, Lib.strCells]
  show w'.ownsRow _ _ _ _ _ _
  rw [e1, e2]; exact h2
theorem Ow.step_row {B : Nat} {w : World} {ops : Array Oper} {o : Oper} {a : Act} {K : Act → World → Prop} {Q : Exit → Act → World → Prop} {E : Prop} (hgd : o.guard = Option.none) (sl x : Operand)
    (ho : o.op = .call { callee := .builtin .append, args := #[sl, x], argTypes := #[45, 45] }) (v : Value) (l : List UInt8) (hs : a.eval sl = v) (hown : Ow B w v l) (A off m c : Nat) (l2 : List UInt8) (hx : a.eval x = .slice (some ⟨A, off, Option.none⟩) m c)
    (hm : l2.length = m) (hc : ∀ j (hj : j < l2.length), w.cell? ⟨A, off + j, Option.none⟩ = some (.int .u8 (l2[j]'hj).toNat))
    (hl : l.length ≤ 1000000) (hz : m ≤ 1000000) (hB : B ≤ w.heap.size)
    (h : ∀ v' w', Ow B w' v' (l ++ l2) → Below B w w' → K (a.put o.dst v') w') : if Region.wanted o (yielded ops a.tmps) = true then Oper.wp Tryz.prog o a w K Q else E := by
  have hw : Region.wanted o (yielded ops a.tmps) = true := by simp [Region.wanted, hgd]
  rw [if_pos hw]
  obtain ⟨i0, hi, hz0, hz1, hz2⟩ := info_parts info_u8
  refine wp_append_own w sl x 45 ho B 5 i0 (.int .u8 0) 1 1 Tryz.underlying45 hi hz0 hz1 hz2 rfl (by decide) v _ _ hs hown ⟨A, off, Option.none⟩ m c (Lib.byteCells l2) hx (by simp [Lib.byteCells, hm]) ?_ ?_ (by unfold maxLen; omega) (by omega) hB fun v' w' h2 h3 _ => ?_
  · intro j u hj
    have hj' : j < l2.length := by
      apply Nat.lt_of_not_le; intro hn
      rw [List.getElem?_eq_none (by simpa [Lib.byteCells] using hn)] at hj; cases hj
    have := hc j hj'
    simp [Lib.byteCells, hj'] at hj
    subst hj
    rw [Addr.add_lit]; exact this
  · intro u hu
    simp [Lib.byteCells] at hu
    obtain ⟨b, _, rfl⟩ := hu
    rfl
  refine h v' w' ?_ ((Below.refl B w).grown h3 hB (fun k hk => (hown.lt k hk).1))
  have e1 : (l ++ l2).length = l.length + m := by rw [List.length_append, hm]
  have e2 : Lib.byteCells (l ++ l2) = Lib.byteCells l ++ Lib.byteCells l2 := by simp [Lib.byteCells]
  show w'.ownsRow _ _ _ _ _ _
  rw [e1, e2]; exact h2
theorem own_empty (w : World) : Ow w.heap.size (w.alloc (.cells #[] 5)) (.slice (some ⟨w.heap.size, 0, none⟩) 0 0) [] :=
  ⟨rfl, .inr ⟨w.heap.size, 0, _, rfl, Nat.le_refl _, Blk.alloc, Nat.le_refl _, by decide, rfl, rfl⟩⟩
def lenS : Value → Nat | .slice _ l _ => l | _ => 0
set_option maxRecDepth 100000 in
set_option maxHeartbeats 2000000 in
theorem long_any (s : ByteArray) (n : Nat) (hn : n < 256) (w : World) (hG : Gl w.heap.size w) : Calls Tryz.prog 5 #[.string s, .int .u8 (n : Nat)] w fun e w' => e = .returned (.bool true) ∧ Below w.heap.size w w' := by
  have G0 := hide hG
  clear hG
  go_enter Tryz.func5, Tryz.ntmps5
  go_wp2_with (go_at_call 8; refine (awake_any _ (unhide G0)).mono ?_; rintro e w1 ⟨rfl, hb⟩; have B1 := hide hb; have G1 := hide ((unhide G0).next hb); clear hb; refine Hid.out ?_)
  refine hide ?_
  have hcv := Go.Lib.run_convert_bytes_const (P := Tryz.prog) w1 45 5 #[.int .u8 40, .int .u8 48, .int .u8 120, .int .u8 49, .int .u8 112] 5 5 Tryz.underlying45 Tryz.underlying5
  have OB := hide (base_lies w1)
  have hrem : (n : Int).tmod 3 = ((n % 3 : Nat) : Int) := by rw [Int.tmod_eq_emod_of_nonneg (by omega)]; omega
  obtain ⟨r, hr⟩ : ∃ r : Nat, r = n % 3 := ⟨_, rfl⟩
  rw [← hr] at hrem
  have hr3 : r < 3 := by omega
  clear hr
  have b2 : Below w1.heap.size w1 (w1.alloc (.cells #[.int .u8 40, .int .u8 48, .int .u8 120, .int .u8 49, .int .u8 112] 5 (5, 6))) := (Below.refl _ _).alloc (Nat.le_refl _) _
  have BB := hide b2
  clear b2
  go_wp2_with fail
  go_loopw [5] (fun vb wr => ∃ (j g cap : Nat), vb = .slice (some ⟨g, 0, none⟩) (5 + j) cap ∧ 5 + j ≤ 65536 + r ∧ Hid ((j = 0 ∧ Lies w1.heap.size wr vb (base j)) ∨ Ow w1.heap.size wr vb (base j)) ∧ Hid (Below w1.heap.size w1 wr))
    (fun vb _ => 65538 - lenS vb)
  case atStart => exact ⟨0, _, 5, rfl, by omega, .inl ⟨rfl, unhide OB⟩, unhide BB⟩
  case round =>
    obtain ⟨j, g, cap, rfl, hj, ho, hb⟩ := hrel
    by_cases hlt : 5 + j < 65536 + r
    · have i1 : ((5 + j : Nat) : Int) < 65536 + (r : Int) := by omega
      have hsz := hb.out.size
      have hal : Below wr.heap.size wr (wr.alloc (Obj.cells #[Value.int IntKind.u8 49] 5)) := (Below.refl _ _).alloc (Nat.le_refl _) _
      have hlb := base_len j
      have fin : ∀ v' w', Ow w1.heap.size w' v' (base j ++ [49]) → Below w1.heap.size (wr.alloc (Obj.cells #[Value.int IntKind.u8 49] 5)) w' → (∃ (j g cap : Nat), v' = .slice (some ⟨g, 0, none⟩) (5 + j) cap ∧ 5 + j ≤ 65536 + r ∧ Hid ((j = 0 ∧ Lies w1.heap.size w' v' (base j)) ∨ Ow w1.heap.size w' v' (base j)) ∧ Hid (Below w1.heap.size w1 w')) ∧ 65538 - lenS v' < 65538 - (5 + j) := fun v' w' h1 h2 => by
        rw [base_succ] at h1
        obtain ⟨g', cap', e1, _⟩ := Ow.shape h1 (by intro e; have := base_len (j + 1); rw [e] at this; simp at this)
        rw [base_len] at e1
        refine ⟨⟨j + 1, g', cap', e1, by omega, .inr h1, (hb.out.trans (hal.mono hsz)).trans h2⟩, ?_⟩
        rw [e1]
        show 65538 - (5 + (j + 1)) < _
        omega
      have Fin := hide fin
      have HL := hide hal
      clear fin hal
      rcases ho.out with ⟨rfl, hl⟩ | hl
      · have HO := hide (hl.low (unhide HL))
        clear hl ho
        go_wp2_with (at_builtin; refine Lies.app_row rfl _ _ rfl _ (base 0) rfl (unhide HO) wr.heap.size 1 1 [49] rfl rfl (by decide) (fun j hj => by have := alloc_one wr 49 j hj; rwa [Nat.zero_add] at this) (by decide) (by decide) (by rw [alloc_size]; omega) ?_; intro v' w' h1 h2; have FF := unhide Fin v' w' h1 h2; clear h1 h2)
        exact FF
      · have HO := hide (hl.low (unhide HL))
        clear hl ho
        go_wp2_with (at_builtin; refine Ow.app_row rfl _ _ rfl _ (base j) rfl (unhide HO) wr.heap.size 0 1 1 [49] rfl rfl (alloc_one wr 49) (by omega) (by decide) (by rw [alloc_size]; omega) ?_; intro v' w' h1 h2; have FF := unhide Fin v' w' h1 h2; clear h1 h2)
        exact FF
    · have i1 : ¬ ((5 + j : Nat) : Int) < 65536 + (r : Int) := by omega
      have ho' : Ow w1.heap.size wr (.slice (some ⟨g, 0, none⟩) (5 + j) cap) (base j) := by
        rcases ho.out with ⟨rfl, _⟩ | hl
        · omega
        · exact hl
      obtain ⟨g', cap', e1, hg1, hg2, hcap, hcm, hcell⟩ := Ow.shape ho' (by intro e; have := base_len j; rw [e, List.length_nil] at this; omega)
      rw [base_len] at e1 hcap
      simp only [Value.slice.injEq, Option.some.injEq, Addr.mk.injEq, and_true, true_and] at e1
      obtain ⟨rfl, rfl⟩ := e1
      have HC := hide hcell
      have HB := hide hb.out
      have hsz := hb.out.size
      clear hcell ho ho' hb
      obtain ⟨k, hk⟩ : ∃ k : Nat, k = min s.size 5 := ⟨_, rfl⟩
      have hk5 : k ≤ 5 := by omega
      have hks : k ≤ s.size := by omega
      have hmin : min (s.size : Int) 5 = (k : Int) := by omega
      have hkj : k ≤ 5 + j := by omega
      have HK := hide hk
      clear hk
      have l1 : (k : Int) ≤ (s.size : Int) := by omega
      have l2 : (k : Int) ≤ ((5 + j : Nat) : Int) := by omega
      have l3 : ((5 + j : Nat) : Int) ≤ (cap : Int) := by omega
      have l4 : (k : Int) ≤ (cap : Int) := by omega
      have l0 : (0 : Int) ≤ (k : Int) := by omega
      have l5 : (k : Int) ≤ 5 + (j : Int) := by omega
      have n5 : ¬ cap = k := by omega
      have HE : Hid (([] ++ (s.extract 0 k).data.toList : List UInt8).length ≤ 1000000) := by
        show _ ≤ _
        rw [List.nil_append]
        have := ex_size s (i := 0) hks
        have e : (s.extract 0 k).data.toList.length = (s.extract 0 k).size := by simp
        omega
      have HD : Hid (∀ (W : World), Below wr.heap.size wr W → ∀ i (hi : i < ((base j).drop k).length), W.cell? ⟨g, k + i, none⟩ = some (.int .u8 (((base j).drop k)[i]'hi).toNat)) := fun W hW i hi => by
        rw [hW.cell hg2, unhide HC (k + i) (by rw [List.length_drop] at hi; omega), List.getElem_drop]
      go_wp2_with fail
      go_cut [5] (fun v wx => Hid (Ow wr.heap.size wx v (longL s j)) ∧ Hid (Below wr.heap.size wr wx))
      case first =>
        go_region_law (first
          | (refine Ow.step_str (B := wr.heap.size) rfl _ _ rfl _ [] rfl (own_empty _) (s.extract 0 k) rfl (by decide) ?_ ?_ ?_
             · rw [ByteArray.size_extract]; omega
             · show wr.heap.size ≤ (wr.heap.push _).size; simp
             intro v1 w2 h1 h2; have O1 := hide h1; have B2 : Hid (Below wr.heap.size wr w2) := (((Below.refl wr.heap.size wr).alloc (Nat.le_refl _) _).drew).trans h2; clear h1 h2)
          | (refine Ow.step_row (B := wr.heap.size) rfl _ _ rfl _ ([] ++ (s.extract 0 k).data.toList) rfl (unhide O1) g k (5 + j - k) (cap - k) ((base j).drop k) rfl ?_ ?_ ?_ ?_ ?_ ?_
             · rw [List.length_drop, base_len]
             · exact fun i hi => unhide HD _ (unhide B2) i hi
             · exact unhide HE
             · omega
             · exact (unhide B2).size
             intro v2 w3 h1 h2; have O2 := hide h1; have B3 := hide ((unhide B2).trans h2); clear h1 h2))
        all_goals go_wp2_with fail
        all_goals go_meet
        all_goals exact ⟨by show Ow _ _ _ _; rw [← long_eq s j k (unhide HK)]; exact unhide O2, unhide B3⟩
      case rest =>
        obtain ⟨ho, hb3⟩ := hcut
        have hcv2 := Ow.str ho.out (by intro e; have := long_len s j; rw [e, List.length_nil] at this; omega)
        have B4 := hide ((unhide B1).trans ((((unhide HB).trans (hb3.out.mono hsz))).mono (unhide B1).size))
        have G4 := hide ((unhide G1).next ((unhide HB).trans (hb3.out.mono hsz)))
        have Hlen := hide (long_len s j)
        have Hat := hide (long_at s j)
        clear HC HD HE HK ho hb3 HB
        obtain ⟨t, ht⟩ : ∃ t : ByteArray, t = ⟨(longL s j).toArray⟩ := ⟨_, rfl⟩
        rw [← ht] at hcv2 Hat
        have hts : t.size = 65536 + r := by
          rw [ht]
          show (longL s j).toArray.size = _
          have := unhide Hlen
          simp [this]; omega
        have hj5 : 5 + j = 65536 + r := by omega
        have Hat2 : Hid (∀ i, 5 ≤ i → i < t.size → bt t i = 49) := fun i h1 h2 => unhide Hat i h1 (by omega)
        clear Hat Hlen ht
        obtain ⟨x, y, a, er, q1, q2, R⟩ := long_reads t r hts (unhide Hat2)
        have HR := hide R
        clear R
        have n1 : ((a : Int) != (a : Int)) = false := by simp
        have n2 : ((er : Int) != (er : Int)) = false := by simp
        have hsc := run_store_c
        go_wp2_with (go_at_call 15; refine ((unhide HR).read _ (unhide G4)).mono ?_; rintro e w5 ⟨rfl, hb⟩; have B5 := hide (below_next (unhide B4) hb); have G5 := hide ((unhide G4).next hb); clear hb; refine Hid.out ?_)
        refine hide ?_
        go_wp2_with (go_at_call 16; refine ((unhide HR).doc _).mono ?_; rintro e w6 ⟨rfl, hb⟩; have B6 := hide (below_next (unhide B5) hb); have G6 := hide ((unhide G5).next hb); clear hb; refine Hid.out ?_)
        refine hide ?_
        go_wp2_with (first
          | (go_at_call 17; refine (same2_any _ _ _).mono ?_; rintro e w' ⟨rfl, hw'⟩; obtain rfl := hw'.symm)
          | (go_at_call 6; refine ((unhide HR).zpk _ (unhide G6)).mono ?_; rintro e w7 ⟨rfl, hb⟩; have B7 := hide (below_next (unhide B6) hb); have G7 := hide ((unhide G6).next hb); clear hb; refine Hid.out ?_))
        refine hide ?_
        have BA : Hid (Below w7.heap.size w7 (w7.alloc (.cells #[.slice none 0 0, .slice none 0 0, .complex .f64 0 0] 25))) := (Below.refl _ _).alloc (Nat.le_refl _) _
        by_cases hr0 : r = 0
        · obtain rfl := (unhide HR).zero hr0
          have hl : ¬ (65536 : Int) < (t.size : Int) := by omega
          go_wp2_with (go_at_call 11; refine ((unhide HR).filter _ ((unhide G7).next (unhide BA))).mono ?_; rintro e w8 ⟨rfl, hb⟩; have B8 := hide (below_next (below_next (unhide B7) (unhide BA)) hb); clear hb)
          go_ret
          exact ⟨rfl, below_next (unhide B8) ((Below.refl _ _).alloc (Nat.le_refl _) _)⟩
        · obtain ⟨rfl, rfl, rfl⟩ := (unhide HR).more hr0
          have hl : (65536 : Int) < (t.size : Int) := by omega
          go_wp2_with (go_at_call 11; refine ((unhide HR).filter _ ((unhide G7).next (unhide BA))).mono ?_; rintro e w8 ⟨rfl, hb⟩; have B8 := hide (below_next (below_next (unhide B7) (unhide BA)) hb); clear hb)
          go_ret
          exact ⟨rfl, below_next (unhide B8) ((Below.refl _ _).alloc (Nat.le_refl _) _)⟩
end Go.Proofs.YtbkjmnopljmanaaGreatDoor
