/- Read of package text. -/
import Derived.Test.YtbkjmnopljmanaaGreatDoorTz
namespace Go.Proofs.YtbkjmnopljmanaaGreatDoor
open Go.RowKit

theorem results_tmp3 {fn : Func} {t u v : Tmp} (h : fn.results = #[.tmp t, .tmp u, .tmp v]) (tmps : Array Value) (P : Program) (w : World) :
    (results fn tmps).run P w = .ok (.tuple #[tmps.getD t undef, tmps.getD u undef, tmps.getD v undef]) w := by
  simp [results, h, go_sem]
theorem read_alloc (w : World) (s : ByteArray) :
    Below w.heap.size w ((w.alloc (.cells #[.complex .f64 0 0] 23)).alloc (.cells #[.string s, .int .i64 0] 53)) ∧ Blk ((w.alloc (.cells #[.complex .f64 0 0] 23)).alloc (.cells #[.string s, .int .i64 0] 53)) w.heap.size #[.complex .f64 0 0] 23 ∧
      Blk ((w.alloc (.cells #[.complex .f64 0 0] 23)).alloc (.cells #[.string s, .int .i64 0] 53)) (w.heap.size + 1) #[.string s, .int .i64 0] 53 := by
  have h1 := alloc_size w (.cells #[.complex .f64 0 0] 23)
  refine ⟨((Below.refl _ _).alloc (Nat.le_refl _) _).alloc (by omega) _, Blk.alloc.below ((Below.refl _ _).alloc (Nat.le_refl _) _) (by omega), ?_⟩
  rw [← h1]; exact Blk.alloc

set_option maxRecDepth 100000 in
theorem read_err {s : ByteArray} {a e : Int} (he : (e == 0) = false) (w : World)
    (H : ∀ W, Below w.heap.size w W → Blk W w.heap.size #[.complex .f64 0 0] 23 → Blk W (w.heap.size + 1) #[.string s, .int .i64 0] 53 →
      Calls Tryz.prog 18 #[.pointer (some ⟨w.heap.size + 1, 0, none⟩), .func (.func 37) #[] #[.pointer (some ⟨w.heap.size + 1, 0, none⟩), .pointer (some ⟨w.heap.size, 0, none⟩)]] W fun x w' => x = .returned (.tuple #[.int .i64 a, .int .i64 e]) ∧ But (fun k => k = w.heap.size + 1 ∨ k = w.heap.size) W w') :
    Calls Tryz.prog 15 #[.string s] w fun x w' => x = .returned (.tuple #[.complex .f64 0 0, .int .i64 a, .int .i64 e]) ∧ Below w.heap.size w w' := by
  have hmf := makeFunc_run
  obtain ⟨h1, h2, h3⟩ := read_alloc w s
  have HW := hide (H _ h1 h2 h3)
  have H1 := hide h1
  clear H h1 h2 h3
  go_enter Tryz.func15, Tryz.ntmps15
  go_wp2_with (go_at_call 18; refine (unhide HW).mono ?_; rintro x w1 ⟨rfl, hb⟩; have B1 := hide hb; clear hb)
  (try simp only [Exit.inBlock, Exit.then]); refine bodyPost_ret (results_tmp3 rfl _ _ _) rfl ?_
  exact ⟨rfl, (unhide B1).below (unhide H1) (unhide H1).size (fun k e => by omega)⟩

set_option maxRecDepth 100000 in
theorem read_fine {s : ByteArray} {x y : Nat} (w : World)
    (H : ∀ W, Below w.heap.size w W → Blk W w.heap.size #[.complex .f64 0 0] 23 → Blk W (w.heap.size + 1) #[.string s, .int .i64 0] 53 →
      Calls Tryz.prog 18 #[.pointer (some ⟨w.heap.size + 1, 0, none⟩), .func (.func 37) #[] #[.pointer (some ⟨w.heap.size + 1, 0, none⟩), .pointer (some ⟨w.heap.size, 0, none⟩)]] W fun e w' => e = .returned (.tuple #[.int .i64 0, .int .i64 0]) ∧ Blk w' w.heap.size #[.complex .f64 x y] 23 ∧ But (fun k => k = w.heap.size + 1 ∨ k = w.heap.size) W w') :
    Calls Tryz.prog 15 #[.string s] w fun e w' => e = .returned (.tuple #[.complex .f64 x y, .int .i64 0, .int .i64 0]) ∧ Below w.heap.size w w' := by
  have hmf := makeFunc_run
  obtain ⟨h1, h2, h3⟩ := read_alloc w s
  have HW := hide (H _ h1 h2 h3)
  have H1 := hide h1
  clear H h1 h2 h3
  go_enter Tryz.func15, Tryz.ntmps15
  go_wp2_with (go_at_call 18; refine (unhide HW).mono ?_; rintro e w1 ⟨rfl, hA, hb⟩; have c1 := hA.cell 0 (v := .complex .f64 x y) rfl; have B1 := hide hb; clear hb hA)
  (try simp only [Exit.inBlock, Exit.then]); refine bodyPost_ret (results_tmp3 rfl _ _ _) rfl ?_
  exact ⟨rfl, (unhide B1).below (unhide H1) (unhide H1).size (fun k e => by omega)⟩

theorem read_long {s : ByteArray} (hs : 65536 < s.size) (w : World) :
    Calls Tryz.prog 15 #[.string s] w fun e w' => e = .returned (.tuple #[.complex .f64 0 0, .int .i64 0, .int .i64 2]) ∧ Below w.heap.size w w' :=
  read_err (by decide) w fun W _ _ h3 => (whole_long hs W h3).mono fun _ _ ⟨h1, h2⟩ => ⟨h1, But.low h2⟩
theorem read_bad {s : ByteArray} {q : Nat} (hs : s.size ≤ 65536) (w : World) (hG : Gl w.heap.size w) (h : NumberTo w.heap.size (w.heap.size + 1) s 0 (.bad q)) :
    Calls Tryz.prog 15 #[.string s] w fun e w' => e = .returned (.tuple #[.complex .f64 0 0, .int .i64 (q : Nat), .int .i64 12]) ∧ Below w.heap.size w w' :=
  read_err (by decide) w fun W h1 _ h3 => (whole_bad h W ⟨h3, Nat.zero_le _, hs⟩ (hG.on h1) (by omega)).mono fun _ _ ⟨h1, h2⟩ => ⟨h1, h2.mono fun _ e => .inl e⟩
theorem read_rest {s : ByteArray} {x y p : Nat} (hs : s.size ≤ 65536) (hp : p ≠ s.size) (w : World) (hG : Gl w.heap.size w) (h : NumberTo w.heap.size (w.heap.size + 1) s 0 (.ok (.complex .f64 x y) p)) :
    Calls Tryz.prog 15 #[.string s] w fun e w' => e = .returned (.tuple #[.complex .f64 0 0, .int .i64 (p : Nat), .int .i64 12]) ∧ Below w.heap.size w w' :=
  read_err (by decide) w fun W h1 h2 h3 => whole_rest h hp (by omega) W ⟨h3, Nat.zero_le _, hs⟩ (hG.on h1) (by omega) h2
theorem read_ok {s : ByteArray} {x y : Nat} (hs : s.size ≤ 65536) (w : World) (hG : Gl w.heap.size w) (h : NumberTo w.heap.size (w.heap.size + 1) s 0 (.ok (.complex .f64 x y) s.size)) :
    Calls Tryz.prog 15 #[.string s] w fun e w' => e = .returned (.tuple #[.complex .f64 x y, .int .i64 0, .int .i64 0]) ∧ Below w.heap.size w w' :=
  read_fine w fun W h1 h2 h3 => whole_ok h (by omega) W ⟨h3, Nat.zero_le _, hs⟩ (hG.on h1) (by omega) h2
end Go.Proofs.YtbkjmnopljmanaaGreatDoor
