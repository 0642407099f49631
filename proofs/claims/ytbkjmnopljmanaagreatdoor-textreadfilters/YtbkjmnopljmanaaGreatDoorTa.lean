/- Worlds and blocks; a reader's block; ended, sees, may. -/
import Derived.Test.YtbkjmnopljmanaaGreatDoorTl
import Derived.Test.YtbkjmnopljmanaaGreatDoorNum
import Derived.WalkKit
import Derived.WalkLawsBesides
import Derived.OwnWalk
import Derived.Deep.MidRow
import Derived.Deep.Light
import Derived.BigQuiet
import Derived.Deep.QuietTactic
import Derived.Lib.SmallJoins
namespace Go.Proofs.YtbkjmnopljmanaaGreatDoor
open Go.RowKit

def Still (w w' : World) : Prop := ∀ B, Below B w w'
theorem Still.refl (w : World) : Still w w := fun B => Below.refl B w
theorem Still.trans {a b c : World} (h : Still a b) (k : Still b c) : Still a c := fun B => (h B).trans (k B)
theorem still_drew (w : World) : Still w w.drew := fun B => (Below.refl B w).drew
theorem still_drewN (w : World) (n : Nat) : Still w (w.drewN n) := fun _ => ⟨rfl, rfl, rfl, Nat.le_refl _, fun _ _ => rfl⟩
theorem Still.cell {w w' : World} (h : Still w w') (p : Addr) : w'.cell? p = w.cell? p := (h (p.block + 1)).cell (Nat.lt_succ_self _)
theorem Still.frozen {w w' : World} (h : Still w w') (p : Addr) : w'.frozen? p = w.frozen? p := (h (p.block + 1)).frozen (Nat.lt_succ_self _)
theorem Still.block {w w' : World} (h : Still w w') (k : Nat) : w'.heap[k]? = w.heap[k]? := (h (k + 1)).block k (Nat.lt_succ_self _)

/-- The second world is the first but for the blocks of O, and new ones. -/
structure But (O : Nat → Prop) (w w' : World) : Prop where
  os : w'.os = w.os
  tape : w'.tape = w.tape
  output : w'.output = w.output
  size : w.heap.size ≤ w'.heap.size
  block : ∀ k, k < w.heap.size → ¬ O k → w'.heap[k]? = w.heap[k]?
theorem But.mono {O O' : Nat → Prop} {w w' : World} (h : But O w w') (hO : ∀ k, O k → O' k) : But O' w w' := ⟨h.os, h.tape, h.output, h.size, fun k hk hn => h.block k hk (fun e => hn (hO k e))⟩
theorem But.refl (O : Nat → Prop) (w : World) : But O w w := ⟨rfl, rfl, rfl, Nat.le_refl _, fun _ _ _ => rfl⟩
theorem But.low {O : Nat → Prop} {w w' : World} (h : Below w.heap.size w w') : But O w w' := ⟨h.os, h.tape, h.output, h.size, fun k hk _ => h.block k hk⟩
theorem But.still {O : Nat → Prop} {w w' : World} (h : Still w w') : But O w w' := But.low (h _)
theorem But.trans {O : Nat → Prop} {a b c : World} (h : But O a b) (k : But O b c) : But O a c :=
  ⟨k.os.trans h.os, k.tape.trans h.tape, k.output.trans h.output, Nat.le_trans h.size k.size, fun i hi hn => (k.block i (Nat.lt_of_lt_of_le hi h.size) hn).trans (h.block i hi hn)⟩
theorem But.below {O : Nat → Prop} {w0 w w' : World} {N : Nat} (h : But O w w') (k : Below N w0 w) (hN : N ≤ w.heap.size) (hO : ∀ k, O k → N ≤ k) : Below N w0 w' :=
  k.trans ⟨h.os, h.tape, h.output, h.size, fun i hi => h.block i (by omega) (fun e => by have := hO i e; omega)⟩
theorem But.setCell (O : Nat → Prop) (w : World) (p : Addr) (v : Value) (hp : O p.block) : But O w (w.setCell p v) :=
  ⟨rfl, rfl, rfl, by simp [World.setCell], fun k _ hn => Below.heap_setCell _ _ _ _ (fun e => hn (e ▸ hp))⟩

/-- A block of cells, none frozen. -/
def Blk (w : World) (b : Nat) (cs : Array Value) (t : TypeId) : Prop := w.heap[b]? = some (.cells cs t (0, 0))
theorem Blk.cell {w : World} {b : Nat} {cs : Array Value} {t : TypeId} (h : Blk w b cs t) (i : Nat) {v : Value} (hv : cs[i]? = some v) : w.cell? ⟨b, i, none⟩ = some v := (Joins.cell_of_block h i).trans hv
theorem Blk.unfrozen {w : World} {b : Nat} {cs : Array Value} {t : TypeId} (h : Blk w b cs t) (i : Nat) : w.frozen? ⟨b, i, none⟩ = false := Joins.unfrozen_of_block h i
theorem Blk.lt {w : World} {b : Nat} {cs : Array Value} {t : TypeId} (h : Blk w b cs t) : b < w.heap.size := (Array.getElem?_eq_some_iff.1 h).1
theorem Blk.below {w w' : World} {b B : Nat} {cs : Array Value} {t : TypeId} (h : Blk w b cs t) (hb : Below B w w') (hB : b < B) : Blk w' b cs t := (hb.block b hB).trans h
theorem Blk.alloc {w : World} {cs : Array Value} {t : TypeId} : Blk (w.alloc (.cells cs t)) w.heap.size cs t := by
  unfold Blk World.alloc; simp
theorem Blk.put {w : World} {b : Nat} {cs : Array Value} {t : TypeId} (h : Blk w b cs t) (i : Nat) (v : Value) : Blk (w.setCell ⟨b, i, none⟩ v) b (cs.setIfInBounds i v) t := Joins.block_setCell h v
theorem Blk.but {w w' : World} {b : Nat} {cs : Array Value} {t : TypeId} {O : Nat → Prop} (h : Blk w b cs t) (hb : But O w w') (hO : ¬ O b) : Blk w' b cs t := (hb.block b h.lt hO).trans h

/-- The byte at a place; 256 behind the end. -/
def bt (s : ByteArray) (p : Nat) : Nat := if h : p < s.size then (s[p]'h).toNat else 256
theorem bt_of {s : ByteArray} {p : Nat} (h : p < s.size) : bt s p = (s[p]'h).toNat := by unfold bt; rw [dif_pos h]
theorem bt_end {s : ByteArray} {p : Nat} (h : ¬ p < s.size) : bt s p = 256 := by unfold bt; rw [dif_neg h]
theorem bt_lt {s : ByteArray} {p : Nat} : bt s p < 256 ↔ p < s.size := by
  by_cases h : p < s.size
  · rw [bt_of h]; exact ⟨fun _ => h, fun _ => (s[p]'h).toNat_lt⟩
  · rw [bt_end h]; exact ⟨fun e => by omega, fun e => absurd e h⟩
theorem bt_le (s : ByteArray) (p : Nat) : bt s p ≤ 256 := by
  by_cases h : p < s.size
  · have := bt_lt.2 h; omega
  · rw [bt_end h]; exact Nat.le_refl _

/-- Where a text's reader lies. -/
def RdAt (w : World) (b : Nat) (s : ByteArray) (p : Nat) : Prop := Blk w b #[.string s, .int .i64 (p : Nat)] 53 ∧ p ≤ s.size ∧ s.size ≤ 65536

theorem RdAt.step {w : World} {b p : Nat} {s : ByteArray} (h : RdAt w b s p) (hp : p < s.size) (m : Nat) : RdAt ((w.drewN m).setCell ⟨b, 1, none⟩ (.int .i64 ((p : Int) + 1))) b s (p + 1) := by
  refine ⟨?_, by omega, h.2.2⟩
  have := Blk.put (w := w.drewN m) (b := b) (cs := #[.string s, .int .i64 (p : Nat)]) (t := 53) h.1 1 (.int .i64 ((p : Int) + 1))
  simpa using this
theorem RdAt.drew {w : World} {b p : Nat} {s : ByteArray} (h : RdAt w b s p) (m : Nat) : RdAt (w.drewN m) b s p := h

/-- A fault on its way. -/
def pan (at_ e_ : Nat) : List PanicEntry := [{ v := .iface 83 (.agg #[.int .i64 (at_ : Nat), .int .i64 (e_ : Nat)]), recovered := false }]

/-- Is it among these? -/
def among (t : ByteArray) (c : Nat) : Bool := t.data.toList.any fun x => x.toNat == c
theorem among_idx (l : List UInt8) (c : UInt8) : decide (0 ≤ Lib.indexByte l c) = l.any fun x => x.toNat == c.toNat := by
  induction l with
  | nil => rfl
  | cons b l ih =>
    rw [Lib.indexByte, List.any_cons, ← ih]
    have hn : (b.toNat == c.toNat) = (b == c) := by
      rw [Bool.eq_iff_iff]; simp only [beq_iff_eq]; exact ⟨fun h => UInt8.toNat_inj.1 h, fun h => by rw [h]⟩
    rw [hn]
    by_cases hb : (b == c) = true
    · rw [if_pos hb, hb]; rfl
    · rw [if_neg hb, Bool.eq_false_iff.2 hb, Bool.false_or]
      have := Lib.indexByte_ge l c
      by_cases h1 : (Lib.indexByte l c == -1) = true
      · rw [if_pos h1]
        have h2 : Lib.indexByte l c = -1 := by simpa using h1
        rw [h2]
      · rw [if_neg h1]
        have h2 : Lib.indexByte l c ≠ -1 := by simpa using h1
        rw [Bool.eq_iff_iff]; simp only [decide_eq_true_eq]; omega

/-- It only drew. -/
def Drew (w w' : World) : Prop := ∃ m, w' = w.drewN m
theorem Drew.still {w w' : World} (h : Drew w w') : Still w w' := by obtain ⟨m, rfl⟩ := h; exact still_drewN _ _

theorem ended_any {w : World} {b p : Nat} {s : ByteArray} (h : RdAt w b s p) :
    Calls Tryz.prog 41 #[.pointer (some ⟨b, 0, none⟩)] w fun e w' => e = .returned (.bool (decide (p = s.size))) ∧ ∃ m, w' = w.drewN m := by
  have hc0 := h.1.cell 0 (v := .string s) rfl
  have hc1 := h.1.cell 1 (v := .int .i64 (p : Nat)) rfl
  go_enter Tryz.func41, Tryz.ntmps41
  go_wp2_with fail
  go_quiet (fail)
  go_wp2
  go_ret
  have E : ((p : Int) == (s.size : Int)) = decide (p = s.size) := by rw [Bool.eq_iff_iff]; simp; omega
  exact ⟨congrArg (fun x => Ending.returned (Value.bool x)) E, _, rfl⟩

theorem sees_no {w : World} {b p : Nat} {s t : ByteArray} (h : RdAt w b s p) (hp : ¬ p < s.size) :
    Calls Tryz.prog 50 #[.pointer (some ⟨b, 0, none⟩), .string t] w fun e w' => e = .returned (.bool false) ∧ ∃ m, w' = w.drewN m := by
  have hc0 := h.1.cell 0 (v := .string s) rfl
  have hc1 := h.1.cell 1 (v := .int .i64 (p : Nat)) rfl
  have he : p = s.size := by have := h.2.1; omega
  have HE : Hid (∀ n, Calls Tryz.prog 41 #[.pointer (some ⟨b, 0, none⟩)] (w.drewN n) fun e w' => e = .returned (.bool true) ∧ ∃ m, w' = (w.drewN n).drewN m) := fun n => by
    have := @ended_any (w.drewN n) b p s h
    rwa [decide_eq_true he] at this
  clear h hp he
  go_enter Tryz.func50, Tryz.ntmps50
  go_wp2_with fail
  go_quiet ((go_at_call 41; exact Calls.quiet_of (unhide HE _)))
  go_wp2
  go_ret
  exact ⟨rfl, _, rfl⟩

theorem sees_in {w : World} {b p : Nat} {s t : ByteArray} (h : RdAt w b s p) (hp : p < s.size) :
    Calls Tryz.prog 50 #[.pointer (some ⟨b, 0, none⟩), .string t] w fun e w' => e = .returned (.bool (among t (bt s p))) ∧ ∃ m, w' = w.drewN m := by
  have hc0 := h.1.cell 0 (v := .string s) rfl
  have hc1 := h.1.cell 1 (v := .int .i64 (p : Nat)) rfl
  have he : ¬ p = s.size := by omega
  have HE : Hid (∀ n, Calls Tryz.prog 41 #[.pointer (some ⟨b, 0, none⟩)] (w.drewN n) fun e w' => e = .returned (.bool false) ∧ ∃ m, w' = (w.drewN n).drewN m) := fun n => by
    have := @ended_any (w.drewN n) b p s h
    rwa [decide_eq_false he] at this
  have hp' : (p : Int) < (s.size : Int) := by omega
  have hp0 : ¬ ((p : Int) < 0) := by omega
  have Hb := hide (among_idx t.data.toList (s[p]'hp))
  clear h he
  go_enter Tryz.func50, Tryz.ntmps50
  go_wp2_with fail
  go_quiet (first
    | (go_at_call 41; exact Calls.quiet_of (unhide HE _))
    | (go_at_call 65; exact Calls.quiet_of_same (Tryz.strings_IndexByte _ _ _)))
  go_wp2
  go_ret
  have E : decide (0 ≤ Lib.indexByte t.data.toList s[p]) = among t (bt s p) := by rw [unhide Hb, bt_of hp]; rfl
  exact ⟨congrArg (fun x => Ending.returned (Value.bool x)) E, _, rfl⟩

theorem among_end (t : ByteArray) : among t 256 = false := by
  unfold among
  rw [List.any_eq_false]
  intro x _
  have := x.toNat_lt
  simp; omega
theorem sees_any {w : World} {b p : Nat} {s t : ByteArray} (h : RdAt w b s p) :
    Calls Tryz.prog 50 #[.pointer (some ⟨b, 0, none⟩), .string t] w fun e w' => e = .returned (.bool (among t (bt s p))) ∧ ∃ m, w' = w.drewN m := by
  by_cases hp : p < s.size
  · exact sees_in h hp
  · rw [bt_end hp, among_end]; exact sees_no h hp

theorem may_no {w : World} {b p : Nat} {s t : ByteArray} (h : RdAt w b s p) (hn : among t (bt s p) = false) :
    Calls Tryz.prog 45 #[.pointer (some ⟨b, 0, none⟩), .string t] w fun e w' => e = .returned (.bool false) ∧ RdAt w' b s p ∧ But (fun k => k = b) w w' := by
  have HE := hide (@sees_any w b p s t h)
  rw [hn] at HE
  go_enter Tryz.func45, Tryz.ntmps45
  go_wp2_with (go_at_call 50; refine (unhide HE).mono ?_; rintro e w' ⟨rfl, m, rfl⟩)
  go_ret
  exact ⟨rfl, h, But.still (still_drewN _ _)⟩
theorem may_yes {w : World} {b p : Nat} {s t : ByteArray} (h : RdAt w b s p) (hn : among t (bt s p) = true) :
    Calls Tryz.prog 45 #[.pointer (some ⟨b, 0, none⟩), .string t] w fun e w' => e = .returned (.bool true) ∧ RdAt w' b s (p + 1) ∧ But (fun k => k = b) w w' := by
  have HE := hide (@sees_any w b p s t h)
  rw [hn] at HE
  have hlt : p < s.size := by
    by_cases hp : p < s.size
    · exact hp
    · rw [bt_end hp, among_end] at hn; cases hn
  have hc1 := h.1.cell 1 (v := .int .i64 (p : Nat)) rfl
  have hf1 := h.1.unfrozen 1
  have h9 := h.2.2
  have hwr : IntKind.i64.wrap ((p : Int) + 1) = ((p + 1 : Nat) : Int) := by simp [IntKind.wrap_i64]; omega
  have H := hide h
  clear h hn
  go_enter Tryz.func45, Tryz.ntmps45
  go_wp2_with (go_at_call 50; refine (unhide HE).mono ?_; rintro e w' ⟨rfl, m, rfl⟩)
  go_ret
  exact ⟨rfl, (unhide H).step hlt m, (But.still (still_drewN _ m)).trans (But.setCell _ _ _ _ rfl)⟩

theorem giveUp_any (v : Value) (at_ e_ : Nat) (w : World) :
    Calls Tryz.prog 51 #[v, .int .i64 (at_ : Nat), .int .i64 (e_ : Nat)] w fun e w' => e = .panicked (pan at_ e_) ∧ w' = w := by
  go_enter Tryz.func51, Tryz.ntmps51
  go_wp2
  exact ⟨rfl, rfl, rfl⟩
end Go.Proofs.YtbkjmnopljmanaaGreatDoor
