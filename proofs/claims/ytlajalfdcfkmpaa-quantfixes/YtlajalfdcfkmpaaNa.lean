/- Rows of digits in memory; Norm, Word, CmpN. -/
import Derived.Test.YtlajalfdcfkmpaaRows
import Derived.Test.YtlajalfdcfkmpaaNd
import Derived.WalkKit
import Derived.OwnWalk
import Derived.Deep.MidRow
import Derived.Deep.Light
import Derived.BigQuiet
import Derived.Deep.QuietTactic
namespace Go.Proofs.Ytlajalfdcfkmpaa
open Go.RowKit

/-- Draws alone lie between two worlds. -/
def Still (w w' : World) : Prop := ∀ B, Below B w w'
theorem Still.refl (w : World) : Still w w := fun B => Below.refl B w
theorem Still.trans {a b c : World} (h : Still a b) (k : Still b c) : Still a c := fun B => (h B).trans (k B)
theorem still_drew (w : World) : Still w w.drew := fun B => (Below.refl B w).drew
theorem still_drewN (w : World) (n : Nat) : Still w (w.drewN n) := fun _ => ⟨rfl, rfl, rfl, Nat.le_refl _, fun _ _ => rfl⟩
theorem Still.cell {w w' : World} (h : Still w w') (p : Addr) : w'.cell? p = w.cell? p := (h (p.block + 1)).cell (Nat.lt_succ_self _)
theorem Still.frozen {w w' : World} (h : Still w w') (p : Addr) : w'.frozen? p = w.frozen? p := (h (p.block + 1)).frozen (Nat.lt_succ_self _)
theorem Still.block {w w' : World} (h : Still w w') (k : Nat) : w'.heap[k]? = w.heap[k]? := (h (k + 1)).block k (Nat.lt_succ_self _)

/-- The first n cells behind ad hold d. -/
def Row (w : World) (ad : Option Addr) (n : Nat) (d : Nat → Nat) : Prop := ∀ j, j < n → ∃ b off, ad = some ⟨b, off, none⟩ ∧ b < w.heap.size ∧ w.cell? ⟨b, off + j, none⟩ = some (.int .u64 (d j))
theorem Row.below {w w' : World} {ad : Option Addr} {n : Nat} {d : Nat → Nat} (h : Row w ad n d) (hb : Below w.heap.size w w') : Row w' ad n d := fun j hj => by
  obtain ⟨b, off, e, h1, h2⟩ := h j hj
  exact ⟨b, off, e, Nat.lt_of_lt_of_le h1 hb.size, by rw [hb.cell (by exact h1)]; exact h2⟩
theorem Row.less {w : World} {ad : Option Addr} {n m : Nat} {d : Nat → Nat} (h : Row w ad n d) (hm : m ≤ n) : Row w ad m d := fun j hj => h j (by omega)

set_option maxRecDepth 100000 in
theorem norm_any (ad : Option Addr) (n cap : Nat) (d : Nat → Nat) (w : World) (hcap : n ≤ cap) (hn : n ≤ 140737488355328) (h : Row w ad n d) :
    Calls Try.prog 69 #[.slice ad n cap] w fun e w' => ∃ m, m ≤ n ∧ e = .returned (.slice ad m cap) ∧ (∀ j, m ≤ j → j < n → d j = 0) ∧ (0 < m → d (m - 1) ≠ 0) ∧ w' = w := by
  have H := hide h
  clear h
  go_enter Try.func69, Try.ntmps69
  go_wp2_with fail
  go_loopw [3] (fun i wr => ∃ m : Nat, m ≤ n ∧ i = .int .i64 m ∧ (∀ j, m ≤ j → j < n → d j = 0) ∧ wr = w) (fun i _ => (intOf i).toNat)
  case atStart => exact ⟨n, Nat.le_refl _, rfl, fun j h1 h2 => by omega, rfl⟩
  case round =>
    obtain ⟨m, hm, rfl, hz, rfl⟩ := hrel
    have Hz := hide hz
    clear hz
    by_cases h0 : 0 < m
    · have i1 : (0 : Int) < (m : Int) := by omega
      obtain ⟨b, off, rfl, hb, hc⟩ := unhide H (m - 1) (by omega)
      have i2 : ((m : Int) - 1).toNat = m - 1 := by omega
      have i3 : ¬ ((m : Int) - 1 < 0) := by omega
      have i4 : (0 : Int) ≤ (m : Int) - 1 := by omega
      have i5 : (m : Int) - 1 < (n : Int) := by omega
      by_cases hd : d (m - 1) = 0
      · rw [hd] at hc
        go_wp2
        go_roundw
        case rel =>
          refine ⟨m - 1, by omega, by go_num, fun j h1 h2 => ?_, by trivial⟩
          by_cases e : j = m - 1
          · rw [e]; exact hd
          · exact unhide Hz j (by omega) h2
        case measure => simp [intOf]; omega
      · have i6 : ¬ ((d (m - 1) : Int) = 0) := by omega
        have i7 : (m : Int) ≤ (cap : Int) := by omega
        go_wp2
        go_ret
        exact ⟨m, hm, rfl, unhide Hz, fun _ => hd, rfl⟩
    · have : m = 0 := by omega
      subst this
      have i7 : (0 : Int) ≤ (cap : Int) := by omega
      go_wp2
      go_ret
      exact ⟨0, hm, rfl, unhide Hz, fun h => by omega, rfl⟩
end Go.Proofs.Ytlajalfdcfkmpaa
