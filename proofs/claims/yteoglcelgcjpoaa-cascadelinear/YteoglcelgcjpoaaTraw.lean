/- The statement's own samples, out of bits: any complex numbers. -/
import Derived.Test.YteoglcelgcjpoaaTsec
import Derived.Deep.AppendLies
namespace Go.Proofs.Yteoglcelgcjpoaa
open Go.RowKit

set_option maxRecDepth 100000 in
theorem float_any (n : Nat) (w : World) : Calls Try.prog 20 #[.int .u64 n] w fun e w' => e = .returned (.float .f64 n) ∧ w' = w := by
  have hf := run_frombits
  go_enter Try.func20, Try.ntmps20
  go_wp2
  go_ret
  exact ⟨by simp, rfl⟩

def rawC (bs : Nat → Nat) (j : Nat) : Value := .complex .f64 (bs (2 * j)) (bs (2 * j + 1))
def rawX (bs : Nat → Nat) (j : Nat) : C2 := (lf (bs (2 * j)), lf (bs (2 * j + 1)))

theorem row_apart {w : World} {base : Nat} {e : TypeId} {size : Nat} {v : Value} {n : Nat} {xs : List Value} (h : w.ownsRow base e size v n xs) {b : Nat} (hb : b < base) : some b ≠ v.ownBlock := by
  intro h1
  have h2 := (h.lt b h1.symm).1
  omega

set_option maxRecDepth 100000 in
set_option maxHeartbeats 2000000 in
theorem raw_any (ad : Option Addr) (len c : Nat) (bs : Nat → Nat) (w : World) (hreach : len * 8 ≤ 140737488351232)
    (hb : ∀ j, j < len → ∃ b off, ad = some ⟨b, off, none⟩ ∧ b < w.heap.size ∧ w.cell? ⟨b, off + j, none⟩ = some (.int .u64 (bs j))) :
    Calls Try.prog 8 #[.slice ad len c] w fun e w' => ∃ v, e = .returned v ∧ w'.ownsRow w.heap.size 25 1 v (len / 2) ((List.range (len / 2)).map (rawC bs)) ∧ Below w.heap.size w w' := by
  obtain ⟨i0, hi, hz0, hz1, hz2⟩ := info_parts info_c
  have Hb := hide hb
  clear hb
  go_enter Try.func8, Try.ntmps8
  go_wp2_with fail
  go_loopw [3, 4] (fun v i wr => ∃ k I : Nat, I = 2 * k ∧ I ≤ len ∧ i = .int .i64 I ∧ wr.ownsRow w.heap.size 25 1 v k ((List.range k).map (rawC bs)) ∧ Below w.heap.size w wr) (fun _ i _ => len - (intOf i).toNat)
  case atStart => exact ⟨0, 0, rfl, Nat.zero_le _, rfl, World.ownsRow_nil _ _ _ _, Below.refl _ _⟩
  case round =>
    obtain ⟨k, I, hI, hIl, rfl, hown, hbl⟩ := hrel
    by_cases hlt : I + 1 < len
    · have hlt' : (I : Int) + 1 < (len : Int) := by omega
      have hi0 : (0 : Int) ≤ (I : Int) := by omega
      have hi1 : (I : Int) < (len : Int) := by omega
      have hi2 : (0 : Int) ≤ (I : Int) + 1 := by omega
      have hi3 : ((I : Int) + 1).toNat = I + 1 := by omega
      have hi4 : ¬ ((I : Int) + 1 < 0) := by omega
      obtain ⟨b, off, rfl, hbw, hc1⟩ := unhide Hb I (by omega)
      obtain ⟨b', off', e, _, hc2⟩ := unhide Hb (I + 1) (by omega)
      obtain ⟨rfl, rfl⟩ : b' = b ∧ off' = off := by simp at e; omega
      clear e
      have k1 : wr.cell? ⟨b', off' + I, none⟩ = some (.int .u64 (bs I)) := by rw [hbl.cell (by exact hbw)]; exact hc1
      have k2 : wr.cell? ⟨b', off' + (I + 1), none⟩ = some (.int .u64 (bs (I + 1))) := by rw [hbl.cell (by exact hbw)]; exact hc2
      have HI := hide hI
      have Hbl := hide hbl
      have hbs := hbl.size
      clear hc1 hc2 hI hbl
      have hap : some b' ≠ u3.ownBlock := row_apart hown hbw
      have hk2 : 2 * (k + 1) ≤ len := by have := unhide HI; omega
      have s1 : Hid (k + 1 ≤ maxLen) := hide (by unfold maxLen; omega)
      have s2 : Hid ((k + 1) * 16 ≤ 140737488355328) := hide (by omega)
      have s3 : Hid (w.heap.size ≤ ((wr.alloc (Obj.cells #[.complex .f64 (bs I) (bs (I + 1))] 25)).drew).heap.size) := hide (by simp; omega)
      have s4 : Hid (((wr.alloc (Obj.cells #[.complex .f64 (bs I) (bs (I + 1))] 25)).drew).heap.size = wr.heap.size + 1) := hide (by simp)
      have s5 : Hid (b' < ((wr.alloc (Obj.cells #[.complex .f64 (bs I) (bs (I + 1))] 25)).drew).heap.size) := hide (by simp; omega)
      have s6 : Hid (∀ u ∈ [Value.complex .f64 (bs I) (bs (I + 1))], u.oneCell' = true) := hide (by intro u hu; simp at hu; subst hu; rfl)
      have y1 : Hid (((wr.alloc (Obj.cells #[.complex .f64 (bs I) (bs (I + 1))] 25)).drew).cell? ⟨b', off' + I, none⟩ = some (.int .u64 (bs I))) := hide ((World.grownBy_alloc wr _ none).cell k1 (by simp))
      have y2 : Hid (((wr.alloc (Obj.cells #[.complex .f64 (bs I) (bs (I + 1))] 25)).drew).cell? ⟨b', off' + (I + 1), none⟩ = some (.int .u64 (bs (I + 1)))) := hide ((World.grownBy_alloc wr _ none).cell k2 (by simp))
      have hwr : IntKind.i64.wrap ((I : Int) + 1) = (I : Int) + 1 := by rw [IntKind.wrap_i64]; omega
      go_wp2_with fail
      go_region_held3 (fun w' => w'.cell? ⟨b', off' + I, none⟩ = some (.int .u64 (bs I)) ∧ w'.cell? ⟨b', off' + (I + 1), none⟩ = some (.int .u64 (bs (I + 1)))) (go_keep)
        (first
          | (go_at_call 20; refine (float_any _ _).mono ?_; rintro e w1 ⟨rfl, rfl⟩)
          | (refine step_append_lies _ (by rfl) _ _ _ (by rfl) w.heap.size 25 i0 _ 1 16 Try.underlying34 hi hz0 hz1 hz2 rfl Nat.one_pos u3 k ((List.range k).map (rawC bs)) (by rfl) ((hown.alloc _).drew) ⟨wr.heap.size, 0, none⟩ 1 1 [.complex .f64 (bs I) (bs (I + 1))] (by rfl) (by rfl) (World.news_of_block (cs := #[.complex .f64 (bs I) (bs (I + 1))]) (t := 25) (fr := (0, 0)) (heap_alloc_new wr _)) s6.out Nat.one_pos s1.out s2.out s3.out (wr.heap.size + 1) s4.out ?_; intro gg cap w1 hown1 hgrow hat hlt2; have z1 := (hgrow.cell_far _ s5.out hap).trans y1.out; have z2 := (hgrow.cell_far _ s5.out hap).trans y2.out)
          | fail)
      go_wp2
      go_roundw
      case rel =>
        have hI := unhide HI
        refine ⟨k + 1, I + 2, by omega, by omega, by go_num, ?_, ?_⟩
        · have e : rawC bs k = .complex .f64 (bs I) (bs (I + 1)) := by unfold rawC; rw [hI]
          rw [List.range_succ, List.map_append, List.map_singleton, e]
          exact hown1
        · exact (((unhide Hbl).alloc hbs _).drew).grown hgrow (by simp; omega) (fun j e => (hown.lt j e).1)
      case measure => simp [intOf]; omega
    · have hk : len / 2 = k := by omega
      have HI := hide hI
      go_wp2
      go_ret
      rw [hk]
      exact ⟨_, rfl, hown, hbl⟩
end Go.Proofs.Yteoglcelgcjpoaa
