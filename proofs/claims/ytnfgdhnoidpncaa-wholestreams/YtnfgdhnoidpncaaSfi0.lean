/- Sfi, Sfj, one behind the other. -/
import Derived.Test.YtnfgdhnoidpncaaSrd
import Derived.Laws.IdiomStrings
import Derived.Lib.SlBytesConst
import Derived.OwnWalkIn
import Derived.TacticsInMore
import Derived.LoopNIn
import Derived.LoopIn
/- Bytes of the form that Save gives them: what fits answers there. -/
namespace Go.Proofs.Ytnfgdhnoidpncaa
open Go.RowKit

def qvs : List UInt8 := [81, 86, 83, 49]
set_option maxRecDepth 100000 in
set_option maxHeartbeats 2000000 in
theorem equal_any (a b : Addr) (ca cb : Nat) (w : World) (ha : ∀ j (hj : j < qvs.length), w.cell? (a.add j) = some (.int .u8 (qvs[j].toNat : Int))) (hb : ∀ j (hj : j < qvs.length), w.cell? (b.add j) = some (.int .u8 (qvs[j].toNat : Int))) :
    Calls Try.prog 54 #[.slice (some a) 4 ca, .slice (some b) 4 cb] w fun e w' => e = .returned (.bool true) ∧ w' = w := by
  have h1 := run_convert_bytes_back (P := Try.prog) w 22 9 5 a ca qvs Try.underlying22 Try.underlying5 Try.underlying9 ha
  have h2 := run_convert_bytes_back (P := Try.prog) w 22 9 5 b cb qvs Try.underlying22 Try.underlying5 Try.underlying9 hb
  have h1' : (convert 22 9 (.slice (some a) 4 ca)).run Try.prog w = .ok (.string ⟨qvs.toArray⟩) w := h1
  have h2' : (convert 22 9 (.slice (some b) 4 cb)).run Try.prog w = .ok (.string ⟨qvs.toArray⟩) w := h2
  clear h1 h2 ha hb
  generalize (⟨qvs.toArray⟩ : ByteArray) = s at *
  go_enter Try.func54, Try.ntmps54
  go_wp2
  go_ret
  exact ⟨by simp, rfl⟩
set_option maxRecDepth 100000 in
set_option maxHeartbeats 2000000 in
theorem prefix_any (A P0 l ca : Nat) (w : World) (hl : 4 ≤ l) (hl2 : l ≤ ca) (hca : ca ≤ 9223372036854775807) (ha : ∀ j (hj : j < qvs.length), w.cell? ⟨A, j, none⟩ = some (.int .u8 (qvs[j].toNat : Int))) (hb : ∀ j (hj : j < qvs.length), w.cell? ⟨P0, j, none⟩ = some (.int .u8 (qvs[j].toNat : Int))) :
    Calls Try.prog 46 #[.slice (some ⟨A, 0, none⟩) l ca, .slice (some ⟨P0, 0, none⟩) 4 4] w fun e w' => e = .returned (.bool true) ∧ w' = w := by
  have He := hide (equal_any ⟨A, 0, none⟩ ⟨P0, 0, none⟩ ca 4 w (fun j hj => by rw [Addr.add_mid, Nat.zero_add]; exact ha j hj) (fun j hj => by rw [Addr.add_mid, Nat.zero_add]; exact hb j hj))
  have hl' : (4 : Int) ≤ (l : Int) := by omega
  clear ha hb
  go_enter Try.func46, Try.ntmps46
  go_wp2_with fail
  refine (unhide He).mono ?_
  rintro e w1 ⟨rfl, rfl⟩
  go_wp2
  go_ret
  exact ⟨rfl, rfl⟩
set_option maxRecDepth 100000 in
theorem chunk_any (ad : Option Addr) (m cl : Nat) (w : World) : Calls Try.prog 55 #[.slice ad m cl, .int .i64 8] w fun e w' =>
    e = .returned (.func (.func 58) #[] #[.pointer (some ⟨w.heap.size, 0, none⟩), .pointer (some ⟨w.heap.size + 1, 0, none⟩)]) ∧ w' = (w.alloc (.cells #[.slice ad m cl] 22)).alloc (.cells #[.int .i64 8] 3) := by
  go_enter Try.func55, Try.ntmps55
  go_wp2
  go_ret
  exact ⟨rfl, rfl⟩
theorem chunk_enters : ∀ args w, (callFunc 58 args).run Try.prog w = .ok (.enter 58 args) w := enters_of Try.func58 (by kernel_rfl) rfl
end Go.Proofs.Ytnfgdhnoidpncaa

/- Pieces of eight bytes: what the function that slices.Chunk answers does. -/
namespace Go.Proofs.Ytnfgdhnoidpncaa
open Go.RowKit
attribute [local go_sem] Oper.semAt_some

set_option maxRecDepth 100000 in
set_option maxHeartbeats 2000000 in
theorem chunk_iter {w : World} {b1 b2 A off m cap : Nat} (h1 : w.cell? ⟨b1, 0, none⟩ = some (.slice (some ⟨A, off, none⟩) (8 * m) cap)) (h2 : w.cell? ⟨b2, 0, none⟩ = some (.int .i64 8)) (hm : m ≤ 64) (hcap : 8 * m ≤ cap) (hc9 : cap ≤ 9223372036854775807) (l : Nat) (P : Nat → World → Prop)
    (hP : ∀ j W, P j W → P j W.drew) (h0 : P 0 w)
    (hround : ∀ j W, j < m → P j W → YieldAt Fence.wide 0 Try.prog l #[.slice (some ⟨A, off + 8 * j, none⟩) 8 8] W fun e W' => e = .returned (.bool true) ∧ P (j + 1) W' ∧ (∀ k, k = b1 ∨ k = b2 → W'.heap[k]? = W.heap[k]?)) :
    Calls Try.prog 58 (#[.func (.yield l) #[] #[]] ++ #[.pointer (some ⟨b1, 0, none⟩), .pointer (some ⟨b2, 0, none⟩)]) w fun e W' => (∃ v, e = .returned v) ∧ P m W' := by
  refine (callsIn_wide (n := 0)).1 (callsIn_of_wp Try.func58 rfl trivial ?_)
  simp only [Try.ntmps58, List.size_toArray, List.length_cons, List.length_nil, Nat.reduceAdd, Nat.reduceSub, Array.replicate_succ, Array.replicate_zero, List.push_toArray, List.append_toArray, List.nil_append, List.cons_append]
  gi_wp2
  gi_loopw [4] (fun i wr => ∃ j : Nat, j ≤ m ∧ i = .int .i64 ((8 * j : Nat) : Int) ∧ P j wr ∧ wr.cell? ⟨b1, 0, none⟩ = some (.slice (some ⟨A, off, none⟩) (8 * m) cap) ∧ wr.cell? ⟨b2, 0, none⟩ = some (.int .i64 8))
    (fun i _ => 8 * m - (intOf i).toNat)
  case atStart => exact ⟨0, Nat.zero_le _, rfl, h0, h1, h2⟩
  case round =>
    obtain ⟨j, hj, rfl, hp, c1, c2⟩ := hrel
    obtain ⟨M, hM⟩ : ∃ M, M = 8 * m := ⟨_, rfl⟩
    obtain ⟨J, hJ⟩ : ∃ J, J = 8 * j := ⟨_, rfl⟩
    rw [← hM] at c1 hcap
    rw [← hJ]
    by_cases hjm : j < m
    · have hjm' : (J : Int) < (M : Int) := by omega
      have hJM : J < M := by omega
      have h8 : (8 : Int) ≤ (M : Int) - (J : Int) := by omega
      have h8' : 8 ≤ M - J := by omega
      have hJc : J + 8 ≤ cap := by omega
      have hcJ : ¬ cap = J := by omega
      have hcJ' : ¬ cap - J = 0 := by omega
      obtain ⟨fn, tmps, assign, body, hy, hR⟩ := hround j wr.drew hjm (hP j wr hp)
      rw [← hJ] at hy
      have Hr := hide hR
      have HMJ := hide (And.intro hM hJ)
      clear hround h1 h2 h0 hp hR hM hJ hP
      gi_wp2
      gi_region
      all_goals gi_wp2
      all_goals refine ⟨rfl, (unhide Hr).mono ?_⟩
      all_goals
        rintro e W3 ⟨rfl, hp3, hk3⟩
        have d1 : W3.cell? ⟨b1, 0, none⟩ = some (.slice (some ⟨A, off, none⟩) M cap) := (World.cell?_of_block (w := wr.drew) (hk3 b1 (.inl rfl))).trans c1
        have d2 : W3.cell? ⟨b2, 0, none⟩ = some (.int .i64 8) := (World.cell?_of_block (w := wr.drew) (hk3 b2 (.inr rfl))).trans c2
        have Hp3 := hide hp3
        clear hp3 hk3 hy
        gi_wp2
        go_roundw
        case rel =>
          obtain ⟨hM, hJ⟩ := unhide HMJ
          exact ⟨j + 1, by omega, by go_num, unhide Hp3, by rw [← hM]; exact d1, d2⟩
        case measure => obtain ⟨hM, hJ⟩ := unhide HMJ; simp [intOf]; omega
    · have : j = m := by omega
      subst this
      have hJM : J = M := by omega
      subst hJM
      have Hp := hide hp
      clear hround h1 h2 h0 hp hP
      gi_wp2
      go_end0
      exact ⟨⟨_, rfl⟩, unhide Hp⟩
end Go.Proofs.Ytnfgdhnoidpncaa
