/- The bytes that Save tells, as a string. -/
import Derived.Test.YtnfgdhnoidpncaaGwl
import Derived.Laws.IdiomStrings
namespace Go.Proofs.Ytnfgdhnoidpncaa
open Go.RowKit

section
variable (n : Nat) (G : C2) (sec : Nat → Sec) (g : Gu) (st : Nat → C2 × C2) (t c : Nat)
theorem svB_lt (hn : n ≤ 16) (j : Nat) : svB n G sec g st t c j < 256 := by
  have hg : gbyte g < 256 := by obtain ⟨fl, cp, mu⟩ := g; cases fl <;> cases cp <;> cases mu <;> decide
  unfold svB
  repeat' split
  all_goals first | omega | exact Nat.mod_lt _ (by decide)
def svS : ByteArray := ⟨((List.range (38 + 112 * n)).map (fun j => UInt8.ofNat (svB n G sec g st t c j))).toArray⟩
end
theorem saved_string {w : World} {A n cap : Nat} {G : C2} {sec : Nat → Sec} {g : Gu} {st : Nat → C2 × C2} {t c : Nat} (h : SavedAt w A n G sec g st t c) (hn : n ≤ 16) : (convert 22 9 (.slice (some ⟨A, 0, none⟩) (38 + 112 * n) cap)).run Try.prog w = .ok (.string (svS n G sec g st t c)) w := by
  have hl : ((List.range (38 + 112 * n)).map (fun j => UInt8.ofNat (svB n G sec g st t c j))).length = 38 + 112 * n := by simp
  have := run_convert_bytes_back (P := Try.prog) w 22 9 5 ⟨A, 0, none⟩ cap ((List.range (38 + 112 * n)).map (fun j => UInt8.ofNat (svB n G sec g st t c j))) Try.underlying22 Try.underlying5 Try.underlying9 (fun j hj => by
    rw [hl] at hj
    rw [Addr.add_mid, Nat.zero_add, h j hj]
    have := svB_lt n G sec g st t c hn j
    simp [Nat.mod_eq_of_lt this])
  rw [hl] at this
  exact this
theorem SavedAt.low {w w' : World} {A n : Nat} {G : C2} {sec : Nat → Sec} {g : Gu} {st : Nat → C2 × C2} {t c : Nat} (h : SavedAt w A n G sec g st t c) (hA : A < w.heap.size) (hb : Below w.heap.size w w') : SavedAt w' A n G sec g st t c := fun j hj => (hb.cell (by exact hA)).trans (h j hj)
end Go.Proofs.Ytnfgdhnoidpncaa
