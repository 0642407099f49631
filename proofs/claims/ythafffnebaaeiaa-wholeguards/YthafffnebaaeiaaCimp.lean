/- The first answers of a filter, from rest, to 1 and noughts: what package cascade's Impulse answers. -/
import Derived.Test.YthafffnebaaeiaaCcopy
namespace Go.Proofs.Ythafffnebaaeiaa
open Go.RowKit

def z1 : C2 := (lf 4607182418800017408, lf 0)
theorem c1_is : CIs (.complex .f64 4607182418800017408 0) z1 := CIs.of _ _ (by omega) (by omega)
/-- 1, and noughts behind it. -/
def oneX : Nat → C2 := fun j => if j = 0 then z1 else z0

theorem SecsIs.below {w w' : World} {v : Value} {n : Nat} {sec : Nat → Sec} (h : SecsIs w v n sec) (hb : Below w.heap.size w w') : SecsIs w' v n sec := by
  obtain ⟨ad', c', e1, h1⟩ := h
  refine ⟨ad', c', e1, fun i hi => ?_⟩
  obtain ⟨b, u0, u1, u2, u3, u4, e2, hlt, hr, hh⟩ := h1 i hi
  exact ⟨b, u0, u1, u2, u3, u4, e2, Nat.lt_of_lt_of_le hlt hb.size, fun j x hx => by rw [hb.cell (by exact hlt)]; exact hr j x hx, hh⟩

end Go.Proofs.Ythafffnebaaeiaa
