/- WholeBanks: words. -/
set_option linter.unusedVariables false
namespace Go.Proofs.Ytheopdnafbkhpaa
theorem R.{u}{α:Sort u}{a:α}:a=a:=rfl
theorem YP{p:Prop}(h:p:=by omega):p:=h
theorem YQ{p:Prop}(h:p:=by decide):p:=h
theorem YR{p:Prop}(h:p:=by simp):p:=h
theorem YS{p:Prop}(h:p:=by grind):p:=h
theorem YT{p:Prop}(h:p:=by simp;omega):p:=h
theorem YU{p:Prop}(h:p:=by exact fun _ _ _ _ h=>h):p:=h
theorem YV{p:Prop}(h:p:=by rfl):p:=h
