/- Closing words, as default arguments. -/
import Derived.KernelRfl
import Derived.IntWalk
namespace Go.Proofs.YtaffjphkobhagaaGreatDoor
theorem oM{p:Prop}(h:p:=by omega):p:=h
theorem sI{p:Prop}(h:p:=by kernel_rfl):p:=h
theorem dC{p:Prop}(h:p:=by simp):p:=h
theorem aS{p:Prop}(h:p:=by decide):p:=h
theorem sO{p:Prop}(h:p:=by assumption):p:=h
theorem mO{p:Prop}(h:p:=by go_num):p:=h
theorem gG{p:Prop}(h:p:=by simp;omega):p:=h
end Go.Proofs.YtaffjphkobhagaaGreatDoor
