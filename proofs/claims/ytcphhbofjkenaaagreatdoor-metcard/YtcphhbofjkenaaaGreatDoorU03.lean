import Derived.Lib.MinMax
import Derived.Test.YtcphhbofjkenaaaGreatDoorRows
import Derived.WalkKit
import Derived.WalkLawsBesides
import Derived.WalkSpells
import Derived.Test.YtcphhbofjkenaaaGreatDoorU01
namespace Go.Proofs.YtcphhbofjkenaaaGreatDoor
open Go.RowKit
set_option linter.unusedVariables false
set_option linter.unusedSimpArgs false
theorem hidden {p : Prop} (h : p) : Hid p := h
def findI (ws : List RW) (n : ByteArray) : Inf × Int :=
 if findW ws n < 0 then (⟨0, 0, 0, 0, false⟩, 3) else
  match ws[(findW ws n).toNat]? with
  | some x => if 0 ≤ x.var then (⟨0, 0, 0, 0, false⟩, 3) else (x.inf, 0)
  | none => (⟨0, 0, 0, 0, false⟩, 3)
end Go.Proofs.YtcphhbofjkenaaaGreatDoor
