import Derived.Test.YtcphhbofjkenaaaGreatDoorU24
namespace Go.Proofs.YtcphhbofjkenaaaGreatDoor
open Go Go.RowKit
set_option linter.unusedVariables false
set_option linter.unusedSimpArgs false
section
variable {ws : List RW} {toks : List Tk} {fin : Int} {f : Nat} {ends : List ByteArray} {loops : Int} {acc : List AI} {I : Nat}
end
end Go.Proofs.YtcphhbofjkenaaaGreatDoor
