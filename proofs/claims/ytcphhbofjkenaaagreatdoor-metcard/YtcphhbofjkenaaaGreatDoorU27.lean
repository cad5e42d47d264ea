import Derived.Test.YtcphhbofjkenaaaGreatDoorU24
namespace Go.Proofs.YtcphhbofjkenaaaGreatDoor
open Go Go.RowKit
set_option linter.unusedVariables false
set_option linter.unusedSimpArgs false
def nmE (ws : List RW) (t : ByteArray) : Int := if nameS t = false then 4 else if 40 ≤ ws.length then 8 else 0
end Go.Proofs.YtcphhbofjkenaaaGreatDoor
