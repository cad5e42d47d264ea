import Derived.Test.YtcphhbofjkenaaaGreatDoorU25
namespace Go.Proofs.YtcphhbofjkenaaaGreatDoor
open Go Go.RowKit
set_option linter.unusedVariables false
set_option linter.unusedSimpArgs false
end Go.Proofs.YtcphhbofjkenaaaGreatDoor
