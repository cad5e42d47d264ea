import Derived.Deep.AppendLies
import Derived.Deep.QuietTactic
import Derived.Test.YtcphhbofjkenaaaGreatDoorP21

namespace Go.Proofs.YtcphhbofjkenaaaGreatDoor
open Go.RowKit
set_option linter.unusedVariables false
set_option linter.unusedSimpArgs false
attribute [local go_sem] quietF

end Go.Proofs.YtcphhbofjkenaaaGreatDoor
