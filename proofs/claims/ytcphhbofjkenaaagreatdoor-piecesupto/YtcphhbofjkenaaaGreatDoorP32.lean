import Derived.StillTailTactics
import Derived.Test.YtcphhbofjkenaaaGreatDoorP03
import Derived.Test.YtcphhbofjkenaaaGreatDoorP11
import Derived.Test.YtcphhbofjkenaaaGreatDoorP24
import Derived.Test.YtcphhbofjkenaaaGreatDoorP31

namespace Go.Proofs.YtcphhbofjkenaaaGreatDoor
open Go Go.RowKit
set_option linter.unusedVariables false
set_option linter.unusedSimpArgs false
attribute [local go_sem] quietG

end Go.Proofs.YtcphhbofjkenaaaGreatDoor

namespace Go.Proofs.YtcphhbofjkenaaaGreatDoor
open Go Go.RowKit
set_option linter.unusedVariables false
set_option linter.unusedSimpArgs false
attribute [local go_sem] quietG

end Go.Proofs.YtcphhbofjkenaaaGreatDoor

namespace Go.Proofs.YtcphhbofjkenaaaGreatDoor
open Go Go.RowKit
set_option linter.unusedVariables false
set_option linter.unusedSimpArgs false

abbrev WsOk (ws : List RW) : Prop := ∀ x ∈ ws, x.inf.Wt 1 ∧ ∃ a n c, x.items = .slice a n c

end Go.Proofs.YtcphhbofjkenaaaGreatDoor
