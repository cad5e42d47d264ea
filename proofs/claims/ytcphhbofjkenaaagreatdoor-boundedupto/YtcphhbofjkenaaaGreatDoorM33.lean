import Derived.StillTailTactics
import Derived.Test.YtcphhbofjkenaaaGreatDoorM03
import Derived.Test.YtcphhbofjkenaaaGreatDoorM12
import Derived.Test.YtcphhbofjkenaaaGreatDoorM26
import Derived.Test.YtcphhbofjkenaaaGreatDoorM32

namespace Go.Proofs.YtcphhbofjkenaaaGreatDoor
open Go Go.RowKit
set_option linter.unusedVariables false
set_option linter.unusedSimpArgs false
attribute [local go_sem] quietG

end Go.Proofs.YtcphhbofjkenaaaGreatDoor

namespace Go.Proofs.YtcphhbofjkenaaaGreatDoor
open Go Go.RowKit
set_option linter.unusedVariables false
set_option linter.unusedSimpArgs false
attribute [local go_sem] quietG

end Go.Proofs.YtcphhbofjkenaaaGreatDoor

namespace Go.Proofs.YtcphhbofjkenaaaGreatDoor
open Go Go.RowKit
set_option linter.unusedVariables false
set_option linter.unusedSimpArgs false

abbrev WsOk (ws : List RW) : Prop := ∀ x ∈ ws, x.inf.Wt 1 ∧ ∃ a n c, x.items = .slice a n c

end Go.Proofs.YtcphhbofjkenaaaGreatDoor
