import Derived.Test.YtcphhbofjkenaaaGreatDoorK21
import Derived.Test.YtcphhbofjkenaaaGreatDoorK35

namespace Go.Proofs.YtcphhbofjkenaaaGreatDoor
open Go Go.RowKit
set_option linter.unusedVariables false
set_option linter.unusedSimpArgs false

end Go.Proofs.YtcphhbofjkenaaaGreatDoor

namespace Go.Proofs.YtcphhbofjkenaaaGreatDoor
open Go

end Go.Proofs.YtcphhbofjkenaaaGreatDoor

namespace Go.Proofs.YtcphhbofjkenaaaGreatDoor
open Go Go.RowKit
set_option linter.unusedVariables false
set_option linter.unusedSimpArgs false

theorem infL_nil : infL [] = Inf.zero := rfl

end Go.Proofs.YtcphhbofjkenaaaGreatDoor

namespace Go.Proofs.YtcphhbofjkenaaaGreatDoor
open Go Go.RowKit
set_option linter.unusedVariables false
set_option linter.unusedSimpArgs false

end Go.Proofs.YtcphhbofjkenaaaGreatDoor

namespace Go.Proofs.YtcphhbofjkenaaaGreatDoor
open Go Go.RowKit
set_option linter.unusedVariables false
set_option linter.unusedSimpArgs false

end Go.Proofs.YtcphhbofjkenaaaGreatDoor

namespace Go.Proofs.YtcphhbofjkenaaaGreatDoor
open Go Go.RowKit
set_option linter.unusedVariables false
set_option linter.unusedSimpArgs false

end Go.Proofs.YtcphhbofjkenaaaGreatDoor

namespace Go.Proofs.YtcphhbofjkenaaaGreatDoor
open Go Go.RowKit
set_option linter.unusedVariables false
set_option linter.unusedSimpArgs false

end Go.Proofs.YtcphhbofjkenaaaGreatDoor

namespace Go.Proofs.YtcphhbofjkenaaaGreatDoor
open Go Go.RowKit
set_option linter.unusedVariables false
set_option linter.unusedSimpArgs false

end Go.Proofs.YtcphhbofjkenaaaGreatDoor

namespace Go.Proofs.YtcphhbofjkenaaaGreatDoor
open Go Go.RowKit
set_option linter.unusedVariables false
set_option linter.unusedSimpArgs false

section
variable {s : ByteArray} {toks : List Tk} {R : (Int × Int) × List PE × Int × Int × List Int} {I a f : Nat} {es : List PE} {nv nt : Int} {code : List Int} {ws : List RW}

end

end Go.Proofs.YtcphhbofjkenaaaGreatDoor

namespace Go.Proofs.YtcphhbofjkenaaaGreatDoor
open Go Go.RowKit
set_option linter.unusedVariables false
set_option linter.unusedSimpArgs false

end Go.Proofs.YtcphhbofjkenaaaGreatDoor
