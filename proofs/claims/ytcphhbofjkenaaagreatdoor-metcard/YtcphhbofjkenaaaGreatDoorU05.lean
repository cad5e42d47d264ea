import Derived.Test.YtcphhbofjkenaaaGreatDoorRows
import Derived.WalkKit
import Derived.WalkLawsBesides
import Derived.WalkSpells
import Derived.Test.YtcphhbofjkenaaaGreatDoorU01
namespace Go.Proofs.YtcphhbofjkenaaaGreatDoor
open Go.RowKit
set_option linter.unusedVariables false
set_option linter.unusedSimpArgs false
theorem ba_of_list {s : ByteArray} {l : List UInt8} (h : (s.toList == l) = true) : s = ⟨l.toArray⟩ := by
 have e : s.data.toList = l := by rw [← Go.Lib.toList_data]; simpa using h
 cases s with
 | mk d => simp at e; subst e; simp
theorem ba_list (l : List UInt8) : (⟨l.toArray⟩ : ByteArray).toList = l := by rw [Go.Lib.toList_data]
end Go.Proofs.YtcphhbofjkenaaaGreatDoor
