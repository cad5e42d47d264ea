import Derived.Deep.QuietTactic
import Derived.Test.YtcphhbofjkenaaaGreatDoorU23
namespace Go.Proofs.YtcphhbofjkenaaaGreatDoor
open Go.RowKit
set_option linter.unusedVariables false
set_option linter.unusedSimpArgs false
attribute [local go_sem] quietF
theorem newsA (W : World) (x : Array Value) (t : TypeId) : ∀ (j : Nat) (u : Value), x.toList[j]? = some u → (W.alloc (.cells x t (0, 0))).cell? ((Addr.mk W.heap.size 0 none).add j) = some u := World.news_of_block (fr := (0, 0)) (heap_alloc_new W _)
end Go.Proofs.YtcphhbofjkenaaaGreatDoor
