import Derived.Below
import Derived.Deep.Draws
namespace Go.Proofs.YtcphhbofjkenaaaGreatDoor
open Go Go.RowKit
theorem exq{α:Sort _}(a:α):∃ x,x=a:=⟨a,rfl⟩
theorem nrq{n:Nat}:n≤n:=Nat.le_refl n
theorem brq{B:Nat}{w:World}:Below B w w:=Below.refl B w
theorem bdq{w:World}{n:Nat}:Below w.heap.size w (w.drewN n):=⟨rfl,rfl,rfl,Nat.le_refl _,fun _ _=>rfl⟩
end Go.Proofs.YtcphhbofjkenaaaGreatDoor
