/- PROVED: 'forthwithlaw.All' returns true for every script, and the script reads behind the call as it read before; where what is read is of bulk at most 1048576, and the listed variables hold what the program's text lays. -/
import Derived.Test.YtcphhbofjkenaaaGreatDoorQy
import Derived.Test.YtcphhbofjkenaaaGreatDoorQ28
namespace Go.Proofs.YtcphhbofjkenaaaGreatDoor
open Go Go.RowKit Proofs.Tryz
set_option linter.all false
set_option maxRecDepth 100000
set_option maxHeartbeats 16000000
section
open Go Go.ChangeShapes Go.WideShapes Go.ChangeAt Go.RowKit
theorem Sk:Rows.AllUptoSaid:=OpenClaim.holds_of_cond 12 f12 rfl rfl rfl rfl rfl rfl rfl ⟨rfl,rfl,rfl,rfl,rfl⟩ rfl rfl rfl rfl rfl aO func12 aO (of_decide_eq_true aO) (by unfold Func.isWrapper;first|(rw[aG eV];kernel_rfl)|(rw[ay eV];exact⟨rfl,rfl⟩)) (λb started H a _ F=>by rw[OpenClaim.pre_eq_preRow];exact akt b started H a F)
theorem plain(f:FuncId)(a:Func)(d:Tryz.pinned.checked.prog.funcNamed "forthwith/forthwithlaw.All" =some f)(b:Tryz.pinned.checked.prog.funcs[f]?=some a):
  true=Tryz.pinned.checked.prog.looks []/\∀(j:Nat) t,a.params[j]?=some t->Tryz.pinned.checked.prog.wantsStandIn t=false:=by
 obtain rfl:f=12:=gT ((show prog.funcNamed "forthwith/forthwithlaw.All" =some 12 by kernel_rfl).symm.trans d) |>.symm
 obtain rfl:a=f12:=(gT (func12.symm.trans b)).symm;refine⟨aO,λj t c=>?_⟩;rw[params12]at c;obtain rfl:t=22:=by simpa using Array.mem_of_getElem? c
 exact(show prog.wantsStandIn 22=false by kernel_rfl)
theorem all_holds:Rows.AllUptoCardSaid:=Claim7.holds_tied_plain_at .later [] _ _ _ _ Sk (λ_ h=>nK) aO (λ_ h=>nK) allUpto_row_tie rfl ⟨rfl,rfl⟩ aO rfl plain aO
end
end Go.Proofs.YtcphhbofjkenaaaGreatDoor
