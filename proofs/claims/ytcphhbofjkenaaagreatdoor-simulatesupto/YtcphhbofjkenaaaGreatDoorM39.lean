/- PROVED: 'forthwithlaw.Simulates' returns true for every script, and the script reads behind the call as it read before; where what is read is of bulk at most 1048576, and the listed variables hold what the program's text lays. -/
import Derived.Test.YtcphhbofjkenaaaGreatDoorMy
import Derived.Test.YtcphhbofjkenaaaGreatDoorM38
namespace Go.Proofs.YtcphhbofjkenaaaGreatDoor
open Go Go.RowKit Proofs.Tryz
set_option linter.unusedVariables false
set_option linter.unusedSimpArgs false
set_option maxRecDepth 100000
set_option maxHeartbeats 16000000
section
open Go Go.ChangeShapes Go.WideShapes Go.ChangeAt Go.RowKit
theorem Sk:Rows.SimulatesUptoSaid:=
 OpenClaim.holds_of_cond 8 f8 rfl rfl rfl rfl rfl rfl rfl ⟨rfl,rfl,rfl,rfl,rfl⟩ rfl rfl rfl rfl rfl aP func8 aP
  (of_decide_eq_true aP) (by unfold Func.isWrapper;first|(rw[aG dJ];kernel_rfl)|(rw[az dJ];exact⟨rfl,rfl⟩))
  (fun os started H enc _ F=>by rw[OpenClaim.pre_eq_preRow];exact WU os started H enc F)
theorem plain(f:FuncId)(fn:Func)(hf:Tryz.pinned.checked.prog.funcNamed "forthwith/forthwithlaw.Simulates" =some f)(hfn:Tryz.pinned.checked.prog.funcs[f]?=some fn):
  true=Tryz.pinned.checked.prog.looks []∧∀(j:Nat) t,fn.params[j]?=some t→Tryz.pinned.checked.prog.wantsStandIn t=false:=by
 obtain rfl:f=8:=fy ((show prog.funcNamed "forthwith/forthwithlaw.Simulates" =some 8 by kernel_rfl).symm.trans hf) |>.symm
 obtain rfl:fn=f8:=(fy (func8.symm.trans hfn)).symm;refine⟨aP,fun j t ht=>?_⟩;rw[params8]at ht;obtain rfl:t=22:=by simpa using Array.mem_of_getElem? ht
 exact(show prog.wantsStandIn 22=false by kernel_rfl)
theorem simulates_holds:Rows.SimulatesUptoCardSaid:=
 Claim7.holds_tied_plain_at .later [] _ _ _ _ Sk (fun _ h=>kK) aP (fun _ h=>kK) simulatesUpto_row_tie rfl ⟨rfl,rfl⟩ aP rfl plain aP
end
end Go.Proofs.YtcphhbofjkenaaaGreatDoor
