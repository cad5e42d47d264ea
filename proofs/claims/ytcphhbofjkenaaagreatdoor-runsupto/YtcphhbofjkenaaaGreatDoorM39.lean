/- PROVED: 'forthwithlaw.Runs' returns true for every script, and the script reads behind the call as it read before; where what is read is of bulk at most 1048576, and the listed variables hold what the program's text lays. -/
import Derived.Deep.DeepHandedRow
import Derived.Test.YtcphhbofjkenaaaGreatDoorCards
import Derived.Test.YtcphhbofjkenaaaGreatDoorM32
import Derived.Test.YtcphhbofjkenaaaGreatDoorM38
import Derived.Test.YtcphhbofjkenaaaGreatDoorTie
namespace Go.Proofs.YtcphhbofjkenaaaGreatDoor
open Go Go.RowKit
set_option linter.unusedVariables false
set_option linter.unusedSimpArgs false
set_option maxRecDepth 100000
set_option maxHeartbeats 16000000
section
open Go Go.ChangeShapes Go.WideShapes Go.ChangeAt Go.RowKit
theorem own:ownKnob Tryz.prog.godebug=none:=by kernel_rfl
theorem laidOut:laidOutB Tryz.prog=true:=by kernel_rfl
def ame:DataW Unit→Value
 |.lit (.int k z)=>.int k z
 |_=>undef
def adi:DataW Unit→Array Value
 |.agg l=>(l.map ame).toArray
 |_=> #[]
def Q8(h:Array Obj)(g:Nat)(cs:Array Value):Array Obj:=h.modify g fun
 |.cells _ t frozen=>.cells cs t frozen
 |o=>o
def rP:Array Obj:= #[.cells #[.string ⟨#[118,97,108,117,101,32,111,117,116,32,111,102,32,114,97,110,103,101]⟩] 305,.cells #[.string ⟨#[105,110,118,97,108,105,100,32,115,121,110,116,97,120]⟩] 305]
def BG(h:Array Obj)(low:Nat):Array Obj:=
 Q8 (Q8 (Q8 (Q8 (Q8 (Q8 h 0 gU.toArray) 2 #[.iface 303 (.pointer (some ⟨low,0,none⟩))]) 1 #[.iface 303 (.pointer (some ⟨low+1,0,none⟩))])
  3 (adi Rows.laid_internal_strconv_uint64pow10)) 4 (adi Rows.laid_math_bits_deBruijn32tab)) 5 (adi Rows.laid_math_bits_deBruijn64tab)
theorem WL(os:Os):laidMet Tryz.prog Rows.runsUptoRow.laid (({World.holding Tryz.prog os ⟨rP,#[],[]⟩with heap:=BG (World.holding Tryz.prog os ⟨rP,#[],[]⟩).heap (World.holding Tryz.prog default ⟨#[],#[],[]⟩).heap.size}:World).forCall (fun _ _=>0) ⟨#[],#[.slice none 0 0],[]⟩).memory:=
 laidMet_of_run' 8 (by kernel_rfl) (by kernel_rfl)
theorem reads(os:Os){H:Type}(enc:TypeId×Value→H):∃places,DataW.whole enc Tryz.prog (({World.holding Tryz.prog os ⟨rP,#[],[]⟩with heap:=BG (World.holding Tryz.prog os ⟨rP,#[],[]⟩).heap (World.holding Tryz.prog default ⟨#[],#[],[]⟩).heap.size}:World).forCall (fun _ _=>0) ⟨#[],#[.slice none 0 0],[]⟩).memory Tryz.f4.params.toList Rows.runsSpec.vars false #[Value.slice none 0 0].toList 8=some ([.nil],[],places):=
 ⟨[],by kernel_rfl⟩
theorem contract(H:Type)(enc:TypeId×Value→H)(W:World)(base:Nat)(args:Array Value)(ds gs:List (DataW H))(before:List MemPlace)
  (hval:∀(j:Nat) t v,Tryz.f4.params[j]?=some t→args[j]?=some v→Value.okWide Tryz.prog W .any base t v)
  (hW:DataW.Whole enc Tryz.prog Tryz.f4.params.toList Rows.runsSpec.vars false W args.toList ds gs before) (hL:laidMetH Tryz.prog Rows.runsUptoRow.laid W) (hc:Rows.uptoSmall H (ds++gs)=true):
  Calls Tryz.prog 4 args W fun e W'=>∃v,e=.returned v∧Rows.runsSpec.post enc Tryz.prog Tryz.f4 false true false false W args v W':=by
 have hW':=hW;obtain⟨p,q,hA0,hV,rfl,_,_⟩:=hW;have hA:DataW.TrodAll enc Tryz.prog W 0 (fun _=>true) true Tryz.f4.params.toList args.toList ds p:=hA0;rw[Tryz.params4]at hA hval;obtain⟨v0,d0,rfl,rfl,h0⟩:=trodAll_one hA;obtain⟨rfl,rfl⟩:=trodVars_none hV;obtain⟨a,len,cap,rfl⟩:=okWide_slice Tryz.underlying22 (hval 0 22 v0 rfl rfl);clear hA0;simp only[List.append_nil]at hW' hc;have hL':laidMet Tryz.prog Rows.runsUptoRow.laid W:=hL;have hT:lh W:=I8 hL' (by simp[Rows.runsUptoRow]) (by simp[Rows.runsUptoRow]) (by simp[Rows.runsUptoRow])
 have hb:Rows.uptoBulk d0≤1048576:=by
  have h1:=of_decide_eq_true hc;simp only[Rows.uptoBulkAll]at h1;omega
 obtain⟨ops,hs,hn,gG,hat⟩:=Bi h0 hb;have hlt:∀x∈p,x.block<W.heap.size:=fun x hx=>by simpa using hW'.lt x hx
 refine(WJ W _ ops hs hat hn hT gG).mono fun e W' ⟨he,bT⟩=>?_
 subst he;have g0:=Below.trod laidOut (by kernel_rfl) (of_decide_eq_true (by kernel_rfl)) h0 bT hlt;exact⟨_,rfl,_,_,_,[],_,[],hW',trodAll_mk1 (shut_bool Tryz.underlying4 _),trodAll_mk1 g0,rfl,bT.frame _,fun h=>by cases h⟩
theorem NL(os:Os)(started:os.Started)(H:Type)(enc:TypeId×Value→H)(F:Stop.Interp):
  ReturnsInHanded {} Tryz.checked os 4 .any ((Rows.OpenSpec.upto Rows.runsSpec).preRow enc Tryz.prog Tryz.f4 Rows.runsUptoRow.domain false Rows.runsUptoRow.laid) (((Rows.OpenSpec.upto Rows.runsSpec).at F).post enc Tryz.prog Tryz.f4 false true false false):=by
 obtain⟨places,hx⟩:=reads os enc
 refine returnsInHanded_of_row (C:=Tryz.checked) (s:=Rows.OpenSpec.upto Rows.runsSpec) own started (by kernel_rfl) Tryz.func4
  (witness_row_at (enc:=enc) (C:=Tryz.checked) false ({World.holding Tryz.prog os ⟨rP,#[],[]⟩with heap:=BG (World.holding Tryz.prog os ⟨rP,#[],[]⟩).heap (World.holding Tryz.prog default ⟨#[],#[],[]⟩).heap.size}:World) #[.slice none 0 0] rfl (by kernel_rfl) (by kernel_rfl) (by kernel_rfl)
   (OpenSpec.preRow_of_cond 8 hx (by kernel_rfl) (fun k hk=>by cases hk;kernel_rfl) (by kernel_rfl) (WL os))) ?_
 intro W base args ds gs before hval hW _ ah7 _ hL _ _;exact contract H enc W base args ds gs before hval hW hL (ah7 _ rfl)
theorem WM:Rows.RunsUptoSaid:=
 OpenClaim.holds_of_cond 4 Tryz.f4 rfl rfl rfl rfl rfl rfl rfl ⟨rfl,rfl,rfl,rfl,rfl⟩ rfl rfl rfl rfl rfl (by kernel_rfl) Tryz.func4 (by kernel_rfl)
  (of_decide_eq_true (by kernel_rfl)) (by unfold Func.isWrapper;first|(rw[if_pos (by decide +kernel)];kernel_rfl)|(rw[if_neg (by decide +kernel)];exact⟨rfl,rfl⟩))
  (fun os started H enc _ F=>by rw[OpenClaim.pre_eq_preRow];exact NL os started H enc F)
theorem plain(f:FuncId)(fn:Func)(hf:Tryz.pinned.checked.prog.funcNamed "forthwith/forthwithlaw.Runs" =some f)(hfn:Tryz.pinned.checked.prog.funcs[f]?=some fn):
  true=Tryz.pinned.checked.prog.looks []∧∀(j:Nat) t,fn.params[j]?=some t→Tryz.pinned.checked.prog.wantsStandIn t=false:=by
 obtain rfl:f=4:=Option.some.inj ((show Tryz.prog.funcNamed "forthwith/forthwithlaw.Runs" =some 4 by kernel_rfl).symm.trans hf) |>.symm
 obtain rfl:fn=Tryz.f4:=(Option.some.inj (Tryz.func4.symm.trans hfn)).symm;refine⟨by kernel_rfl,fun j t ht=>?_⟩;rw[Tryz.params4]at ht;obtain rfl:t=22:=by simpa using Array.mem_of_getElem? ht
 exact(show Tryz.prog.wantsStandIn 22=false by kernel_rfl)
theorem runs_holds:Rows.RunsUptoCardSaid:=
 Claim7.holds_tied_plain_at .later [] _ _ _ _ WM (fun _ h=>by cases h) (by kernel_rfl) (fun _ h=>by cases h) runsUpto_row_tie rfl ⟨rfl,rfl⟩ (by kernel_rfl) rfl plain (by kernel_rfl)
end
end Go.Proofs.YtcphhbofjkenaaaGreatDoor
