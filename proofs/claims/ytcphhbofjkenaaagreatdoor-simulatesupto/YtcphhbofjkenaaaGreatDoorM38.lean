import Derived.Test.YtcphhbofjkenaaaGreatDoorMy
import Derived.Deep.DeepHandedRow
import Derived.Test.YtcphhbofjkenaaaGreatDoorCards
import Derived.Test.YtcphhbofjkenaaaGreatDoorM28
import Derived.Test.YtcphhbofjkenaaaGreatDoorM37
import Derived.Test.YtcphhbofjkenaaaGreatDoorTie
namespace Go.Proofs.YtcphhbofjkenaaaGreatDoor
open Go Go.RowKit Proofs.Tryz
set_option linter.unusedVariables false
set_option linter.unusedSimpArgs false
set_option maxRecDepth 100000
set_option maxHeartbeats 16000000
section
open Go Go.ChangeShapes Go.WideShapes Go.ChangeAt Go.RowKit
theorem own:ownKnob prog.godebug=none:=aP
theorem laidOut:laidOutB prog=true:=aP
def aa1:DataW Unit→Value
 |.lit (.int k z)=>.int k z
 |_=>undef
def GY:DataW Unit→Array Value
 |.agg l=>(l.map aa1).toArray
 |_=> #[]
def zF(h:Array Obj)(g:Nat)(cs:Array Value):Array Obj:=h.modify g fun
 |.cells _ t frozen=>.cells cs t frozen
 |o=>o
def yh:Array Obj:= #[.cells #[.string ⟨#[118,97,108,117,101,32,111,117,116,32,111,102,32,114,97,110,103,101]⟩] 305,.cells #[.string ⟨#[105,110,118,97,108,105,100,32,115,121,110,116,97,120]⟩] 305]
def EF(h:Array Obj)(low:Nat):Array Obj:=
 zF (zF (zF (zF (zF (zF h 0 nH.toArray) 2 #[.iface 303 (ax low)]) 1 #[.iface 303 (ax (low+1))])
  3 (GY Rows.laid_internal_strconv_uint64pow10)) 4 (GY Rows.laid_math_bits_deBruijn32tab)) 5 (GY Rows.laid_math_bits_deBruijn64tab)
theorem abN(os:Os):laidMet prog Rows.simulatesUptoRow.laid (({World.holding prog os ⟨yh,#[],[]⟩with heap:=EF (World.holding prog os ⟨yh,#[],[]⟩).heap (World.holding prog default ⟨#[],#[],[]⟩).heap.size}:World).forCall (fun _ _=>0) ⟨#[],#[aI],[]⟩).memory:=
 laidMet_of_run' 8 aP aP
theorem reads(os:Os){H:Type}(enc:TypeId×Value→H):∃places,DataW.whole enc prog (({World.holding prog os ⟨yh,#[],[]⟩with heap:=EF (World.holding prog os ⟨yh,#[],[]⟩).heap (World.holding prog default ⟨#[],#[],[]⟩).heap.size}:World).forCall (fun _ _=>0) ⟨#[],#[aI],[]⟩).memory f8.params.toList Rows.simulatesSpec.vars false #[aI].toList 8=some ([.nil],[],places):=
 ⟨[],aP⟩
theorem contract(H:Type)(enc:TypeId×Value→H)(W:World)(base:Nat)(args:Array Value)(ds gs:List (DataW H))(before:List MemPlace)
  (hval:∀(j:Nat) t v,f8.params[j]?=some t→args[j]?=some v→Value.okWide prog W .any base t v)
  (hW:DataW.Whole enc prog f8.params.toList Rows.simulatesSpec.vars false W args.toList ds gs before) (hL:laidMetH prog Rows.simulatesUptoRow.laid W) (hc:Rows.uptoSmall H (ds++gs)=true):
  Calls prog 8 args W fun e W'=>∃v,e=.returned v∧Rows.simulatesSpec.post enc prog f8 false true false false W args v W':=by
 have hW':=hW;obtain⟨p,q,hA0,hV,rfl,_,_⟩:=hW;have hA:DataW.TrodAll enc prog W 0 (fun _=>true) true f8.params.toList args.toList ds p:=hA0;rw[params8]at hA hval;obtain⟨v0,d0,rfl,rfl,h0⟩:=trodAll_one hA;obtain⟨rfl,rfl⟩:=trodVars_none hV;obtain⟨a,len,cap,rfl⟩:=okWide_slice underlying22 (hval 0 22 v0 rfl rfl);clear hA0;simp only[List.append_nil]at hW' hc;have hL':laidMet prog Rows.simulatesUptoRow.laid W:=hL;have hT:cQ W:=YH hL' (by simp[Rows.simulatesUptoRow]) (by simp[Rows.simulatesUptoRow]) (by simp[Rows.simulatesUptoRow])
 have hb:Rows.uptoBulk d0≤1048576:=by
  have h1:=of_decide_eq_true hc;simp only[Rows.uptoBulkAll]at h1;omega
 obtain⟨ops,hs,hn,bj,hat⟩:=Wb h0 hb;have hlt:∀x∈p,x.block<W.heap.size:=fun x hx=>by simpa using hW'.lt x hx
 refine(Sp W _ ops hs hat hn hT bj).mono fun e W' ⟨he,bL⟩=>?_
 subst he;have g0:=Below.trod laidOut aP (of_decide_eq_true aP) h0 bL hlt;exact⟨_,rfl,_,_,_,[],_,[],hW',trodAll_mk1 (shut_bool underlying4 _),trodAll_mk1 g0,rfl,bL.frame _,fun h=>kK⟩
theorem WU(os:Os)(started:os.Started)(H:Type)(enc:TypeId×Value→H)(F:Stop.Interp):
  ReturnsInHanded {} checked os 8 .any ((Rows.OpenSpec.upto Rows.simulatesSpec).preRow enc prog f8 Rows.simulatesUptoRow.domain false Rows.simulatesUptoRow.laid) (((Rows.OpenSpec.upto Rows.simulatesSpec).at F).post enc prog f8 false true false false):=by
 obtain⟨places,hx⟩:=reads os enc
 refine returnsInHanded_of_row (C:=checked) (s:=Rows.OpenSpec.upto Rows.simulatesSpec) own started aP func8
  (witness_row_at (enc:=enc) (C:=checked) false ({World.holding prog os ⟨yh,#[],[]⟩with heap:=EF (World.holding prog os ⟨yh,#[],[]⟩).heap (World.holding prog default ⟨#[],#[],[]⟩).heap.size}:World) #[aI] rfl aP aP aP
   (OpenSpec.preRow_of_cond 8 hx aP (fun k hk=>by cases hk;kernel_rfl) aP (abN os))) ?_
 intro W base args ds gs before hval hW _ abl _ hL _ _;exact contract H enc W base args ds gs before hval hW hL (abl _ rfl)
end
end Go.Proofs.YtcphhbofjkenaaaGreatDoor
