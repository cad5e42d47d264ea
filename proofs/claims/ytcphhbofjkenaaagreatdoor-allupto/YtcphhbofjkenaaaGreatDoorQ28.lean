import Derived.Test.YtcphhbofjkenaaaGreatDoorQy
import Derived.Deep.DeepHandedRow
import Derived.Test.YtcphhbofjkenaaaGreatDoorCards
import Derived.Test.YtcphhbofjkenaaaGreatDoorQ27
import Derived.Test.YtcphhbofjkenaaaGreatDoorTie
namespace Go.Proofs.YtcphhbofjkenaaaGreatDoor
open Go Go.RowKit Proofs.Tryz
set_option linter.all false
set_option maxRecDepth 100000
set_option maxHeartbeats 16000000
section
open Go Go.ChangeShapes Go.WideShapes Go.ChangeAt Go.RowKit
theorem own:ownKnob prog.godebug=none:=aO
theorem laidOut:laidOutB prog=true:=aO
def ado:DataW Unit->Value
 |.lit (.int k z)=>.int k z
 |_=>undef
def KF:DataW Unit->Array Value
 |.agg l=>(l.map ado).toArray
 |_=> #[]
def Ee(h:Array Obj)(g:Nat)(a:Array Value):Array Obj:=h.modify g fun
 |.cells _ t frozen=>.cells a t frozen
 |o=>o
def DA:Array Obj:= #[.cells #[.string ⟨#[118,97,108,117,101,32,111,117,116,32,111,102,32,114,97,110,103,101]⟩] 305,.cells #[.string ⟨#[105,110,118,97,108,105,100,32,115,121,110,116,97,120]⟩] 305]
def KJ(h:Array Obj)(a:Nat):Array Obj:=
 Ee (Ee (Ee (Ee (Ee (Ee h 0 qD.toArray) 2 #[.iface 303 (ar a)]) 1 #[.iface 303 (ar (a+1))])
  3 (KF Rows.laid_internal_strconv_uint64pow10)) 4 (KF Rows.laid_math_bits_deBruijn32tab)) 5 (KF Rows.laid_math_bits_deBruijn64tab)
theorem aip(a:Os):laidMet prog Rows.allUptoRow.laid (({World.holding prog a ⟨DA,#[],[]⟩with heap:=KJ (World.holding prog a ⟨DA,#[],[]⟩).heap (World.holding prog default ⟨#[],#[],[]⟩).heap.size}:World).forCall (λ_ _=>0) ⟨#[],#[aH],[]⟩).memory:=laidMet_of_run' 8 aO aO
theorem reads(b:Os){H:Type}(a:TypeId×Value->H):∃places,DataW.whole a prog (({World.holding prog b ⟨DA,#[],[]⟩with heap:=KJ (World.holding prog b ⟨DA,#[],[]⟩).heap (World.holding prog default ⟨#[],#[],[]⟩).heap.size}:World).forCall (λ_ _=>0) ⟨#[],#[aH],[]⟩).memory f12.params.toList Rows.allSpec.vars false #[aH].toList 8=some ([.nil],[],places):=⟨[],aO⟩
theorem contract(H:Type)(c:TypeId×Value->H)(W:World)(base:Nat)(args:Array Value)(f n:List (DataW H))(before:List MemPlace)(b:∀(j:Nat) t v,f12.params[j]?=some t->args[j]?=some v->Value.okWide prog W .any base t v)(s:DataW.Whole c prog f12.params.toList Rows.allSpec.vars false W args.toList f n before)(D:laidMetH prog Rows.allUptoRow.laid W)(u:Rows.uptoSmall H (f++n)=true):Calls prog 12 args W λe l=>∃v,e=.returned v/\Rows.allSpec.post c prog f12 false true false false W args v l:=by have d:=s;obtain⟨p,q,w,F,rfl,_,_⟩:=s;have r:DataW.TrodAll c prog W 0 (λ_=>true) true f12.params.toList args.toList f p:=w;rw[params12]at r b;obtain⟨M,A,rfl,rfl,o⟩:=trodAll_one r;obtain⟨rfl,rfl⟩:=trodVars_none F;obtain⟨a,len,z,rfl⟩:=okWide_slice underlying22 (b 0 22 M rfl rfl);clear w;simp only[List.append_nil]at d u;have N:laidMet prog Rows.allUptoRow.laid W:=D;have E:cT W:=ae9 N Ni Ni Ni;(have G:Rows.uptoBulk A<=1048576:=by have C:=of_decide_eq_true u;simp only[Rows.uptoBulkAll]at C;omega);(obtain⟨k,K,J,y,g⟩:=aeq o G;have i:∀x∈p,x.block<W.heap.size:=λx L=>by simpa using d.lt x L);refine(ab6 W _ k K g J E y).mono λe l ⟨I,m⟩=>?_;subst I;have B:=Below.trod laidOut aO (of_decide_eq_true aO) o m i;exact⟨_,rfl,_,_,_,[],_,[],d,trodAll_mk1 (shut_bool underlying4 _),trodAll_mk1 B,rfl,m.frame _,λh=>nK⟩
theorem akt(b:Os)(started:b.Started)(H:Type)(a:TypeId×Value->H)(F:Stop.Interp):ReturnsInHanded {} checked b 12 .any ((Rows.OpenSpec.upto Rows.allSpec).preRow a prog f12 Rows.allUptoRow.domain false Rows.allUptoRow.laid) (((Rows.OpenSpec.upto Rows.allSpec).at F).post a prog f12 false true false false):=by obtain⟨places,l⟩:=reads b a;refine returnsInHanded_of_row (C:=checked) (s:=Rows.OpenSpec.upto Rows.allSpec) own started aO func12 (witness_row_at (enc:=a) (C:=checked) false ({World.holding prog b ⟨DA,#[],[]⟩with heap:=KJ (World.holding prog b ⟨DA,#[],[]⟩).heap (World.holding prog default ⟨#[],#[],[]⟩).heap.size}:World) #[aH] rfl aO aO aO (OpenSpec.preRow_of_cond 8 l aO (λk j=>by cases j;kernel_rfl) aO (aip b))) ?_;intro W base args e f before c i _ d _ g _ _;exact contract H a W base args e f before c i g (d _ rfl)
end
end Go.Proofs.YtcphhbofjkenaaaGreatDoor
