import Derived.Test.YtcphhbofjkenaaaGreatDoorMy
import Derived.Lib.MinMax
import Derived.Test.YtcphhbofjkenaaaGreatDoorM00
import Derived.Test.YtcphhbofjkenaaaGreatDoorRows
import Derived.WalkLawsBesides
import Derived.WalkSpells
namespace Go.Proofs.YtcphhbofjkenaaaGreatDoor
open Go Go.RowKit Proofs.Tryz
set_option linter.unusedVariables false
set_option linter.unusedSimpArgs false
set_option maxRecDepth 100000
set_option maxHeartbeats 16000000
variable{k c:Int}{sb:Nat}{v:Value}{ws:List RW}
theorem M9{p:Prop}(h:p:=by
  go_wp2_with (go_at_call 93;refine(HF _).mono ?_;rintro e w' ⟨rfl,rfl⟩)
  exact bodyPost_ret (v:=.tuple #[(⟨0,0,0,0,false⟩:Inf).val,ae 3]) KQ rfl ⟨NA HP,aQ.alloc aH _⟩):p:=h
section
open Go.RowKit
theorem af{p:Prop}(h:p):Hid p:=h
theorem BV{k:IntKind}{a b:Int}(h:a=b):Ending.returned (.int k a)=.returned (.int k b):=by rw[h]
theorem ac7(sb:Nat)(n:ByteArray)(w:World)(h0:w.cell? (ai sb 0)=some aI):
  Calls prog 93 #[ax sb,.string n] w fun e w'=>e=.returned (ae (-1))∧w'=w:=by
 go_enter func93,ntmps93
 go_wp2
 refine wp_loop_rounds 1 ?_;rw[rounds_succ];go_wp2;go_ret;exact⟨rfl,rfl⟩
theorem OP(sb g m cap:Nat)(f:Nat→ByteArray)(n:ByteArray)(w:World)(hm:m≤1100000)(hmc:m≤cap)
  (h0:w.cell? (ai sb 0)=some (aD g m cap)) (hc:∀j,j<m→w.cell? (ai g (j*8))=some (.string (f j))):
  Calls prog 93 #[ax sb,.string n] w fun e w'=>e=.returned (ae (lastK f n m))∧w'=w:=by
 obtain⟨r,hr⟩:=ak (lastK f n m);rw[←hr];have HC:Hid (∀j,j<m→w.cell? (ai g (j*8))=some (.string (f j))):=hc;clear hc;go_enter func93,ntmps93;go_wp2;go_loop [5] (fun i=>∃j:Nat,j≤m∧i=ae ((j:Int) - 1)∧Hid (r=lastK f n j)) (fun i=>(intOf i+1).toNat)
 case atStart=>exact⟨m,aH,rfl,hr⟩
 case round=>
  clear hr;obtain⟨j,hj,rfl,HR⟩:=hrel
  by_cases hz:j=0
  ·have HX:Hid (r= -1):=by have:=HR.out;rw[hz]at this;exact this
   subst hz;go_wp2;go_ret;exact⟨BV HX.symm,rfl⟩
  ·obtain⟨k,rfl⟩:∃k,j=k+1:=⟨j - 1,ag⟩
   have e1:((k+1:Nat):Int) - 1=(k:Int):=ag;rw[e1];obtain⟨x,hx⟩:=ak (f k);have oK:w.cell? (ai g (k*8))=some (.string x):=by rw[hx];exact HC k ag
   clear e1 hz
   by_cases he:(x.toList == n.toList)=true
   ·have HX:Hid (r=k):=by have:=HR.out;rw[lastK,←hx,aG he]at this;exact this
    clear hx;go_wp2;go_ret;exact⟨BV HX.symm,rfl⟩
   ·have HX:Hid (r=lastK f n k):=by have:=HR.out;rw[lastK,←hx,az he]at this;exact this
    have he':(x.toList == n.toList)=false:=by simpa using he
    clear hx he;go_wp2;go_round
    case rel=>exact⟨k,ag,bO,HX⟩
    case measure=>simp[intOf]
theorem Ei(n:ByteArray)(w:World)(h:cG w sb v ws c k)(hl:ws.length≤1100000):
  Calls prog 93 #[ax sb,.string n] w fun e w'=>e=.returned (ae (cL ws n))∧w'=w:=by
 have h0:w.cell? (ai sb 0)=some v:=h.blk.cell 0 v rfl;rcases wO ws.length with hz|hp
 ·have hv:v=aI∨∃g cap,v=aD g 0 cap:=by
   rcases h.row.2 with ⟨e,_⟩|⟨g,cap,cur,e,_⟩
   ·exact aC e
   ·exact aA ⟨g,cap,by rw[e,hz]⟩
  unfold cL;rw[hz];rcases hv with rfl|⟨g,cap,rfl⟩
  ·exact ac7 sb n w h0
  ·exact OP sb g 0 cap (nameAt ws) n w ag ag h0 (fun j hj=>ag)
 ·obtain⟨g,cap,hv,_,_,h1,_,_⟩:=cd h.row hp
  refine OP sb g ws.length cap (nameAt ws) n w hl h1 (by rw[h0,hv]) (fun j hj=>?_);refine Dx h.row hv j 0 hj _ ag ?_;simp[RW.cells,nameAt,hj]
theorem yJ(t p:Int)(w:World)(h0:0≤t)(h1:t≤100)(h2:0≤p)(h3:p≤100):
  Calls prog 194 #[ae t,ae p] w fun e w'=>e=.returned (Inf.plain t p).val∧Below w.heap.size w w':=by
 go_enter func194,ntmps194
 go_wp2
 exact bodyPost_ret (v:=(Inf.plain t p).val) (by simp[results,results194,go_sem,Inf.plain,Inf.val]) rfl ⟨rfl,aQ.alloc aH _⟩
def findI(ws:List RW)(n:ByteArray):Inf×Int:=
 if cL ws n<0 then(⟨0,0,0,0,false⟩,3)else
  match ws[(cL ws n).toNat]? with
  |some x=>if 0≤x.var then(⟨0,0,0,0,false⟩,3)else(x.inf,0)
  |none=>(⟨0,0,0,0,false⟩,3)
theorem NA{i:Inf}{p:Inf×Int}(h:p=(i,k)):Ending.returned (.tuple #[i.val,ae k])=.returned (.tuple #[p.1.val,ae p.2]):=by rw[h]
theorem Jh(n:ByteArray)(w:World)(h:cG w sb v ws c k)(hl:ws.length≤1100000):
  Calls prog 66 #[ax sb,.string n] w fun e w'=>e=.returned (.tuple #[(findI ws n).1.val,ae (findI ws n).2])∧Below w.heap.size w w':=by
 have hf:=xG (nameAt ws) n ws.length;obtain⟨p,hp⟩:=ak (findI ws n);rw[←hp];have H0:w.cell? (ai sb 0)=some v:=h.blk.cell 0 v rfl
 have AB:∀o:Obj,Calls prog 93 #[ax sb,.string n] (w.alloc o) fun e w'=>e=.returned (ae (cL ws n))∧w'=w.alloc o:=fun o=>
  Ei n (w.alloc o) ⟨h.blk.alloc o,aR h.row ((aq.refl (fun _=>False) w).alloc o) (fun _ _=>id),h.apart⟩ hl
 have hfz: -1≤cL ws n∧cL ws n<ws.length:=⟨hf.2,hf.1⟩;obtain⟨r,hr⟩:=ak (cL ws n);rw[←hr]at hfz AB;have rJ:=h.blk.lt
 by_cases wW:r<0
 ·have HP:Hid (p=(⟨0,0,0,0,false⟩,3)):=by show p=_;rw[hp,findI,←hr,aG wW]
  have HF:=af AB;clear hp hr AB hf h;go_enter func66,ntmps66;exact M9
 ·obtain⟨i,rfl⟩:∃i:Nat,r=i:=⟨r.toNat,ag⟩
  have hi:i<ws.length:=ag;obtain⟨g,cap,hv,_,hgs,h1,h2,_⟩:=cd h.row ag;have hx:ws[i]?=some ws[i]:=bE hi;obtain⟨x,hxe⟩:=ak (ws[i])
  have hcell:∀(o:Obj) (j:Nat) (u:Value),j<8→(x.cells)[j]?=some u→(w.alloc o).cell? (ai g (i*8+j))=some u:=by
   intro o j u hj hu;rw[((aq.refl (fun _=>False) w).alloc o).cell (p:=ai g (i*8+j)) hgs id];exact Dx h.row hv i j hi u hj (by rw[←hxe];exact hu)
  have k1:=fun o=>hcell o 1 _ ag rfl
  have k3:=fun o=>hcell o 3 _ ag rfl
  have k4:=fun o=>hcell o 4 _ ag rfl
  have k5:=fun o=>hcell o 5 _ ag rfl
  have k6:=fun o=>hcell o 6 _ ag rfl
  have k7:=fun o=>hcell o 7 _ ag rfl
  rw[hv]at H0;have HF:=af AB;have HV:=af (show p=(if 0≤x.var then(⟨0,0,0,0,false⟩,3)else(x.inf,0)) by rw[hp,findI,←hr,az wW];simp only[rL,hx,←hxe]);have hm:ws.length≤maxLen:=lu;unfold maxLen at h2 hm;clear hp hr AB hf h hcell hx hxe wW hv
  by_cases KN:0≤x.var
  ·have HP:Hid (p=(⟨0,0,0,0,false⟩,3)):=by have:=HV.out;rw[aG KN]at this;exact this
   go_enter func66,ntmps66
   exact M9
  ·have HP:Hid (p=(x.inf,0)):=by have:=HV.out;rw[az KN]at this;exact this
   go_enter func66,ntmps66
   go_wp2_with (go_at_call 93;refine(HF _).mono ?_;rintro e w' ⟨rfl,rfl⟩)
   exact bodyPost_ret (v:=.tuple #[x.inf.val,ae 0]) KQ rfl ⟨NA HP,aQ.alloc aH _⟩
end
end Go.Proofs.YtcphhbofjkenaaaGreatDoor
