import Derived.Lib.MinMax
import Derived.Test.YtcphhbofjkenaaaGreatDoorM01
import Derived.Test.YtcphhbofjkenaaaGreatDoorRows
import Derived.WalkLawsBesides
import Derived.WalkSpells
namespace Go.Proofs.YtcphhbofjkenaaaGreatDoor
open Go Go.RowKit
set_option linter.unusedVariables false
set_option linter.unusedSimpArgs false
set_option maxRecDepth 100000
set_option maxHeartbeats 16000000
section
open Go.RowKit
theorem ast{p:Prop}(h:p):Hid p:=h
theorem zg{k:IntKind}{a b:Int}(h:a=b):Ending.returned (.int k a)=.returned (.int k b):=by rw[h]
theorem Ey(sb:Nat)(n:ByteArray)(w:World)(h0:w.cell? ⟨sb,0,none⟩=some (.slice none 0 0)):
  Calls Tryz.prog 93 #[.pointer (some ⟨sb,0,none⟩),.string n] w fun e w'=>e=.returned (.int .i64 (-1))∧w'=w:=by
 go_enter Tryz.func93,Tryz.ntmps93
 go_wp2
 refine wp_loop_rounds 1 ?_;rw[rounds_succ];go_wp2
 go_ret
 exact⟨rfl,rfl⟩
theorem uM(sb g m cap:Nat)(f:Nat→ByteArray)(n:ByteArray)(w:World)(hm:m≤1100000)(hmc:m≤cap)
  (h0:w.cell? ⟨sb,0,none⟩=some (.slice (some ⟨g,0,none⟩) m cap)) (hc:∀j,j<m→w.cell? ⟨g,j*8,none⟩=some (.string (f j))):
  Calls Tryz.prog 93 #[.pointer (some ⟨sb,0,none⟩),.string n] w fun e w'=>e=.returned (.int .i64 (kY f n m))∧w'=w:=by
 obtain⟨r,hr⟩:=exq (kY f n m);rw[←hr];have HC:Hid (∀j,j<m→w.cell? ⟨g,j*8,none⟩=some (.string (f j))):=hc;clear hc;go_enter Tryz.func93,Tryz.ntmps93
 go_wp2
 go_loop [5] (fun i=>∃j:Nat,j≤m∧i=.int .i64 ((j:Int) - 1)∧Hid (r=kY f n j)) (fun i=>(intOf i+1).toNat)
 case atStart=>exact⟨m,nrq,rfl,hr⟩
 case round=>
  clear hr;obtain⟨j,hj,rfl,HR⟩:=hrel
  by_cases hz:j=0
  ·have HX:Hid (r= -1):=by have:=HR.out;rw[hz]at this;exact this
   subst hz;go_wp2
   go_ret
   exact⟨zg HX.out.symm,rfl⟩
  ·obtain⟨k,rfl⟩:∃k,j=k+1:=⟨j - 1,by omega⟩
   have e1:((k+1:Nat):Int) - 1=(k:Int):=by omega
   rw[e1];obtain⟨x,hx⟩:=exq (f k);have NP:w.cell? ⟨g,k*8,none⟩=some (.string x):=by rw[hx];exact HC.out k (by omega)
   clear e1 hz
   by_cases he:(x.toList == n.toList)=true
   ·have HX:Hid (r=k):=by have:=HR.out;rw[kY,←hx,if_pos he]at this;exact this
    clear hx;go_wp2
    go_ret
    exact⟨zg HX.out.symm,rfl⟩
   ·have HX:Hid (r=kY f n k):=by have:=HR.out;rw[kY,←hx,if_neg he]at this;exact this
    have he':(x.toList == n.toList)=false:=by simpa using he
    clear hx he;go_wp2
    go_round
    case rel=>exact⟨k,by omega,by go_num,HX⟩
    case measure=>simp[intOf]
theorem uN{sb:Nat}{v:Value}{ws:List RW}{c k:Int}(n:ByteArray)(w:World)(h:aK w sb v ws c k)(hl:ws.length≤1100000):
  Calls Tryz.prog 93 #[.pointer (some ⟨sb,0,none⟩),.string n] w fun e w'=>e=.returned (.int .i64 (dB ws n))∧w'=w:=by
 have h0:w.cell? ⟨sb,0,none⟩=some v:=h.blk.cell 0 v rfl;rcases Nat.eq_zero_or_pos ws.length with hz|hp
 ·have hv:v=.slice none 0 0∨∃g cap,v=.slice (some ⟨g,0,none⟩) 0 cap:=by
   rcases h.row.2 with ⟨e,_⟩|⟨g,cap,cur,e,_⟩
   ·exact Or.inl e
   ·exact Or.inr ⟨g,cap,by rw[e,hz]⟩
  unfold dB;rw[hz];rcases hv with rfl|⟨g,cap,rfl⟩
  ·exact Ey sb n w h0
  ·exact uM sb g 0 cap (nameAt ws) n w (by omega) (by omega) h0 (fun j hj=>by omega)
 ·obtain⟨g,cap,hv,_,_,h1,_,_⟩:=aB h.row hp
  refine uM sb g ws.length cap (nameAt ws) n w hl h1 (by rw[h0,hv]) (fun j hj=>?_);refine zf h.row hv j 0 hj _ (by omega) ?_;simp[RW.cells,nameAt,hj]
theorem kF(t p:Int)(w:World)(h0:0≤t)(h1:t≤100)(h2:0≤p)(h3:p≤100):
  Calls Tryz.prog 194 #[.int .i64 t,.int .i64 p] w fun e w'=>e=.returned (Inf.plain t p).val∧Below w.heap.size w w':=by
 go_enter Tryz.func194,Tryz.ntmps194
 go_wp2
 exact bodyPost_ret (v:=(Inf.plain t p).val) (by simp[results,Tryz.results194,go_sem,Inf.plain,Inf.val]) rfl ⟨rfl,brq.alloc nrq _⟩
def kL(ws:List RW)(n:ByteArray):Inf×Int:=
 if dB ws n<0 then(⟨0,0,0,0,false⟩,3)else
  match ws[(dB ws n).toNat]? with
  |some x=>if 0≤x.var then(⟨0,0,0,0,false⟩,3)else(x.inf,0)
  |none=>(⟨0,0,0,0,false⟩,3)
theorem zH{i:Inf}{k:Int}{p:Inf×Int}(h:p=(i,k)):Ending.returned (.tuple #[i.val,.int .i64 k])=.returned (.tuple #[p.1.val,.int .i64 p.2]):=by rw[h]
theorem zI{sb:Nat}{v:Value}{ws:List RW}{c k:Int}(n:ByteArray)(w:World)(h:aK w sb v ws c k)(hl:ws.length≤1100000):
  Calls Tryz.prog 66 #[.pointer (some ⟨sb,0,none⟩),.string n] w fun e w'=>e=.returned (.tuple #[(kL ws n).1.val,.int .i64 (kL ws n).2])∧Below w.heap.size w w':=by
 have hf:=qy (nameAt ws) n ws.length;obtain⟨p,hp⟩:=exq (kL ws n);rw[←hp];have H0:w.cell? ⟨sb,0,none⟩=some v:=h.blk.cell 0 v rfl
 have Gx:∀o:Obj,Calls Tryz.prog 93 #[.pointer (some ⟨sb,0,none⟩),.string n] (w.alloc o) fun e w'=>e=.returned (.int .i64 (dB ws n))∧w'=w.alloc o:=fun o=>
  uN n (w.alloc o) ⟨h.blk.alloc o,af h.row ((aj.refl (fun _=>False) w).alloc o) (fun _ _=>id),h.apart⟩ hl
 have hfz: -1≤dB ws n∧dB ws n<ws.length:=⟨hf.2,hf.1⟩;obtain⟨r,hr⟩:=exq (dB ws n);rw[←hr]at hfz Gx;have Zb:=h.blk.lt
 by_cases JQ:r<0
 ·have HP:Hid (p=(⟨0,0,0,0,false⟩,3)):=by show p=_;rw[hp,kL,←hr,if_pos JQ]
  have HF:=ast Gx;clear hp hr Gx hf h;go_enter Tryz.func66,Tryz.ntmps66
  go_wp2_with (go_at_call 93;refine(HF.out _).mono ?_;rintro e w' ⟨rfl,rfl⟩)
  exact bodyPost_ret (v:=.tuple #[(⟨0,0,0,0,false⟩:Inf).val,.int .i64 3]) (by simp[results,Tryz.results66,go_sem,Inf.val]) rfl ⟨zH HP.out,brq.alloc nrq _⟩
 ·obtain⟨i,rfl⟩:∃i:Nat,r=i:=⟨r.toNat,by omega⟩
  have hi:i<ws.length:=by omega
  obtain⟨g,cap,hv,_,hgs,h1,h2,_⟩:=aB h.row (by omega);have hx:ws[i]?=some ws[i]:=List.getElem?_eq_getElem hi;obtain⟨x,hxe⟩:=exq (ws[i])
  have hcell:∀(o:Obj) (j:Nat) (u:Value),j<8→(x.cells)[j]?=some u→(w.alloc o).cell? ⟨g,i*8+j,none⟩=some u:=by
   intro o j u hj hu;rw[((aj.refl (fun _=>False) w).alloc o).cell (p:=⟨g,i*8+j,none⟩) hgs id];exact zf h.row hv i j hi u hj (by rw[←hxe];exact hu)
  have k1:=fun o=>hcell o 1 _ (by omega) rfl
  have k3:=fun o=>hcell o 3 _ (by omega) rfl
  have k4:=fun o=>hcell o 4 _ (by omega) rfl
  have k5:=fun o=>hcell o 5 _ (by omega) rfl
  have k6:=fun o=>hcell o 6 _ (by omega) rfl
  have k7:=fun o=>hcell o 7 _ (by omega) rfl
  rw[hv]at H0;have HF:=ast Gx;have HV:=ast (show p=(if 0≤x.var then(⟨0,0,0,0,false⟩,3)else(x.inf,0)) by rw[hp,kL,←hr,if_neg JQ];simp only[Int.toNat_natCast,hx,←hxe]);have hm:ws.length≤maxLen:=by unfold maxLen;omega
  unfold maxLen at h2 hm;clear hp hr Gx hf h hcell hx hxe JQ hv
  by_cases ad8:0≤x.var
  ·have HP:Hid (p=(⟨0,0,0,0,false⟩,3)):=by have:=HV.out;rw[if_pos ad8]at this;exact this
   go_enter Tryz.func66,Tryz.ntmps66
   go_wp2_with (go_at_call 93;refine(HF.out _).mono ?_;rintro e w' ⟨rfl,rfl⟩)
   exact bodyPost_ret (v:=.tuple #[(⟨0,0,0,0,false⟩:Inf).val,.int .i64 3]) (by simp[results,Tryz.results66,go_sem,Inf.val]) rfl ⟨zH HP.out,brq.alloc nrq _⟩
  ·have HP:Hid (p=(x.inf,0)):=by have:=HV.out;rw[if_neg ad8]at this;exact this
   go_enter Tryz.func66,Tryz.ntmps66
   go_wp2_with (go_at_call 93;refine(HF.out _).mono ?_;rintro e w' ⟨rfl,rfl⟩)
   exact bodyPost_ret (v:=.tuple #[x.inf.val,.int .i64 0]) (by simp[results,Tryz.results66,go_sem,Inf.val]) rfl ⟨zH HP.out,brq.alloc nrq _⟩
end
end Go.Proofs.YtcphhbofjkenaaaGreatDoor
