import Derived.Deep.DeepCutAuto
import Derived.Deep.MidRow
import Derived.Test.YtcphhbofjkenaaaGreatDoorM04
import Derived.Test.YtcphhbofjkenaaaGreatDoorM10
namespace Go.Proofs.YtcphhbofjkenaaaGreatDoor
open Go Go.RowKit
set_option linter.unusedVariables false
set_option linter.unusedSimpArgs false
set_option maxRecDepth 100000
set_option maxHeartbeats 16000000
section
open Go.RowKit
def bW:List (ByteArray×Int×Int):=
 [(⟨#[43]⟩,2,1),(⟨#[45]⟩,2,1),(⟨#[42]⟩,2,1),(⟨#[97,110,100]⟩,2,1),(⟨#[111,114]⟩,2,1),(⟨#[120,111,114]⟩,2,1),(⟨#[47]⟩,2,1),(⟨#[109,111,100]⟩,2,1),(⟨#[61]⟩,2,1),(⟨#[60]⟩,2,1),(⟨#[62]⟩,2,1),(⟨#[109,105,110]⟩,2,1),(⟨#[109,97,120]⟩,2,1),(⟨#[110,101,103,97,116,101]⟩,1,1),(⟨#[97,98,115]⟩,1,1),(⟨#[48,61]⟩,1,1),(⟨#[100,117,112]⟩,1,2),(⟨#[100,114,111,112]⟩,1,0),(⟨#[115,119,97,112]⟩,2,2),(⟨#[111,118,101,114]⟩,2,3),(⟨#[114,111,116]⟩,3,3),(⟨#[110,105,112]⟩,2,1),(⟨#[116,117,99,107]⟩,2,3),(⟨#[64]⟩,1,1),(⟨#[33]⟩,2,0),(⟨#[105,110]⟩,0,1),(⟨#[111,117,116]⟩,1,0),(⟨#[105]⟩,0,1),(⟨#[]⟩,0,1),(⟨#[]⟩,1,0),(⟨#[]⟩,0,0),(⟨#[]⟩,2,0),(⟨#[]⟩,0,0),(⟨#[]⟩,0,0),(⟨#[]⟩,0,0)]
def gU:List Value:=bW.flatMap fun x=>[.string x.1,.int .i64 x.2.1,.int .i64 x.2.2]
def H9(w:World)(g:Nat):Prop:=∃ev,w.cell? ⟨g,0,none⟩=some ev∧(ev=.nilIface∨∃te pe,ev=.iface te pe)
def lh(w:World):Prop:=(∃t f,w.heap[(0:Nat)]?=some (.cells gU.toArray t f))∧H9 w 1∧H9 w 2
theorem H9.lt{w:World}{g:Nat}(h:H9 w g):g<w.heap.size:=by
 obtain⟨ev,h1,_⟩:=h;exact World.block_lt_of_cell? w ⟨g,0,none⟩ h1
theorem lh.lt{w:World}(h:lh w):3≤w.heap.size:=by
 obtain⟨⟨t,f,h1⟩,h2,h3⟩:=h;have a:=(Array.getElem?_eq_some_iff.1 h1).1;have b:=h2.lt;have c:=h3.lt;omega
theorem lh.aA{S:Nat→Prop}{w w':World}(h:lh w)(hc:aj S w w')(hn:∀k,S k→3≤k):lh w':=by
 obtain⟨⟨t,f,h1⟩,h2,h3⟩:=h;have key:∀k,k<3→¬S k:=fun k hk hs=>by have:=hn k hs;omega
 refine⟨⟨t,f,(hc.block _ (Array.getElem?_eq_some_iff.1 h1).1 (key _ (by omega))).trans h1⟩,?_,?_⟩
 ·have hl:=h2.lt
  obtain⟨ev,a,b⟩:=h2;exact⟨ev,(hc.cell (p:=⟨1,0,none⟩) hl (key 1 (by omega))).trans a,b⟩
 ·have hl:=h3.lt
  obtain⟨ev,a,b⟩:=h3;exact⟨ev,(hc.cell (p:=⟨2,0,none⟩) hl (key 2 (by omega))).trans a,b⟩
theorem lh.below{w w':World}(h:lh w)(hc:Below w.heap.size w w'):lh w':=h.aA (aj.au (S:=fun _=>False) hc) (fun _ e=>e.elim)
theorem lh.cell{w:World}(h:lh w)(o:Nat)(v:Value)(hv:gU[o]?=some v):w.cell? ⟨0,o,none⟩=some v:=by
 obtain⟨⟨t,f,h⟩,_⟩:=h;simp[World.cell?,h,hv]
def ai(k:Nat):Inf:=⟨(bW.getD k (⟨#[]⟩,0,0)).2.1,(bW.getD k (⟨#[]⟩,0,0)).2.2 - (bW.getD k (⟨#[]⟩,0,0)).2.1,max 0 ((bW.getD k (⟨#[]⟩,0,0)).2.2 - (bW.getD k (⟨#[]⟩,0,0)).2.1),1,!(k == 29)⟩
theorem yl(k:Nat)(h:k<35):gU[k*3+0]?=some (.string (bW.getD k (⟨#[]⟩,0,0)).1)∧gU[k*3+1]?=some (.int .i64 (bW.getD k (⟨#[]⟩,0,0)).2.1)∧gU[k*3+2]?=some (.int .i64 (bW.getD k (⟨#[]⟩,0,0)).2.2):=by
 have hl:k<bW.length:=h;have key:=fun j hj=>flat_get (fun x:ByteArray×Int×Int=>[Value.string x.1,.int .i64 x.2.1,.int .i64 x.2.2]) 3 (fun _=>rfl) bW k j hl hj
 refine⟨?_,?_,?_⟩
 ·rw[gU,key 0 (by omega)];simp[hl]
 ·rw[gU,key 1 (by omega)];simp[hl]
 ·rw[gU,key 2 (by omega)];simp[hl]
theorem qL:∀k,k<35→0≤(bW.getD k (⟨#[]⟩,0,0)).2.1∧(bW.getD k (⟨#[]⟩,0,0)).2.1≤3∧0≤(bW.getD k (⟨#[]⟩,0,0)).2.2∧(bW.getD k (⟨#[]⟩,0,0)).2.2≤3:=by decide +kernel
attribute [local go_sem] oK
theorem ES(k:Nat)(t p:Int)(w:World)(RY:(k:Int)<35)(hk0:(0:Int)≤(k:Int))(hl:0<w.heap.size)
  (r1:w.cell? ⟨0,k*3+1,none⟩=some (.int .i64 t)) (r2:w.cell? ⟨0,k*3+2,none⟩=some (.int .i64 p))
  (d1:0≤t) (d2:t≤3) (d3:0≤p) (d4:p≤3):
  Calls Tryz.prog 137 #[.int .i64 k] w fun e w'=>e=.returned (.agg #[.int .i64 t,.int .i64 (p - t),.int .i64 (max 0 (p - t)),.int .i64 1,.bool ((k:Int) == 29)])∧Below w.heap.size w w':=by
 have hst:=fun w0=>Sj t p w0 d1 (by omega) d3 (by omega)
 simp only[Inf.tm,Inf.plain]at hst;have HST:=ast hst;clear hst;go_enter Tryz.func137,Tryz.ntmps137
 go_wp2_with fail
 obtain⟨W,hW⟩:=exq (w.alloc (.cells aV 151 (0,0)):World);have hB0:Below w.heap.size w W:=by rw[hW];exact brq.alloc nrq _
 have aa1:az W w.heap.size aV 151:=by rw[hW];exact ay w aV _
 have q1:=(hB0.cell (p:=⟨0,k*3+1,none⟩) hl).trans r1;have q2:=(hB0.cell (p:=⟨0,k*3+2,none⟩) hl).trans r2;have hB:=ast hB0;have hbk:=ast aa1;have hne:=dH.ne W.heap.size W aV 151 nrq;have hlW:=aa1.lt;have hcr:∀(S:Option Nat) (u:dH W.heap.size W aV 151 S),u.val.cell? ⟨0,k*3+1,none⟩=some (.int .i64 t):=fun S u=>u.cell q1 (World.block_lt_of_cell? W _ q1)
 have NP:∀(S:Option Nat) (u:dH W.heap.size W aV 151 S),u.val.cell? ⟨0,k*3+2,none⟩=some (.int .i64 p):=fun S u=>u.cell q2 (World.block_lt_of_cell? W _ q2)
 clear hB0 aa1
 show Code.wp _ _ _ _ (w.alloc (.cells aV 151 (0,0)))
 rw[←hW];clear hW;refine dR aV 151 9 (by kernel_rfl) (by kernel_rfl) rfl (fun _=>rfl) (fun a w=>by simp[go_sem,aV]) ?_;simp only[List.take_succ_cons,List.take_zero,List.drop_succ_cons,List.drop_zero]
 repeat (refine dQ (fun K hK=>?_);go_simp;first|(refine hK _ ?_;clear hK K)|(apply Exists.intro;refine⟨fun S u=>?_,hK _ ?_⟩;(go_at_call 177;exact dH.calls nrq u (HST.out _));clear hK K))
 refine eQ ?_;intro b1 w2 hb1 pM hblk;obtain⟨c0,c1,c2,c3,c4⟩:=hblk.zero;obtain⟨f0,f1,f2,f3,f4⟩:=hblk.free;have hlt2:=hblk.lt;have ae3:az w2 w.heap.size aV 151:=(pM.block _ hlW).trans hbk.out;have wY:b1≠w.heap.size:=by omega
 have apj:w.heap.size≠b1:=by omega
 have gK:=ast pM;have ajM:=ast hblk;have ajN:=ast ae3;clear hcr NP hne pM hblk ae3;obtain⟨W2,hW2⟩:=exq (((((w2.setCell ⟨b1,0,none⟩ (.int .i64 t)).setCell ⟨b1,1,none⟩ (.int .i64 (p - t))).setCell ⟨b1,2,none⟩ (.int .i64 (max 0 (p - t)))).setCell ⟨b1,3,none⟩ (.int .i64 1)).setCell ⟨b1,4,none⟩ (.bool false):World);have Ah:az W2 b1 #[.int .i64 t,.int .i64 (p - t),.int .i64 (max 0 (p - t)),.int .i64 1,.bool false] 151:=by rw[hW2];exact kM ajM.out _ _ _ _ _
 have ET:az W2 w.heap.size aV 151:=by
  rw[hW2];exact((((ajN.out.setOther wY _).setOther wY _).setOther wY _).setOther wY _).setOther wY _
 have Ht:Below W.heap.size W W2:=by
  rw[hW2];exact((((gK.out.setCell hb1 _).setCell hb1 _).setCell hb1 _).setCell hb1 _).setCell hb1 _
 have GZ:=ast Ht;go_simp
 go_upto_region 2 with fail
 rw[←hW2];clear hW2 c0 c1 c2 c3 c4 f0 f1 f2 f3 f4 Ht;obtain⟨W3,hW3⟩:=exq (W2.setCell ⟨b1,4,none⟩ (.bool ((k:Int) == 29)):World)
 have qM:az W3 b1 #[.int .i64 t,.int .i64 (p - t),.int .i64 (max 0 (p - t)),.int .i64 1,.bool ((k:Int) == 29)] 151:=by
  rw[hW3];have:=Ah.set (o:=4) (.bool ((k:Int) == 29));simpa using this
 have aa2:az W3 w.heap.size aV 151:=by rw[hW3];exact ET.setOther wY _
 have Zx:Below W.heap.size W W3:=by rw[hW3];exact GZ.out.setCell hb1 _
 have DF:=ast Zx;have f4:=Ah.frozen 4;have c4:=Ah.cell 4 _ rfl;simp only[List.getElem_toArray,List.getElem_cons_succ,List.getElem_cons_zero]at c4;clear Ah ET Zx;go_upto_region 3 with fail
 rw[←hW3];clear hW3 f4 c4;have c0:=qM.cell 0 _ rfl;have c1:=qM.cell 1 _ rfl;have c2:=qM.cell 2 _ rfl;have c3:=qM.cell 3 _ rfl;have c4:=qM.cell 4 _ rfl;simp only[List.getElem_toArray,List.getElem_cons_succ,List.getElem_cons_zero]at c0 c1 c2 c3 c4;obtain⟨g0,g1,g2,g3,g4⟩:=aa2.free;obtain⟨z0,z1,z2,z3,z4⟩:=aa2.zero;clear qM aa2;go_wp2_with fail
 refine bodyPost_ret (v:=.agg #[.int .i64 t,.int .i64 (p - t),.int .i64 (max 0 (p - t)),.int .i64 1,.bool ((k:Int) == 29)]) (by simp[results,Tryz.results137,go_sem,z0,z1,z2,z3,z4]) rfl ⟨rfl,?_⟩;have hs:=hB.out.size;exact((((((hB.out.trans (DF.out.mono hs)).setCell (by simp) _).setCell (by simp) _).setCell (by simp) _).setCell (by simp) _).setCell (by simp) _)
theorem dV(k:Nat)(w:World)(h1:k<35)(ht:lh w):
  Calls Tryz.prog 137 #[.int .i64 k] w fun e w'=>e=.returned (ai k).tm∧Below w.heap.size w w':=by
 obtain⟨_,e1,e2⟩:=yl k h1;obtain⟨d1,d2,d3,d4⟩:=qL k h1;refine(ES k _ _ w (by omega) (by omega) (by have:=ht.lt;omega) (ht.cell _ _ e1) (ht.cell _ _ e2) d1 d2 d3 d4).mono ?_;rintro e w1 ⟨rfl,h⟩;refine⟨?_,h⟩;have hb:((k:Int) == 29)=(k == 29):=by rw[Bool.eq_iff_iff,beq_iff_eq,beq_iff_eq];omega
 simp[ai,Inf.tm,hb]
end
section
open Go.RowKit
def lW(s:ByteArray):List (ByteArray×Int×Int)→Nat→Option Nat
 |[],_=>none
 |x :: l,k=>if(x.1.toList == s.toList)=true∧(s.toList == [])=false then some k else lW s l (k+1)
def fP(s:ByteArray):Option Nat:=lW s bW 0
def Oa:Option Nat→Value
 |some k=>.tuple #[.int .i64 k,.bool true]
 |none=>.tuple #[.int .i64 0,.bool false]
theorem vG{P:Program}{ops:Array Oper}{rest:List Oper}{op:Oper}{a:Act}{w:World}{Q:Exit→Act→World→Prop}(hgd:op.guard=none)(ty:TypeId)(x y:Operand)(ho:op.op=.index ty x y)
  (V:Array Value) (j:Nat) (hx:a.eval x=.agg V) (hy:a.eval y=.int .i64 j) (n:Nat) (e:TypeId) (d:TypeDesc) (hu:P.underlying ty=some (.array n e)) (hj:j<n)
  (k:Nat) (hk:(P.info? e).map (·.size)=some k) (he:P.underlying e=some d) (hd:d.isRow=true) (cs:Array Value) (hc:V.extract (j*k) (j*k+k)=cs) (hs:cs.size=k)
  (h:wpList P ops Q rest (a.put op.dst (.agg cs)) w):wpList P ops Q (op :: rest) a w:=by
 refine wpList_plain hgd fun K hK=>?_
 have h0:(0:Int)≤(j:Int)∧(j:Int)<(n:Int):=by omega
 have hr:(Instr.index ty (.agg V) (.int .i64 j)).run P w=.ok (.agg cs) w:=by
  cases hq:P.info? e with
  |none=>simp[hq]at hk
  |some i=>
   have hsz:i.size=k:=by simpa [hq]using hk
   unfold Instr.index;simp[asIntOf,Sem.run_bind,run_underlying hu,h0,part,isAgg,run_underlying he,sizeOf,typeInfo,hq,hsz,hc,hs];rw[if_pos hj]
   cases d<;>simp_all
 unfold Oper.wp execOp;simp only[ho,hx,hy,Sem.run_bind,hr];exact hK _ _ h
theorem yL(j:Nat)(h:j<35):gU.toArray.extract (j*3) (j*3+3)= #[.string (bW.getD j (⟨#[]⟩,0,0)).1,.int .i64 (bW.getD j (⟨#[]⟩,0,0)).2.1,.int .i64 (bW.getD j (⟨#[]⟩,0,0)).2.2]:=by
 obtain⟨e0,e1,e2⟩:=yl j h;have hl:gU.length=105:=by decide +kernel
 apply Array.ext_getElem?;intro i;rw[Array.getElem?_extract]
 by_cases hi:i<3
 ·rw[if_pos (by simp[hl];omega)]
  match i,hi with
  |0,_=>simpa using e0
  |1,_=>simpa using e1
  |2,_=>simpa using e2
 ·rw[if_neg (by simp[hl];omega),Array.getElem?_eq_none (by simp;omega)]
theorem wZ(s:ByteArray)(w:World)(ht:lh w):
  Calls Tryz.prog 192 #[.string s] w fun e w'=>e=.returned (Oa (fP s))∧Below w.heap.size w w':=by
 obtain⟨R,hR⟩:=exq (fP s);rw[←hR];have hrg:w.rangeAt 0 0 gU:=fun j v hv=>by simpa using ht.cell j v hv
 have HT:=ast ht;have HG:=ast hrg;have HR:=ast hR;clear hR ht hrg;go_enter Tryz.func192,Tryz.ntmps192
 go_upto_region 1 with fail
 refine wp_region_list ?_;refine wpList_load_mid rfl _ _ rfl 0 0 rfl gU _ HG.out Tryz.underlying263 rfl (by kernel_rfl) ?_;generalize hV:gU.toArray=V;have HV:=ast hV;clear hV;go_wp2_with fail
 go_loopw[7] (fun i wr=>∃j:Nat,j≤35∧i=.int .i64 j∧Below w.heap.size w wr∧Hid (R=lW s (bW.drop j) j)) (fun i _=>35 - (intOf i).toNat)
 case atStart=>exact⟨0,by omega,rfl,brq,HR⟩
 case round=>
  clear HR;obtain⟨j,hj,rfl,hb,HR⟩:=hrel;have HB:=ast hb;clear hb
  by_cases hz:j=35
  ·subst hz
   go_wp2_with fail
   refine bodyPost_ret (v:=.tuple #[.int .i64 0,.bool false]) (by simp[results,Tryz.results192,go_sem]) rfl ⟨?_,HB.out⟩;have hRn:R=none:=HR.out;rw[hRn];rfl
  ·have WQ:(j:Int)<35:=by omega
   have hj0:(0:Int)≤(j:Int):=by omega
   obtain⟨x,hx⟩:=exq (bW.getD j (⟨#[]⟩,0,0));have HX:=ast hx;have HJ:=ast hj;have HZ:=ast hz;clear hx hj hz;go_upto_region 3 with fail
   refine wp_region_list ?_;refine wpList_plain rfl fun K hK=>?_
   go_simp
   refine hK _ _ ?_;clear hK K;have hjn:j<35:=by have:=HJ.out;have:=HZ.out;omega
   have hex:V.extract (j*3) (j*3+3)= #[.string x.1,.int .i64 x.2.1,.int .i64 x.2.2]:=by rw[←HV.out,HX.out];exact yL j hjn
   refine vG rfl _ _ _ rfl V j rfl rfl 35 _ _ Tryz.underlying263 hjn 3 (by kernel_rfl) Tryz.underlying262 rfl _ hex rfl ?_
   have hdr:bW.drop j=x :: bW.drop (j+1):=by
    have h1:j<bW.length:=hjn;rw[HX.out,List.drop_eq_getElem_cons h1];simp[h1]
   have hst:R=if(x.1.toList == s.toList)=true∧(s.toList == [])=false then some j else lW s (bW.drop (j+1)) (j+1):=by
    rw[HR.out,hdr,lW]
   have HS:=ast hst;have hj5:(j:Int)≤34:=by omega
   clear hst hdr hex hjn HR HX;obtain⟨n,t,p⟩:=x;simp only[]at HS ⊢;go_simp
   by_cases hn:(n.toList == s.toList)=true
   ·by_cases he:(s.toList == [])=true
    ·go_wp2_with fail
     go_round
     case rel=>exact⟨j+1,by have:=HJ.out;have:=HZ.out;omega,by go_num,HB.out.alloc HB.out.size _,by have:=HS.out;rw[if_neg (by simp[he])]at this;exact this⟩
     case measure=>simp[intOf];omega
    ·have he2:(s.toList == [])=false:=by simpa using he
     clear he;go_wp2_with fail
     refine bodyPost_ret (v:=.tuple #[.int .i64 j,.bool true]) (by simp[results,Tryz.results192,go_sem]) rfl ⟨?_,HB.out.alloc HB.out.size _⟩;have hRn:R=some j:=by have:=HS.out;rw[if_pos ⟨hn,he2⟩]at this;exact this
     rw[hRn];rfl
   ·have hn2:(n.toList == s.toList)=false:=by simpa using hn
    clear hn;go_wp2_with fail
    go_round
    case rel=>exact⟨j+1,by have:=HJ.out;have:=HZ.out;omega,by go_num,HB.out.alloc HB.out.size _,by have:=HS.out;rw[if_neg (by simp[hn2])]at this;exact this⟩
    case measure=>simp[intOf];omega
end
end Go.Proofs.YtcphhbofjkenaaaGreatDoor
