import Derived.Test.YtcphhbofjkenaaaGreatDoorMy
import Derived.Test.YtcphhbofjkenaaaGreatDoorM10
namespace Go.Proofs.YtcphhbofjkenaaaGreatDoor
open Go Go.RowKit Proofs.Tryz
set_option linter.unusedVariables false
set_option linter.unusedSimpArgs false
set_option maxRecDepth 100000
set_option maxHeartbeats 16000000
variable{l:List AI}{sb base:Nat}{sv v:Value}{ws:List RW}{sc sk:Int}{w:World}{xs:List (Array Value)}{F:Nat→Prop}
section
open Go.RowKit
attribute [local go_sem] ui
theorem Rj{a b:Int}(h:lastTwo l=some (a,b)):∃m,∃h2:l.length=m+2,(l[m+1]' ag).num=some b∧(l[m]' ag).num=some a:=by
 obtain⟨h1,⟨i,_,h2⟩,⟨j,_,h3⟩⟩:=abT h;refine⟨l.length - 2,ag,?_,?_⟩
 ·have e:l.length - 1=l.length - 2+1:=by omega
  rw[e]at h3;have:=(cI.1 h3).2;rw[this]
 ·have:=(cI.1 h2).2
  rw[this]
theorem Wu(rb sb:Nat)(tv sv:Value)(ar:List Tk)(ws:List RW)(c k:Int)(I f:Nat)(fin A loops:Int)(base:Nat)(v:Value)(acc:List AI)(xs:List (Array Value))(F:Nat→Prop)(w:World)
  (hR:Rd w rb sb tv sv ar ws c k) (hb:ay w rb (aO sb tv I fin 0 A) 181) (hI:I<ar.length) (cM:dS sb sv ws c k w base v acc xs F) (hal:acc.length≤1100000) (a b:Int) (h2:lastTwo acc=some (a,b)) (hab:1000<a - b):
  Calls prog 169 #[ax rb,v,ae loops] w (yR rb sb tv sv ws c k fin A base v acc w (pLp ws ar fin f loops acc I)):=by
 have hr:pLp ws ar fin f loops acc I=.inr (7,cE ar fin I):=by unfold pLp;rw[h2];simp only;rw[aG hab]
 rw[hr];obtain⟨ad,cap,hv,hcap,hmax⟩:=bo cM.row;obtain⟨r0,r1,r2,r3,r4,r5⟩:=hb.aO;have rM:=hR.few;have HX:=af (fun w' (h:aq (fun k=>k=rb∧False) w w')=>su rb sb tv ar I I fin A 7 w' ag ag (hb.aB h (fun e=>e.2)) (hR.aB (h.mono (fun _ _ e=>e.1))).tok hR.tr)
 have Ap:∀(w1:World),ay w1 rb (aO sb tv I fin 7 (cE ar fin I)) 181→aq (fun k=>k=rb) w w1→yR rb sb tv sv ws c k fin A base v acc w (.inr (7,cE ar fin I)) (.returned v) w1:=fun w1 h1 h2=>
  ⟨ad,acc.length,cap,I,by rw[hv],aj,h1,h2.mono (fun k _ e=>aC e)⟩
 have u6:=af Ap;clear Ap;obtain⟨m,hm,h3,h4⟩:=Rj h2;obtain⟨g,cap',hv',_,hg,_,_,hcell⟩:=cd cM.row ag;rw[hv]at hv';obtain⟨rfl,rfl⟩:ad=some (ai g 0)∧cap=cap':=vA;obtain⟨x,hx,_,hk,hcc⟩:=cM.look hv m ag;obtain⟨y,hy,_,hky,rO⟩:=cM.look hv (m+1) ag;obtain⟨hkx,ba1,ba2⟩:=zT hk h4;obtain⟨hkz,bb1,bb2⟩:=zT hky h3;have c0:=hcc 0 (ae 1) (by rw[hkx];rfl);have c1:=hcc 1 (ae a) (by rw[hkx];rfl);have d0:=rO 0 (ae 1) (by rw[hkz];rfl);have d1:=rO 1 (ae b) (by rw[hkz];rfl);obtain⟨p,hp⟩:=ak (m+1);rw[←hp]at d0 d1;rw[Nat.add_zero]at c0 d0;have c0n:w.cell? (ai g ((acc.length - 2)*5))=some (ae 1):=Fw;have c1n:w.cell? (ai g ((acc.length - 2)*5+1))=some (ae a):=Po;have hge:¬(acc.length:Int)<2:=ag;have e1:(acc.length:Int) - 1=(p:Int):=ag;have e2:(p:Int)<(acc.length:Int):=ag;have e3:(0:Int)≤(p:Int):=ag;have e4:(acc.length:Int) - 2=(m:Int):=ag;have e5:(m:Int)<(acc.length:Int):=ag;have e6:(0:Int)≤(m:Int):=ag;have e7:(p:Int)≤1100000:=ag;have e8:(m:Int)≤1100000:=ag;subst hv;clear hr h2 cM hR hb h3 hm hp hk hcc hcell hx hv' hy hky rO h4 hkx hkz;go_enter func169,ntmps169;go_wp2_with fail;go_quiet (fail);go_wp2_with fail;have h0:aq (fun k=>k=rb∧False) w (w.drewN nq):=⟨rfl,rfl,rfl,aH,fun _ _ _=>rfl⟩;refine(HX _ h0).mono ?_;rintro e w1 ⟨rfl,hb1,hc1⟩;have H1:=af hb1;have H2:=af ((h0.mono (fun _ _ e=>e.1)).trans hc1);clear HX hb1 hc1 h0;go_wp2_with fail
 go_ret
 exact u6 _ H1 H2
theorem dS.mH{w':World}
  (h:dS sb sv ws sc sk w base v l xs F) {S:Nat→Prop} (hc:aq S w w') (hs:∀k,(F k∨v.ownBlock=some k)→¬S k):dS sb sv ws sc sk w' base v l xs F:=
 ⟨h.len,aR h.row hc (fun k hk=>hs k (aA hk)),h.shape,h.kind,fun k hk=>⟨(h.fp k hk).1,bF (h.fp k hk).2.1 hc.size,(h.fp k hk).2.2⟩,
  fun i x a h1 h2=>(h.ok i x a h1 h2).mono (fun _=>id) (fun k hk=>hc.block k (h.fp k hk).2.1 (hs k (aC hk)))⟩
theorem dS.lt
  (h:dS sb sv ws sc sk w base v l xs F) {k:Nat} (hk:F k∨v.ownBlock=some k):base≤k∧k<w.heap.size:=by
 rcases hk with hk|hk
 ·exact⟨(h.fp k hk).1,(h.fp k hk).2.1⟩
 ·exact⟨cR h.row hk,cJ h.row hk⟩
theorem RF(W:World)(x y:Array Value)(t s:TypeId):Below W.heap.size W ((W.alloc (.cells x t (0,0))).alloc (.cells y s (0,0))).drew∧ay ((W.alloc (.cells x t (0,0))).alloc (.cells y s (0,0))).drew W.heap.size x t∧ay ((W.alloc (.cells x t (0,0))).alloc (.cells y s (0,0))).drew (W.heap.size+1) y s:=by
 refine⟨(((Below.refl _ W).alloc aH _).alloc aF _).drew,((bJ W x t).alloc _).drew,?_⟩;have:=bJ (W.alloc (.cells x t (0,0))) y s;simpa using this.drew
theorem qd(W:World)(x:Array Value)(t:TypeId):∀(j:Nat) (u:Value),x.toList[j]?=some u→(W.alloc (.cells x t (0,0))).cell? ((Addr.mk W.heap.size 0 none).add j)=some u:=World.news_of_block (fr:=(0,0)) (heap_alloc_new W _)
theorem Tryz.E8:(prog.info? 249).map (fun i=>(i.zero,i.size,i.bytes))=some (some (.agg dR),5,80):=aP
theorem vz{x:Array Value}(h:five x):∀u∈x.toList,u.oneCell'=true:=by
 obtain⟨k,n,s,a1,n1,c1,a2,n2,c2,rfl⟩:=h;intro u hu;simp only[er,List.not_mem_nil,or_false]at hu;rcases hu with rfl|rfl|rfl|rfl|rfl<;>rfl
def yo(a b:Int):Array Value:= #[ae 1,ae a,.string ⟨#[]⟩,aI,aI,ae 1,ae b,.string ⟨#[]⟩,aI,aI]
def fN(gb:Nat)(v:Value):Array Value:= #[ae 6,ae 0,.string ⟨#[]⟩,v,aD gb 2 2]
theorem ref_loop_go(n:Nat)(ih:yy n)(rb sb:Nat)(tv sv:Value)(ar:List Tk)(ws:List RW)(c k:Int)(I f:Nat)(fin A loops:Int)(base:Nat)(v:Value)(acc:List AI)(xs:List (Array Value))(F:Nat→Prop)(w:World)
  (hR:Rd w rb sb tv sv ar ws c k) (hb:ay w rb (aO sb tv I fin 0 A) 181) (hn:ar.length+1 - (I+1)≤n) (hf:ar.length+1 - (I+1)≤f) (hI:I<ar.length) (hl:0≤loops) (hl2:loops+1+(ar.length+1 - (I+1):Nat)≤10000000)
  (cM:dS sb sv ws c k w base v acc xs F) (hrb:rb<base) (fU:base≤w.heap.size) (hal:acc.length≤1100000) (a b:Int) (h2:lastTwo acc=some (a,b)) (hab:¬1000<a - b):
  Calls prog 169 #[ax rb,v,ae loops] w (yR rb sb tv sv ws c k fin A base v acc w (pLp ws ar fin f loops acc I)):=by
 obtain⟨R,hr⟩:=ak (pLp ws ar fin f loops acc I);rw[←hr]
 have hr':R=(match pItems ws ar fin f [jV] (loops+1) [] (I+1)with
   |.inr r=>.inr r
   |.inl (la,_,I1)=>if(bS la).aM=0 then .inl (⟨none,(Inf.plain 2 0).then ((bS la).times (max 0 (a - b))),.kY (trees la)⟩,I1)else .inr (6,cE ar fin (I1 - 1))):=by
  rw[hr,pLp,h2];simp only;rw[az hab];rfl
 have HRR:=af hr';obtain⟨ad,cap,hv,hcap,hmax⟩:=bo cM.row;obtain⟨r0,r1,r2,r3,r4,r5⟩:=hb.aO;have kB:=hb.frozen 2;have rM:=hR.few;obtain⟨m,hm,h3,h4⟩:=Rj h2;obtain⟨g,cap',hv',hgb,hg,_,_,hcell⟩:=cd cM.row ag;rw[hv]at hv';obtain⟨rfl,rfl⟩:ad=some (ai g 0)∧cap=cap':=vA;obtain⟨x,hx,_,hk,hcc⟩:=cM.look hv m ag;obtain⟨y,hy,_,hky,rO⟩:=cM.look hv (m+1) ag;obtain⟨hkx,ba1,ba2⟩:=zT hk h4;obtain⟨hkz,bb1,bb2⟩:=zT hky h3;obtain⟨p,hp⟩:=ak (m+1);have hgr:g≠rb:=ag;have c0:=hcc 0 (ae 1) (by rw[hkx];rfl);have c1:=hcc 1 (ae a) (by rw[hkx];rfl);have d0:=rO 0 (ae 1) (by rw[hkz];rfl);have d1:=rO 1 (ae b) (by rw[hkz];rfl);have kG:=af hcc;have kN:=af rO;have bz:=af hkx;have lL:=af hkz;rw[←hp]at d0 d1;rw[Nat.add_zero]at c0 d0;have c0n:w.cell? (ai g ((acc.length - 2)*5))=some (ae 1):=Fw;have c1n:w.cell? (ai g ((acc.length - 2)*5+1))=some (ae a):=Po;have hge:¬(acc.length:Int)<2:=ag;have e1:(acc.length:Int) - 1=(p:Int):=ag;have e2:(p:Int)<(acc.length:Int):=ag;have e3:(0:Int)≤(p:Int):=ag;have e4:(acc.length:Int) - 2=(m:Int):=ag;have e5:(m:Int)<(acc.length:Int):=ag;have e6:(0:Int)≤(m:Int):=ag;have e7:(p:Int)≤1100000:=ag;have e8:(m:Int)≤1100000:=ag;have e9:(I:Int)≤1100000:=ag;have e10:(0:Int)≤(I:Int):=ag;have e11:loops≤10000000:=ag;have HR:=af hR;have HB:=af hb;have Bp:=af cM;have HV:=af hv;have HP:=af hp;have HN:=af hn;have HF:=af hf;have HM:=af hm;have IH:=af ih;have HIW:=af hI;have HL2:=af hl2;subst hv;clear hr hr' h2 cM hR hb h3 hm hp hk hcc hcell hx hv' hy hky rO h4 hkx hkz hn hf hI hl2 ih;go_enter func169,ntmps169
 go_wp2_with fail
 go_quiet (fail)
 go_upto_region 9 with fail
 obtain⟨W,hWd⟩:=ak ((w.drewN nq).setCell (ai rb 2) (ae ((I:Int)+1)):World);rw[←hWd];have h0:aq (fun b=>b=rb) w (w.drewN nq):=⟨rfl,rfl,rfl,aH,fun _ _ _=>rfl⟩;have hbq:ay (w.drewN nq) rb (aO sb tv I fin 0 A) 181:=HB.out;have hCW:aq (fun b=>b=rb) w W:=by rw[hWd];exact h0.setCell (p:=ai rb 2) rfl _
 have hsW:W.heap.size=w.heap.size:=Jf;have hbW:ay W rb (aO sb tv ((I+1:Nat):Int) fin 0 A) 181:=by rw[hWd];have:=hbq.set (o:=2) (ae ((I:Int)+1));simpa [aO]using this
 have Lm:=Bp.move hCW (fun k hk e=>ag);have gU:=af Lm;have dW:=af hCW;have bu:=af hbW;clear hWd h0 hbq hCW hbW Lm;have k0:W.cell? (ai g (m*5))=some (ae 1):=(dW.cell (p:=ai g (m*5)) hg hgr).trans c0;have k1:W.cell? (ai g (m*5+1))=some (ae a):=(dW.cell (p:=ai g (m*5+1)) hg hgr).trans c1;have k2:W.cell? (ai g (m*5+2))=some (.string ⟨#[]⟩):=(dW.cell (p:=ai g (m*5+2)) hg hgr).trans (kG 2 _ (by rw[bz.out];rfl));have k3:W.cell? (ai g (m*5+3))=some aI:=(dW.cell (p:=ai g (m*5+3)) hg hgr).trans (kG 3 _ (by rw[bz.out];rfl));have k4:W.cell? (ai g (m*5+4))=some aI:=(dW.cell (p:=ai g (m*5+4)) hg hgr).trans (kG 4 _ (by rw[bz.out];rfl));have j0:W.cell? (ai g (p*5))=some (ae 1):=(dW.cell (p:=ai g (p*5)) hg hgr).trans d0;have j1:W.cell? (ai g (p*5+1))=some (ae b):=(dW.cell (p:=ai g (p*5+1)) hg hgr).trans d1;have j2:W.cell? (ai g (p*5+2))=some (.string ⟨#[]⟩):=by rw[HP.out];exact(dW.cell (p:=ai g ((m+1)*5+2)) hg hgr).trans (kN 2 _ (by rw[lL.out];rfl))
 have j3:W.cell? (ai g (p*5+3))=some aI:=by rw[HP.out];exact(dW.cell (p:=ai g ((m+1)*5+3)) hg hgr).trans (kN 3 _ (by rw[lL.out];rfl))
 have j4:W.cell? (ai g (p*5+4))=some aI:=by rw[HP.out];exact(dW.cell (p:=ai g ((m+1)*5+4)) hg hgr).trans (kN 4 _ (by rw[lL.out];rfl))
 have hgW:g<W.heap.size:=ag;have k0n:W.cell? (ai g ((acc.length - 2)*5))=some (ae 1):=by rw[show acc.length - 2=m by omega];exact k0
 have k1n:W.cell? (ai g ((acc.length - 2)*5+1))=some (ae a):=by rw[show acc.length - 2=m by omega];exact k1
 have k2n:W.cell? (ai g ((acc.length - 2)*5+2))=some (.string ⟨#[]⟩):=by rw[show acc.length - 2=m by omega];exact k2
 have k3n:W.cell? (ai g ((acc.length - 2)*5+3))=some aI:=by rw[show acc.length - 2=m by omega];exact k3
 have k4n:W.cell? (ai g ((acc.length - 2)*5+4))=some aI:=by rw[show acc.length - 2=m by omega];exact k4
 clear c0 c1 d0 d1 r0 r1 r2 r3 r4 r5 kB c0n c1n;go_cut [8] (fun s8 wx=>∃xb gb:Nat,s8=ax xb∧w.heap.size≤xb∧w.heap.size≤gb∧xb≠gb∧Below w.heap.size W wx∧ay wx xb (fN gb aI) 249∧ay wx gb (yo a b) 249)
 case first=>
  have T1:=af (RF W (yo a b) (fN w.heap.size aI) 249 249);have T2:=af (RF W (fN (w.heap.size+1) aI) (yo a b) 249 249);rw[hsW]at T1 T2;go_region
  ·go_wp2_with fail
   go_meet
   exact⟨w.heap.size+1,w.heap.size,rfl,ag,ag,ag,T1.out.1,T1.out.2.2,T1.out.2.1⟩
  ·go_wp2_with fail
   go_meet
   exact⟨w.heap.size,w.heap.size+1,rfl,ag,ag,ag,T2.out.1,T2.out.2.1,T2.out.2.2⟩
 case rest=>
  obtain⟨xb,gb,rfl,hx1,hx2,hxg,bL,gm,hbg⟩:=hcut;obtain⟨i0,hi,hz0,hz1,hz2⟩:=info_parts Tryz.E8;have sF:rb<w.heap.size:=HB.lt;have rN:Below W.heap.size W wc:=by rw[hsW];exact bL
  have LG:ay wc rb (aO sb tv ((I+1:Nat):Int) fin 0 A) 181:=(bL.block _ sF).trans bu;have Ev:aq (fun b=>b=rb) w wc:=dW.trans (aq.bf rN);have hV:aq (fun b=>b=rb) w (wc.alloc (.cells #[.string jV] 9 (0,0))):=Ev.alloc _;have Nj:dS sb sv ws c k wc base (aD g acc.length cap) acc xs F:=gU.mH (aq.bf (S:=fun _=>False) rN) (fun _ _=>id)
  have hI2:=IH.out rb sb tv sv ar ws c k (I+1) f fin A (loops+1) [jV] wc.heap.size 1 _ (HR.aB hV) (LG.alloc _) HN HF HIW ag HL2 aj aj (by have:=Ev.size;omega) (by
   intro j hj;have hj0:j=0:=by simp at hj;omega
   subst hj0;simp)
  have hxc:xb<wc.heap.size:=gm.lt;have hgc:gb<wc.heap.size:=hbg.lt;have HI2:=af hI2;have bT:=af gm;have HBG:=af hbg;have HV:=af hV;have adX:=af Nj;have N6:∀k,(F k∨(aD g acc.length cap).ownBlock=some k)→base≤k∧k<w.heap.size:=fun k hk=>by have:=Bp.lt hk;exact this
  have adZ:=af N6;clear hI2 bL rN LG Ev hV gm hbg Nj k0 k1 k2 k3 k4 j0 j1 j2 j3 j4 k0n k1n k2n k3n k4n N6;go_wp2_with fail;refine HI2.mono ?_;clear HI2;intro e w5 hP;obtain⟨pp,p8⟩:=ak (pItems ws ar fin f [jV] (loops+1) [] (I+1));have hR2:=HRR.out;rw[←p8]at hR2 hP;have jY:=af p8;clear p8 HRR;rcases pp with ⟨la,ta,I1⟩|⟨E,P⟩
  ·obtain⟨v2,xs2,F2,rfl,cZ,dG,qN⟩:=hP
   obtain⟨bI,bq,rfl,Td,Vb⟩:=bo qN.row;have oL:=wk ws ar fin HR.wok f [jV] (loops+1) [] (I+1) _ _ _ jY.symm CR (fQ.nil 0);simp only[List.length_nil,Nat.zero_add]at oL;have H5:=af oL;have hq3:I+1<I1:=oL.1;have hq4:I1≤ar.length:=oL.2.1;have hs5:wc.heap.size+1≤w5.heap.size:=Gp;obtain⟨X,oA⟩:=ak (w5.setCell (ai xb 3) (.slice bI la.length bq):World);have gS:aq (fun b=>b=xb) w5 X:=Lv;have nO:X.heap.size=w5.heap.size:=F6;have uz:ay w5 xb (fN gb aI) 249:=(bT.alloc _).aB dG ag;have f3:=uz.frozen 3;have x3':w5.cell? (ai xb 3)=some aI:=uz.cell 3 _ rfl
   have gm:ay X xb (fN gb (.slice bI la.length bq)) 249:=by
    rw[oA];have:=uz.set (o:=3) (.slice bI la.length bq);simpa [fN]using this
   have hbg:ay X gb (yo a b) 249:=((HBG.alloc _).aB dG ag).aB gS ag;have hbr:ay X rb (aO sb tv I1 fin 0 A) 181:=cZ.aB gS ag;have pd:aq (fun b=>b=rb) w X:=(HV.trans dG).qA (gS.mono (fun k _ hk=>ag))
   have xP:∀b,(F2 b∨(Value.slice bI la.length bq).ownBlock=some b)→wc.heap.size+1≤b∧b<w5.heap.size:=fun b hb=>by
    have:=qN.lt hb;simpa using this
   have wH:dS sb sv ws c k X base (aD g acc.length cap) acc xs F:=(Bp.move pd (fun k hk e=>ag));have Fh:=qN.mH gS (fun k hk e=>by have:=xP k hk;omega)
   have hall:∀w',Below X.heap.size X w'→Calls prog 130 #[ax sb,.slice bI la.length bq] w' fun e w''=>e=.returned (bS la).val∧Below w'.heap.size w' w'':=fun w' hb'=>
    Fh.later oL.2.2.2 ag (by have:=oL.2.2.1;omega) X (fun k _=>rfl) (aA trivial) (HR.aB pd).sys w' hb'
   obtain⟨pa,hpa⟩:∃p,p=bS la:=⟨_,rfl⟩;simp only at hR2;rw[←hpa]at hR2;have qu:=af hpa
   have yM:∀w',Below X.heap.size X w'→Calls prog 130 #[ax sb,.slice bI la.length bq] w' fun e w''=>e=.returned (.agg #[ae pa.need,ae pa.aM,ae pa.high,ae pa.steps,.bool pa.str])∧Below w'.heap.size w' w'':=by
    rw[hpa];exact hall
   obtain⟨r0,r1,r2,r3,r4,r5⟩:=cZ.aO;have sq:=af yM;have uZ:=af gm;have B3:=af hbg;have fE:=af hbr;have eN:=af pd;have DD:=af xP;have wQ:=af wH;have Av:=af Fh;have HR2:=af hR2;clear hall yM hpa gm hbg hbr pd xP wH Fh qN dG cZ oL uz gS hR2;go_wp2_with fail;rw[←oA];have jq:=af nO;clear oA r0 r1 r2 r3 r4 r5 x3' f3 nO;obtain⟨r0,r1,r2,r3,r4,r5⟩:=fE.aO;have x3:X.cell? (ai xb 3)=some (.slice bI la.length bq):=uZ.cell 3 _ rfl;have hne:=cz.ne X.heap.size X bR 36 aH;have hcr:∀(S:Option Nat) (u:cz X.heap.size X bR 36 S),u.val.cell? (ai rb 0)=some (ax sb):=fun S u=>u.cell r0 (dD X _ r0)
   have oK:∀(S:Option Nat) (u:cz X.heap.size X bR 36 S),u.val.cell? (ai xb 3)=some (.slice bI la.length bq):=fun S u=>u.cell x3 (dD X _ x3)
   refine ur bR 36 7 aP aP rfl (fun _=>rfl) (fun a w=>zS) ?_;simp only[List.take_succ_cons,List.take_zero,List.drop_succ_cons,List.drop_zero]
   repeat (refine uB (fun K hK=>?_);go_simp;first|(refine hK _ ?_;clear hK K)|(apply Exists.intro;refine⟨fun S u=>?_,hK _ ?_⟩;(go_at_call 130;exact cz.calls aH u (sq _ u.below));clear hK K))
   refine uU ?_;intro b1 w2 hb1 qg hblk;obtain⟨d0,d1,d2,d3,d4⟩:=hblk.zero;obtain⟨g0,g1,g2,g3,g4⟩:=hblk.free;have hlt2:=hblk.lt;obtain⟨Y,hY⟩:=ak (((((w2.setCell (ai b1 0) (ae pa.need)).setCell (ai b1 1) (ae pa.aM)).setCell (ai b1 2) (ae pa.high)).setCell (ai b1 3) (ae pa.steps)).setCell (ai b1 4) (.bool pa.str):World);have O4:ay Y b1 pa.arr 36:=by rw[hY];exact vR hblk _ _ _ _ _
   have Mo:Below X.heap.size X Y:=by rw[hY];exact((((qg.setCell hb1 _).setCell hb1 _).setCell hb1 _).setCell hb1 _).setCell hb1 _
   have px:=af O4;have cx:=af Mo;clear hcr oK hne hblk qg O4 Mo r0 r1 r2 r3 r4 r5 x3;go_simp;go_upto_region 14 with fail
   rw[←hY];clear hY d0 d1 d2 d3 d4 g0 g1 g2 g3 g4;have hsY:=cx.size;have hCY:aq (fun b=>b=rb) w Y:=eN.trans (aq.bf cx);have Gs:ay Y rb (aO sb tv I1 fin 0 A) 181:=(cx.block _ fE.lt).trans fE;have QW:ay Y xb (fN gb (.slice bI la.length bq)) 249:=(cx.block _ uZ.lt).trans uZ;have Mj:ay Y gb (yo a b) 249:=(cx.block _ B3.lt).trans B3;have K6:=wQ.mH (aq.bf (S:=fun _=>False) cx) (fun _ _=>id);obtain⟨m0,m1,m2,m3,m4⟩:=px.inf;obtain⟨r0,r1,r2,r3,r4,r5⟩:=Gs.aO;have kN:=af hCY;have Iw:=af Gs;have zG:=af QW;have adR:=af Mj;have YY:=af K6;clear hCY Gs QW Mj K6;have hwX:w.heap.size≤X.heap.size:=eN.size
   by_cases ei:pa.aM=0
   ·have hnb:(pa.aM != 0)=false:=by simpa using ei
    have HRe:Hid (R=.inl (⟨none,(Inf.plain 2 0).then (pa.times (max 0 (a - b))),.kY (trees la)⟩,I1)):=by show R=_;rw[HR2.out,aG ei]
    clear ei;have x0:Y.cell? (ai xb 0)=some (ae 6):=zG.cell 0 _ rfl;have x1:Y.cell? (ai xb 1)=some (ae 0):=zG.cell 1 _ rfl;have x2:Y.cell? (ai xb 2)=some (.string ⟨#[]⟩):=zG.cell 2 _ rfl;have x3:Y.cell? (ai xb 3)=some (.slice bI la.length bq):=zG.cell 3 _ rfl;have x4:Y.cell? (ai xb 4)=some (aD gb 2 2):=zG.cell 4 _ rfl;have lX:=af (YY.mH ((aq.refl (fun _=>False) Y).alloc (.cells (fN gb (.slice bI la.length bq)) 249 (0,0))) (fun _ _=>id));have mq:=af (qd Y (fN gb (.slice bI la.length bq)) 249);have pY:=af (vz (x:=fN gb (.slice bI la.length bq)) ⟨6,0,⟨#[]⟩,bI,la.length,bq,some (ai gb 0),2,2,rfl⟩);have pL:=af (show acc.length+1≤maxLen by unfold maxLen;omega);have o7:=af (show(acc.length+1)*80≤140737488355328 by omega);have pC:=af (show base≤(Y.alloc (.cells (fN gb (.slice bI la.length bq)) 249 (0,0))).heap.size by simp;omega);have ou:=af (show(Y.alloc (.cells (fN gb (.slice bI la.length bq)) 249 (0,0))).heap.size=Y.heap.size+1 by simp);go_wp2_with (at_builtin;refine wpList_append_lies _ rfl _ _ 184 rfl base 249 i0 (.agg dR) 5 80 underlying184 hi hz0 hz1 hz2 rfl aj _ acc.length (xs.flatMap Array.toList) rfl lX.row (ai Y.heap.size 0) 1 1 (fN gb (.slice bI la.length bq)).toList rfl rfl mq pY aj pL o7 pC (Y.heap.size+1) ou ?_);intro g2 lH w6 hown hgrow hat zA;clear x0 x1 x2 x3 x4 m0 m1 m2 m3 m4 r0 r1 r2 r3 r4 r5;have uR:=af hown;have lT:=af hgrow;have Bg:=af hat;clear hown hgrow hat;go_wp2_with fail;go_ret;rw[HRe.out];have hsz:=lT.size;refine⟨_,xs++[fN gb (.slice bI la.length bq)],fun k=>F k∨((F2 k∨(Value.slice bI la.length bq).ownBlock=some k)∨k=gb),rfl,?_,?_,?_⟩
    ·exact(lT.block rb (by have:=Iw.lt;simp;omega) Dl).trans ((Iw.alloc _))
    ·exact((kN.alloc _).mono (fun k _ e=>aC e)).trans ((aq.dP lT).mono (fun k _ e=>aA e.symm))
    ·have MI:∀k,((F2 k∨(Value.slice bI la.length bq).ownBlock=some k)∨k=gb)→w.heap.size≤k∧k<X.heap.size:=by
      rintro k (hk|rfl)
      ·have:=DD.out k hk;have:=eN.size;have:=jq.out;exact⟨ag,ag⟩
      ·exact⟨hx2,B3.lt⟩
     refine lX.snoc (G:=fun k=>(F2 k∨(Value.slice bI la.length bq).ownBlock=some k)∨k=gb) ⟨6,0,⟨#[]⟩,bI,la.length,bq,some (ai gb 0),2,2,rfl⟩ ⟨6,rfl,aj⟩ (fun k hk=>?_) ?_ uR lT ?_
     ·have:=MI k hk
      exact⟨ag,aK,Dl⟩
     ·intro w' hF
      have um:∀k,((F2 k∨(Value.slice bI la.length bq).ownBlock=some k)∨k=gb)→w'.heap[k]?=X.heap[k]?:=fun k hk=>by
       have hlo:=MI k hk;rw[hF k hk,Below.heap_alloc Y _ k ag,cx.block k hlo.2]
      obtain⟨t1,t2⟩:=Av.A2 w' (fun k hk=>um k (aC hk));refine⟨.kY _ _ _ _ _ _ (t1.mono (fun k _ hk _=>⟨aC hk,rfl⟩)) (fun i t ht=>(t2 i t ht).mono (fun k _ hk _=>⟨aC hk,rfl⟩)),fun iD=>?_⟩;have Pj:ay w' gb (yo a b) 249:=(um gb (aA rfl)).trans B3;have sw:=H5.out.2.2.2;have hA:=fun w2 hb=>Av.later sw (by have:=H5.out.2.1;omega) (by have:=H5.out.2.2.1;have:=H5.out.2.1;omega) w' (fun k hk=>um k (aC hk)) (aA trivial) iD w2 hb
      rw[←qu.out]at hA;have hwt:pa.Ok:=by rw[qu.out];exact(wS sw).ok ag (by have:=H5.out.2.1;omega)
      exact WT sb _ _ _ gb 2 a b rfl rfl rfl pa hwt w' ag ba1 ba2 bb1 bb2 ag (Pj.cell 1 _ rfl) (Pj.cell 6 _ rfl) hA
     ·rcases Bg with h|h
      ·exact aC (by simp[Value.ownBlock]at h ⊢;omega)
      ·exact aA (by simp[Value.ownBlock,h])
   ·have hnb:(pa.aM != 0)=true:=by simpa using ei
    have HRe:Hid (R=.inr (6,cE ar fin (I1 - 1))):=by show R=_;rw[HR2.out,az ei]
    clear ei;have b1':(I1:Int)≤1100000:=ag;have b2':(1:Int)≤(I1:Int):=ag;go_wp2_with fail;have Ns:(I1:Int) - 1=((I1 - 1:Nat):Int):=ag;rw[Ns];have sI:=HR.aB kN;refine(su rb sb tv ar (I1 - 1) I1 fin A 6 Y ag ag Iw sI.tok sI.tr).mono ?_;rintro e w7 ⟨rfl,iU,gP⟩;have xX:ay w7 xb (fN gb (.slice bI la.length bq)) 249:=zG.aB gP ag;have hC7:=kN.trans gP;have JC:=Bp.move hC7 (fun k hk e=>ag);have mO:=af iU;have HC7:=af hC7;have WX:=af JC;clear Ns sI iU gP hC7 JC m0 m1 m2 m3 m4 r0 r1 r2 r3 r4 r5;have x0:w7.cell? (ai xb 0)=some (ae 6):=xX.cell 0 _ rfl;have x1:w7.cell? (ai xb 1)=some (ae 0):=xX.cell 1 _ rfl;have x2:w7.cell? (ai xb 2)=some (.string ⟨#[]⟩):=xX.cell 2 _ rfl;have x3:w7.cell? (ai xb 3)=some (.slice bI la.length bq):=xX.cell 3 _ rfl;have x4:w7.cell? (ai xb 4)=some (aD gb 2 2):=xX.cell 4 _ rfl;have hs7:base≤w7.heap.size:=by have:=HC7.size;omega
    have lX:=af (WX.mH ((aq.refl (fun _=>False) w7).alloc (.cells (fN gb (.slice bI la.length bq)) 249 (0,0))) (fun _ _=>id));have mq:=af (qd w7 (fN gb (.slice bI la.length bq)) 249);have pY:=af (vz (x:=fN gb (.slice bI la.length bq)) ⟨6,0,⟨#[]⟩,bI,la.length,bq,some (ai gb 0),2,2,rfl⟩);have pL:=af (show acc.length+1≤maxLen by unfold maxLen;omega);have o7:=af (show(acc.length+1)*80≤140737488355328 by omega);have pC:=af (show base≤(w7.alloc (.cells (fN gb (.slice bI la.length bq)) 249 (0,0))).heap.size by simp;omega);have ou:=af (show(w7.alloc (.cells (fN gb (.slice bI la.length bq)) 249 (0,0))).heap.size=w7.heap.size+1 by simp);clear xX;go_wp2_with (at_builtin;refine wpList_append_lies _ rfl _ _ 184 rfl base 249 i0 (.agg dR) 5 80 underlying184 hi hz0 hz1 hz2 rfl aj _ acc.length (xs.flatMap Array.toList) rfl lX.row (ai w7.heap.size 0) 1 1 (fN gb (.slice bI la.length bq)).toList rfl rfl mq pY aj pL o7 pC (w7.heap.size+1) ou ?_);intro g2 lH w6 hown hgrow hat zA;clear x0 x1 x2 x3 x4 hown hat;have lT:=af hgrow;clear hgrow;go_wp2_with fail;go_ret;rw[HRe.out];refine⟨_,_,_,I1,rfl,aj,?_,?_⟩
    ·exact(lT.block rb (by have:=mO.lt;simp;omega) Dl).trans ((mO.alloc _))
    ·exact((HC7.alloc _).mono (fun k _ e=>aC e)).trans ((aq.dP lT).mono (fun k _ e=>aA e.symm))
  ·obtain⟨bI,n2,bq,I',rfl,hE,cZ,dG⟩:=hP
   have hs5:wc.heap.size+1≤w5.heap.size:=Gp;obtain⟨X,oA⟩:=ak (w5.setCell (ai xb 3) (.slice bI n2 bq):World);have gS:aq (fun b=>b=xb) w5 X:=Lv;have nO:X.heap.size=w5.heap.size:=F6;have uz:ay w5 xb (fN gb aI) 249:=(bT.alloc _).aB dG ag;have f3:=uz.frozen 3;have x3':w5.cell? (ai xb 3)=some aI:=uz.cell 3 _ rfl
   have gm:ay X xb (fN gb (.slice bI n2 bq)) 249:=by
    rw[oA];have:=uz.set (o:=3) (.slice bI n2 bq);simpa [fN]using this
   have hbr:ay X rb (aO sb tv I' fin E P) 181:=cZ.aB gS ag;have pd:aq (fun b=>b=rb) w X:=(HV.trans dG).qA (gS.mono (fun k _ hk=>ag));have wH:dS sb sv ws c k X base (aD g acc.length cap) acc xs F:=(Bp.move pd (fun k hk e=>ag));have hEb:(E == 0)=false:=wG;obtain⟨r0,r1,r2,r3,r4,r5⟩:=cZ.aO;have uZ:=af gm;have fE:=af hbr;have eN:=af pd;have wQ:=af wH;have HE:=af hE;have HR2:Hid (R=.inr (E,P)):=hR2;clear gm hbr pd wH dG cZ uz gS hR2 hE;go_upto_region 12 with fail
   rw[←oA];clear oA r0 r1 r2 r3 r4 r5 x3' f3;obtain⟨r0,r1,r2,r3,r4,r5⟩:=fE.aO;have x0:X.cell? (ai xb 0)=some (ae 6):=uZ.cell 0 _ rfl;have x1:X.cell? (ai xb 1)=some (ae 0):=uZ.cell 1 _ rfl;have x2:X.cell? (ai xb 2)=some (.string ⟨#[]⟩):=uZ.cell 2 _ rfl;have x3:X.cell? (ai xb 3)=some (.slice bI n2 bq):=uZ.cell 3 _ rfl;have x4:X.cell? (ai xb 4)=some (aD gb 2 2):=uZ.cell 4 _ rfl;have hs7:base≤X.heap.size:=by have:=eN.size;omega
   have lX:=af (wQ.mH ((aq.refl (fun _=>False) X).alloc (.cells (fN gb (.slice bI n2 bq)) 249 (0,0))) (fun _ _=>id));have mq:=af (qd X (fN gb (.slice bI n2 bq)) 249);have pY:=af (vz (x:=fN gb (.slice bI n2 bq)) ⟨6,0,⟨#[]⟩,bI,n2,bq,some (ai gb 0),2,2,rfl⟩);have pL:=af (show acc.length+1≤maxLen by unfold maxLen;omega);have o7:=af (show(acc.length+1)*80≤140737488355328 by omega);have pC:=af (show base≤(X.alloc (.cells (fN gb (.slice bI n2 bq)) 249 (0,0))).heap.size by simp;omega);have ou:=af (show(X.alloc (.cells (fN gb (.slice bI n2 bq)) 249 (0,0))).heap.size=X.heap.size+1 by simp);have jq:=af nO;clear nO;go_wp2_with (at_builtin;refine wpList_append_lies _ rfl _ _ 184 rfl base 249 i0 (.agg dR) 5 80 underlying184 hi hz0 hz1 hz2 rfl aj _ acc.length (xs.flatMap Array.toList) rfl lX.row (ai X.heap.size 0) 1 1 (fN gb (.slice bI n2 bq)).toList rfl rfl mq pY aj pL o7 pC (X.heap.size+1) ou ?_);intro g2 lH w6 hown hgrow hat zA;clear x0 x1 x2 x3 x4 hown hat r0 r1 r2 r3 r4 r5;have lT:=af hgrow;clear hgrow;go_wp2_with fail;go_ret;rw[HR2.out];refine⟨_,_,_,I',rfl,HE,?_,?_⟩
   ·exact(lT.block rb (by have:=fE.lt;simp;omega) Dl).trans ((fE.alloc _))
   ·exact((eN.alloc _).mono (fun k _ e=>aC e)).trans ((aq.dP lT).mono (fun k _ e=>aA e.symm))
end
end Go.Proofs.YtcphhbofjkenaaaGreatDoor
