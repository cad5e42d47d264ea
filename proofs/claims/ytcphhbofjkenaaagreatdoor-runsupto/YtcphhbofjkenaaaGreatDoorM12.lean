import Derived.Test.YtcphhbofjkenaaaGreatDoorM11
namespace Go.Proofs.YtcphhbofjkenaaaGreatDoor
open Go Go.RowKit
set_option linter.unusedVariables false
set_option linter.unusedSimpArgs false
set_option maxRecDepth 100000
set_option maxHeartbeats 16000000
section
open Go.RowKit
attribute [local go_sem] oK
theorem Ai{l:List AI}{a b:Int}(h:gp l=some (a,b)):∃m,∃h2:l.length=m+2,(l[m+1]'(by omega)).num=some b∧(l[m]'(by omega)).num=some a:=by
 obtain⟨h1,⟨i,_,h2⟩,⟨j,_,h3⟩⟩:=EK h;refine⟨l.length - 2,by omega,?_,?_⟩
 ·have e:l.length - 1=l.length - 2+1:=by omega
  rw[e]at h3;have:=(List.getElem?_eq_some_iff.1 h3).2;rw[this]
 ·have:=(List.getElem?_eq_some_iff.1 h2).2
  rw[this]
theorem EN(rb sb:Nat)(tv sv:Value)(ae:List Tk)(ws:List RW)(c k:Int)(I f:Nat)(fin A loops:Int)(base:Nat)(v:Value)(acc:List AI)(xs:List (Array Value))(F:Nat→Prop)(w:World)
  (hR:Rd w rb sb tv sv ae ws c k) (hb:az w rb (bK sb tv I fin 0 A) 181) (hI:I<ae.length) (jI:aW sb sv ws c k w base v acc xs F) (hal:acc.length≤1100000) (a b:Int) (h2:gp acc=some (a,b)) (hab:1000<a - b):
  Calls Tryz.prog 169 #[.pointer (some ⟨rb,0,none⟩),v,.int .i64 loops] w (nM rb sb tv sv ws c k fin A base v acc w (Kt ws ae fin f loops acc I)):=by
 have hr:Kt ws ae fin f loops acc I=.inr (7,kz ae fin I):=by unfold Kt;rw[h2];simp only;rw[if_pos hab]
 rw[hr];obtain⟨ad,cap,hv,hcap,hmax⟩:=ag jI.row;obtain⟨r0,r1,r2,r3,r4,r5⟩:=hb.bK;have Ad:=hR.few;have HX:=ast (fun w' (h:aj (fun k=>k=rb∧False) w w')=>gz rb sb tv ae I I fin A 7 w' (by omega) (by omega) (hb.aA h (fun e=>e.2)) (hR.aA (h.mono (fun _ _ e=>e.1))).tok hR.tr)
 have TG:∀(w1:World),az w1 rb (bK sb tv I fin 7 (kz ae fin I)) 181→aj (fun k=>k=rb) w w1→nM rb sb tv sv ws c k fin A base v acc w (.inr (7,kz ae fin I)) (.returned v) w1:=fun w1 h1 h2=>
  ⟨ad,acc.length,cap,I,by rw[hv],by decide,h1,h2.mono (fun k _ e=>Or.inl e)⟩
 have Ce:=ast TG;clear TG;obtain⟨m,hm,h3,h4⟩:=Ai h2;obtain⟨g,cap',hv',_,hg,_,_,hcell⟩:=aB jI.row (by omega);rw[hv]at hv';obtain⟨rfl,rfl⟩:ad=some ⟨g,0,none⟩∧cap=cap':=by simpa using hv'
 obtain⟨x,hx,_,hk,hcc⟩:=jI.look hv m (by omega);obtain⟨y,hy,_,Zn,TI⟩:=jI.look hv (m+1) (by omega);obtain⟨hkx,ba1,ba2⟩:=nN hk h4;obtain⟨hkz,bb1,bb2⟩:=nN Zn h3;have c0:=hcc 0 (.int .i64 1) (by rw[hkx];rfl);have c1:=hcc 1 (.int .i64 a) (by rw[hkx];rfl);have d0:=TI 0 (.int .i64 1) (by rw[hkz];rfl);have d1:=TI 1 (.int .i64 b) (by rw[hkz];rfl);obtain⟨p,hp⟩:=exq (m+1);rw[←hp]at d0 d1;rw[Nat.add_zero]at c0 d0;have c0n:w.cell? ⟨g,(acc.length - 2)*5,none⟩=some (.int .i64 1):=by rw[show acc.length - 2=m by omega];exact c0
 have c1n:w.cell? ⟨g,(acc.length - 2)*5+1,none⟩=some (.int .i64 a):=by rw[show acc.length - 2=m by omega];exact c1
 have hge:¬(acc.length:Int)<2:=by omega
 have e1:(acc.length:Int) - 1=(p:Int):=by omega
 have e2:(p:Int)<(acc.length:Int):=by omega
 have e3:(0:Int)≤(p:Int):=by omega
 have e4:(acc.length:Int) - 2=(m:Int):=by omega
 have e5:(m:Int)<(acc.length:Int):=by omega
 have e6:(0:Int)≤(m:Int):=by omega
 have e7:(p:Int)≤1100000:=by omega
 have e8:(m:Int)≤1100000:=by omega
 subst hv;clear hr h2 jI hR hb h3 hm hp hk hcc hcell hx hv' hy Zn TI h4 hkx hkz;go_enter Tryz.func169,Tryz.ntmps169
 go_wp2_with fail
 go_quiet (fail)
 go_wp2_with fail
 have h0:aj (fun k=>k=rb∧False) w (w.drewN nq):=⟨rfl,rfl,rfl,nrq,fun _ _ _=>rfl⟩;refine(HX.out _ h0).mono ?_;rintro e w1 ⟨rfl,hb1,hc1⟩;have H1:=ast hb1;have H2:=ast ((h0.mono (fun _ _ e=>e.1)).trans hc1);clear HX hb1 hc1 h0;go_wp2_with fail
 go_ret
 exact Ce.out _ H1.out H2.out
theorem aW.kZ{sb:Nat}{sv:Value}{ws:List RW}{sc sk:Int}{w w':World}{base:Nat}{v:Value}{l:List AI}{xs:List (Array Value)}{F:Nat→Prop}
  (h:aW sb sv ws sc sk w base v l xs F) {S:Nat→Prop} (hc:aj S w w') (hs:∀k,(F k∨v.ownBlock=some k)→¬S k):aW sb sv ws sc sk w' base v l xs F:=
 ⟨h.len,af h.row hc (fun k hk=>hs k (Or.inr hk)),h.shape,h.kind,fun k hk=>⟨(h.fp k hk).1,Nat.lt_of_lt_of_le (h.fp k hk).2.1 hc.size,(h.fp k hk).2.2⟩,
  fun i x a h1 h2=>(h.ok i x a h1 h2).mono (fun _=>id) (fun k hk=>hc.block k (h.fp k hk).2.1 (hs k (Or.inl hk)))⟩
theorem aW.lt{sb:Nat}{sv:Value}{ws:List RW}{sc sk:Int}{w:World}{base:Nat}{v:Value}{l:List AI}{xs:List (Array Value)}{F:Nat→Prop}
  (h:aW sb sv ws sc sk w base v l xs F) {k:Nat} (hk:F k∨v.ownBlock=some k):base≤k∧k<w.heap.size:=by
 rcases hk with hk|hk
 ·exact⟨(h.fp k hk).1,(h.fp k hk).2.1⟩
 ·exact⟨aF h.row hk,bg h.row hk⟩
theorem N7(W:World)(x y:Array Value)(t s:TypeId):Below W.heap.size W ((W.alloc (.cells x t (0,0))).alloc (.cells y s (0,0))).drew∧az ((W.alloc (.cells x t (0,0))).alloc (.cells y s (0,0))).drew W.heap.size x t∧az ((W.alloc (.cells x t (0,0))).alloc (.cells y s (0,0))).drew (W.heap.size+1) y s:=by
 refine⟨(((Below.refl _ W).alloc nrq _).alloc (by simp) _).drew,((ay W x t).alloc _).drew,?_⟩;have:=ay (W.alloc (.cells x t (0,0))) y s;simpa using this.drew
theorem qH(W:World)(x:Array Value)(t:TypeId):∀(j:Nat) (u:Value),x.toList[j]?=some u→(W.alloc (.cells x t (0,0))).cell? ((Addr.mk W.heap.size 0 none).add j)=some u:=World.news_of_block (fr:=(0,0)) (heap_alloc_new W _)
theorem Tryz.Ku:(Tryz.prog.info? 249).map (fun i=>(i.zero,i.size,i.bytes))=some (some (.agg cZ),5,80):=by kernel_rfl
theorem kP{x:Array Value}(h:five x):∀u∈x.toList,u.oneCell'=true:=by
 obtain⟨k,n,s,a1,n1,c1,a2,n2,c2,rfl⟩:=h;intro u hu;simp only[List.mem_cons,List.not_mem_nil,or_false]at hu;rcases hu with rfl|rfl|rfl|rfl|rfl<;>rfl
def O7(a b:Int):Array Value:= #[.int .i64 1,.int .i64 a,.string ⟨#[]⟩,.slice none 0 0,.slice none 0 0,.int .i64 1,.int .i64 b,.string ⟨#[]⟩,.slice none 0 0,.slice none 0 0]
def uq(gb:Nat)(v:Value):Array Value:= #[.int .i64 6,.int .i64 0,.string ⟨#[]⟩,v,.slice (some ⟨gb,0,none⟩) 2 2]
theorem Hu(n:Nat)(ih:lJ n)(rb sb:Nat)(tv sv:Value)(ae:List Tk)(ws:List RW)(c k:Int)(I f:Nat)(fin A loops:Int)(base:Nat)(v:Value)(acc:List AI)(xs:List (Array Value))(F:Nat→Prop)(w:World)
  (hR:Rd w rb sb tv sv ae ws c k) (hb:az w rb (bK sb tv I fin 0 A) 181) (hn:ae.length+1 - (I+1)≤n) (hf:ae.length+1 - (I+1)≤f) (hI:I<ae.length) (hl:0≤loops) (hl2:loops+1+(ae.length+1 - (I+1):Nat)≤10000000)
  (jI:aW sb sv ws c k w base v acc xs F) (hrb:rb<base) (wU:base≤w.heap.size) (hal:acc.length≤1100000) (a b:Int) (h2:gp acc=some (a,b)) (hab:¬1000<a - b):
  Calls Tryz.prog 169 #[.pointer (some ⟨rb,0,none⟩),v,.int .i64 loops] w (nM rb sb tv sv ws c k fin A base v acc w (Kt ws ae fin f loops acc I)):=by
 obtain⟨R,hr⟩:=exq (Kt ws ae fin f loops acc I);rw[←hr]
 have hr':R=(match aJ ws ae fin f [jg] (loops+1) [] (I+1)with
   |.inr r=>.inr r
   |.inl (la,_,I1)=>if(dw la).bu=0 then .inl (⟨none,(Inf.plain 2 0).then ((dw la).times (max 0 (a - b))),.Et (trees la)⟩,I1)else .inr (6,kz ae fin (I1 - 1))):=by
  rw[hr,Kt,h2];simp only;rw[if_neg hab];rfl
 have HRR:=ast hr';obtain⟨ad,cap,hv,hcap,hmax⟩:=ag jI.row;obtain⟨r0,r1,r2,r3,r4,r5⟩:=hb.bK;have DJ:=hb.frozen 2;have Ad:=hR.few;obtain⟨m,hm,h3,h4⟩:=Ai h2;obtain⟨g,cap',hv',hgb,hg,_,_,hcell⟩:=aB jI.row (by omega);rw[hv]at hv';obtain⟨rfl,rfl⟩:ad=some ⟨g,0,none⟩∧cap=cap':=by simpa using hv'
 obtain⟨x,hx,_,hk,hcc⟩:=jI.look hv m (by omega);obtain⟨y,hy,_,Zn,TI⟩:=jI.look hv (m+1) (by omega);obtain⟨hkx,ba1,ba2⟩:=nN hk h4;obtain⟨hkz,bb1,bb2⟩:=nN Zn h3;obtain⟨p,hp⟩:=exq (m+1);have hgr:g≠rb:=by omega
 have c0:=hcc 0 (.int .i64 1) (by rw[hkx];rfl);have c1:=hcc 1 (.int .i64 a) (by rw[hkx];rfl);have d0:=TI 0 (.int .i64 1) (by rw[hkz];rfl);have d1:=TI 1 (.int .i64 b) (by rw[hkz];rfl);have Dz:=ast hcc;have EO:=ast TI;have jX:=ast hkx;have Zo:=ast hkz;rw[←hp]at d0 d1;rw[Nat.add_zero]at c0 d0;have c0n:w.cell? ⟨g,(acc.length - 2)*5,none⟩=some (.int .i64 1):=by rw[show acc.length - 2=m by omega];exact c0
 have c1n:w.cell? ⟨g,(acc.length - 2)*5+1,none⟩=some (.int .i64 a):=by rw[show acc.length - 2=m by omega];exact c1
 have hge:¬(acc.length:Int)<2:=by omega
 have e1:(acc.length:Int) - 1=(p:Int):=by omega
 have e2:(p:Int)<(acc.length:Int):=by omega
 have e3:(0:Int)≤(p:Int):=by omega
 have e4:(acc.length:Int) - 2=(m:Int):=by omega
 have e5:(m:Int)<(acc.length:Int):=by omega
 have e6:(0:Int)≤(m:Int):=by omega
 have e7:(p:Int)≤1100000:=by omega
 have e8:(m:Int)≤1100000:=by omega
 have e9:(I:Int)≤1100000:=by omega
 have e10:(0:Int)≤(I:Int):=by omega
 have e11:loops≤10000000:=by omega
 have HR:=ast hR;have HB:=ast hb;have TJ:=ast jI;have HV:=ast hv;have HP:=ast hp;have HN:=ast hn;have HF:=ast hf;have HM:=ast hm;have IH:=ast ih;have HIW:=ast hI;have HL2:=ast hl2;subst hv;clear hr hr' h2 jI hR hb h3 hm hp hk hcc hcell hx hv' hy Zn TI h4 hkx hkz hn hf hI hl2 ih;go_enter Tryz.func169,Tryz.ntmps169
 go_wp2_with fail
 go_quiet (fail)
 go_upto_region 9 with fail
 obtain⟨W,hWd⟩:=exq ((w.drewN nq).setCell ⟨rb,2,none⟩ (.int .i64 ((I:Int)+1)):World);rw[←hWd];have h0:aj (fun b=>b=rb) w (w.drewN nq):=⟨rfl,rfl,rfl,nrq,fun _ _ _=>rfl⟩;have hbq:az (w.drewN nq) rb (bK sb tv I fin 0 A) 181:=HB.out;have hCW:aj (fun b=>b=rb) w W:=by rw[hWd];exact h0.setCell (p:=⟨rb,2,none⟩) rfl _
 have hsW:W.heap.size=w.heap.size:=by rw[hWd];simp[World.setCell]
 have hbW:az W rb (bK sb tv ((I+1:Nat):Int) fin 0 A) 181:=by rw[hWd];have:=hbq.set (o:=2) (.int .i64 ((I:Int)+1));simpa [bK]using this
 have aeC:=TJ.out.move hCW (fun k hk e=>by omega);have vw:=ast aeC;have pR:=ast hCW;have dX:=ast hbW;clear hWd h0 hbq hCW hbW aeC;have k0:W.cell? ⟨g,m*5,none⟩=some (.int .i64 1):=(pR.out.cell (p:=⟨g,m*5,none⟩) hg hgr).trans c0;have k1:W.cell? ⟨g,m*5+1,none⟩=some (.int .i64 a):=(pR.out.cell (p:=⟨g,m*5+1,none⟩) hg hgr).trans c1;have k2:W.cell? ⟨g,m*5+2,none⟩=some (.string ⟨#[]⟩):=(pR.out.cell (p:=⟨g,m*5+2,none⟩) hg hgr).trans (Dz.out 2 _ (by rw[jX.out];rfl));have k3:W.cell? ⟨g,m*5+3,none⟩=some (.slice none 0 0):=(pR.out.cell (p:=⟨g,m*5+3,none⟩) hg hgr).trans (Dz.out 3 _ (by rw[jX.out];rfl));have k4:W.cell? ⟨g,m*5+4,none⟩=some (.slice none 0 0):=(pR.out.cell (p:=⟨g,m*5+4,none⟩) hg hgr).trans (Dz.out 4 _ (by rw[jX.out];rfl));have j0:W.cell? ⟨g,p*5,none⟩=some (.int .i64 1):=(pR.out.cell (p:=⟨g,p*5,none⟩) hg hgr).trans d0;have j1:W.cell? ⟨g,p*5+1,none⟩=some (.int .i64 b):=(pR.out.cell (p:=⟨g,p*5+1,none⟩) hg hgr).trans d1;have j2:W.cell? ⟨g,p*5+2,none⟩=some (.string ⟨#[]⟩):=by rw[HP.out];exact(pR.out.cell (p:=⟨g,(m+1)*5+2,none⟩) hg hgr).trans (EO.out 2 _ (by rw[Zo.out];rfl))
 have j3:W.cell? ⟨g,p*5+3,none⟩=some (.slice none 0 0):=by rw[HP.out];exact(pR.out.cell (p:=⟨g,(m+1)*5+3,none⟩) hg hgr).trans (EO.out 3 _ (by rw[Zo.out];rfl))
 have j4:W.cell? ⟨g,p*5+4,none⟩=some (.slice none 0 0):=by rw[HP.out];exact(pR.out.cell (p:=⟨g,(m+1)*5+4,none⟩) hg hgr).trans (EO.out 4 _ (by rw[Zo.out];rfl))
 have hgW:g<W.heap.size:=by omega
 have k0n:W.cell? ⟨g,(acc.length - 2)*5,none⟩=some (.int .i64 1):=by rw[show acc.length - 2=m by omega];exact k0
 have k1n:W.cell? ⟨g,(acc.length - 2)*5+1,none⟩=some (.int .i64 a):=by rw[show acc.length - 2=m by omega];exact k1
 have k2n:W.cell? ⟨g,(acc.length - 2)*5+2,none⟩=some (.string ⟨#[]⟩):=by rw[show acc.length - 2=m by omega];exact k2
 have k3n:W.cell? ⟨g,(acc.length - 2)*5+3,none⟩=some (.slice none 0 0):=by rw[show acc.length - 2=m by omega];exact k3
 have k4n:W.cell? ⟨g,(acc.length - 2)*5+4,none⟩=some (.slice none 0 0):=by rw[show acc.length - 2=m by omega];exact k4
 clear c0 c1 d0 d1 r0 r1 r2 r3 r4 r5 DJ c0n c1n;go_cut [8] (fun s8 wx=>∃xb gb:Nat,s8=.pointer (some ⟨xb,0,none⟩)∧w.heap.size≤xb∧w.heap.size≤gb∧xb≠gb∧Below w.heap.size W wx∧az wx xb (uq gb (.slice none 0 0)) 249∧az wx gb (O7 a b) 249)
 case first=>
  have T1:=ast (N7 W (O7 a b) (uq w.heap.size (.slice none 0 0)) 249 249);have T2:=ast (N7 W (uq (w.heap.size+1) (.slice none 0 0)) (O7 a b) 249 249);rw[hsW]at T1 T2;go_region
  ·go_wp2_with fail
   go_meet
   exact⟨w.heap.size+1,w.heap.size,rfl,by omega,by omega,by omega,T1.out.1,T1.out.2.2,T1.out.2.1⟩
  ·go_wp2_with fail
   go_meet
   exact⟨w.heap.size,w.heap.size+1,rfl,by omega,by omega,by omega,T2.out.1,T2.out.2.1,T2.out.2.2⟩
 case rest=>
  obtain⟨xb,gb,rfl,hx1,hx2,hxg,bT,uT,hbg⟩:=hcut;obtain⟨i0,hi,hz0,hz1,hz2⟩:=info_parts Tryz.Ku;have hrw:rb<w.heap.size:=HB.out.lt;have qG:Below W.heap.size W wc:=by rw[hsW];exact bT
  have aeE:az wc rb (bK sb tv ((I+1:Nat):Int) fin 0 A) 181:=(bT.block _ hrw).trans dX.out;have aaQ:aj (fun b=>b=rb) w wc:=pR.out.trans (aj.au qG);have hV:aj (fun b=>b=rb) w (wc.alloc (.cells #[.string jg] 9 (0,0))):=aaQ.alloc _;have aeF:aW sb sv ws c k wc base (.slice (some ⟨g,0,none⟩) acc.length cap) acc xs F:=vw.out.kZ (aj.au (S:=fun _=>False) qG) (fun _ _=>id)
  have hI2:=IH.out rb sb tv sv ae ws c k (I+1) f fin A (loops+1) [jg] wc.heap.size 1 _ (HR.out.aA hV) (aeE.alloc _) HN.out HF.out HIW.out (by omega) HL2.out (by decide) (by decide) (by have:=aaQ.size;omega) (by
   intro j hj;have hj0:j=0:=by simp at hj;omega
   subst hj0;simp)
  have hxc:xb<wc.heap.size:=uT.lt;have hgc:gb<wc.heap.size:=hbg.lt;have HI2:=ast hI2;have lV:=ast uT;have HBG:=ast hbg;have HV:=ast hV;have apc:=ast aeF;have aeG:∀k,(F k∨(Value.slice (some ⟨g,0,none⟩) acc.length cap).ownBlock=some k)→base≤k∧k<w.heap.size:=fun k hk=>by have:=TJ.out.lt hk;exact this
  have apd:=ast aeG;clear hI2 bT qG aeE aaQ hV uT hbg aeF k0 k1 k2 k3 k4 j0 j1 j2 j3 j4 k0n k1n k2n k3n k4n aeG;go_wp2_with fail
  refine HI2.out.mono ?_;clear HI2;intro e w5 hP;obtain⟨pp,O8⟩:=exq (aJ ws ae fin f [jg] (loops+1) [] (I+1));have hR2:=HRR.out;rw[←O8]at hR2 hP;have qI:=ast O8;clear O8 HRR;rcases pp with ⟨la,ta,I1⟩|⟨E,P⟩
  ·obtain⟨v2,xs2,F2,rfl,mf,mY,yI⟩:=hP
   obtain⟨iI,bf,rfl,aep,aeq⟩:=ag yI.row;have NW:=jC ws ae fin HR.out.WS f [jg] (loops+1) [] (I+1) _ _ _ qI.out.symm NU (uo.nil 0);simp only[List.length_nil,Nat.zero_add]at NW;have H5:=ast NW;have hq3:I+1<I1:=NW.1;have hq4:I1≤ae.length:=NW.2.1;have hs5:wc.heap.size+1≤w5.heap.size:=by have:=mY.size;simpa using this
   obtain⟨X,Hm⟩:=exq (w5.setCell ⟨xb,3,none⟩ (.slice iI la.length bf):World);have xZ:aj (fun b=>b=xb) w5 X:=by rw[Hm];exact(aj.refl (fun b=>b=xb) w5).setCell (p:=⟨xb,3,none⟩) rfl _
   have Rh:X.heap.size=w5.heap.size:=by rw[Hm];simp[World.setCell]
   have EP:az w5 xb (uq gb (.slice none 0 0)) 249:=(lV.out.alloc _).aA mY (by omega);have f3:=EP.frozen 3;have x3':w5.cell? ⟨xb,3,none⟩=some (.slice none 0 0):=EP.cell 3 _ rfl
   have uT:az X xb (uq gb (.slice iI la.length bf)) 249:=by
    rw[Hm];have:=EP.set (o:=3) (.slice iI la.length bf);simpa [uq]using this
   have hbg:az X gb (O7 a b) 249:=((HBG.out.alloc _).aA mY (by omega)).aA xZ (by omega);have hbr:az X rb (bK sb tv I1 fin 0 A) 181:=mf.aA xZ (by omega);have wS:aj (fun b=>b=rb) w X:=(HV.out.trans mY).iw (xZ.mono (fun k _ hk=>by omega))
   have J9:∀b,(F2 b∨(Value.slice iI la.length bf).ownBlock=some b)→wc.heap.size+1≤b∧b<w5.heap.size:=fun b hb=>by
    have:=yI.lt hb;simpa using this
   have Hw:aW sb sv ws c k X base (.slice (some ⟨g,0,none⟩) acc.length cap) acc xs F:=(TJ.out.move wS (fun k hk e=>by omega));have TL:=yI.kZ xZ (fun k hk e=>by have:=J9 k hk;omega)
   have hall:∀w',Below X.heap.size X w'→Calls Tryz.prog 130 #[.pointer (some ⟨sb,0,none⟩),.slice iI la.length bf] w' fun e w''=>e=.returned (dw la).val∧Below w'.heap.size w' w'':=fun w' hb'=>
    TL.later NW.2.2.2 (by omega) (by have:=NW.2.2.1;omega) X (fun k _=>rfl) (Or.inr trivial) (HR.out.aA wS).sys w' hb'
   obtain⟨pa,hpa⟩:∃p,p=dw la:=⟨_,rfl⟩;simp only at hR2;rw[←hpa]at hR2;have Ri:=ast hpa
   have DC:∀w',Below X.heap.size X w'→Calls Tryz.prog 130 #[.pointer (some ⟨sb,0,none⟩),.slice iI la.length bf] w' fun e w''=>e=.returned (.agg #[.int .i64 pa.need,.int .i64 pa.bu,.int .i64 pa.high,.int .i64 pa.steps,.bool pa.str])∧Below w'.heap.size w' w'':=by
    rw[hpa];exact hall
   obtain⟨r0,r1,r2,r3,r4,r5⟩:=mf.bK;have sV:=ast DC;have ER:=ast uT;have XD:=ast hbg;have uV:=ast hbr;have vz:=ast wS;have TC:=ast J9;have Kv:=ast Hw;have TB:=ast TL;have HR2:=ast hR2;clear hall DC hpa uT hbg hbr wS J9 Hw TL yI mY mf NW EP xZ hR2;go_wp2_with fail
   rw[←Hm];have Kw:=ast Rh;clear Hm r0 r1 r2 r3 r4 r5 x3' f3 Rh;obtain⟨r0,r1,r2,r3,r4,r5⟩:=uV.out.bK;have x3:X.cell? ⟨xb,3,none⟩=some (.slice iI la.length bf):=ER.out.cell 3 _ rfl;have hne:=dH.ne X.heap.size X aV 36 nrq;have hcr:∀(S:Option Nat) (u:dH X.heap.size X aV 36 S),u.val.cell? ⟨rb,0,none⟩=some (.pointer (some ⟨sb,0,none⟩)):=fun S u=>u.cell r0 (World.block_lt_of_cell? X _ r0)
   have NP:∀(S:Option Nat) (u:dH X.heap.size X aV 36 S),u.val.cell? ⟨xb,3,none⟩=some (.slice iI la.length bf):=fun S u=>u.cell x3 (World.block_lt_of_cell? X _ x3)
   refine dR aV 36 7 (by kernel_rfl) (by kernel_rfl) rfl (fun _=>rfl) (fun a w=>by simp[go_sem,aV]) ?_;simp only[List.take_succ_cons,List.take_zero,List.drop_succ_cons,List.drop_zero]
   repeat (refine dQ (fun K hK=>?_);go_simp;first|(refine hK _ ?_;clear hK K)|(apply Exists.intro;refine⟨fun S u=>?_,hK _ ?_⟩;(go_at_call 130;exact dH.calls nrq u (sV.out _ u.below));clear hK K))
   refine eQ ?_;intro b1 w2 hb1 pM hblk;obtain⟨d0,d1,d2,d3,d4⟩:=hblk.zero;obtain⟨g0,g1,g2,g3,g4⟩:=hblk.free;have hlt2:=hblk.lt;obtain⟨Y,hY⟩:=exq (((((w2.setCell ⟨b1,0,none⟩ (.int .i64 pa.need)).setCell ⟨b1,1,none⟩ (.int .i64 pa.bu)).setCell ⟨b1,2,none⟩ (.int .i64 pa.high)).setCell ⟨b1,3,none⟩ (.int .i64 pa.steps)).setCell ⟨b1,4,none⟩ (.bool pa.str):World);have Zp:az Y b1 pa.arr 36:=by rw[hY];exact kM hblk _ _ _ _ _
   have Zq:Below X.heap.size X Y:=by rw[hY];exact((((pM.setCell hb1 _).setCell hb1 _).setCell hb1 _).setCell hb1 _).setCell hb1 _
   have Rj:=ast Zp;have nO:=ast Zq;clear hcr NP hne hblk pM Zp Zq r0 r1 r2 r3 r4 r5 x3;go_simp
   go_upto_region 14 with fail
   rw[←hY];clear hY d0 d1 d2 d3 d4 g0 g1 g2 g3 g4;have hsY:=nO.out.size;have hCY:aj (fun b=>b=rb) w Y:=vz.out.trans (aj.au nO.out);have aaR:az Y rb (bK sb tv I1 fin 0 A) 181:=(nO.out.block _ uV.out.lt).trans uV.out;have aeI:az Y xb (uq gb (.slice iI la.length bf)) 249:=(nO.out.block _ ER.out.lt).trans ER.out;have aeJ:az Y gb (O7 a b) 249:=(nO.out.block _ XD.out.lt).trans XD.out;have aeK:=Kv.out.kZ (aj.au (S:=fun _=>False) nO.out) (fun _ _=>id);obtain⟨m0,m1,m2,m3,m4⟩:=Rj.out.inf;obtain⟨r0,r1,r2,r3,r4,r5⟩:=aaR.bK;have EO:=ast hCY;have aaS:=ast aaR;have O9:=ast aeI;have ape:=ast aeJ;have ajB:=ast aeK;clear hCY aaR aeI aeJ aeK;have hwX:w.heap.size≤X.heap.size:=vz.out.size
   by_cases iJ:pa.bu=0
   ·have hnb:(pa.bu != 0)=false:=by simpa using iJ
    have HRe:Hid (R=.inl (⟨none,(Inf.plain 2 0).then (pa.times (max 0 (a - b))),.Et (trees la)⟩,I1)):=by show R=_;rw[HR2.out,if_pos iJ]
    clear iJ;have x0:Y.cell? ⟨xb,0,none⟩=some (.int .i64 6):=O9.out.cell 0 _ rfl;have x1:Y.cell? ⟨xb,1,none⟩=some (.int .i64 0):=O9.out.cell 1 _ rfl;have x2:Y.cell? ⟨xb,2,none⟩=some (.string ⟨#[]⟩):=O9.out.cell 2 _ rfl;have x3:Y.cell? ⟨xb,3,none⟩=some (.slice iI la.length bf):=O9.out.cell 3 _ rfl;have x4:Y.cell? ⟨xb,4,none⟩=some (.slice (some ⟨gb,0,none⟩) 2 2):=O9.out.cell 4 _ rfl;have qJ:=ast (ajB.out.kZ ((aj.refl (fun _=>False) Y).alloc (.cells (uq gb (.slice iI la.length bf)) 249 (0,0))) (fun _ _=>id));have wV:=ast (qH Y (uq gb (.slice iI la.length bf)) 249);have wW:=ast (kP (x:=uq gb (.slice iI la.length bf)) ⟨6,0,⟨#[]⟩,iI,la.length,bf,some ⟨gb,0,none⟩,2,2,rfl⟩);have Pg:=ast (show acc.length+1≤maxLen by unfold maxLen;omega);have Ph:=ast (show(acc.length+1)*80≤140737488355328 by omega);have nP:=ast (show base≤(Y.alloc (.cells (uq gb (.slice iI la.length bf)) 249 (0,0))).heap.size by simp;omega);have Hy:=ast (show(Y.alloc (.cells (uq gb (.slice iI la.length bf)) 249 (0,0))).heap.size=Y.heap.size+1 by simp);go_wp2_with (at_builtin;refine wpList_append_lies _ rfl _ _ 184 rfl base 249 i0 (.agg cZ) 5 80 Tryz.underlying184 hi hz0 hz1 hz2 rfl (by decide) _ acc.length (xs.flatMap Array.toList) rfl qJ.out.row ⟨Y.heap.size,0,none⟩ 1 1 (uq gb (.slice iI la.length bf)).toList rfl rfl wV.out wW.out (by decide) Pg.out Ph.out nP.out (Y.heap.size+1) Hy.out ?_)
    intro g2 qj w6 hown hgrow hat Pj;clear x0 x1 x2 x3 x4 m0 m1 m2 m3 m4 r0 r1 r2 r3 r4 r5;have EI:=ast hown;have kQ:=ast hgrow;have TM:=ast hat;clear hown hgrow hat;go_wp2_with fail
    go_ret
    rw[HRe.out];have hsz:=kQ.out.size;refine⟨_,xs++[uq gb (.slice iI la.length bf)],fun k=>F k∨((F2 k∨(Value.slice iI la.length bf).ownBlock=some k)∨k=gb),rfl,?_,?_,?_⟩
    ·exact(kQ.out.block rb (by have:=aaS.out.lt;simp;omega) (by simp[Value.ownBlock];omega)).trans ((aaS.out.alloc _))
    ·exact((EO.out.alloc _).mono (fun k _ e=>Or.inl e)).trans ((aj.bD kQ.out).mono (fun k _ e=>Or.inr e.symm))
    ·have aeL:∀k,((F2 k∨(Value.slice iI la.length bf).ownBlock=some k)∨k=gb)→w.heap.size≤k∧k<X.heap.size:=by
      rintro k (hk|rfl)
      ·have:=TC.out k hk;have:=vz.out.size;have:=Kw.out;exact⟨by omega,by omega⟩
      ·exact⟨hx2,XD.out.lt⟩
     refine qJ.out.snoc (G:=fun k=>(F2 k∨(Value.slice iI la.length bf).ownBlock=some k)∨k=gb) ⟨6,0,⟨#[]⟩,iI,la.length,bf,some ⟨gb,0,none⟩,2,2,rfl⟩ ⟨6,rfl,by decide⟩ (fun k hk=>?_) ?_ EI.out kQ.out ?_
     ·have:=aeL k hk
      exact⟨by omega,by simp;omega,by simp[Value.ownBlock];omega⟩
     ·intro w' hF
      have uK:∀k,((F2 k∨(Value.slice iI la.length bf).ownBlock=some k)∨k=gb)→w'.heap[k]?=X.heap[k]?:=fun k hk=>by
       have hlo:=aeL k hk;rw[hF k hk,Below.heap_alloc Y _ k (by omega),nO.out.block k hlo.2]
      obtain⟨t1,t2⟩:=TB.out.uZ w' (fun k hk=>uK k (Or.inl hk));refine⟨.Et _ _ _ _ _ _ (t1.mono (fun k _ hk _=>⟨Or.inl hk,rfl⟩)) (fun i t ht=>(t2 i t ht).mono (fun k _ hk _=>⟨Or.inl hk,rfl⟩)),fun gQ=>?_⟩;have aeM:az w' gb (O7 a b) 249:=(uK gb (Or.inr rfl)).trans XD.out;have Zj:=H5.out.2.2.2;have hA:=fun w2 hb=>TB.out.later Zj (by have:=H5.out.2.1;omega) (by have:=H5.out.2.2.1;have:=H5.out.2.1;omega) w' (fun k hk=>uK k (Or.inl hk)) (Or.inr trivial) gQ w2 hb
      rw[←Ri.out]at hA;have hwt:pa.Ok:=by rw[Ri.out];exact(oJ Zj).ok (by omega) (by have:=H5.out.2.1;omega)
      exact OT sb _ _ _ gb 2 a b rfl rfl rfl pa hwt w' (by omega) ba1 ba2 bb1 bb2 (by omega) (aeM.cell 1 _ rfl) (aeM.cell 6 _ rfl) hA
     ·rcases TM.out with h|h
      ·exact Or.inl (by simp[Value.ownBlock]at h ⊢;omega)
      ·exact Or.inr (by simp[Value.ownBlock,h])
   ·have hnb:(pa.bu != 0)=true:=by simpa using iJ
    have HRe:Hid (R=.inr (6,kz ae fin (I1 - 1))):=by show R=_;rw[HR2.out,if_neg iJ]
    clear iJ;have b1':(I1:Int)≤1100000:=by omega
    have b2':(1:Int)≤(I1:Int):=by omega
    go_wp2_with fail
    have aeN:(I1:Int) - 1=((I1 - 1:Nat):Int):=by omega
    rw[aeN];have Ag:=HR.out.aA EO.out;refine(gz rb sb tv ae (I1 - 1) I1 fin A 6 Y (by omega) (by omega) aaS.out Ag.tok Ag.tr).mono ?_;rintro e w7 ⟨rfl,zk,sZ⟩;have Pm:az w7 xb (uq gb (.slice iI la.length bf)) 249:=O9.out.aA sZ (by omega);have hC7:=EO.out.trans sZ;have aeO:=TJ.out.move hC7 (fun k hk e=>by omega);have Rk:=ast zk;have Zr:=ast hC7;have ajD:=ast aeO;clear aeN Ag zk sZ hC7 aeO m0 m1 m2 m3 m4 r0 r1 r2 r3 r4 r5;have x0:w7.cell? ⟨xb,0,none⟩=some (.int .i64 6):=Pm.cell 0 _ rfl;have x1:w7.cell? ⟨xb,1,none⟩=some (.int .i64 0):=Pm.cell 1 _ rfl;have x2:w7.cell? ⟨xb,2,none⟩=some (.string ⟨#[]⟩):=Pm.cell 2 _ rfl;have x3:w7.cell? ⟨xb,3,none⟩=some (.slice iI la.length bf):=Pm.cell 3 _ rfl;have x4:w7.cell? ⟨xb,4,none⟩=some (.slice (some ⟨gb,0,none⟩) 2 2):=Pm.cell 4 _ rfl;have hs7:base≤w7.heap.size:=by have:=Zr.out.size;omega
    have qJ:=ast (ajD.out.kZ ((aj.refl (fun _=>False) w7).alloc (.cells (uq gb (.slice iI la.length bf)) 249 (0,0))) (fun _ _=>id));have wV:=ast (qH w7 (uq gb (.slice iI la.length bf)) 249);have wW:=ast (kP (x:=uq gb (.slice iI la.length bf)) ⟨6,0,⟨#[]⟩,iI,la.length,bf,some ⟨gb,0,none⟩,2,2,rfl⟩);have Pg:=ast (show acc.length+1≤maxLen by unfold maxLen;omega);have Ph:=ast (show(acc.length+1)*80≤140737488355328 by omega);have nP:=ast (show base≤(w7.alloc (.cells (uq gb (.slice iI la.length bf)) 249 (0,0))).heap.size by simp;omega);have Hy:=ast (show(w7.alloc (.cells (uq gb (.slice iI la.length bf)) 249 (0,0))).heap.size=w7.heap.size+1 by simp);clear Pm;go_wp2_with (at_builtin;refine wpList_append_lies _ rfl _ _ 184 rfl base 249 i0 (.agg cZ) 5 80 Tryz.underlying184 hi hz0 hz1 hz2 rfl (by decide) _ acc.length (xs.flatMap Array.toList) rfl qJ.out.row ⟨w7.heap.size,0,none⟩ 1 1 (uq gb (.slice iI la.length bf)).toList rfl rfl wV.out wW.out (by decide) Pg.out Ph.out nP.out (w7.heap.size+1) Hy.out ?_)
    intro g2 qj w6 hown hgrow hat Pj;clear x0 x1 x2 x3 x4 hown hat;have kQ:=ast hgrow;clear hgrow;go_wp2_with fail
    go_ret
    rw[HRe.out];refine⟨_,_,_,I1,rfl,by decide,?_,?_⟩
    ·exact(kQ.out.block rb (by have:=Rk.out.lt;simp;omega) (by simp[Value.ownBlock];omega)).trans ((Rk.out.alloc _))
    ·exact((Zr.out.alloc _).mono (fun k _ e=>Or.inl e)).trans ((aj.bD kQ.out).mono (fun k _ e=>Or.inr e.symm))
  ·obtain⟨iI,n2,bf,I',rfl,hE,mf,mY⟩:=hP
   have hs5:wc.heap.size+1≤w5.heap.size:=by have:=mY.size;simpa using this
   obtain⟨X,Hm⟩:=exq (w5.setCell ⟨xb,3,none⟩ (.slice iI n2 bf):World);have xZ:aj (fun b=>b=xb) w5 X:=by rw[Hm];exact(aj.refl (fun b=>b=xb) w5).setCell (p:=⟨xb,3,none⟩) rfl _
   have Rh:X.heap.size=w5.heap.size:=by rw[Hm];simp[World.setCell]
   have EP:az w5 xb (uq gb (.slice none 0 0)) 249:=(lV.out.alloc _).aA mY (by omega);have f3:=EP.frozen 3;have x3':w5.cell? ⟨xb,3,none⟩=some (.slice none 0 0):=EP.cell 3 _ rfl
   have uT:az X xb (uq gb (.slice iI n2 bf)) 249:=by
    rw[Hm];have:=EP.set (o:=3) (.slice iI n2 bf);simpa [uq]using this
   have hbr:az X rb (bK sb tv I' fin E P) 181:=mf.aA xZ (by omega);have wS:aj (fun b=>b=rb) w X:=(HV.out.trans mY).iw (xZ.mono (fun k _ hk=>by omega));have Hw:aW sb sv ws c k X base (.slice (some ⟨g,0,none⟩) acc.length cap) acc xs F:=(TJ.out.move wS (fun k hk e=>by omega));have hEb:(E == 0)=false:=by simpa using hE
   obtain⟨r0,r1,r2,r3,r4,r5⟩:=mf.bK;have ER:=ast uT;have uV:=ast hbr;have vz:=ast wS;have Kv:=ast Hw;have HE:=ast hE;have HR2:Hid (R=.inr (E,P)):=hR2;clear uT hbr wS Hw mY mf EP xZ hR2 hE;go_upto_region 12 with fail
   rw[←Hm];clear Hm r0 r1 r2 r3 r4 r5 x3' f3;obtain⟨r0,r1,r2,r3,r4,r5⟩:=uV.out.bK;have x0:X.cell? ⟨xb,0,none⟩=some (.int .i64 6):=ER.out.cell 0 _ rfl;have x1:X.cell? ⟨xb,1,none⟩=some (.int .i64 0):=ER.out.cell 1 _ rfl;have x2:X.cell? ⟨xb,2,none⟩=some (.string ⟨#[]⟩):=ER.out.cell 2 _ rfl;have x3:X.cell? ⟨xb,3,none⟩=some (.slice iI n2 bf):=ER.out.cell 3 _ rfl;have x4:X.cell? ⟨xb,4,none⟩=some (.slice (some ⟨gb,0,none⟩) 2 2):=ER.out.cell 4 _ rfl;have hs7:base≤X.heap.size:=by have:=vz.out.size;omega
   have qJ:=ast (Kv.out.kZ ((aj.refl (fun _=>False) X).alloc (.cells (uq gb (.slice iI n2 bf)) 249 (0,0))) (fun _ _=>id));have wV:=ast (qH X (uq gb (.slice iI n2 bf)) 249);have wW:=ast (kP (x:=uq gb (.slice iI n2 bf)) ⟨6,0,⟨#[]⟩,iI,n2,bf,some ⟨gb,0,none⟩,2,2,rfl⟩);have Pg:=ast (show acc.length+1≤maxLen by unfold maxLen;omega);have Ph:=ast (show(acc.length+1)*80≤140737488355328 by omega);have nP:=ast (show base≤(X.alloc (.cells (uq gb (.slice iI n2 bf)) 249 (0,0))).heap.size by simp;omega);have Hy:=ast (show(X.alloc (.cells (uq gb (.slice iI n2 bf)) 249 (0,0))).heap.size=X.heap.size+1 by simp);have Kw:=ast Rh;clear Rh;go_wp2_with (at_builtin;refine wpList_append_lies _ rfl _ _ 184 rfl base 249 i0 (.agg cZ) 5 80 Tryz.underlying184 hi hz0 hz1 hz2 rfl (by decide) _ acc.length (xs.flatMap Array.toList) rfl qJ.out.row ⟨X.heap.size,0,none⟩ 1 1 (uq gb (.slice iI n2 bf)).toList rfl rfl wV.out wW.out (by decide) Pg.out Ph.out nP.out (X.heap.size+1) Hy.out ?_)
   intro g2 qj w6 hown hgrow hat Pj;clear x0 x1 x2 x3 x4 hown hat r0 r1 r2 r3 r4 r5;have kQ:=ast hgrow;clear hgrow;go_wp2_with fail
   go_ret
   rw[HR2.out];refine⟨_,_,_,I',rfl,HE.out,?_,?_⟩
   ·exact(kQ.out.block rb (by have:=uV.out.lt;simp;omega) (by simp[Value.ownBlock];omega)).trans ((uV.out.alloc _))
   ·exact((vz.out.alloc _).mono (fun k _ e=>Or.inl e)).trans ((aj.bD kQ.out).mono (fun k _ e=>Or.inr e.symm))
end
end Go.Proofs.YtcphhbofjkenaaaGreatDoor
