import Derived.Test.YtcphhbofjkenaaaGreatDoorMy
import Derived.Test.YtcphhbofjkenaaaGreatDoorM29
namespace Go.Proofs.YtcphhbofjkenaaaGreatDoor
open Go Go.RowKit Proofs.Tryz
set_option linter.unusedVariables false
set_option linter.unusedSimpArgs false
set_option maxRecDepth 100000
set_option maxHeartbeats 16000000
variable{a c d:Int}{s:List Int}{k n an ac bn bc:Nat}{aa ba:Option Addr}{l:List IT}
theorem JY{p:Prop}(h:p:=by
  have g2:w6.cell? (ai x.wp 2)=some (ae t):=by
   have:=HF.at_.shared.2.2.1;rw[HF.wp,HF.tk]at this;rw[qF.out];exact this
  have gl:x.wp<w6.heap.size:=Zw;have gf:w6.frozen? (ai x.wp 2)=false:=abv;clear hy HB cA;go_wp2_with fail;go_end0;refine⟨rfl,_,HF.abF (HF.at_.world (u':={u with ins:=u.ins.tail}) (ik:=y.ov) (jN:=y.tk+1) ?_ ?_ ?_ ?_ (Lc.refl _ _) ?_ ?_)⟩
  ·exact(aq.refl (fun b=>b=y.wp∨y.cv.ownBlock=some b∨y.ov.ownBlock=some b) w6).setCell (p:=ai x.wp 2) (aC HF.wp.symm) _
  ·have hk:=HF.at_.bK.set (o:=2) (ae ((t:Int)+1))
   rw[HF.wp]at hk ⊢;have e:((y.tk+1:Nat):Int)=(t:Int)+1:=by rw[HF.tk,←qF.out];omega
   simpa [B9,e]using hk
  ·exact aR HF.at_.cD ((aq.refl (fun b=>b=x.wp) w6).setCell (p:=ai x.wp 2) rfl _) (fun q hq e=>aal)
  ·exact aR HF.at_.cY ((aq.refl (fun b=>b=x.wp) w6).setCell (p:=ai x.wp 2) rfl _) (fun q hq e=>abc)
  ·simp only
   rw[ee.out,HF.full,HF.tk,List.tail_drop]
  ·obtain⟨_,_,n3,_,n5,n6⟩:=HF.at_.len
   refine⟨n3,n5,?_⟩;rw[HF.tk,←qF.out];omega):p:=h
theorem GM{p:Prop}(h:p:=by
  have HST:=af (zo 1 (h.below hbX).at_);clear h bl z0 z1 z2 z3 z4 hX hib hbX aN dM;obtain⟨k,hk⟩:=ak (m.au.length);rw[←hk]at zX bA hl;have HK:=af hk;clear hk;go_enter func173,ntmps173;go_upto_region 1 with fail
  rw[←HX.out,←dU.out];clear HX;go_wp2_with fail;refine HST.mono ?_;rintro e w2 ⟨rfl,hd⟩;have HD:=af (HA.trans hd);clear hd HST HA;go_wp2_with fail;exact bodyPost_ret (results_none rfl _ _ _) rfl ⟨rfl,_,HD⟩):p:=h
theorem BK{p:Prop}(h:p:=by
  refine uM.mono ?_;rintro e w6 ⟨rfl,y2,hy2⟩;have HF:=af (cB.trans hy2);clear hy2 uM cB jk;go_wp2_with fail;go_end0;refine⟨rfl,y2,?_⟩;have:=HF.out;rw[HS.out]at this;exact this):p:=h
theorem Fz{p:Prop}(h:p:=by
  refine(yU 0 HB.at_ (bU _) (by have:=HK.out;omega) ag).mono ?_;rintro e w6 ⟨rfl,hy⟩;have HF:=af (HB.trans hy);clear hy HB;go_wp2_with fail;go_end0;exact⟨rfl,_,HF⟩):p:=h
theorem Kz{p:Prop}(h:p:=by
  have hg:x.full[x.tk]?=some R:=by
   have e:x.full[x.tk]?=some x.full[x.tk]:=bE ag;rw[e,hR,xM,qh ag];rfl
  obtain⟨pb,po,e1,e2,e3⟩:=hic _ _ hg;exact⟨pb,po,e1,bF e2 mi,e3⟩):p:=h
theorem KB{p:Prop}(h:p:=by
  rw[hR]
  cases hi:u.ins with
  |nil=>exact⟨aF,aF⟩
  |cons a r=>exact hc a (by rw[hi];simp)):p:=h
section
attribute [local go_sem] fH
section
variable{B:Nat}{w w':World}{sb:Nat}{F:Nat→Prop}{x:DX}{m m':DM}{u u':MW}
theorem WG(h:bC B w sb F x m u)(hc:∀y∈u.ins,Cell y)(htk:x.tk+1≤2000000)(hov:m.au.length+1≤32):
  Calls prog 199 #[ax x.mb,.string ⟨#[105,110]⟩,ax x.wp] w fun r w'=>r=.returned (.tuple #[])∧dp B w sb F {x with tk:=x.tk+1} {m with au:=(bM 25 (turnsF m.fs) m.au u).1} (bM 25 (turnsF m.fs) m.au u).2 w':=by
 have hop:bM 25 (turnsF m.fs) m.au u=(w32 (u.ins.headD 0) :: m.au,{u with ins:=u.ins.tail}):=by
  rw[kF (show Cell (u.ins.headD 0)from by
   cases hi:u.ins with
   |nil=>exact⟨aF,aF⟩
   |cons a r=>exact hc a (by rw[hi];simp))]
  simp[bM,execM]
 rw[hop];obtain⟨z0,z1,z2,z3,z4,hlt⟩:=h.cells;obtain⟨y0,y1,y2,y3,mG⟩:=h.shared;obtain⟨ad,cap,bl,_,_⟩:=bo h.cH;obtain⟨ca,cc,hcv,hcc,_⟩:=bo h.cD;rw[bl,dm]at z2;rw[hcv]at y0;have hl:=h.len.2.1;have kQ:=h.len.2.2.2.2.1;have hth:bD ⟨#[105,110]⟩=(0,1,true):=dJ;have HT:=af (fun w=>iF ⟨#[105,110]⟩ w);rw[hth]at HT;have H:=af h;obtain⟨k,hk⟩:=ak (m.au.length);rw[←hk]at z2 hl;have HK:=af hk;have gB:=af hcv;obtain⟨n,hn⟩:=ak (u.vars.length);rw[←hn]at y0 hcc kQ;have HN:=af hn;obtain⟨ia,ic,oo,hic⟩:=BA h.ins;rw[oo]at y1;have mi:=h.le;have xM:=h.rest;obtain⟨N,hN⟩:=ak (x.full.length);have hNl:=h.len.2.2.2.1;have htl:=h.len.2.2.2.2.2;rw[←hN]at y1 hNl;have hk2:¬(k:Int)<0:=ag;obtain⟨R,hR⟩:=ak (u.ins.headD 0);rw[←hR]
 have hRc:Cell R:=by
  exact KB
 have hin:x.tk<N→∃pb po,ia=some (ai pb po)∧pb<w.heap.size∧w.cell? (ai pb (po+x.tk))=some (ae R):=fun ht=>by
  exact Kz
 have hout:¬x.tk<N→R=0:=fun ht=>O7
 obtain⟨t,ht⟩:=ak (x.tk);rw[←ht]at y2 hin hout htl htk;have qF:=af ht;have GV:=af hin;have Ho:=af hout;have ee:=af xM;obtain⟨R1,R2⟩:=hRc;clear h bl hcv z0 z1 z3 z4 y0 y3 hth hk hn hic oo xM hR hN ht hin hout hc hop;go_enter func199,ntmps199;go_wp2_with fail;refine(HT _).mono ?_;rintro e w1 ⟨rfl,rfl⟩;clear HT;go_wp2_with fail;go_quiet (fail);have hbq:Below w1.heap.size w1 (w1.drewN nq):=dz;obtain⟨V,hV⟩:=ak (w1.drewN nq:World);rw[←hV]at hbq;have HA:=af (H.below hbq);clear hbq z2;go_upto_region 15 with fail
 rw[←hV];have y1V:V.cell? (ai x.wp 1)=some (.slice ia N ic):=by rw[hV];exact y1
 have y2V:V.cell? (ai x.wp 2)=some (ae t):=by rw[hV];exact y2
 have qY:x.wp<V.heap.size:=Bo;have HVC:Hid (∀p,V.cell? p=w1.cell? p):=af (fun p=>wM);have HVS:Hid (V.heap.size=w1.heap.size):=af wM;clear hV y1 y2 mG
 by_cases hlt:t<N
 ·obtain⟨pb,po,rfl,hpb,hcell⟩:=GV.out hlt
  have hti:(t:Int)<(N:Int):=ag;have ht0:(0:Int)≤(t:Int):=ag;have cV:V.cell? (ai pb (po+t))=some (ae R):=NM;have hpV:pb<V.heap.size:=by rw[HVS.out];exact hpb
  clear hcell hpb;go_quiet (fail);obtain⟨V2,hV2⟩:=ak (V.drewN nq:World);have y1W:V2.cell? (ai x.wp 1)=some (.slice (some (ai pb po)) N ic):=by rw[hV2];exact y1V
  have y2W:V2.cell? (ai x.wp 2)=some (ae t):=by rw[hV2];exact y2V
  have cW:V2.cell? (ai pb (po+t))=some (ae R):=by rw[hV2];exact cV
  have hwW:x.wp<V2.heap.size:=by rw[hV2];exact qY
  have hpW:pb<V2.heap.size:=by rw[hV2];exact hpV
  have hb2:Below V.heap.size V V2:=PV;have bp:=af (HA.trans (HA.at_.below hb2));clear hb2 y1V y2V cV HVC HVS;go_upto_region 16 with fail
  rw[←hV2];clear hV2;go_quiet (fail);obtain⟨V3,qm⟩:=ak (V2.drewN nq:World);have hb3:Below V2.heap.size V2 V3:=CH;have cB:=af (bp.trans (bp.at_.below hb3));clear hb3 y1W y2W cW bp HA;have HB:=af (cB.trans (cB.at_.below (show Below V3.heap.size V3 (V3.alloc (.cells #[ae R] 3 (0,0)))from aQ.alloc aH _)));have cA:Hid (cN (V3.alloc (.cells #[ae R] 3 (0,0))).heap.size (V3.alloc (.cells #[ae R] 3 (0,0))) (aD V3.heap.size 1 1) [R]):=af (lF V3 [R]);clear cB;go_upto_region 17 with fail
  rw[←qm];clear qm;go_wp2_with fail;refine(iZ 0 [R] HB.at_ (bU _) Jn cA (fun z hz=>Cg)).mono ?_;rintro e w6 ⟨rfl,y,hy⟩;have HF:=af (HB.trans hy);exact JY
 ·have hti:¬(t:Int)<(N:Int):=by omega
  have hR0:=Ho.out hlt;clear HVC HVS;go_quiet (fail);obtain⟨V3,qm⟩:=ak (V.drewN nq:World);have hb3:Below V.heap.size V V3:=CH;have cB:=af (HA.trans (HA.at_.below hb3));clear hb3 y1V y2V HA;subst hR0;have HB:=af (cB.trans (cB.at_.below (show Below V3.heap.size V3 (V3.alloc (.cells #[ae 0] 3 (0,0)))from aQ.alloc aH _)));have cA:Hid (cN (V3.alloc (.cells #[ae 0] 3 (0,0))).heap.size (V3.alloc (.cells #[ae 0] 3 (0,0))) (aD V3.heap.size 1 1) [0]):=af (lF V3 [0]);clear cB;go_upto_region 17 with fail
  rw[←qm];clear qm;go_wp2_with fail;refine(iZ 0 [0] HB.at_ (bU _) Jn cA (fun z hz=>Cg)).mono ?_;rintro e w6 ⟨rfl,y,hy⟩;have HF:=af (HB.trans hy);exact JY
theorem aaE(h:bC B w sb F x m u)(hc:∀y∈u.ins,Cell y)(htk:x.tk+1≤2000000)(hov:32<m.au.length+1):
  Calls prog 199 #[ax x.mb,.string ⟨#[105,110]⟩,ax x.wp] w fun r w'=>r=.returned (.tuple #[])∧dp B w sb F x {m with done:=true,ed:=2} u w':=by
 obtain⟨z0,z1,z2,z3,z4,hlt⟩:=h.cells;obtain⟨y0,y1,y2,y3,mG⟩:=h.shared;obtain⟨ad,cap,bl,_,_⟩:=bo h.cH;obtain⟨ca,cc,hcv,hcc,_⟩:=bo h.cD;rw[bl,dm]at z2;rw[hcv]at y0;have hl:=h.len.2.1;have kQ:=h.len.2.2.2.2.1;have hth:bD ⟨#[105,110]⟩=(0,1,true):=dJ;have HT:=af (fun w=>iF ⟨#[105,110]⟩ w);rw[hth]at HT;have H:=af h;obtain⟨k,hk⟩:=ak (m.au.length);rw[←hk]at z2 hl;have HK:=af hk;have gB:=af hcv;obtain⟨n,hn⟩:=ak (u.vars.length);rw[←hn]at y0 hcc kQ;have HN:=af hn;obtain⟨ia,ic,oo,hic⟩:=BA h.ins;rw[oo]at y1;have mi:=h.le;have xM:=h.rest;obtain⟨N,hN⟩:=ak (x.full.length);have hNl:=h.len.2.2.2.1;have htl:=h.len.2.2.2.2.2;rw[←hN]at y1 hNl;have hk2:¬(k:Int)<0:=ag;obtain⟨R,hR⟩:=ak (u.ins.headD 0)
 have hRc:Cell R:=by
  exact KB
 have hin:x.tk<N→∃pb po,ia=some (ai pb po)∧pb<w.heap.size∧w.cell? (ai pb (po+x.tk))=some (ae R):=fun ht=>by
  exact Kz
 have hout:¬x.tk<N→R=0:=fun ht=>O7
 obtain⟨t,ht⟩:=ak (x.tk);rw[←ht]at y2 hin hout htl htk;have qF:=af ht;have GV:=af hin;have Ho:=af hout;have ee:=af xM;obtain⟨R1,R2⟩:=hRc;clear h bl hcv z0 z1 z3 z4 y0 y3 hth hk hn hic oo xM hR hN ht hin hout hc;go_enter func199,ntmps199;go_wp2_with fail;refine(HT _).mono ?_;rintro e w1 ⟨rfl,rfl⟩;clear HT;go_wp2_with fail;go_quiet (fail);have hbq:Below w1.heap.size w1 (w1.drewN nq):=dz;obtain⟨V,hV⟩:=ak (w1.drewN nq:World);rw[←hV]at hbq;have HA:=af (H.below hbq);clear hbq z2;go_upto_region 15 with fail
 rw[←hV];have y1V:V.cell? (ai x.wp 1)=some (.slice ia N ic):=by rw[hV];exact y1
 have y2V:V.cell? (ai x.wp 2)=some (ae t):=by rw[hV];exact y2
 have qY:x.wp<V.heap.size:=Bo;have HVC:Hid (∀p,V.cell? p=w1.cell? p):=af (fun p=>wM);have HVS:Hid (V.heap.size=w1.heap.size):=af wM;clear hV y1 y2 mG
 by_cases hlt:t<N
 ·obtain⟨pb,po,rfl,hpb,hcell⟩:=GV.out hlt
  have hti:(t:Int)<(N:Int):=ag;have ht0:(0:Int)≤(t:Int):=ag;have cV:V.cell? (ai pb (po+t))=some (ae R):=NM;have hpV:pb<V.heap.size:=by rw[HVS.out];exact hpb
  clear hcell hpb;go_quiet (fail);obtain⟨V2,hV2⟩:=ak (V.drewN nq:World);have y1W:V2.cell? (ai x.wp 1)=some (.slice (some (ai pb po)) N ic):=by rw[hV2];exact y1V
  have y2W:V2.cell? (ai x.wp 2)=some (ae t):=by rw[hV2];exact y2V
  have cW:V2.cell? (ai pb (po+t))=some (ae R):=by rw[hV2];exact cV
  have hwW:x.wp<V2.heap.size:=by rw[hV2];exact qY
  have hpW:pb<V2.heap.size:=by rw[hV2];exact hpV
  have hb2:Below V.heap.size V V2:=PV;have bp:=af (HA.trans (HA.at_.below hb2));clear hb2 y1V y2V cV HVC HVS;go_upto_region 16 with fail
  rw[←hV2];clear hV2;go_quiet (fail);obtain⟨V3,qm⟩:=ak (V2.drewN nq:World);have hb3:Below V2.heap.size V2 V3:=CH;have cB:=af (bp.trans (bp.at_.below hb3));clear hb3 y1W y2W cW bp HA;have HB:=af (cB.trans (cB.at_.below (show Below V3.heap.size V3 (V3.alloc (.cells #[ae R] 3 (0,0)))from aQ.alloc aH _)));clear cB;go_upto_region 17 with fail
  rw[←qm];clear qm;go_wp2_with fail;exact Fz
 ·have hti:¬(t:Int)<(N:Int):=by omega
  have hR0:=Ho.out hlt;clear HVC HVS;go_quiet (fail);obtain⟨V3,qm⟩:=ak (V.drewN nq:World);have hb3:Below V.heap.size V V3:=CH;have cB:=af (HA.trans (HA.at_.below hb3));clear hb3 y1V y2V HA;subst hR0;have HB:=af (cB.trans (cB.at_.below (show Below V3.heap.size V3 (V3.alloc (.cells #[ae 0] 3 (0,0)))from aQ.alloc aH _)));clear cB;go_upto_region 17 with fail
  rw[←qm];clear qm;go_wp2_with fail;exact Fz
end
end
section
attribute [local go_sem] fH
section
variable{B:Nat}{w w':World}{sb:Nat}{F:Nat→Prop}{x:DX}{m m':DM}{u u':MW}
theorem TY(h:bC B w sb F x m u)(hs:m.au=a :: s)(ha:Cell a)(ho:u.outs.length+1≤2000000):
  Calls prog 199 #[ax x.mb,.string ⟨#[111,117,116]⟩,ax x.wp] w fun r w'=>r=.returned (.tuple #[])∧dp B w sb F x {m with au:=(bM 26 (turnsF m.fs) m.au u).1} (bM 26 (turnsF m.fs) m.au u).2 w':=by
 have hop:bM 26 (turnsF m.fs) m.au u=(s,{u with outs:=u.outs++[a]}):=by rw[hs];simp[bM,execM]
 rw[hop];obtain⟨z0,z1,z2,z3,z4,hlt⟩:=h.cells;obtain⟨y0,y1,y2,y3,mG⟩:=h.shared;obtain⟨ad,cap,bl,_,_⟩:=bo h.cH;obtain⟨ca,cc,hcv,hcc,_⟩:=bo h.cD;rw[bl,dm]at z2;rw[hcv]at y0;have hl:=h.len.2.1;have kQ:=h.len.2.2.2.2.1;have hth:bD ⟨#[111,117,116]⟩=(1,0,true):=dJ;have HT:=af (fun w=>iF ⟨#[111,117,116]⟩ w);rw[hth]at HT;have H:=af h;obtain⟨k,hk⟩:=ak (m.au.length);rw[←hk]at z2 hl;have HK:=af hk;have gB:=af hcv;obtain⟨n,hn⟩:=ak (u.vars.length);rw[←hn]at y0 hcc kQ;have HN:=af hn;obtain⟨oa,oc,hov,hoc,_⟩:=bo h.cY;rw[hov]at y3;have hlen:k=s.length+1:=by rw[hk,hs];rfl
 have hk2:¬(k:Int)<1:=ag;have HS:=af hs;have fL:=af hlen;have HOV:=af hov;obtain⟨on,hon⟩:=ak (u.outs.length);rw[←hon]at y3 hoc ho;have fB:=af hon;obtain⟨ol,hol⟩:=ak (ints u.outs);have HOL:=af hol;obtain⟨i0,lS,hz0,pP,hb0⟩:=info_parts Tryz.vo;have HI:=af (aY lS (aY hz0 (aY pP hb0)));clear h hs bl hcv z0 z1 z3 z4 y0 y1 y2 hth hk hn hop hlen hov hon hol lS hz0 pP hb0 ha;go_enter func199,ntmps199;go_wp2_with fail;refine(HT _).mono ?_;rintro e w1 ⟨rfl,rfl⟩;clear HT;go_wp2_with fail;go_quiet (fail);have hbq:Below w1.heap.size w1 (w1.drewN nq):=dz;obtain⟨V,hV⟩:=ak (w1.drewN nq:World);rw[←hV]at hbq;have HA:=af (H.below hbq);clear hbq z2;go_upto_region 21 with fail
 rw[←hV];have y3V:V.cell? (ai x.wp 3)=some (.slice oa on oc):=by rw[hV];exact y3
 have qY:x.wp<V.heap.size:=Bo;have HTU:=af (fun (v:bN V.heap.size V)=>dy 0 (HA.at_.below v.below).at_ (show m.au[0]?=some a by rw[HS.out];rfl) ag);clear hV y3 mG HTU;have hD0:=HA.trans (HA.at_.below (Below.refl _ V).drew)
 have Rf:(V.drew).ownsRow B 3 1 (.slice oa on oc) on ol:=by
  have:=hD0.at_.cY;rw[HOV.out]at this;rw[fB.out,HOL.out];exact this
 have hnw:(Value.slice oa on oc).ownBlock≠some x.wp:=aZ Rf hD0.at_.bK aj;have Gm:=af hnw;have HD:=af hD0;have k0:∀v:{v:World // v.cell? (ai x.wp 3)=some (.slice oa on oc)},v.val.cell? (ai x.wp 3)=some (.slice oa on oc):=fun v=>v.property
 have hne:Nonempty {v:World // v.cell? (ai x.wp 3)=some (.slice oa on oc)}:=⟨⟨V,y3V⟩⟩;have pk:=af y3V;have HQ:=af (aY (show on+1≤maxLen by unfold maxLen;omega) (show(on+1)*8≤140737488355328 by omega));clear y3V hD0 Rf hnw HA;refine ly (C:=eM fun v=>v.cell? (ai x.wp 3)=some (.slice oa on oc)) 11 [6,7,8] ⟨V.drew,pk⟩ aP aP rfl ?_;rw[show List.range 11=[0,1,2,3,4,5,6,7,8,9,10]from rfl]
 repeat (refine eV rfl rfl (fun K hK=>?_);go_simp;refine hK _ ?_;clear hK K)
 refine ja rfl rfl 201 #[ax x.mb,ae 0] dB ((dy 0 HD.at_ (show m.au[0]?=some a by rw[HS.out];rfl) ag).mono ?_);rintro e w2 ⟨rfl,hb2⟩;have hy2:w2.cell? (ai x.wp 3)=some (.slice oa on oc):=(hb2.cell (p:=ai x.wp 3) qY).trans pk;refine⟨_,rfl,hy2,?_⟩;have hl2:V.heap.size≤w2.heap.size:=hb2.size;obtain⟨W2,hW2⟩:=ak (w2.alloc (.cells #[ae a] 3 (0,0)):World);have gA:Below w2.heap.size w2 W2:=by rw[hW2];exact aQ.alloc aH _
 have hwl:x.wp<w2.heap.size:=bF qY hl2;have g3:W2.cell? (ai x.wp 3)=some (.slice oa on oc):=(gA.cell (p:=ai x.wp 3) hwl).trans hy2;have aW:=af ((HD.trans (HD.at_.below hb2)).trans ((HD.at_.below hb2).at_.below gA));have jL:=af (show ∀j v,[ae a][j]?=some v→W2.cell? ((Addr.mk w2.heap.size 0 none).add j)=some v by rw[hW2];exact za w2 #[ae a] 3)
 have hro:W2.ownsRow B 3 1 (.slice oa on oc) on ol:=by
  have:=aW.at_.cY;rw[HOV.out]at this;rw[fB.out,HOL.out];exact this
 have HRO:=af hro;have gl:x.wp<W2.heap.size:=bF hwl gA.size;have HW2:=af hW2;refine oG rfl rfl (aD w2.heap.size 1 1) W2 g3 (aC (by rw[HW2.out];go_simp)) ?_;refine CG rfl rfl W2 rfl _ _ _ rfl B 3 i0 (ae 0) 1 8 underlying24 HI.out.1 HI.out.2.1 HI.out.2.2.1 HI.out.2.2.2 rfl aj (.slice oa on oc) on ol rfl HRO (Addr.mk w2.heap.size 0 none) 1 1 [ae a] rfl rfl jL Rm aj HQ.out.1 HQ.out.2 aW.at_.le W2.heap.size rfl (fun w' hg=>((aq.dP hg).cell (p:=ai x.wp 3) gl (fun e=>Gm e.symm)).trans g3) ?_;intro g4 c4 w4 bP hr4 hg4 Nr CD
 repeat (refine eV rfl rfl (fun K hK=>?_);go_simp;refine hK _ ?_;clear hK K)
 refine iV ?_;intro w' hw';rw[show w'=w4 from hw'];clear hw' w' k0 hne bP hy2 hb2 hro gA hwl hl2 hW2 pk;simp only[List.drop_succ_cons,List.drop_zero];have hc4:aq (fun b=>(Value.slice oa on oc).ownBlock=some b) W2 w4:=(aq.dP hg4).mono (fun b _ e=>e.symm);have hnw:=Gm.out;have hk4:=aW.at_.bK.aB hc4 hnw;have g4l:=hk4.lt;have g4f:=hk4.frozen 3;have g4c:w4.cell? (ai x.wp 3)=some (.slice oa on oc):=(hc4.cell (p:=ai x.wp 3) gl hnw).trans g3;obtain⟨Z,hZ⟩:=ak (w4.setCell (ai x.wp 3) (aD g4 (on+1) c4):World);have hsZ:aq (fun b=>b=x.wp) w4 Z:=by rw[hZ];exact(aq.refl (fun b=>b=x.wp) w4).setCell (p:=ai x.wp 3) rfl _
 have iQ:aq (fun b=>b=x.wp∨x.cv.ownBlock=some b∨x.ov.ownBlock=some b) W2 Z:=(hc4.mono (fun b _ e=>aA (aA (by rw[HOV.out,←fB.out];exact e)))).trans (hsZ.mono (fun b _ e=>aC e))
 have hlc:∀b,(aD g4 (on+1) c4).ownBlock=some b→x.ov.ownBlock=some b∨W2.heap.size≤b:=fun b hb=>by
  rw[HOV.out,←fB.out];simp only[Value.ownBlock,Option.some.injEq]at hb;subst hb;rcases Nr with e|e
  ·exact aC e
  ·right;omega
 have hDZ:=aW.at_.world (u':={u with outs:=u.outs++[a]}) (ik:=aD g4 (on+1) c4) (jN:=x.tk) iQ (by
   have:=hk4.set (o:=3) (aD g4 (on+1) c4);rw[hZ];simpa [B9]using this) (aR (aR aW.at_.cD hc4 (fun b hb e=>aW.at_.kH b hb (by rw[HOV.out,←fB.out];exact e))) hsZ (fun b hb e=>by subst e;exact aZ aW.at_.cD aW.at_.bK aj hb)) (by
   show World.ownsRow _ _ _ _ _ _ _
   simp only;rw[Rq,cF,gJ,←fB.out,←HOL.out];exact aR hr4 hsZ (fun b hb e=>by subst e;exact aZ hr4 hk4 aj hb)) hlc aW.at_.rest (by
   obtain⟨_,_,n3,_,n5,n6⟩:=aW.at_.len;exact⟨by simp only[cF,gJ];rw[←fB.out];exact ho,n5,n6⟩)
 have HZ:=af (aW.trans hDZ);clear hr4 hg4 Nr CD hc4 hnw hk4 hsZ iQ hlc hDZ jL HRO g3 gl aW HD HW2 Gm;go_upto_region 22 with fail
 rw[←hZ];clear hZ g4l g4f g4c;go_wp2_with fail;refine(iZ 1 [] HZ.at_ yA JE (aC ⟨rfl,none,0,rfl⟩) (fun z hz=>vM)).mono ?_;rintro e w6 ⟨rfl,y',hy'⟩;have HF:=af (HZ.trans hy');clear hy' HZ;go_wp2_with fail;go_end0;refine⟨rfl,y',?_⟩;have:=HF.out;rw[HS.out]at this;exact this
theorem acT(h:bC B w sb F x m u)(hn:Cell (turnsF m.fs))(hf:∀p∈m.fs,p.2.dX≤3)(hov:m.au.length+1≤32):
  Calls prog 199 #[ax x.mb,.string ⟨#[105]⟩,ax x.wp] w fun r w'=>r=.returned (.tuple #[])∧dp B w sb F x {m with au:=(bM 27 (turnsF m.fs) m.au u).1} (bM 27 (turnsF m.fs) m.au u).2 w':=by
 have hop:bM 27 (turnsF m.fs) m.au u=(w32 (turnsF m.fs) :: m.au,u):=by rw[kF hn];simp[bM,execM]
 rw[hop];obtain⟨z0,z1,z2,z3,z4,hlt⟩:=h.cells;obtain⟨y0,y1,y2,y3,mG⟩:=h.shared;obtain⟨ad,cap,bl,_,_⟩:=bo h.cH;obtain⟨ca,cc,hcv,hcc,_⟩:=bo h.cD;rw[bl,dm]at z2;rw[hcv]at y0;have hl:=h.len.2.1;have kQ:=h.len.2.2.2.2.1;have hth:bD ⟨#[105]⟩=(0,1,true):=dJ;have HT:=af (fun w=>iF ⟨#[105]⟩ w);rw[hth]at HT;have H:=af h;obtain⟨k,hk⟩:=ak (m.au.length);rw[←hk]at z2 hl;have HK:=af hk;have gB:=af hcv;obtain⟨n,hnn⟩:=ak (u.vars.length);rw[←hnn]at y0 hcc kQ;have HN:=af hnn;have hk2:¬(k:Int)<0:=ag;obtain⟨R,hR⟩:=ak (turnsF m.fs);rw[←hR]at hn;rw[←hR];have HR:=af hR;have HFB:=af hf;obtain⟨R1,R2⟩:=hn;clear h bl hcv z0 z1 z3 z4 y0 y1 y2 y3 hth hk hnn hR hf hop;go_enter func199,ntmps199;go_wp2_with fail;refine(HT _).mono ?_;rintro e w1 ⟨rfl,rfl⟩;clear HT;go_wp2_with fail;go_quiet (fail);have hbq:Below w1.heap.size w1 (w1.drewN nq):=dz;obtain⟨V,hV⟩:=ak (w1.drewN nq:World);rw[←hV]at hbq;have HA:=af (H.below hbq);clear hbq z2;go_upto_region 24 with fail
 rw[←hV];clear hV;go_wp2_with fail;refine(MJ HA.at_ HFB).mono ?_;rintro e v3 ⟨rfl,rfl⟩;rw[←HR.out];have HB:=af (HA.trans (HA.at_.below (show Below v3.heap.size v3 (v3.alloc (.cells #[ae R] 3 (0,0)))from aQ.alloc aH _)));have cA:Hid (cN (v3.alloc (.cells #[ae R] 3 (0,0))).heap.size (v3.alloc (.cells #[ae R] 3 (0,0))) (aD v3.heap.size 1 1) [R]):=af (lF v3 [R]);clear HA;go_wp2_with fail;refine(iZ 0 [R] HB.at_ (bU _) Jn cA (fun z hz=>Cg)).mono ?_;rintro e w6 ⟨rfl,y,hy⟩;have HF:=af (HB.trans hy);clear hy HB cA;go_wp2_with fail;go_end0;exact⟨rfl,y,HF⟩
theorem WS(h:bC B w sb F x m u)(hn:Cell (turnsF m.fs))(hf:∀p∈m.fs,p.2.dX≤3)(hov:32<m.au.length+1):
  Calls prog 199 #[ax x.mb,.string ⟨#[105]⟩,ax x.wp] w fun r w'=>r=.returned (.tuple #[])∧dp B w sb F x {m with done:=true,ed:=2} u w':=by
 obtain⟨z0,z1,z2,z3,z4,hlt⟩:=h.cells;obtain⟨y0,y1,y2,y3,mG⟩:=h.shared;obtain⟨ad,cap,bl,_,_⟩:=bo h.cH;obtain⟨ca,cc,hcv,hcc,_⟩:=bo h.cD;rw[bl,dm]at z2;rw[hcv]at y0;have hl:=h.len.2.1;have kQ:=h.len.2.2.2.2.1;have hth:bD ⟨#[105]⟩=(0,1,true):=dJ;have HT:=af (fun w=>iF ⟨#[105]⟩ w);rw[hth]at HT;have H:=af h;obtain⟨k,hk⟩:=ak (m.au.length);rw[←hk]at z2 hl;have HK:=af hk;have gB:=af hcv;obtain⟨n,hnn⟩:=ak (u.vars.length);rw[←hnn]at y0 hcc kQ;have HN:=af hnn;have hk2:¬(k:Int)<0:=ag;obtain⟨R,hR⟩:=ak (turnsF m.fs);rw[←hR]at hn;have HR:=af hR;have HFB:=af hf;obtain⟨R1,R2⟩:=hn;clear h bl hcv z0 z1 z3 z4 y0 y1 y2 y3 hth hk hnn hR hf;go_enter func199,ntmps199;go_wp2_with fail;refine(HT _).mono ?_;rintro e w1 ⟨rfl,rfl⟩;clear HT;go_wp2_with fail;go_quiet (fail);have hbq:Below w1.heap.size w1 (w1.drewN nq):=dz;obtain⟨V,hV⟩:=ak (w1.drewN nq:World);rw[←hV]at hbq;have HA:=af (H.below hbq);clear hbq z2;go_upto_region 24 with fail
 rw[←hV];clear hV;go_wp2_with fail;refine(MJ HA.at_ HFB).mono ?_;rintro e v3 ⟨rfl,rfl⟩;rw[←HR.out];have HB:=af (HA.trans (HA.at_.below (show Below v3.heap.size v3 (v3.alloc (.cells #[ae R] 3 (0,0)))from aQ.alloc aH _)));clear HA;go_wp2_with fail;exact Fz
end
end
section
theorem Zp{s:ByteArray}(h:jT s=some k):s=(cP.getD k (⟨#[]⟩,0,0)).1:=by
 obtain⟨i,x,h1,h2,h3,h4⟩:=EZ s cP 0 k h;obtain rfl:k=i:=ag;have hx:cP.getD k (⟨#[]⟩,0,0)=x:=yt;rw[hx];rw[wZ,wZ]at h3
 cases s with
 |mk d=>cases hx1:x.1 with
  |mk d'=>
   rw[hx1]at h3;have:d=d':=(Array.toList_inj.1 h3).symm;rw[this]
def opM(k:Nat)(m:DM)(u:MW):DM:=if dh k m.au u.vars.length≠4 then{m with done:=true,ed:=dh k m.au u.vars.length}else{m with au:=(bM k (turnsF m.fs) m.au u).1}
def opU(k:Nat)(m:DM)(u:MW):MW:=if dh k m.au u.vars.length≠4 then u else(bM k (turnsF m.fs) m.au u).2
theorem mK(h1:(aL k).need≤s.length)(h2:(s.length:Int)+(aL k).aM≤32)(h3:(k=23∨k=24)→0≤s.headD 0∧s.headD 0<(n:Int)):dh k s n=4:=by
 unfold dh;rw[az ag,az (fun e=>e.2 (h3 e.1)),az ag]
theorem BI(h1:(aL k).need≤s.length)(h2:32<(s.length:Int)+(aL k).aM)(h3:k≠23∧k≠24):dh k s n=2:=by
 unfold dh;rw[az ag,az ag,aG h2]
theorem L8(h1:(aL k).need≤s.length)(h3:k=23∨k=24)(h2:¬(0≤s.headD 0∧s.headD 0<(n:Int))):dh k s n=3:=by
 unfold dh;rw[az ag,aG ⟨h3,h2⟩]
theorem Zl(k:Nat)(hk:k≤12){b:Int}(ha:Cell a)(hb:Cell b)(w:World):Calls prog 211 #[.string (cP.getD k (⟨#[]⟩,0,0)).1,ae a,ae b] w fun e w'=>e=.returned (ae (jM k a b))∧w'=w:=
 match k,hk with
 |0,_=>XW ha hb w
 |1,_=>TG ha hb w
 |2,_=>XP ha hb w
 |3,_=>Sz ha hb w
 |4,_=>XI ha hb w
 |5,_=>U7 ha hb w
 |6,_=>TV ha hb w
 |7,_=>aaO ha hb w
 |8,_=>TD ha hb w
 |9,_=>Ty ha hb w
 |10,_=>aaD ha hb w
 |11,_=>S9 ha hb w
 |12,_=>YU ha hb w
theorem XG:∀k,k≤12→bD (cP.getD k (⟨#[]⟩,0,0)).1=(2,1,true):=dJ
theorem adq:∀k,k≤12→∀l∈Ib,((cP.getD k (⟨#[]⟩,0,0)).1.toList == l)=false:=dJ
theorem UR:∀k,k≤12→(aL k).aM= -1:=dJ
section
variable{B:Nat}{w w':World}{sb:Nat}{F:Nat→Prop}{x:DX}{m m':DM}{u u':MW}
theorem jw(h:dp B w sb F x m' u' w'):∃t,t≤1∧dp B w sb F {x with tk:=x.tk+t} m' u' w':=⟨0,ag,h⟩
theorem vx{e:Int}(h:dh k m.au u.vars.length=e)(he:e≠4):opM k m u={m with done:=true,ed:=e}∧opU k m u=u:=by
 unfold opM opU;rw[h,aG he,aG he];exact⟨rfl,rfl⟩
theorem l9(h:dh k m.au u.vars.length=4):opM k m u={m with au:=(bM k (turnsF m.fs) m.au u).1}∧opU k m u=(bM k (turnsF m.fs) m.au u).2:=by
 unfold opM opU;rw[az (fun e=>e h),az (fun e=>e h)];exact⟨rfl,rfl⟩
theorem abz{s:ByteArray}(hk:jT s=some k)(h:bC B w sb F x m u)(hw:Wl m.au u)(hn:Cell (turnsF m.fs))(hf:∀p∈m.fs,p.2.dX≤3)(ht:x.tk+1≤2000000)(ho:u.outs.length+1≤2000000):
  Calls prog 199 #[ax x.mb,.string s,ax x.wp] w fun r w'=>r=.returned (.tuple #[])∧∃t,t≤1∧dp B w sb F {x with tk:=x.tk+t} (opM k m u) (opU k m u) w':=by
 obtain⟨t1,aee,_⟩:=Cc hk;have hop:=Zp hk;have Re:(aL k).need=(bD s).1:=by rw[t1];rfl
 have hl:=h.len.2.1
 by_cases hu:(m.au.length:Int)<(aL k).need
 ·have hh:dh k m.au u.vars.length=1:=by unfold dh;rw[aG hu]
  obtain⟨e1,e2⟩:=vx hh aj;rw[e1,e2];exact(W8 s _ h (by rw[←Re];exact hu)).mono (fun r w' hr=>⟨hr.1,jw hr.2⟩)
 ·have hge:(aL k).need≤m.au.length:=by omega
  clear Re t1 hk;subst hop
  by_cases iW:k≤12
  ·rw[Du k iW]at hge
   obtain⟨b,a,s,hs⟩:=mA hge;have ha:Cell a:=hw.s a gF;have hb:Cell b:=hw.s b gF;obtain⟨e1,e2⟩:=l9 (m:=m) (u:=u) (mK (k:=k) (s:=m.au) (n:=u.vars.length) (by rw[Du k iW];exact hge) (by rw[UR k iW];omega) ag)
   have hop:bM k (turnsF m.fs) m.au u=(w32 (jM k a b) :: s,u):=by
    rw[hs,Ll k iW ha hb];simp[bM,execM,iW]
   rw[e1,e2,hop];exact(Mr _ h hs (XG k iW) (adq k iW) (fun w=>Zl k iW ha hb w) (KJ k ha hb)).mono (fun r w' hr=>⟨hr.1,jw hr.2⟩)
  have hcs:k=13∨k=14∨k=15∨k=16∨k=17∨k=18∨k=19∨k=20∨k=21∨k=22∨k=23∨k=24∨k=25∨k=26∨k=27:=ag;rcases hcs with rfl|rfl|rfl|rfl|rfl|rfl|rfl|rfl|rfl|rfl|rfl|rfl|rfl|rfl|rfl
  ·have hnd:(aL 13).need=1:=rfl
   have mm:(aL 13).aM=0:=rfl;rw[hnd]at hge;obtain⟨a,s,hs⟩:=ll hge;have ha:Cell a:=hw.s a gF;obtain⟨e1,e2⟩:=l9 (m:=m) (u:=u) (mK (k:=13) ag ag ag);rw[e1,e2];exact(Te h hs ha).mono (fun r w' hr=>⟨hr.1,jw hr.2⟩)
  ·have hnd:(aL 14).need=1:=rfl
   have mm:(aL 14).aM=0:=rfl;rw[hnd]at hge;obtain⟨a,s,hs⟩:=ll hge;have ha:Cell a:=hw.s a gF;obtain⟨e1,e2⟩:=l9 (m:=m) (u:=u) (mK (k:=14) ag ag ag);rw[e1,e2];exact(abw h hs ha).mono (fun r w' hr=>⟨hr.1,jw hr.2⟩)
  ·have hnd:(aL 15).need=1:=rfl
   have mm:(aL 15).aM=0:=rfl;rw[hnd]at hge;obtain⟨a,s,hs⟩:=ll hge;have ha:Cell a:=hw.s a gF;obtain⟨e1,e2⟩:=l9 (m:=m) (u:=u) (mK (k:=15) ag ag ag);rw[e1,e2];exact(Zx h hs ha).mono (fun r w' hr=>⟨hr.1,jw hr.2⟩)
  ·have hnd:(aL 16).need=1:=rfl
   have mm:(aL 16).aM=1:=rfl;rw[hnd]at hge;obtain⟨a,s,hs⟩:=ll hge;have ha:Cell a:=hw.s a gF
   by_cases hov:32<m.au.length+1
   ·obtain⟨e1,e2⟩:=vx (m:=m) (u:=u) (BI (k:=16) ag ag ag) aj
    rw[e1,e2];exact(SS h hs ha hov).mono (fun r w' hr=>⟨hr.1,jw hr.2⟩)
   ·obtain⟨e1,e2⟩:=l9 (m:=m) (u:=u) (mK (k:=16) ag ag ag)
    rw[e1,e2];exact(SE h hs ha ag).mono (fun r w' hr=>⟨hr.1,jw hr.2⟩)
  ·have hnd:(aL 17).need=1:=rfl
   have mm:(aL 17).aM= -1:=rfl;rw[hnd]at hge;obtain⟨a,s,hs⟩:=ll hge;have ha:Cell a:=hw.s a gF;obtain⟨e1,e2⟩:=l9 (m:=m) (u:=u) (mK (k:=17) ag ag ag);rw[e1,e2];exact(aaU h hs ha).mono (fun r w' hr=>⟨hr.1,jw hr.2⟩)
  ·have hnd:(aL 18).need=2:=rfl
   have mm:(aL 18).aM=0:=rfl;rw[hnd]at hge;obtain⟨b,a,s,hs⟩:=mA hge;have ha:Cell a:=hw.s a gF;have hb:Cell b:=hw.s b gF;obtain⟨e1,e2⟩:=l9 (m:=m) (u:=u) (mK (k:=18) ag ag ag);rw[e1,e2];exact(Y1 h hs ha hb).mono (fun r w' hr=>⟨hr.1,jw hr.2⟩)
  ·have hnd:(aL 19).need=2:=rfl
   have mm:(aL 19).aM=1:=rfl;rw[hnd]at hge;obtain⟨b,a,s,hs⟩:=mA hge;have ha:Cell a:=hw.s a gF;have hb:Cell b:=hw.s b gF
   by_cases hov:32<m.au.length+1
   ·obtain⟨e1,e2⟩:=vx (m:=m) (u:=u) (BI (k:=19) ag ag ag) aj
    rw[e1,e2];exact(S7 h hs ha hb hov).mono (fun r w' hr=>⟨hr.1,jw hr.2⟩)
   ·obtain⟨e1,e2⟩:=l9 (m:=m) (u:=u) (mK (k:=19) ag ag ag)
    rw[e1,e2];exact(WD h hs ha hb ag).mono (fun r w' hr=>⟨hr.1,jw hr.2⟩)
  ·have hnd:(aL 20).need=3:=rfl
   have mm:(aL 20).aM=0:=rfl;rw[hnd]at hge;obtain⟨c,b,a,s,hs⟩:=Lx hge;have ha:Cell a:=hw.s a gF;have hb:Cell b:=hw.s b gF;have hc:Cell c:=hw.s c gF;obtain⟨e1,e2⟩:=l9 (m:=m) (u:=u) (mK (k:=20) ag ag ag);rw[e1,e2];exact(ab4 h hs ha hb hc).mono (fun r w' hr=>⟨hr.1,jw hr.2⟩)
  ·have hnd:(aL 21).need=2:=rfl
   have mm:(aL 21).aM= -1:=rfl;rw[hnd]at hge;obtain⟨b,a,s,hs⟩:=mA hge;have ha:Cell a:=hw.s a gF;have hb:Cell b:=hw.s b gF;obtain⟨e1,e2⟩:=l9 (m:=m) (u:=u) (mK (k:=21) ag ag ag);have hop:bM 21 (turnsF m.fs) m.au u=(w32 b :: s,u):=by rw[hs,kF hb];rcases s with _|⟨_,_|_⟩<;>simp[bM,execM,arrP]
   rw[e1,e2,hop];exact(Mr _ h hs dJ dJ (fun w=>SJ ha hb w) (KJ 21 ha hb)).mono (fun r w' hr=>⟨hr.1,jw hr.2⟩)
  ·have hnd:(aL 22).need=2:=rfl
   have mm:(aL 22).aM=1:=rfl;rw[hnd]at hge;obtain⟨b,a,s,hs⟩:=mA hge;have ha:Cell a:=hw.s a gF;have hb:Cell b:=hw.s b gF
   by_cases hov:32<m.au.length+1
   ·obtain⟨e1,e2⟩:=vx (m:=m) (u:=u) (BI (k:=22) ag ag ag) aj
    rw[e1,e2];exact(Uh h hs ha hb hov).mono (fun r w' hr=>⟨hr.1,jw hr.2⟩)
   ·obtain⟨e1,e2⟩:=l9 (m:=m) (u:=u) (mK (k:=22) ag ag ag)
    rw[e1,e2];exact(U6 h hs ha hb ag).mono (fun r w' hr=>⟨hr.1,jw hr.2⟩)
  ·have hnd:(aL 23).need=1:=rfl
   have mm:(aL 23).aM=0:=rfl;rw[hnd]at hge;obtain⟨a,s,hs⟩:=ll hge;have ha:Cell a:=hw.s a gF
   by_cases wW:a<0∨(u.vars.length:Int)≤a
   ·obtain⟨e1,e2⟩:=vx (m:=m) (u:=u) (L8 (k:=23) ag ag CC) aj
    rw[e1,e2];have htt:(bD (cP.getD 23 (⟨#[]⟩,0,0)).1).1=1:=dJ;exact(Pc _ (aC rfl) h hs (Int.le_trans (Int.le_of_eq htt) ag) ha wW).mono (fun r w' hr=>⟨hr.1,jw hr.2⟩)
   ·obtain⟨e1,e2⟩:=l9 (m:=m) (u:=u) (mK (k:=23) ag ag CC)
    rw[e1,e2];obtain⟨i,hi⟩:∃i:Nat,a=(i:Int):=⟨(a).toNat,ag⟩;subst hi;exact(Yp h hs ag hw.v).mono (fun r w' hr=>⟨hr.1,jw hr.2⟩)
  ·have hnd:(aL 24).need=2:=rfl
   have mm:(aL 24).aM= -2:=rfl;rw[hnd]at hge;obtain⟨b,a,s,hs⟩:=mA hge;have ha:Cell a:=hw.s a gF;have hb:Cell b:=hw.s b gF
   by_cases wW:b<0∨(u.vars.length:Int)≤b
   ·obtain⟨e1,e2⟩:=vx (m:=m) (u:=u) (L8 (k:=24) ag ag CC) aj
    rw[e1,e2];have htt:(bD (cP.getD 24 (⟨#[]⟩,0,0)).1).1=2:=dJ;exact(Pc _ (aA rfl) h hs (Int.le_trans (Int.le_of_eq htt) ag) hb wW).mono (fun r w' hr=>⟨hr.1,jw hr.2⟩)
   ·obtain⟨e1,e2⟩:=l9 (m:=m) (u:=u) (mK (k:=24) ag ag CC)
    rw[e1,e2];obtain⟨i,hi⟩:∃i:Nat,b=(i:Int):=⟨(b).toNat,ag⟩;subst hi;exact(Za h hs ag).mono (fun r w' hr=>⟨hr.1,jw hr.2⟩)
  ·have hnd:(aL 25).need=0:=rfl
   have mm:(aL 25).aM=1:=rfl;rw[hnd]at hge
   by_cases hov:32<m.au.length+1
   ·obtain⟨e1,e2⟩:=vx (m:=m) (u:=u) (BI (k:=25) ag ag ag) aj
    rw[e1,e2];exact(aaE h hw.i ht hov).mono (fun r w' hr=>⟨hr.1,jw hr.2⟩)
   ·obtain⟨e1,e2⟩:=l9 (m:=m) (u:=u) (mK (k:=25) ag ag ag)
    rw[e1,e2];exact(WG h hw.i ht ag).mono (fun r w' hr=>⟨hr.1,1,ag,hr.2⟩)
  ·have hnd:(aL 26).need=1:=rfl
   have mm:(aL 26).aM= -1:=rfl;rw[hnd]at hge;obtain⟨a,s,hs⟩:=ll hge;have ha:Cell a:=hw.s a gF;obtain⟨e1,e2⟩:=l9 (m:=m) (u:=u) (mK (k:=26) ag ag ag);rw[e1,e2];exact(TY h hs ha ho).mono (fun r w' hr=>⟨hr.1,jw hr.2⟩)
  ·have hnd:(aL 27).need=0:=rfl
   have mm:(aL 27).aM=1:=rfl;rw[hnd]at hge
   by_cases hov:32<m.au.length+1
   ·obtain⟨e1,e2⟩:=vx (m:=m) (u:=u) (BI (k:=27) ag ag ag) aj
    rw[e1,e2];exact(WS h hn hf hov).mono (fun r w' hr=>⟨hr.1,jw hr.2⟩)
   ·obtain⟨e1,e2⟩:=l9 (m:=m) (u:=u) (mK (k:=27) ag ag ag)
    rw[e1,e2];exact(acT h hn hf ag).mono (fun r w' hr=>⟨hr.1,jw hr.2⟩)
end
end
section
section
variable{B:Nat}{w w':World}{sb:Nat}{F:Nat→Prop}{x:DX}{m m':DM}{u u':MW}
theorem bC.pI(h:bC B w sb F x m u){b:Nat}(hb:x.S b):b<w.heap.size:=by
 rcases hb with e|e|e|e|e
 ·rw[e];exact h.dA.lt
 ·rw[e];exact h.bK.lt
 ·exact cJ h.fg e
 ·exact cJ h.cD e
 ·exact cJ h.cY e
theorem yr{va:Option Addr}{vn vc:Nat}(its:List IT)(dX:Nat)(bi n e:Int)(eJ:bi=(dX:Int))(mb:Nat)(hmb:x.mb=mb)(h:bC B w sb F x m u)(hf:fk F w (.slice va vn vc) its)(hl:m.fs.length+1≤2000000):
  Calls prog 200 #[ax mb,.agg #[.slice va vn vc,ae 0,ae bi,ae n,ae e]] w fun r w'=>r=.returned (.tuple #[])∧dp B w sb F x {m with fs:=(.slice va vn vc,⟨its,0,dX,n,e⟩) :: m.fs} u w':=by
 subst eJ;subst hmb;exact VW ⟨its,0,dX,n,e⟩ h hf hl
theorem Uk(n:Int)(h:bC B w sb F x m u)(hn:Cell n)(ho:m.au.length+1≤32):
  Calls prog 173 #[ax x.mb,.agg #[ae 1,ae n,.string ⟨#[]⟩,aI,aI],ax x.wp] w fun r w'=>r=.returned (.tuple #[])∧dp B w sb F x {m with au:=n :: m.au} u w':=by
 obtain⟨z0,z1,z2,z3,z4,hlt⟩:=h.cells;obtain⟨ad,cap,bl,_,_⟩:=bo h.cH;rw[bl,dm]at z2;have hl:=h.len.2.1;obtain⟨X,hX⟩:=ak (w.alloc (.cells #[ae 1,ae n,.string ⟨#[]⟩,aI,aI] 249 (0,0)):World);obtain⟨ib,hib⟩:=ak (w.heap.size);have hbX:Below w.heap.size w X:=jo;have aN:ay X ib #[ae 1,ae n,.string ⟨#[]⟩,aI,aI] 249:=pU;have dM:¬x.S ib:=fun e=>qJ
 have HA:=af (h.below hbX);have bz:=af aN;have HX:=af hX;have dU:=af hib;have ie:=af dM;have i0:X.cell? (ai ib 0)=some (ae 1):=aN.cell 0 _ rfl;have zX:X.cell? (ai x.mb 2)=some (.slice ad m.au.length cap):=(hbX.cell (p:=ai x.mb 2) hlt).trans z2;have jI:x.mb<X.heap.size:=bF hlt hbX.size;have hiX:=aN.lt;have i1:X.cell? (ai ib 1)=some (ae n):=aN.cell 1 _ rfl;have HB:=af ((h.below hbX).trans ((h.below hbX).at_.below (show Below X.heap.size X (X.alloc (.cells #[ae n] 3 (0,0)))from aQ.alloc aH _)));have cA:Hid (cN (X.alloc (.cells #[ae n] 3 (0,0))).heap.size (X.alloc (.cells #[ae n] 3 (0,0))) (aD X.heap.size 1 1) [n]):=af (lF X [n]);clear h bl z0 z1 z2 z3 z4 hX hib hbX aN dM;go_enter func173,ntmps173;go_upto_region 1 with fail
 rw[←HX.out,←dU.out];clear HX dU;go_wp2_with fail;refine(iZ 0 [n] HB.at_ (bU _) ow cA (fun z hz=>by rw[p6.1 hz];obtain⟨a,b⟩:=hn;omega)).mono ?_;rintro e w6 ⟨rfl,y,hy⟩;have HF:=af (HB.trans hy);clear hy HB cA;go_wp2_with fail;go_end0;refine⟨rfl,y,?_⟩;have:=HF.out;simp only[List.map_cons,List.map_nil,List.reverse_cons,List.reverse_nil,List.nil_append,List.singleton_append,List.drop_zero,kF hn]at this;exact this
theorem UM(n:Int)(h:bC B w sb F x m u)(ho:32<m.au.length+1):
  Calls prog 173 #[ax x.mb,.agg #[ae 1,ae n,.string ⟨#[]⟩,aI,aI],ax x.wp] w fun r w'=>r=.returned (.tuple #[])∧dp B w sb F x {m with done:=true,ed:=2} u w':=by
 obtain⟨z0,z1,z2,z3,z4,hlt⟩:=h.cells;obtain⟨ad,cap,bl,_,_⟩:=bo h.cH;rw[bl,dm]at z2;have hl:=h.len.2.1;obtain⟨X,hX⟩:=ak (w.alloc (.cells #[ae 1,ae n,.string ⟨#[]⟩,aI,aI] 249 (0,0)):World);obtain⟨ib,hib⟩:=ak (w.heap.size);have hbX:Below w.heap.size w X:=jo;have aN:ay X ib #[ae 1,ae n,.string ⟨#[]⟩,aI,aI] 249:=pU;have dM:¬x.S ib:=fun e=>qJ
 have HA:=af (h.below hbX);have bz:=af aN;have HX:=af hX;have dU:=af hib;have ie:=af dM;have i0:X.cell? (ai ib 0)=some (ae 1):=aN.cell 0 _ rfl;have zX:X.cell? (ai x.mb 2)=some (.slice ad m.au.length cap):=(hbX.cell (p:=ai x.mb 2) hlt).trans z2;have jI:x.mb<X.heap.size:=bF hlt hbX.size;have hiX:=aN.lt;have i1:X.cell? (ai ib 1)=some (ae n):=aN.cell 1 _ rfl;have HB:=af ((h.below hbX).trans ((h.below hbX).at_.below (show Below X.heap.size X (X.alloc (.cells #[ae n] 3 (0,0)))from aQ.alloc aH _)));clear h bl z0 z1 z2 z3 z4 hX hib hbX aN dM;go_enter func173,ntmps173;go_upto_region 1 with fail
 rw[←HX.out,←dU.out];clear HX dU;go_wp2_with fail;refine(yU 0 HB.at_ (bU _) ag ag).mono ?_;rintro e w6 ⟨rfl,hy⟩;have HF:=af (HB.trans hy);clear hy HB;go_wp2_with fail;go_end0;exact⟨rfl,_,HF⟩
theorem Uz{s:ByteArray}(hk:jT s=some k)(h:bC B w sb F x m u)(hw:Wl m.au u)(hn:Cell (turnsF m.fs))(hf:∀p∈m.fs,p.2.dX≤3)(ht:x.tk+1≤2000000)(ho:u.outs.length+1≤2000000):
  Calls prog 173 #[ax x.mb,.agg #[ae 2,ae 0,.string s,aI,aI],ax x.wp] w fun r w'=>r=.returned (.tuple #[])∧∃t,t≤1∧dp B w sb F {x with tk:=x.tk+t} (opM k m u) (opU k m u) w':=by
 obtain⟨z0,z1,z2,z3,z4,hlt⟩:=h.cells;obtain⟨ad,cap,bl,_,_⟩:=bo h.cH;rw[bl,dm]at z2;have hl:=h.len.2.1;obtain⟨X,hX⟩:=ak (w.alloc (.cells #[ae 2,ae 0,.string s,aI,aI] 249 (0,0)):World);obtain⟨ib,hib⟩:=ak (w.heap.size);have hbX:Below w.heap.size w X:=jo;have aN:ay X ib #[ae 2,ae 0,.string s,aI,aI] 249:=pU;have dM:¬x.S ib:=fun e=>qJ
 have HA:=af (h.below hbX);have bz:=af aN;have HX:=af hX;have dU:=af hib;have ie:=af dM;have i0:X.cell? (ai ib 0)=some (ae 2):=aN.cell 0 _ rfl;have zX:X.cell? (ai x.mb 2)=some (.slice ad m.au.length cap):=(hbX.cell (p:=ai x.mb 2) hlt).trans z2;have jI:x.mb<X.heap.size:=bF hlt hbX.size;have hiX:=aN.lt;have i2:X.cell? (ai ib 2)=some (.string s):=aN.cell 2 _ rfl;have HD:=af (abz hk (h.below hbX).at_ hw hn hf ht ho);clear h bl z0 z1 z2 z3 z4 hX hib hbX aN dM;clear hk hw hn hf ht ho;go_enter func173,ntmps173;go_upto_region 1 with fail
 rw[←HX.out,←dU.out];clear HX dU;go_wp2_with fail;refine HD.mono ?_;rintro e w6 ⟨rfl,t,ht,y,hy⟩;have HF:=af (aY ht hy);clear ht hy HD;go_wp2_with fail;go_end0;obtain⟨ht,hy⟩:=HF.out;refine⟨rfl,t,ht,y,?_⟩;have h1:=HA.out;exact⟨hy.at_,hy.mb,hy.wp,hy.cv,hy.full,fun q hq=>(hy.fv q hq).imp id (fun e=>bB h1.aB.size e),fun q hq=>(hy.ov q hq).imp id (fun e=>bB h1.aB.size e),h1.aB.trans hy.aB,hy.tk⟩
theorem Y0(h:bC B w sb F x m u)(hs:m.au=c :: s)(hc:(c != 0)=true)(hT:fk F w (.slice aa an ac) l)(hfl:m.fs.length+1≤2000000):
  Calls prog 173 #[ax x.mb,.agg #[ae 4,ae 0,.string ⟨#[]⟩,.slice aa an ac,.slice ba bn bc],ax x.wp] w fun r w'=>r=.returned (.tuple #[])∧dp B w sb F x {m with au:=s,fs:=(.slice aa an ac,⟨l,0,0,0,0⟩) :: m.fs} u w':=by
 obtain⟨z0,z1,z2,z3,z4,hlt⟩:=h.cells;obtain⟨ad,cap,bl,_,_⟩:=bo h.cH;rw[bl,dm]at z2;have hl:=h.len.2.1;obtain⟨X,hX⟩:=ak (w.alloc (.cells #[ae 4,ae 0,.string ⟨#[]⟩,.slice aa an ac,.slice ba bn bc] 249 (0,0)):World);obtain⟨ib,hib⟩:=ak (w.heap.size);have hbX:Below w.heap.size w X:=jo;have aN:ay X ib #[ae 4,ae 0,.string ⟨#[]⟩,.slice aa an ac,.slice ba bn bc] 249:=pU;have dM:¬x.S ib:=fun e=>qJ
 have HA:=af (h.below hbX);have bz:=af aN;have HX:=af hX;have dU:=af hib;have ie:=af dM;have i0:X.cell? (ai ib 0)=some (ae 4):=aN.cell 0 _ rfl;have zX:X.cell? (ai x.mb 2)=some (.slice ad m.au.length cap):=(hbX.cell (p:=ai x.mb 2) hlt).trans z2;have jI:x.mb<X.heap.size:=bF hlt hbX.size;have hiX:=aN.lt;have hlen:m.au.length=s.length+1:=jD;have bA:¬(m.au.length:Int)<1:=ag;have HS:=af hs;have fL:=af hlen;have HT:=af (hT.below h.fb (hbX.mono h.le));have kr:=af (dy 0 (h.below hbX).at_ (show m.au[0]?=some c by rw[hs];rfl) ag);clear h bl z0 z1 z2 z3 z4 hX hib hbX aN dM;clear hs hlen hT;obtain⟨k,hk⟩:=ak (m.au.length);rw[←hk]at zX bA hl;have HK:=af hk;clear hk;go_enter func173,ntmps173;go_upto_region 1 with fail
 rw[←HX.out,←dU.out];clear HX;go_wp2_with fail;refine kr.mono ?_;rintro e w2 ⟨rfl,hb2⟩;have bp:=af (HA.trans (HA.at_.below hb2));have eu:=af (bz.sub hb2 bz.lt);have dv:=af (HT.below HA.at_.fb (hb2.mono HA.at_.le));clear hb2 kr HA bz HT i0 zX;go_wp2_with fail;refine(iZ 1 [] bp.at_ yD ze (aC ⟨rfl,none,0,rfl⟩) (fun z hz=>vM)).mono ?_;rintro e w3 ⟨rfl,y,hy⟩;have cB:=af (bp.trans hy);have hk3:=eu.aB hy.aB ie;have jk:=af (dv.below bp.at_.fb (bp.at_.toBelow hy.aB (fun _ e=>e)));have i0:w3.cell? (ai ib 0)=some (ae 4):=hk3.cell 0 _ rfl;have i3:w3.cell? (ai ib 3)=some (.slice aa an ac):=hk3.cell 3 _ rfl;have hi3:=hk3.lt;have uM:=af (yr l 0 0 0 0 rfl x.mb cB.mb cB.at_ jk hfl);clear hy bp eu dv hk3;go_wp2_with fail;exact BK
theorem YA(h:bC B w sb F x m u)(hs:m.au=c :: s)(hc:(c != 0)=false)(hT:fk F w (.slice ba bn bc) l)(hfl:m.fs.length+1≤2000000):
  Calls prog 173 #[ax x.mb,.agg #[ae 4,ae 0,.string ⟨#[]⟩,.slice aa an ac,.slice ba bn bc],ax x.wp] w fun r w'=>r=.returned (.tuple #[])∧dp B w sb F x {m with au:=s,fs:=(.slice ba bn bc,⟨l,0,0,0,0⟩) :: m.fs} u w':=by
 obtain⟨z0,z1,z2,z3,z4,hlt⟩:=h.cells;obtain⟨ad,cap,bl,_,_⟩:=bo h.cH;rw[bl,dm]at z2;have hl:=h.len.2.1;obtain⟨X,hX⟩:=ak (w.alloc (.cells #[ae 4,ae 0,.string ⟨#[]⟩,.slice aa an ac,.slice ba bn bc] 249 (0,0)):World);obtain⟨ib,hib⟩:=ak (w.heap.size);have hbX:Below w.heap.size w X:=jo;have aN:ay X ib #[ae 4,ae 0,.string ⟨#[]⟩,.slice aa an ac,.slice ba bn bc] 249:=pU;have dM:¬x.S ib:=fun e=>qJ
 have HA:=af (h.below hbX);have bz:=af aN;have HX:=af hX;have dU:=af hib;have ie:=af dM;have i0:X.cell? (ai ib 0)=some (ae 4):=aN.cell 0 _ rfl;have zX:X.cell? (ai x.mb 2)=some (.slice ad m.au.length cap):=(hbX.cell (p:=ai x.mb 2) hlt).trans z2;have jI:x.mb<X.heap.size:=bF hlt hbX.size;have hiX:=aN.lt;have hlen:m.au.length=s.length+1:=jD;have bA:¬(m.au.length:Int)<1:=ag;have HS:=af hs;have fL:=af hlen;have HT:=af (hT.below h.fb (hbX.mono h.le));have kr:=af (dy 0 (h.below hbX).at_ (show m.au[0]?=some c by rw[hs];rfl) ag);clear h bl z0 z1 z2 z3 z4 hX hib hbX aN dM;clear hs hlen hT;obtain⟨k,hk⟩:=ak (m.au.length);rw[←hk]at zX bA hl;have HK:=af hk;clear hk;go_enter func173,ntmps173;go_upto_region 1 with fail
 rw[←HX.out,←dU.out];clear HX;go_wp2_with fail;refine kr.mono ?_;rintro e w2 ⟨rfl,hb2⟩;have bp:=af (HA.trans (HA.at_.below hb2));have eu:=af (bz.sub hb2 bz.lt);have dv:=af (HT.below HA.at_.fb (hb2.mono HA.at_.le));clear hb2 kr HA bz HT i0 zX;go_wp2_with fail;refine(iZ 1 [] bp.at_ yD ze (aC ⟨rfl,none,0,rfl⟩) (fun z hz=>vM)).mono ?_;rintro e w3 ⟨rfl,y,hy⟩;have cB:=af (bp.trans hy);have hk3:=eu.aB hy.aB ie;have jk:=af (dv.below bp.at_.fb (bp.at_.toBelow hy.aB (fun _ e=>e)));have i0:w3.cell? (ai ib 0)=some (ae 4):=hk3.cell 0 _ rfl;have i3:w3.cell? (ai ib 4)=some (.slice ba bn bc):=hk3.cell 4 _ rfl;have hi3:=hk3.lt;have uM:=af (yr l 0 0 0 0 rfl x.mb cB.mb cB.at_ jk hfl);clear hy bp eu dv hk3;go_wp2_with fail;exact BK
theorem aas(h:bC B w sb F x m u)(hs:m.au=c :: s)(hc:(c != 0)=true)(hT:fk F w (.slice aa an ac) l)(hfl:m.fs.length+1≤2000000):
  Calls prog 173 #[ax x.mb,.agg #[ae 5,ae 0,.string ⟨#[]⟩,.slice aa an ac,.slice ba bn bc],ax x.wp] w fun r w'=>r=.returned (.tuple #[])∧dp B w sb F x {m with au:=s,fs:=(.slice aa an ac,⟨l,0,1,0,0⟩) :: m.fs} u w':=by
 obtain⟨z0,z1,z2,z3,z4,hlt⟩:=h.cells;obtain⟨ad,cap,bl,_,_⟩:=bo h.cH;rw[bl,dm]at z2;have hl:=h.len.2.1;obtain⟨X,hX⟩:=ak (w.alloc (.cells #[ae 5,ae 0,.string ⟨#[]⟩,.slice aa an ac,.slice ba bn bc] 249 (0,0)):World);obtain⟨ib,hib⟩:=ak (w.heap.size);have hbX:Below w.heap.size w X:=jo;have aN:ay X ib #[ae 5,ae 0,.string ⟨#[]⟩,.slice aa an ac,.slice ba bn bc] 249:=pU;have dM:¬x.S ib:=fun e=>qJ
 have HA:=af (h.below hbX);have bz:=af aN;have HX:=af hX;have dU:=af hib;have ie:=af dM;have i0:X.cell? (ai ib 0)=some (ae 5):=aN.cell 0 _ rfl;have zX:X.cell? (ai x.mb 2)=some (.slice ad m.au.length cap):=(hbX.cell (p:=ai x.mb 2) hlt).trans z2;have jI:x.mb<X.heap.size:=bF hlt hbX.size;have hiX:=aN.lt;have hlen:m.au.length=s.length+1:=jD;have bA:¬(m.au.length:Int)<1:=ag;have HS:=af hs;have fL:=af hlen;have HT:=af (hT.below h.fb (hbX.mono h.le));have kr:=af (dy 0 (h.below hbX).at_ (show m.au[0]?=some c by rw[hs];rfl) ag);clear h bl z0 z1 z2 z3 z4 hX hib hbX aN dM;clear hs hlen hT;obtain⟨k,hk⟩:=ak (m.au.length);rw[←hk]at zX bA hl;have HK:=af hk;clear hk;go_enter func173,ntmps173;go_upto_region 1 with fail
 rw[←HX.out,←dU.out];clear HX;go_wp2_with fail;refine kr.mono ?_;rintro e w2 ⟨rfl,hb2⟩;have bp:=af (HA.trans (HA.at_.below hb2));have eu:=af (bz.sub hb2 bz.lt);have dv:=af (HT.below HA.at_.fb (hb2.mono HA.at_.le));clear hb2 kr HA bz HT i0 zX;go_wp2_with fail;refine(iZ 1 [] bp.at_ yD ze (aC ⟨rfl,none,0,rfl⟩) (fun z hz=>vM)).mono ?_;rintro e w3 ⟨rfl,y,hy⟩;have cB:=af (bp.trans hy);have hk3:=eu.aB hy.aB ie;have jk:=af (dv.below bp.at_.fb (bp.at_.toBelow hy.aB (fun _ e=>e)));have i0:w3.cell? (ai ib 0)=some (ae 5):=hk3.cell 0 _ rfl;have i3:w3.cell? (ai ib 3)=some (.slice aa an ac):=hk3.cell 3 _ rfl;have hi3:=hk3.lt;have uM:=af (yr l 1 1 0 0 rfl x.mb cB.mb cB.at_ jk hfl);clear hy bp eu dv hk3;go_wp2_with fail;exact BK
theorem Xh(h:bC B w sb F x m u)(hs:m.au=c :: s)(hc:(c != 0)=false)(hT:fk F w (.slice ba bn bc) l)(hfl:m.fs.length+1≤2000000):
  Calls prog 173 #[ax x.mb,.agg #[ae 5,ae 0,.string ⟨#[]⟩,.slice aa an ac,.slice ba bn bc],ax x.wp] w fun r w'=>r=.returned (.tuple #[])∧dp B w sb F x {m with au:=s,fs:=(.slice ba bn bc,⟨l,0,0,0,0⟩) :: m.fs} u w':=by
 obtain⟨z0,z1,z2,z3,z4,hlt⟩:=h.cells;obtain⟨ad,cap,bl,_,_⟩:=bo h.cH;rw[bl,dm]at z2;have hl:=h.len.2.1;obtain⟨X,hX⟩:=ak (w.alloc (.cells #[ae 5,ae 0,.string ⟨#[]⟩,.slice aa an ac,.slice ba bn bc] 249 (0,0)):World);obtain⟨ib,hib⟩:=ak (w.heap.size);have hbX:Below w.heap.size w X:=jo;have aN:ay X ib #[ae 5,ae 0,.string ⟨#[]⟩,.slice aa an ac,.slice ba bn bc] 249:=pU;have dM:¬x.S ib:=fun e=>qJ
 have HA:=af (h.below hbX);have bz:=af aN;have HX:=af hX;have dU:=af hib;have ie:=af dM;have i0:X.cell? (ai ib 0)=some (ae 5):=aN.cell 0 _ rfl;have zX:X.cell? (ai x.mb 2)=some (.slice ad m.au.length cap):=(hbX.cell (p:=ai x.mb 2) hlt).trans z2;have jI:x.mb<X.heap.size:=bF hlt hbX.size;have hiX:=aN.lt;have hlen:m.au.length=s.length+1:=jD;have bA:¬(m.au.length:Int)<1:=ag;have HS:=af hs;have fL:=af hlen;have HT:=af (hT.below h.fb (hbX.mono h.le));have kr:=af (dy 0 (h.below hbX).at_ (show m.au[0]?=some c by rw[hs];rfl) ag);clear h bl z0 z1 z2 z3 z4 hX hib hbX aN dM;clear hs hlen hT;obtain⟨k,hk⟩:=ak (m.au.length);rw[←hk]at zX bA hl;have HK:=af hk;clear hk;go_enter func173,ntmps173;go_upto_region 1 with fail
 rw[←HX.out,←dU.out];clear HX;go_wp2_with fail;refine kr.mono ?_;rintro e w2 ⟨rfl,hb2⟩;have bp:=af (HA.trans (HA.at_.below hb2));have eu:=af (bz.sub hb2 bz.lt);have dv:=af (HT.below HA.at_.fb (hb2.mono HA.at_.le));clear hb2 kr HA bz HT i0 zX;go_wp2_with fail;refine(iZ 1 [] bp.at_ yD ze (aC ⟨rfl,none,0,rfl⟩) (fun z hz=>vM)).mono ?_;rintro e w3 ⟨rfl,y,hy⟩;have cB:=af (bp.trans hy);have hk3:=eu.aB hy.aB ie;have jk:=af (dv.below bp.at_.fb (bp.at_.toBelow hy.aB (fun _ e=>e)));have i0:w3.cell? (ai ib 0)=some (ae 5):=hk3.cell 0 _ rfl;have i3:w3.cell? (ai ib 4)=some (.slice ba bn bc):=hk3.cell 4 _ rfl;have hi3:=hk3.lt;have uM:=af (yr l 0 0 0 0 rfl x.mb cB.mb cB.at_ jk hfl);clear hy bp eu dv hk3;go_wp2_with fail;exact BK
theorem S6(h:bC B w sb F x m u)(hs:m.au.length<1):
  Calls prog 173 #[ax x.mb,.agg #[ae 4,ae 0,.string ⟨#[]⟩,.slice aa an ac,.slice ba bn bc],ax x.wp] w fun r w'=>r=.returned (.tuple #[])∧dp B w sb F x {m with done:=true,ed:=1} u w':=by
 obtain⟨z0,z1,z2,z3,z4,hlt⟩:=h.cells;obtain⟨ad,cap,bl,_,_⟩:=bo h.cH;rw[bl,dm]at z2;have hl:=h.len.2.1;obtain⟨X,hX⟩:=ak (w.alloc (.cells #[ae 4,ae 0,.string ⟨#[]⟩,.slice aa an ac,.slice ba bn bc] 249 (0,0)):World);obtain⟨ib,hib⟩:=ak (w.heap.size);have hbX:Below w.heap.size w X:=jo;have aN:ay X ib #[ae 4,ae 0,.string ⟨#[]⟩,.slice aa an ac,.slice ba bn bc] 249:=pU;have dM:¬x.S ib:=fun e=>qJ
 have HA:=af (h.below hbX);have bz:=af aN;have HX:=af hX;have dU:=af hib;have ie:=af dM;have i0:X.cell? (ai ib 0)=some (ae 4):=aN.cell 0 _ rfl;have zX:X.cell? (ai x.mb 2)=some (.slice ad m.au.length cap):=(hbX.cell (p:=ai x.mb 2) hlt).trans z2;have jI:x.mb<X.heap.size:=bF hlt hbX.size;have hiX:=aN.lt;have bA:(m.au.length:Int)<1:=ag;exact GM
theorem ads(h:bC B w sb F x m u)(hs:m.au.length<1):
  Calls prog 173 #[ax x.mb,.agg #[ae 5,ae 0,.string ⟨#[]⟩,.slice aa an ac,.slice ba bn bc],ax x.wp] w fun r w'=>r=.returned (.tuple #[])∧dp B w sb F x {m with done:=true,ed:=1} u w':=by
 obtain⟨z0,z1,z2,z3,z4,hlt⟩:=h.cells;obtain⟨ad,cap,bl,_,_⟩:=bo h.cH;rw[bl,dm]at z2;have hl:=h.len.2.1;obtain⟨X,hX⟩:=ak (w.alloc (.cells #[ae 5,ae 0,.string ⟨#[]⟩,.slice aa an ac,.slice ba bn bc] 249 (0,0)):World);obtain⟨ib,hib⟩:=ak (w.heap.size);have hbX:Below w.heap.size w X:=jo;have aN:ay X ib #[ae 5,ae 0,.string ⟨#[]⟩,.slice aa an ac,.slice ba bn bc] 249:=pU;have dM:¬x.S ib:=fun e=>qJ
 have HA:=af (h.below hbX);have bz:=af aN;have HX:=af hX;have dU:=af hib;have ie:=af dM;have i0:X.cell? (ai ib 0)=some (ae 5):=aN.cell 0 _ rfl;have zX:X.cell? (ai x.mb 2)=some (.slice ad m.au.length cap):=(hbX.cell (p:=ai x.mb 2) hlt).trans z2;have jI:x.mb<X.heap.size:=bF hlt hbX.size;have hiX:=aN.lt;have bA:(m.au.length:Int)<1:=ag;exact GM
theorem Xb(h:bC B w sb F x m u)(hs:m.au.length<2):
  Calls prog 173 #[ax x.mb,.agg #[ae 6,ae 0,.string ⟨#[]⟩,.slice aa an ac,.slice ba bn bc],ax x.wp] w fun r w'=>r=.returned (.tuple #[])∧dp B w sb F x {m with done:=true,ed:=1} u w':=by
 obtain⟨z0,z1,z2,z3,z4,hlt⟩:=h.cells;obtain⟨ad,cap,bl,_,_⟩:=bo h.cH;rw[bl,dm]at z2;have hl:=h.len.2.1;obtain⟨X,hX⟩:=ak (w.alloc (.cells #[ae 6,ae 0,.string ⟨#[]⟩,.slice aa an ac,.slice ba bn bc] 249 (0,0)):World);obtain⟨ib,hib⟩:=ak (w.heap.size);have hbX:Below w.heap.size w X:=jo;have aN:ay X ib #[ae 6,ae 0,.string ⟨#[]⟩,.slice aa an ac,.slice ba bn bc] 249:=pU;have dM:¬x.S ib:=fun e=>qJ
 have HA:=af (h.below hbX);have bz:=af aN;have HX:=af hX;have dU:=af hib;have ie:=af dM;have i0:X.cell? (ai ib 0)=some (ae 6):=aN.cell 0 _ rfl;have zX:X.cell? (ai x.mb 2)=some (.slice ad m.au.length cap):=(hbX.cell (p:=ai x.mb 2) hlt).trans z2;have jI:x.mb<X.heap.size:=bF hlt hbX.size;have hiX:=aN.lt;have bA:(m.au.length:Int)<2:=ag;exact GM
theorem SD(h:bC B w sb F x m u)(hs:m.au=c :: d :: s)(hc:c<d)(hT:fk F w (.slice aa an ac) l)(hfl:m.fs.length+1≤2000000):
  Calls prog 173 #[ax x.mb,.agg #[ae 6,ae 0,.string ⟨#[]⟩,.slice aa an ac,.slice ba bn bc],ax x.wp] w fun r w'=>r=.returned (.tuple #[])∧dp B w sb F x {m with au:=s,fs:=(.slice aa an ac,⟨l,0,2,c,d⟩) :: m.fs} u w':=by
 obtain⟨z0,z1,z2,z3,z4,hlt⟩:=h.cells;obtain⟨ad,cap,bl,_,_⟩:=bo h.cH;rw[bl,dm]at z2;have hl:=h.len.2.1;obtain⟨X,hX⟩:=ak (w.alloc (.cells #[ae 6,ae 0,.string ⟨#[]⟩,.slice aa an ac,.slice ba bn bc] 249 (0,0)):World);obtain⟨ib,hib⟩:=ak (w.heap.size);have hbX:Below w.heap.size w X:=jo;have aN:ay X ib #[ae 6,ae 0,.string ⟨#[]⟩,.slice aa an ac,.slice ba bn bc] 249:=pU;have dM:¬x.S ib:=fun e=>qJ
 have HA:=af (h.below hbX);have bz:=af aN;have HX:=af hX;have dU:=af hib;have ie:=af dM;have i0:X.cell? (ai ib 0)=some (ae 6):=aN.cell 0 _ rfl;have zX:X.cell? (ai x.mb 2)=some (.slice ad m.au.length cap):=(hbX.cell (p:=ai x.mb 2) hlt).trans z2;have jI:x.mb<X.heap.size:=bF hlt hbX.size;have hiX:=aN.lt;have hlen:m.au.length=s.length+2:=jD;have bA:¬(m.au.length:Int)<2:=ag;have HS:=af hs;have fL:=af hlen;have HT:=af (hT.below h.fb (hbX.mono h.le));have kr:=af (dy 0 (h.below hbX).at_ (show m.au[0]?=some c by rw[hs];rfl) ag);clear h bl z0 z1 z2 z3 z4 hX hib hbX aN dM;clear hs hlen hT;obtain⟨k,hk⟩:=ak (m.au.length);rw[←hk]at zX bA hl;have HK:=af hk;clear hk;go_enter func173,ntmps173;go_upto_region 1 with fail
 rw[←HX.out,←dU.out];clear HX;go_wp2_with fail;refine kr.mono ?_;rintro e w1 ⟨rfl,hb1⟩;have bH:=af (HA.trans (HA.at_.below hb1));have ft:=af (bz.sub hb1 bz.lt);have r8:=af (HT.below HA.at_.fb (hb1.mono HA.at_.le));have AX:=af (dy 1 bH.at_ (show m.au[1]?=some d by rw[HS.out];rfl) ag);clear hb1 kr HA bz HT i0 zX;go_wp2_with fail;refine AX.mono ?_;rintro e w2 ⟨rfl,hb2⟩;have bp:=af (bH.trans (bH.at_.below hb2));have eu:=af (ft.sub hb2 ft.lt);have dv:=af (r8.below bH.at_.fb (hb2.mono bH.at_.le));clear hb2 AX bH ft r8;go_wp2_with fail;refine(iZ 2 [] bp.at_ yD ze (aC ⟨rfl,none,0,rfl⟩) (fun z hz=>vM)).mono ?_;rintro e w3 ⟨rfl,y,hy⟩;have cB:=af (bp.trans hy);have hk3:=eu.aB hy.aB ie;have jk:=af (dv.below bp.at_.fb (bp.at_.toBelow hy.aB (fun _ e=>e)));have i3:w3.cell? (ai ib 3)=some (.slice aa an ac):=hk3.cell 3 _ rfl;have hi3:=hk3.lt;have uM:=af (yr l 2 2 c d rfl x.mb cB.mb cB.at_ jk hfl);clear hy bp eu dv hk3;go_wp2_with fail;exact BK
theorem X0(h:bC B w sb F x m u)(hs:m.au=c :: d :: s)(hc:¬c<d)(hT:fk F w (.slice aa an ac) l)(hfl:m.fs.length+1≤2000000):
  Calls prog 173 #[ax x.mb,.agg #[ae 6,ae 0,.string ⟨#[]⟩,.slice aa an ac,.slice ba bn bc],ax x.wp] w fun r w'=>r=.returned (.tuple #[])∧dp B w sb F x {m with au:=s} u w':=by
 obtain⟨z0,z1,z2,z3,z4,hlt⟩:=h.cells;obtain⟨ad,cap,bl,_,_⟩:=bo h.cH;rw[bl,dm]at z2;have hl:=h.len.2.1;obtain⟨X,hX⟩:=ak (w.alloc (.cells #[ae 6,ae 0,.string ⟨#[]⟩,.slice aa an ac,.slice ba bn bc] 249 (0,0)):World);obtain⟨ib,hib⟩:=ak (w.heap.size);have hbX:Below w.heap.size w X:=jo;have aN:ay X ib #[ae 6,ae 0,.string ⟨#[]⟩,.slice aa an ac,.slice ba bn bc] 249:=pU;have dM:¬x.S ib:=fun e=>qJ
 have HA:=af (h.below hbX);have bz:=af aN;have HX:=af hX;have dU:=af hib;have ie:=af dM;have i0:X.cell? (ai ib 0)=some (ae 6):=aN.cell 0 _ rfl;have zX:X.cell? (ai x.mb 2)=some (.slice ad m.au.length cap):=(hbX.cell (p:=ai x.mb 2) hlt).trans z2;have jI:x.mb<X.heap.size:=bF hlt hbX.size;have hiX:=aN.lt;have hlen:m.au.length=s.length+2:=jD;have bA:¬(m.au.length:Int)<2:=ag;have HS:=af hs;have fL:=af hlen;have HT:=af (hT.below h.fb (hbX.mono h.le));have kr:=af (dy 0 (h.below hbX).at_ (show m.au[0]?=some c by rw[hs];rfl) ag);clear h bl z0 z1 z2 z3 z4 hX hib hbX aN dM;clear hs hlen hT;obtain⟨k,hk⟩:=ak (m.au.length);rw[←hk]at zX bA hl;have HK:=af hk;clear hk;go_enter func173,ntmps173;go_upto_region 1 with fail
 rw[←HX.out,←dU.out];clear HX;go_wp2_with fail;refine kr.mono ?_;rintro e w1 ⟨rfl,hb1⟩;have bH:=af (HA.trans (HA.at_.below hb1));have ft:=af (bz.sub hb1 bz.lt);have r8:=af (HT.below HA.at_.fb (hb1.mono HA.at_.le));have AX:=af (dy 1 bH.at_ (show m.au[1]?=some d by rw[HS.out];rfl) ag);clear hb1 kr HA bz HT i0 zX;go_wp2_with fail;refine AX.mono ?_;rintro e w2 ⟨rfl,hb2⟩;have bp:=af (bH.trans (bH.at_.below hb2));have eu:=af (ft.sub hb2 ft.lt);have dv:=af (r8.below bH.at_.fb (hb2.mono bH.at_.le));clear hb2 AX bH ft r8;go_wp2_with fail;refine(iZ 2 [] bp.at_ yD ze (aC ⟨rfl,none,0,rfl⟩) (fun z hz=>vM)).mono ?_;rintro e w3 ⟨rfl,y,hy⟩;have cB:=af (bp.trans hy);have hk3:=eu.aB hy.aB ie;have jk:=af (dv.below bp.at_.fb (bp.at_.toBelow hy.aB (fun _ e=>e)));have i3:w3.cell? (ai ib 3)=some (.slice aa an ac):=hk3.cell 3 _ rfl;have hi3:=hk3.lt;clear hy bp eu dv hk3;go_wp2_with fail;go_end0;refine⟨rfl,y,?_⟩;have:=cB.out;rw[HS.out]at this;exact this
end
end
end Go.Proofs.YtcphhbofjkenaaaGreatDoor
