import Derived.Test.YtcphhbofjkenaaaGreatDoorMy
import Derived.Test.YtcphhbofjkenaaaGreatDoorM25
namespace Go.Proofs.YtcphhbofjkenaaaGreatDoor
open Go Go.RowKit Proofs.Tryz
set_option linter.unusedVariables false
set_option linter.unusedSimpArgs false
set_option maxRecDepth 100000
set_option maxHeartbeats 16000000
variable{a b v:Int}{s:List Int}{i k:Nat}{l:List IT}{f:Fr}{r:List Fr}{t:IT}{m:MS}
theorem tJ{p:Prop}(h:p:=by
  go_end0
  refine⟨rfl,y,?_⟩;have:=HF.out;rw[HS.out]at this;exact this):p:=h
theorem CL{p:Prop}(h:p:=by
  intro x hx;rcases er.1 hx with rfl|hx
  ·omega
  ·exact ih x hx):p:=h
theorem Qn{p:Prop}(h:p:=by
  rw[az ag,az ag,az ag,az h1]):p:=h
theorem K9{p:Prop}(h:p:=by
  intro hd;have e:turnsP (f :: r)=turnsP r:=by rw[turnsP,az ag]
  rw[e];exact ih hd):p:=h
section
attribute [local go_sem] fH
def bM(k:Nat)(n:Int)(s:List Int)(u:MW):List Int×MW:=((execM k 0 ⟨s,[(n,0)],[],0⟩ u).2.1.au,(execM k 0 ⟨s,[(n,0)],[],0⟩ u).2.2)
theorem lF(W:World)(l:List Int):cN (W.alloc (.cells (ints l).toArray 3 (0,0))).heap.size (W.alloc (.cells (ints l).toArray 3 (0,0))) (aD W.heap.size l.length l.length) l:=by
 refine aA ⟨W.heap.size,0,l.length,rfl,aH,aF,fun j y hy=>?_⟩;rw[Nat.zero_add];exact(bJ W (ints l).toArray 3).cell j _ (by simp[ints,hy])
section
variable{B:Nat}{w w':World}{sb:Nat}{F:Nat→Prop}{x:DX}{m m':DM}{u u':MW}
theorem W8(s:ByteArray)(wv:Value)(h:bC B w sb F x m u)(hs:(m.au.length:Int)<(bD s).1):
  Calls prog 199 #[ax x.mb,.string s,wv] w fun r w'=>r=.returned (.tuple #[])∧dp B w sb F x {m with done:=true,ed:=1} u w':=by
 obtain⟨c0,c1,c2,c3,c4,hlt⟩:=h.cells;obtain⟨ad,cap,bl,_,_⟩:=bo h.cH;rw[bl,dm]at c2;have hl:=h.len.2.1;have HS:=af (zo 1 h);have HT:=af (fun w=>iF s w);obtain⟨T,hT⟩:=ak (bD s);rw[←hT]at hs HT;clear hT;obtain⟨t,p,ok⟩:=T;simp only at hs HT;clear h bl c0 c1 c3 c4;generalize m.au.length=k at *;go_enter func199,ntmps199;go_wp2_with fail;refine(HT _).mono ?_;rintro e w' ⟨rfl,rfl⟩;go_wp2_with fail;refine HS.mono ?_;rintro e w2 ⟨rfl,hd⟩;have HD:=af hd;clear hd HS HT;go_wp2_with fail;exact bodyPost_ret (results_none rfl _ _ _) rfl ⟨rfl,_,HD⟩
end
end
section
attribute [local go_sem] fH
def Ib:List (List UInt8):=[[64],[33],[105,110],[111,117,116],[105],[110,101,103,97,116,101],[97,98,115],[48,61],[100,117,112],[100,114,111,112],[115,119,97,112],[111,118,101,114],[116,117,99,107],[114,111,116]]
section
variable{B:Nat}{w w':World}{sb:Nat}{F:Nat→Prop}{x:DX}{m m':DM}{u u':MW}
theorem Mr(q:ByteArray){R:Int}(h:bC B w sb F x m u)(hs:m.au=b :: a :: s)(hth:bD q=(2,1,true))(hne:∀l∈Ib,(q.toList == l)=false)(htw:∀w,Calls prog 211 #[.string q,ae a,ae b] w fun e w'=>e=.returned (ae R)∧w'=w)(di: -9000000000000000000≤R∧R≤9000000000000000000):
  Calls prog 199 #[ax x.mb,.string q,ax x.wp] w fun r w'=>r=.returned (.tuple #[])∧dp B w sb F x {m with au:=w32 R :: s} u w':=by
 obtain⟨z0,z1,z2,z3,z4,hlt⟩:=h.cells;obtain⟨ad,cap,bl,_,_⟩:=bo h.cH;rw[bl,dm]at z2;have hl:=h.len.2.1;have hlen:m.au.length=s.length+2:=jD;have HT:=af (fun w=>iF q w);rw[hth]at HT;have H:=af h;have HS:=af hs;have fL:=af hlen;obtain⟨k,hk⟩:=ak (m.au.length);rw[←hk]at z2 hl hlen;have hk2:¬(k:Int)<2:=ag;have HK:=af hk;have HTW:=af htw;have e0:=hne [64] ox;have e1:=hne [33] ox;have e2:=hne [105,110] ox;have e3:=hne [111,117,116] ox;have e4:=hne [105] ox;have e5:=hne [110,101,103,97,116,101] ox;have e6:=hne [97,98,115] ox;have e7:=hne [48,61] ox;have e8:=hne [100,117,112] ox;have e9:=hne [100,114,111,112] ox;have e10:=hne [115,119,97,112] ox;have e11:=hne [111,118,101,114] ox;have e12:=hne [116,117,99,107] ox;have e13:=hne [114,111,116] ox;clear h hs bl z0 z1 z3 z4 hth hlen hk htw hne;go_enter func199,ntmps199;go_wp2_with fail;refine(HT _).mono ?_;rintro e w1 ⟨rfl,rfl⟩;clear HT;go_wp2_with fail;go_quiet (fail);have hbq:Below w1.heap.size w1 (w1.drewN nq):=dz;obtain⟨V,hV⟩:=ak (w1.drewN nq:World);rw[←hV]at hbq;have bW:=af (H.below hbq);clear hbq z2;go_wp2_with fail;rw[←hV];clear hV;refine(dy 1 bW.at_ (show m.au[1]?=some a by rw[HS.out];rfl) ag).mono ?_;rintro e v1 ⟨rfl,hb1⟩;have bH:=af (bW.trans (bW.at_.below hb1));clear hb1 bW;go_wp2_with fail;refine(dy 0 bH.at_ (show m.au[0]?=some b by rw[HS.out];rfl) ag).mono ?_;rintro e v2 ⟨rfl,hb2⟩;have bp:=af (bH.trans (bH.at_.below hb2));clear hb2 bH;go_wp2_with fail
 refine(HTW _).mono ?_;rintro e v3 ⟨rfl,rfl⟩;clear HTW;have HB:=af (bp.trans (bp.at_.below (show Below v3.heap.size v3 (v3.alloc (.cells #[ae (R)] 3 (0,0)))from aQ.alloc aH _)));have cA:Hid (cN (v3.alloc (.cells #[ae (R)] 3 (0,0))).heap.size (v3.alloc (.cells #[ae (R)] 3 (0,0))) (aD v3.heap.size 1 1) [R]):=af (lF v3 [R]);clear bp;go_wp2_with fail;refine(iZ 2 [R] HB.at_ aw rX cA (fun y hy=>Ej)).mono ?_;rintro e w6 ⟨rfl,y,hy⟩;have HF:=af (HB.trans hy);clear hy HB cA;go_wp2_with fail;exact tJ
end
end
section
attribute [local go_sem] fH
section
variable{B:Nat}{w w':World}{sb:Nat}{F:Nat→Prop}{x:DX}{m m':DM}{u u':MW}
theorem Ik(k:Nat)(h:bC B w sb F x m u)(hk:m.au[k]?=some a)(hk3:k≤3)(q:Nat):
  Calls prog 201 #[ax x.mb,ae k] (w.drewN q) fun r w'=>r=.returned (ae a)∧∃j,w'=(w.drewN q).drewN j:=by
 obtain⟨c0,c1,c2,c3,c4,hlt⟩:=h.cells;obtain⟨g,cap,h1,h2,h3,h4⟩:=h.Sb k hk;have hkl:=(cI.1 hk).1;have hl:=h.len.2.1;rw[h1]at c2;obtain⟨W,hW⟩:=ak (w.drewN q:World);rw[←hW];have c2':W.cell? (ai x.mb 2)=some (aD g m.au.length cap):=by rw[hW];exact c2
 have h4':W.cell? (ai g (m.au.length - 1 - k))=some (ae a):=by rw[hW];exact h4
 have Fi:x.mb<W.heap.size:=by rw[hW];exact hlt
 have h3':g<W.heap.size:=by rw[hW];exact h3
 clear h c0 c1 c2 c3 c4 h1 hk h3 h4 hlt hW;obtain⟨n,hn⟩:=ak (m.au.length);rw[←hn]at c2' h2 h4' hkl hl;obtain⟨p,hp⟩:=ak (n - 1 - k:Nat);have hpi:(n:Int) - 1 - (k:Int)=(p:Int):=ag;rw[←hp]at h4';have hp0:(0:Int)≤(p:Int):=ag;have hp1:(p:Int)<(n:Int):=ag;clear hn hp;go_enter func201,ntmps201;go_wp2_with fail;go_quiet (fail);go_wp2_with fail;go_ret;exact⟨rfl,_,rfl⟩
theorem Pc(q:ByteArray)(hq:q=⟨#[64]⟩∨q=⟨#[33]⟩)(h:bC B w sb F x m u)(hs:m.au=a :: s)(htl:(bD q).1≤m.au.length)(ha:Cell a)(hno:a<0∨(u.vars.length:Int)≤a):
  Calls prog 199 #[ax x.mb,.string q,ax x.wp] w fun r w'=>r=.returned (.tuple #[])∧dp B w sb F x {m with done:=true,ed:=3} u w':=by
 obtain⟨z0,z1,z2,z3,z4,hlt⟩:=h.cells;obtain⟨y0,y1,y2,y3,mG⟩:=h.shared;obtain⟨ad,cap,bl,_,_⟩:=bo h.cH;obtain⟨ca,cc,hcv,hcc,_⟩:=bo h.cD;rw[bl,dm]at z2;rw[hcv]at y0;have hl:=h.len.2.1;have kQ:=h.len.2.2.2.2.1;have hlen:m.au.length=s.length+1:=jD;have HT:=af (fun w=>iF q w);obtain⟨T,hth⟩:=ak (bD q);rw[←hth]at HT htl;obtain⟨t0,p0,b0⟩:=T;simp only at HT htl;have H:=af h;have HS:=af hs;have fL:=af hlen;obtain⟨k,hk⟩:=ak (m.au.length);rw[←hk]at z2 hl hlen;have hk2:¬(k:Int)<t0:=by rw[hk];omega
 have HK:=af hk;have gB:=af hcv;obtain⟨n,hn⟩:=ak (u.vars.length);rw[←hn]at y0 hcc kQ;have HN:=af hn;obtain⟨a1,a2⟩:=ha;rw[←hn]at hno
 have hfa:decide (a<0)=true∨(¬a<0∧decide (a<0)=false∧decide ((n:Int)≤a)=true):=by
  by_cases h0:a<0
  ·exact aC (jW h0)
  ·exact aA ⟨h0,gO h0,jW (hno.resolve_left h0)⟩
 clear h hs bl hcv z0 z1 z3 z4 y1 y2 y3 hth hlen hk hn;clear hno;rcases hq with rfl|rfl<;>rcases hfa with hdd|⟨hnn,hdd,hde⟩
 all_goals
  go_enter func199,ntmps199
  go_wp2_with fail
  refine(HT _).mono ?_;rintro e w1 ⟨rfl,rfl⟩;clear HT;have HTQ:=af (fun n=>Ik 0 H (show m.au[0]?=some a by rw[HS.out];rfl) ag n);go_wp2_with fail;go_quiet ((go_at_call 201;exact Calls.quiet_of (HTQ _)));have hbq:Below w1.heap.size w1 (w1.drewN nq):=dz;obtain⟨V,hV⟩:=ak (w1.drewN nq:World);rw[←hV]at hbq;have HA:=af (H.below hbq);clear hbq z2 HTQ;go_wp2_with fail;rw[←hV];clear hV;refine(zo 3 HA.at_).mono ?_;rintro e w5 ⟨rfl,nB⟩;have HF:=af (HA.trans nB);clear nB HA;go_wp2_with fail;exact bodyPost_ret (results_none rfl _ _ _) rfl ⟨rfl,_,HF⟩
end
end
section
attribute [local go_sem] fH
theorem aiq{w:World}{base:Nat}{e:TypeId}{size g n cap:Nat}{xs:List Value}(h:w.ownsRow base e size (aD g n cap) n xs)(k:Nat):w.frozen? (ai g k)=false:=by
 rcases h.2 with ⟨h0,_⟩|⟨g',cap',cur,hv,_,hh,_⟩
 ·cases h0
 ·obtain⟨rfl,rfl⟩:g=g'∧cap=cap':=by simpa using hv
  simp[World.frozen?,hh]
section
variable{B:Nat}{w w':World}{sb:Nat}{F:Nat→Prop}{x:DX}{m m':DM}{u u':MW}
theorem Yp(h:bC B w sb F x m u)(hs:m.au=(i:Int) :: s)(hi:i<u.vars.length)(hc:∀y∈u.vars,Cell y):
  Calls prog 199 #[ax x.mb,.string ⟨#[64]⟩,ax x.wp] w fun r w'=>r=.returned (.tuple #[])∧dp B w sb F x {m with au:=(bM 23 (turnsF m.fs) m.au u).1} (bM 23 (turnsF m.fs) m.au u).2 w':=by
 have hop:∀y,u.vars[i]?=some y→bM 23 (turnsF m.fs) m.au u=(w32 y :: s,u):=fun y hy=>by
  have qB:=hc y (mF hy);rw[hs,kF qB];have e:u.vars.getD i 0=y:=by rw[lM,hy];rfl
  simp[bM,execM,hy]
 obtain⟨z0,z1,z2,z3,z4,hlt⟩:=h.cells;obtain⟨y0,y1,y2,y3,mG⟩:=h.shared;obtain⟨ad,cap,bl,_,_⟩:=bo h.cH;obtain⟨ca,cc,hcv,hcc,_⟩:=bo h.cD;rw[bl,dm]at z2;rw[hcv]at y0;have hl:=h.len.2.1;have kQ:=h.len.2.2.2.2.1;have hth:bD ⟨#[64]⟩=(1,1,true):=dJ;have HT:=af (fun w=>iF ⟨#[64]⟩ w);rw[hth]at HT;have H:=af h;obtain⟨k,hk⟩:=ak (m.au.length);rw[←hk]at z2 hl;have HK:=af hk;have gB:=af hcv;obtain⟨n,hn⟩:=ak (u.vars.length);rw[←hn]at y0 hcc kQ;have HN:=af hn;obtain⟨cg,bq,bP,_,A8,_,_,hcell⟩:=cd h.cD ag
 obtain rfl:ca=some (ai cg 0):=by
  have:=gB.symm.trans bP;injection this
 obtain⟨y,hy⟩:∃y,u.vars[i]?=some y:=⟨_,bE hi⟩;have hyv:w.cell? (ai cg i)=some (ae y):=hcell i _ (by rw[iH,hy];rfl);have lS:(0:Int)≤(i:Int):=ag;have hi1:(i:Int)<(n:Int):=ag;have hnn:¬(i:Int)<0:=ag;have hdd:decide ((i:Int)<0)=false:=gO hnn;have hde:decide ((n:Int)≤(i:Int))=false:=gO ag;have qB:=hc y (mF hy);rw[hop y hy];have hlen:k=s.length+1:=by rw[hk,hs];rfl
 have hk2:¬(k:Int)<1:=ag;have HS:=af hs;have fL:=af hlen;obtain⟨yc1,yc2⟩:=qB;clear h hs bl hcv z0 z1 z3 z4 y1 y2 y3 hth hk hn hop hcell bP hi hy hc hlen;go_enter func199,ntmps199;go_wp2_with fail;refine(HT _).mono ?_;rintro e w1 ⟨rfl,rfl⟩;clear HT;have HTQ:=af (fun n=>Ik 0 H (show m.au[0]?=some (i:Int) by rw[HS.out];rfl) ag n);go_wp2_with fail;go_quiet ((go_at_call 201;exact Calls.quiet_of (HTQ _)));have hbq:Below w1.heap.size w1 (w1.drewN nq):=dz;obtain⟨V,hV⟩:=ak (w1.drewN nq:World);rw[←hV]at hbq;have HA:=af (H.below hbq);clear z2 HTQ hbq;go_upto_region 9 with fail
 rw[←hV];have y0V:V.cell? (ai x.wp 0)=some (aD cg n cc):=by rw[hV];exact y0
 have yvV:V.cell? (ai cg i)=some (ae y):=by rw[hV];exact hyv
 have qY:x.wp<V.heap.size:=Bo;have hgV:cg<V.heap.size:=by rw[hV];exact A8
 have HTU:=af (fun (v:bN V.heap.size V)=>dy 0 (HA.at_.below v.below).at_ (show m.au[0]?=some (i:Int) by rw[HS.out];rfl) ag);clear hV y0 hyv mG A8;have k0:∀v:{v:World // v.cell? (ai x.wp 0)=some (aD cg n cc)∧v.cell? (ai cg i)=some (ae y)},v.val.cell? (ai x.wp 0)=some (aD cg n cc):=fun v=>v.property.1
 have k1:∀v:{v:World // v.cell? (ai x.wp 0)=some (aD cg n cc)∧v.cell? (ai cg i)=some (ae y)},v.val.cell? (ai cg i)=some (ae y):=fun v=>v.property.2
 have hne:Nonempty {v:World // v.cell? (ai x.wp 0)=some (aD cg n cc)∧v.cell? (ai cg i)=some (ae y)}:=⟨⟨V,y0V,yvV⟩⟩;have HD:=af (HA.trans (HA.at_.below (Below.refl _ V).drew));have pk:=af (aY y0V yvV);clear y0V yvV HTU;refine ly (C:=eM fun v=>v.cell? (ai x.wp 0)=some (aD cg n cc)∧v.cell? (ai cg i)=some (ae y)) 10 [6,9] ⟨V.drew,pk⟩ aP aP rfl ?_;rw[show List.range 10=[0,1,2,3,4,5,6,7,8,9]from rfl]
 repeat (refine eV rfl rfl (fun K hK=>?_);go_simp;refine hK _ ?_;clear hK K)
 refine ja rfl rfl 201 #[ax x.mb,ae 0] dB ((dy 0 HD.at_ (show m.au[0]?=some (i:Int) by rw[HS.out];rfl) ag).mono ?_);rintro e w2 ⟨rfl,hb2⟩;have hy2:w2.cell? (ai x.wp 0)=some (aD cg n cc)∧w2.cell? (ai cg i)=some (ae y):=⟨(hb2.cell (p:=ai x.wp 0) qY).trans pk.out.1,(hb2.cell (p:=ai cg i) hgV).trans pk.out.2⟩;refine⟨_,rfl,hy2,?_⟩
 repeat (refine eV rfl rfl (fun K hK=>?_);go_simp;refine hK _ ?_;clear hK K)
 have bp:=af (HD.trans (HD.at_.below hb2));have gA:Below w2.heap.size w2 (w2.alloc (.cells #[ae y] 3 (0,0))):=aQ.alloc aH _;have hl2:V.heap.size≤w2.heap.size:=hb2.size;refine oG rfl rfl (aD w2.heap.size 1 1) (w2.alloc (.cells #[ae y] 3 (0,0))) ⟨(gA.cell (p:=ai x.wp 0) (bF qY hl2)).trans hy2.1,(gA.cell (p:=ai cg i) (bF hgV hl2)).trans hy2.2⟩ (aC dB) ?_;refine iV ?_;intro w' hw';rw[show w'=w2.alloc (.cells #[ae y] 3 (0,0))from hw'];have HB:=af (bp.trans (bp.at_.below gA));have cA:Hid (cN (w2.alloc (.cells #[ae y] 3 (0,0))).heap.size (w2.alloc (.cells #[ae y] 3 (0,0))) (aD w2.heap.size 1 1) [y]):=af (lF w2 [y]);clear hw' w' k0 k1 hne hb2 hy2 gA hl2 bp HD pk;simp only[List.drop_succ_cons,List.drop_zero];go_wp2_with fail;refine(iZ 1 [y] HB.at_ yA rX cA (fun z hz=>Cg)).mono ?_;rintro e w6 ⟨rfl,y',hy'⟩;have HF:=af (HB.trans hy');clear hy' HB cA;go_wp2_with fail;go_end0;refine⟨rfl,y',?_⟩;have:=HF.out;rw[HS.out]at this;exact this
theorem Za(h:bC B w sb F x m u)(hs:m.au=(i:Int) :: b :: s)(hi:i<u.vars.length):
  Calls prog 199 #[ax x.mb,.string ⟨#[33]⟩,ax x.wp] w fun r w'=>r=.returned (.tuple #[])∧dp B w sb F x {m with au:=(bM 24 (turnsF m.fs) m.au u).1} (bM 24 (turnsF m.fs) m.au u).2 w':=by
 have hop:bM 24 (turnsF m.fs) m.au u=(s,{u with vars:=u.vars.set i b}):=by rw[hs];simp[bM,execM]
 rw[hop];obtain⟨z0,z1,z2,z3,z4,hlt⟩:=h.cells;obtain⟨y0,y1,y2,y3,mG⟩:=h.shared;obtain⟨ad,cap,bl,_,_⟩:=bo h.cH;obtain⟨ca,cc,hcv,hcc,_⟩:=bo h.cD;rw[bl,dm]at z2;rw[hcv]at y0;have hl:=h.len.2.1;have kQ:=h.len.2.2.2.2.1;have hth:bD ⟨#[33]⟩=(2,0,true):=dJ;have HT:=af (fun w=>iF ⟨#[33]⟩ w);rw[hth]at HT;have H:=af h;obtain⟨k,hk⟩:=ak (m.au.length);rw[←hk]at z2 hl;have HK:=af hk;have gB:=af hcv;obtain⟨n,hn⟩:=ak (u.vars.length);rw[←hn]at y0 hcc kQ;have HN:=af hn;obtain⟨cg,bq,bP,_,A8,_,_,hcell⟩:=cd h.cD ag
 obtain rfl:ca=some (ai cg 0):=by
  have:=gB.symm.trans bP;injection this
 obtain⟨y,hy⟩:∃y,u.vars[i]?=some y:=⟨_,bE hi⟩;have hyv:w.cell? (ai cg i)=some (ae y):=hcell i _ (by rw[iH,hy];rfl);have lS:(0:Int)≤(i:Int):=ag;have hi1:(i:Int)<(n:Int):=ag;have hnn:¬(i:Int)<0:=ag;have hdd:decide ((i:Int)<0)=false:=gO hnn;have hde:decide ((n:Int)≤(i:Int))=false:=gO ag;have hlen:k=s.length+2:=by rw[hk,hs];rfl
 have hk2:¬(k:Int)<2:=ag;have HS:=af hs;have fL:=af hlen;have HIL:=af hi;clear h hs bl hcv z0 z1 z3 z4 y1 y2 y3 hth hk hn hop hcell bP hi hy hlen;go_enter func199,ntmps199;go_wp2_with fail;refine(HT _).mono ?_;rintro e w1 ⟨rfl,rfl⟩;clear HT;have HTQ:=af (fun n=>Ik 0 H (show m.au[0]?=some (i:Int) by rw[HS.out];rfl) ag n);go_wp2_with fail;go_quiet ((go_at_call 201;exact Calls.quiet_of (HTQ _)));have hbq:Below w1.heap.size w1 (w1.drewN nq):=dz;obtain⟨V,hV⟩:=ak (w1.drewN nq:World);rw[←hV]at hbq;have HA:=af (H.below hbq);clear z2 HTQ hbq;go_upto_region 11 with fail
 rw[←hV];have y0V:V.cell? (ai x.wp 0)=some (aD cg n cc):=by rw[hV];exact y0
 have yvV:V.cell? (ai cg i)=some (ae y):=by rw[hV];exact hyv
 have qY:x.wp<V.heap.size:=Bo;have hgV:cg<V.heap.size:=by rw[hV];exact A8
 have HTU:=af (fun (v:bN V.heap.size V)=>dy 0 (HA.at_.below v.below).at_ (show m.au[0]?=some (i:Int) by rw[HS.out];rfl) ag);have YL:=af (fun (v:bN V.heap.size V)=>dy 1 (HA.at_.below v.below).at_ (show m.au[1]?=some b by rw[HS.out];rfl) ag);clear hV y0 hyv mG A8 HTU YL;have k0:∀v:{v:World // v.cell? (ai x.wp 0)=some (aD cg n cc)},v.val.cell? (ai x.wp 0)=some (aD cg n cc):=fun v=>v.property
 have hne:Nonempty {v:World // v.cell? (ai x.wp 0)=some (aD cg n cc)}:=⟨⟨V,y0V⟩⟩;have HD:=af (HA.trans (HA.at_.below (Below.refl _ V).drew));have pk:=af y0V;clear y0V;refine A7 (C:=eM fun v=>v.cell? (ai x.wp 0)=some (aD cg n cc)) 9 [0,1,2,3,4,6,5,7,8] [5,7] ⟨V.drew,pk⟩ aP aP rfl ?_
 repeat (refine eV rfl rfl (fun K hK=>?_);go_simp;refine hK _ ?_;clear hK K)
 refine ja rfl rfl 201 #[ax x.mb,ae 0] dB ((dy 0 HD.at_ (show m.au[0]?=some (i:Int) by rw[HS.out];rfl) ag).mono ?_);rintro e v2 ⟨rfl,hb1⟩;have hy1:v2.cell? (ai x.wp 0)=some (aD cg n cc):=(hb1.cell (p:=ai x.wp 0) qY).trans pk;refine⟨_,rfl,hy1,?_⟩;have bH:=af (HD.trans (HD.at_.below hb1));refine ja rfl rfl 201 #[ax x.mb,ae 1] dB ((dy 1 bH.at_ (show m.au[1]?=some b by rw[HS.out];rfl) ag).mono ?_);rintro e w2 ⟨rfl,mN⟩;have hb2:Below V.heap.size V w2:=((Below.refl _ V).drew.trans hb1).trans (mN.mono hb1.size);have hy2:w2.cell? (ai x.wp 0)=some (aD cg n cc):=(hb2.cell (p:=ai x.wp 0) qY).trans pk;refine⟨_,rfl,hy2,?_⟩;have bp:=af (bH.trans (bH.at_.below mN))
 repeat (refine eV rfl rfl (fun K hK=>?_);go_simp;refine hK _ ?_;clear hK K)
 refine iV ?_;intro w' hw';rw[show w'=w2 from hw'];simp only[List.drop_succ_cons,List.drop_zero];clear hw' w' k0 hne hb1 mN hy1 hy2 HD pk bH;have yv2:w2.cell? (ai cg i)=some (ae y):=(hb2.cell (p:=ai cg i) hgV).trans yvV;have hg2:cg<w2.heap.size:=bF hgV hb2.size;have hcv2:x.cv=aD cg u.vars.length cc:=gB.out;have hcr:=bp.at_.cD;rw[hcv2]at hcr;have f2:=aiq hcr i;obtain⟨Z,hZ⟩:=ak (w2.setCell (ai cg i) (ae b):World)
 have iQ:aq (fun k=>k=x.wp∨x.cv.ownBlock=some k∨x.ov.ownBlock=some k) w2 Z:=by
  rw[hZ];exact(aq.refl (fun k=>k=x.wp∨x.cv.ownBlock=some k∨x.ov.ownBlock=some k) w2).setCell (p:=ai cg i) (aA (aC (by rw[hcv2];rfl))) _
 have Jg:aq (fun k=>k=cg) w2 Z:=by rw[hZ];exact(aq.refl (fun k=>k=cg) w2).setCell (p:=ai cg i) rfl _
 have cO:=iJ hcr i (ae b);rw[←hZ]at cO
 have hDZ:=bp.at_.world (u':={u with vars:=u.vars.set i b}) (ik:=x.ov) (jN:=x.tk) iQ (bp.at_.bK.aB Jg (fun e=>aZ hcr bp.at_.bK aj xA)) (by
   rw[hcv2]
   show World.ownsRow _ _ _ _ _ _ _
   rw[km];have e:ints (u.vars.set i b)=(ints u.vars).set i (ae b):=by simp[ints,List.map_set]
   rw[e];exact cO) (aR bp.at_.cY Jg (fun q hq e=>bp.at_.kH q (by rw[hcv2,e];rfl) hq)) (Lc.refl _ _) bp.at_.rest (by
   obtain⟨_,_,n3,_,n5,n6⟩:=bp.at_.len;exact⟨n3,by simp only[km];exact n5,n6⟩)
 have HZ:=af (bp.trans hDZ);clear bp hb2 yvV hcv2 hcr iQ Jg cO hDZ;go_upto_region 12 with fail
 rw[←hZ];clear hZ f2 yv2;go_wp2_with fail;refine(iZ 2 [] HZ.at_ yA JE (aC ⟨rfl,none,0,rfl⟩) (fun z hz=>vM)).mono ?_;rintro e w6 ⟨rfl,y',hy'⟩;have HF:=af (HZ.trans hy');clear hy' HZ;go_wp2_with fail;go_end0;refine⟨rfl,y',?_⟩;have:=HF.out;rw[HS.out]at this;exact this
end
end
section
attribute [local go_sem] fH
section
variable{B:Nat}{w w':World}{sb:Nat}{F:Nat→Prop}{x:DX}{m m':DM}{u u':MW}
theorem WD(h:bC B w sb F x m u)(hs:m.au=b :: a :: s)(ha:Cell a)(hb:Cell b)(hov:m.au.length+1≤32):
  Calls prog 199 #[ax x.mb,.string ⟨#[111,118,101,114]⟩,ax x.wp] w fun r w'=>r=.returned (.tuple #[])∧dp B w sb F x {m with au:=(bM 19 (turnsF m.fs) m.au u).1} (bM 19 (turnsF m.fs) m.au u).2 w':=by
 have hop:bM 19 (turnsF m.fs) m.au u=(w32 a :: w32 b :: w32 a :: s,u):=Ju;rw[hop];obtain⟨z0,z1,z2,z3,z4,hlt⟩:=h.cells;obtain⟨ad,cap,bl,_,_⟩:=bo h.cH;rw[bl,dm]at z2;have hl:=h.len.2.1;have hlen:m.au.length=s.length+2:=jD;have hth:bD ⟨#[111,118,101,114]⟩=(2,3,true):=dJ;have HT:=af (fun w=>iF ⟨#[111,118,101,114]⟩ w);rw[hth]at HT;have H:=af h;have HS:=af hs;have fL:=af hlen;obtain⟨k,hk⟩:=ak (m.au.length);rw[←hk]at z2 hl hlen hov;have hk2:¬(k:Int)<2:=ag;have HK:=af hk;obtain⟨a1,a2⟩:=ha;obtain⟨b1,b2⟩:=hb;clear h hs bl z0 z1 z3 z4 hth hlen hk hop;go_enter func199,ntmps199;go_wp2_with fail;refine(HT _).mono ?_;rintro e w1 ⟨rfl,rfl⟩;clear HT;go_wp2_with fail;go_quiet (fail);have hbq:Below w1.heap.size w1 (w1.drewN nq):=dz;obtain⟨V,hV⟩:=ak (w1.drewN nq:World);rw[←hV]at hbq;have bW:=af (H.below hbq);clear hbq z2;go_wp2_with fail;rw[←hV];clear hV;refine(dy 1 bW.at_ (show m.au[1]?=some a by rw[HS.out];rfl) ag).mono ?_;rintro e v1 ⟨rfl,hb1⟩;have bH:=af (bW.trans (bW.at_.below hb1));clear hb1 bW;go_wp2_with fail;refine(dy 0 bH.at_ (show m.au[0]?=some b by rw[HS.out];rfl) ag).mono ?_;rintro e v2 ⟨rfl,hb2⟩;have bp:=af (bH.trans (bH.at_.below hb2));clear hb2 bH;go_wp2_with fail;refine(dy 1 bp.at_ (show m.au[1]?=some a by rw[HS.out];rfl) ag).mono ?_;rintro e v3 ⟨rfl,hb3⟩;have cB:=af (bp.trans (bp.at_.below hb3));clear hb3 bp;go_wp2_with fail;have HB:=af (cB.trans (cB.at_.below (show Below v3.heap.size v3 (v3.alloc (.cells #[ae (a),ae (b),ae (a)] 3 (0,0)))from aQ.alloc aH _)));have cA:Hid (cN (v3.alloc (.cells #[ae (a),ae (b),ae (a)] 3 (0,0))).heap.size (v3.alloc (.cells #[ae (a),ae (b),ae (a)] 3 (0,0))) (aD v3.heap.size 3 3) [a,b,a]):=af (lF v3 [a,b,a]);clear cB;refine(iZ 2 [a,b,a] HB.at_ aw rX cA (fun y hy=>IJ)).mono ?_;rintro e w6 ⟨rfl,y,hy⟩;have HF:=af (HB.trans hy);clear hy HB cA;go_wp2_with fail
 exact tJ
theorem ab4{c:Int}(h:bC B w sb F x m u)(hs:m.au=c :: b :: a :: s)(ha:Cell a)(hb:Cell b)(hc:Cell c):
  Calls prog 199 #[ax x.mb,.string ⟨#[114,111,116]⟩,ax x.wp] w fun r w'=>r=.returned (.tuple #[])∧dp B w sb F x {m with au:=(bM 20 (turnsF m.fs) m.au u).1} (bM 20 (turnsF m.fs) m.au u).2 w':=by
 have hop:bM 20 (turnsF m.fs) m.au u=(w32 a :: w32 c :: w32 b :: s,u):=by rw[hs,kF ha,kF hb,kF hc];rcases s with _|⟨_,_|_⟩<;>simp[bM,execM,arrP]
 rw[hop];obtain⟨z0,z1,z2,z3,z4,hlt⟩:=h.cells;obtain⟨ad,cap,bl,_,_⟩:=bo h.cH;rw[bl,dm]at z2;have hl:=h.len.2.1;have hlen:m.au.length=s.length+3:=jD;have hth:bD ⟨#[114,111,116]⟩=(3,3,true):=dJ;have HT:=af (fun w=>iF ⟨#[114,111,116]⟩ w);rw[hth]at HT;have H:=af h;have HS:=af hs;have fL:=af hlen;obtain⟨k,hk⟩:=ak (m.au.length);rw[←hk]at z2 hl hlen;have hk2:¬(k:Int)<3:=ag;have HK:=af hk;obtain⟨a1,a2⟩:=ha;obtain⟨b1,b2⟩:=hb;obtain⟨c1,c2⟩:=hc;clear h hs bl z0 z1 z3 z4 hth hlen hk hop;go_enter func199,ntmps199;go_wp2_with fail;refine(HT _).mono ?_;rintro e w1 ⟨rfl,rfl⟩;clear HT;go_wp2_with fail;go_quiet (fail);have hbq:Below w1.heap.size w1 (w1.drewN nq):=dz;obtain⟨V,hV⟩:=ak (w1.drewN nq:World);rw[←hV]at hbq;have bW:=af (H.below hbq);clear hbq z2;go_wp2_with fail;rw[←hV];clear hV;refine(dy 1 bW.at_ (show m.au[1]?=some b by rw[HS.out];rfl) ag).mono ?_;rintro e v1 ⟨rfl,hb1⟩;have bH:=af (bW.trans (bW.at_.below hb1));clear hb1 bW;go_wp2_with fail;refine(dy 0 bH.at_ (show m.au[0]?=some c by rw[HS.out];rfl) ag).mono ?_;rintro e v2 ⟨rfl,hb2⟩;have bp:=af (bH.trans (bH.at_.below hb2));clear hb2 bH;go_wp2_with fail;refine(dy 2 bp.at_ (show m.au[2]?=some a by rw[HS.out];rfl) ag).mono ?_;rintro e v3 ⟨rfl,hb3⟩;have cB:=af (bp.trans (bp.at_.below hb3));clear hb3 bp;go_wp2_with fail;have HB:=af (cB.trans (cB.at_.below (show Below v3.heap.size v3 (v3.alloc (.cells #[ae (b),ae (c),ae (a)] 3 (0,0)))from aQ.alloc aH _)));have cA:Hid (cN (v3.alloc (.cells #[ae (b),ae (c),ae (a)] 3 (0,0))).heap.size (v3.alloc (.cells #[ae (b),ae (c),ae (a)] 3 (0,0))) (aD v3.heap.size 3 3) [b,c,a]):=af (lF v3 [b,c,a]);clear cB;refine(iZ 3 [b,c,a] HB.at_ aw rX cA (fun y hy=>IJ)).mono ?_;rintro e w6 ⟨rfl,y,hy⟩;have HF:=af (HB.trans hy);clear hy HB cA;go_wp2_with fail
 exact tJ
theorem U6(h:bC B w sb F x m u)(hs:m.au=b :: a :: s)(ha:Cell a)(hb:Cell b)(hov:m.au.length+1≤32):
  Calls prog 199 #[ax x.mb,.string ⟨#[116,117,99,107]⟩,ax x.wp] w fun r w'=>r=.returned (.tuple #[])∧dp B w sb F x {m with au:=(bM 22 (turnsF m.fs) m.au u).1} (bM 22 (turnsF m.fs) m.au u).2 w':=by
 have hop:bM 22 (turnsF m.fs) m.au u=(w32 b :: w32 a :: w32 b :: s,u):=Ju;rw[hop];obtain⟨z0,z1,z2,z3,z4,hlt⟩:=h.cells;obtain⟨ad,cap,bl,_,_⟩:=bo h.cH;rw[bl,dm]at z2;have hl:=h.len.2.1;have hlen:m.au.length=s.length+2:=jD;have hth:bD ⟨#[116,117,99,107]⟩=(2,3,true):=dJ;have HT:=af (fun w=>iF ⟨#[116,117,99,107]⟩ w);rw[hth]at HT;have H:=af h;have HS:=af hs;have fL:=af hlen;obtain⟨k,hk⟩:=ak (m.au.length);rw[←hk]at z2 hl hlen hov;have hk2:¬(k:Int)<2:=ag;have HK:=af hk;obtain⟨a1,a2⟩:=ha;obtain⟨b1,b2⟩:=hb;clear h hs bl z0 z1 z3 z4 hth hlen hk hop;go_enter func199,ntmps199;go_wp2_with fail;refine(HT _).mono ?_;rintro e w1 ⟨rfl,rfl⟩;clear HT;go_wp2_with fail;go_quiet (fail);have hbq:Below w1.heap.size w1 (w1.drewN nq):=dz;obtain⟨V,hV⟩:=ak (w1.drewN nq:World);rw[←hV]at hbq;have bW:=af (H.below hbq);clear hbq z2;go_wp2_with fail;rw[←hV];clear hV;refine(dy 0 bW.at_ (show m.au[0]?=some b by rw[HS.out];rfl) ag).mono ?_;rintro e v1 ⟨rfl,hb1⟩;have bH:=af (bW.trans (bW.at_.below hb1));clear hb1 bW;go_wp2_with fail;refine(dy 1 bH.at_ (show m.au[1]?=some a by rw[HS.out];rfl) ag).mono ?_;rintro e v2 ⟨rfl,hb2⟩;have bp:=af (bH.trans (bH.at_.below hb2));clear hb2 bH;go_wp2_with fail;refine(dy 0 bp.at_ (show m.au[0]?=some b by rw[HS.out];rfl) ag).mono ?_;rintro e v3 ⟨rfl,hb3⟩;have cB:=af (bp.trans (bp.at_.below hb3));clear hb3 bp;go_wp2_with fail;have HB:=af (cB.trans (cB.at_.below (show Below v3.heap.size v3 (v3.alloc (.cells #[ae (b),ae (a),ae (b)] 3 (0,0)))from aQ.alloc aH _)));have cA:Hid (cN (v3.alloc (.cells #[ae (b),ae (a),ae (b)] 3 (0,0))).heap.size (v3.alloc (.cells #[ae (b),ae (a),ae (b)] 3 (0,0))) (aD v3.heap.size 3 3) [b,a,b]):=af (lF v3 [b,a,b]);clear cB;refine(iZ 2 [b,a,b] HB.at_ aw rX cA (fun y hy=>IJ)).mono ?_;rintro e w6 ⟨rfl,y,hy⟩;have HF:=af (HB.trans hy);clear hy HB cA;go_wp2_with fail
 exact tJ
theorem S7(h:bC B w sb F x m u)(hs:m.au=b :: a :: s)(ha:Cell a)(hb:Cell b)(hov:32<m.au.length+1):
  Calls prog 199 #[ax x.mb,.string ⟨#[111,118,101,114]⟩,ax x.wp] w fun r w'=>r=.returned (.tuple #[])∧dp B w sb F x {m with done:=true,ed:=2} u w':=by
 obtain⟨z0,z1,z2,z3,z4,hlt⟩:=h.cells;obtain⟨ad,cap,bl,_,_⟩:=bo h.cH;rw[bl,dm]at z2;have hl:=h.len.2.1;have hlen:m.au.length=s.length+2:=jD;have hth:bD ⟨#[111,118,101,114]⟩=(2,3,true):=dJ;have HT:=af (fun w=>iF ⟨#[111,118,101,114]⟩ w);rw[hth]at HT;have H:=af h;have HS:=af hs;have fL:=af hlen;obtain⟨k,hk⟩:=ak (m.au.length);rw[←hk]at z2 hl hlen hov;have hk2:¬(k:Int)<2:=ag;have HK:=af hk;obtain⟨a1,a2⟩:=ha;obtain⟨b1,b2⟩:=hb;clear h hs bl z0 z1 z3 z4 hth hlen hk;go_enter func199,ntmps199;go_wp2_with fail;refine(HT _).mono ?_;rintro e w1 ⟨rfl,rfl⟩;clear HT;go_wp2_with fail;go_quiet (fail);have hbq:Below w1.heap.size w1 (w1.drewN nq):=dz;obtain⟨V,hV⟩:=ak (w1.drewN nq:World);rw[←hV]at hbq;have bW:=af (H.below hbq);clear hbq z2;go_wp2_with fail;rw[←hV];clear hV;refine(dy 1 bW.at_ (show m.au[1]?=some a by rw[HS.out];rfl) ag).mono ?_;rintro e v1 ⟨rfl,hb1⟩;have bH:=af (bW.trans (bW.at_.below hb1));clear hb1 bW;go_wp2_with fail;refine(dy 0 bH.at_ (show m.au[0]?=some b by rw[HS.out];rfl) ag).mono ?_;rintro e v2 ⟨rfl,hb2⟩;have bp:=af (bH.trans (bH.at_.below hb2));clear hb2 bH;go_wp2_with fail;refine(dy 1 bp.at_ (show m.au[1]?=some a by rw[HS.out];rfl) ag).mono ?_;rintro e v3 ⟨rfl,hb3⟩;have cB:=af (bp.trans (bp.at_.below hb3));clear hb3 bp;go_wp2_with fail;have HB:=af (cB.trans (cB.at_.below (show Below v3.heap.size v3 (v3.alloc (.cells #[ae (a),ae (b),ae (a)] 3 (0,0)))from aQ.alloc aH _)));have cA:Hid (cN (v3.alloc (.cells #[ae (a),ae (b),ae (a)] 3 (0,0))).heap.size (v3.alloc (.cells #[ae (a),ae (b),ae (a)] 3 (0,0))) (aD v3.heap.size 3 3) [a,b,a]):=af (lF v3 [a,b,a]);clear cB;refine(yU 2 HB.at_ aw yA ag).mono ?_;rintro e w6 ⟨rfl,hy⟩;have HF:=af (HB.trans hy);clear hy HB cA;go_wp2_with fail
 go_end0
 exact⟨rfl,_,HF⟩
theorem Uh(h:bC B w sb F x m u)(hs:m.au=b :: a :: s)(ha:Cell a)(hb:Cell b)(hov:32<m.au.length+1):
  Calls prog 199 #[ax x.mb,.string ⟨#[116,117,99,107]⟩,ax x.wp] w fun r w'=>r=.returned (.tuple #[])∧dp B w sb F x {m with done:=true,ed:=2} u w':=by
 obtain⟨z0,z1,z2,z3,z4,hlt⟩:=h.cells;obtain⟨ad,cap,bl,_,_⟩:=bo h.cH;rw[bl,dm]at z2;have hl:=h.len.2.1;have hlen:m.au.length=s.length+2:=jD;have hth:bD ⟨#[116,117,99,107]⟩=(2,3,true):=dJ;have HT:=af (fun w=>iF ⟨#[116,117,99,107]⟩ w);rw[hth]at HT;have H:=af h;have HS:=af hs;have fL:=af hlen;obtain⟨k,hk⟩:=ak (m.au.length);rw[←hk]at z2 hl hlen hov;have hk2:¬(k:Int)<2:=ag;have HK:=af hk;obtain⟨a1,a2⟩:=ha;obtain⟨b1,b2⟩:=hb;clear h hs bl z0 z1 z3 z4 hth hlen hk;go_enter func199,ntmps199;go_wp2_with fail;refine(HT _).mono ?_;rintro e w1 ⟨rfl,rfl⟩;clear HT;go_wp2_with fail;go_quiet (fail);have hbq:Below w1.heap.size w1 (w1.drewN nq):=dz;obtain⟨V,hV⟩:=ak (w1.drewN nq:World);rw[←hV]at hbq;have bW:=af (H.below hbq);clear hbq z2;go_wp2_with fail;rw[←hV];clear hV;refine(dy 0 bW.at_ (show m.au[0]?=some b by rw[HS.out];rfl) ag).mono ?_;rintro e v1 ⟨rfl,hb1⟩;have bH:=af (bW.trans (bW.at_.below hb1));clear hb1 bW;go_wp2_with fail;refine(dy 1 bH.at_ (show m.au[1]?=some a by rw[HS.out];rfl) ag).mono ?_;rintro e v2 ⟨rfl,hb2⟩;have bp:=af (bH.trans (bH.at_.below hb2));clear hb2 bH;go_wp2_with fail;refine(dy 0 bp.at_ (show m.au[0]?=some b by rw[HS.out];rfl) ag).mono ?_;rintro e v3 ⟨rfl,hb3⟩;have cB:=af (bp.trans (bp.at_.below hb3));clear hb3 bp;go_wp2_with fail;have HB:=af (cB.trans (cB.at_.below (show Below v3.heap.size v3 (v3.alloc (.cells #[ae (b),ae (a),ae (b)] 3 (0,0)))from aQ.alloc aH _)));have cA:Hid (cN (v3.alloc (.cells #[ae (b),ae (a),ae (b)] 3 (0,0))).heap.size (v3.alloc (.cells #[ae (b),ae (a),ae (b)] 3 (0,0))) (aD v3.heap.size 3 3) [b,a,b]):=af (lF v3 [b,a,b]);clear cB;refine(yU 2 HB.at_ aw yA ag).mono ?_;rintro e w6 ⟨rfl,hy⟩;have HF:=af (HB.trans hy);clear hy HB cA;go_wp2_with fail
 go_end0
 exact⟨rfl,_,HF⟩
end
end
section
attribute [local go_sem] fH
section
variable{B:Nat}{w w':World}{sb:Nat}{F:Nat→Prop}{x:DX}{m m':DM}{u u':MW}
theorem Te(h:bC B w sb F x m u)(hs:m.au=a :: s)(ha:Cell a):
  Calls prog 199 #[ax x.mb,.string ⟨#[110,101,103,97,116,101]⟩,ax x.wp] w fun r w'=>r=.returned (.tuple #[])∧dp B w sb F x {m with au:=(bM 13 (turnsF m.fs) m.au u).1} (bM 13 (turnsF m.fs) m.au u).2 w':=by
 have hop:bM 13 (turnsF m.fs) m.au u=(w32 (-a) :: s,u):=jD;rw[hop];obtain⟨z0,z1,z2,z3,z4,hlt⟩:=h.cells;obtain⟨ad,cap,bl,_,_⟩:=bo h.cH;rw[bl,dm]at z2;have hl:=h.len.2.1;have hlen:m.au.length=s.length+1:=jD;have hth:bD ⟨#[110,101,103,97,116,101]⟩=(1,1,true):=dJ;have HT:=af (fun w=>iF ⟨#[110,101,103,97,116,101]⟩ w);rw[hth]at HT;have H:=af h;have HS:=af hs;have fL:=af hlen;obtain⟨k,hk⟩:=ak (m.au.length);rw[←hk]at z2 hl hlen;have hk2:¬(k:Int)<1:=ag;have HK:=af hk;obtain⟨a1,a2⟩:=ha;clear h hs bl z0 z1 z3 z4 hth hlen hk hop;go_enter func199,ntmps199;go_wp2_with fail;refine(HT _).mono ?_;rintro e w1 ⟨rfl,rfl⟩;clear HT;go_wp2_with fail;go_quiet (fail);have hbq:Below w1.heap.size w1 (w1.drewN nq):=dz;obtain⟨V,hV⟩:=ak (w1.drewN nq:World);rw[←hV]at hbq;have bW:=af (H.below hbq);clear hbq z2;go_wp2_with fail;rw[←hV];clear hV;refine(dy 0 bW.at_ (show m.au[0]?=some a by rw[HS.out];rfl) ag).mono ?_;rintro e v1 ⟨rfl,hb1⟩;have bH:=af (bW.trans (bW.at_.below hb1));clear hb1 bW;go_wp2_with fail;have HB:=af (bH.trans (bH.at_.below (show Below v1.heap.size v1 (v1.alloc (.cells #[ae (-a)] 3 (0,0)))from aQ.alloc aH _)));have cA:Hid (cN (v1.alloc (.cells #[ae (-a)] 3 (0,0))).heap.size (v1.alloc (.cells #[ae (-a)] 3 (0,0))) (aD v1.heap.size 1 1) [-a]):=af (lF v1 [-a]);clear bH;refine(iZ 1 [-a] HB.at_ aw rX cA (fun y hy=>Ej)).mono ?_;rintro e w6 ⟨rfl,y,hy⟩;have HF:=af (HB.trans hy);clear hy HB cA;go_wp2_with fail
 exact tJ
theorem abw(h:bC B w sb F x m u)(hs:m.au=a :: s)(ha:Cell a):
  Calls prog 199 #[ax x.mb,.string ⟨#[97,98,115]⟩,ax x.wp] w fun r w'=>r=.returned (.tuple #[])∧dp B w sb F x {m with au:=(bM 14 (turnsF m.fs) m.au u).1} (bM 14 (turnsF m.fs) m.au u).2 w':=by
 have hop:bM 14 (turnsF m.fs) m.au u=(w32 (max a (-a)) :: s,u):=by
  have e:mP 14 a=w32 (max a (-a)):=by
   unfold mP
   by_cases h0:a<0
   ·rw[show max a (-a)= -a by omega];simp[h0]
   ·rw[show max a (-a)=a by omega,kF ha];simp[h0]
  rw[hs,←e];rfl
 rw[hop];obtain⟨z0,z1,z2,z3,z4,hlt⟩:=h.cells;obtain⟨ad,cap,bl,_,_⟩:=bo h.cH;rw[bl,dm]at z2;have hl:=h.len.2.1;have hlen:m.au.length=s.length+1:=jD;have hth:bD ⟨#[97,98,115]⟩=(1,1,true):=dJ;have HT:=af (fun w=>iF ⟨#[97,98,115]⟩ w);rw[hth]at HT;have H:=af h;have HS:=af hs;have fL:=af hlen;obtain⟨k,hk⟩:=ak (m.au.length);rw[←hk]at z2 hl hlen;have hk2:¬(k:Int)<1:=ag;have HK:=af hk;obtain⟨a1,a2⟩:=ha;obtain⟨mx,hmx⟩:=ak (max a (-a));have hmb: -9000000000000000000≤mx∧mx≤9000000000000000000:=by rw[hmx];omega
 have HMX:=af hmx;clear h hs bl z0 z1 z3 z4 hth hlen hk hop;go_enter func199,ntmps199;go_wp2_with fail;refine(HT _).mono ?_;rintro e w1 ⟨rfl,rfl⟩;clear HT;go_wp2_with fail;go_quiet (fail);have hbq:Below w1.heap.size w1 (w1.drewN nq):=dz;obtain⟨V,hV⟩:=ak (w1.drewN nq:World);rw[←hV]at hbq;have bW:=af (H.below hbq);clear hbq z2;go_wp2_with fail;rw[←hV];clear hV;refine(dy 0 bW.at_ (show m.au[0]?=some a by rw[HS.out];rfl) ag).mono ?_;rintro e v1 ⟨rfl,hb1⟩;have bH:=af (bW.trans (bW.at_.below hb1));clear hb1 bW;go_wp2_with fail;refine(dy 0 bH.at_ (show m.au[0]?=some a by rw[HS.out];rfl) ag).mono ?_;rintro e v2 ⟨rfl,hb2⟩;have bp:=af (bH.trans (bH.at_.below hb2));clear hb2 bH;go_wp2_with fail;have HB:=af (bp.trans (bp.at_.below (show Below v2.heap.size v2 (v2.alloc (.cells #[ae (max a (-a))] 3 (0,0)))from aQ.alloc aH _)));have cA:Hid (cN (v2.alloc (.cells #[ae (max a (-a))] 3 (0,0))).heap.size (v2.alloc (.cells #[ae (max a (-a))] 3 (0,0))) (aD v2.heap.size 1 1) [max a (-a)]):=af (lF v2 [max a (-a)]);clear bp;refine(iZ 1 [max a (-a)] HB.at_ aw rX cA (fun y hy=>Ej)).mono ?_;rintro e w6 ⟨rfl,y,hy⟩;have HF:=af (HB.trans hy);clear hy HB cA;go_wp2_with fail;exact tJ
theorem Zx(h:bC B w sb F x m u)(hs:m.au=a :: s)(ha:Cell a):
  Calls prog 199 #[ax x.mb,.string ⟨#[48,61]⟩,ax x.wp] w fun r w'=>r=.returned (.tuple #[])∧dp B w sb F x {m with au:=(bM 15 (turnsF m.fs) m.au u).1} (bM 15 (turnsF m.fs) m.au u).2 w':=by
 have hop:bM 15 (turnsF m.fs) m.au u=(w32 (lj (a == 0)) :: s,u):=by rw[hs,kF (uT _)];rfl
 rw[hop];obtain⟨z0,z1,z2,z3,z4,hlt⟩:=h.cells;obtain⟨ad,cap,bl,_,_⟩:=bo h.cH;rw[bl,dm]at z2;have hl:=h.len.2.1;have hlen:m.au.length=s.length+1:=jD;have hth:bD ⟨#[48,61]⟩=(1,1,true):=dJ;have HT:=af (fun w=>iF ⟨#[48,61]⟩ w);rw[hth]at HT;have H:=af h;have HS:=af hs;have fL:=af hlen;obtain⟨k,hk⟩:=ak (m.au.length);rw[←hk]at z2 hl hlen;have hk2:¬(k:Int)<1:=ag;have HK:=af hk;obtain⟨a1,a2⟩:=ha;obtain⟨fl1,fl2⟩:=uT (a == 0);obtain⟨fl,hfl⟩:=ak (lj (a == 0));rw[←hfl]at fl1 fl2 ⊢;have HFL:=af hfl;clear h hs bl z0 z1 z3 z4 hth hlen hk hop hfl;go_enter func199,ntmps199;go_wp2_with fail;refine(HT _).mono ?_;rintro e w1 ⟨rfl,rfl⟩;clear HT;go_wp2_with fail;go_quiet (fail);have hbq:Below w1.heap.size w1 (w1.drewN nq):=dz;obtain⟨V,hV⟩:=ak (w1.drewN nq:World);rw[←hV]at hbq;have bW:=af (H.below hbq);clear hbq z2;go_wp2_with fail;rw[←hV];clear hV;refine(dy 0 bW.at_ (show m.au[0]?=some a by rw[HS.out];rfl) ag).mono ?_;rintro e v1 ⟨rfl,hb1⟩;have bH:=af (bW.trans (bW.at_.below hb1));clear hb1 bW;go_wp2_with fail;refine(Ro _ _).mono ?_;rintro e v2 ⟨rfl,rfl⟩;rw[←HFL.out];have HB:=af (bH.trans (bH.at_.below (show Below v2.heap.size v2 (v2.alloc (.cells #[ae (fl)] 3 (0,0)))from aQ.alloc aH _)));have cA:Hid (cN (v2.alloc (.cells #[ae (fl)] 3 (0,0))).heap.size (v2.alloc (.cells #[ae (fl)] 3 (0,0))) (aD v2.heap.size 1 1) [fl]):=af (lF v2 [fl]);clear bH;go_wp2_with fail;refine(iZ 1 [fl] HB.at_ aw rX cA (fun y hy=>Ej)).mono ?_;rintro e w6 ⟨rfl,y,hy⟩;have HF:=af (HB.trans hy);clear hy HB cA;go_wp2_with fail
 exact tJ
theorem SE(h:bC B w sb F x m u)(hs:m.au=a :: s)(ha:Cell a)(hov:m.au.length+1≤32):
  Calls prog 199 #[ax x.mb,.string ⟨#[100,117,112]⟩,ax x.wp] w fun r w'=>r=.returned (.tuple #[])∧dp B w sb F x {m with au:=(bM 16 (turnsF m.fs) m.au u).1} (bM 16 (turnsF m.fs) m.au u).2 w':=by
 have hop:bM 16 (turnsF m.fs) m.au u=(w32 a :: w32 a :: s,u):=by rw[hs,kF ha];rcases s with _|⟨_,_|_⟩<;>simp[bM,execM,arrP]
 rw[hop];obtain⟨z0,z1,z2,z3,z4,hlt⟩:=h.cells;obtain⟨ad,cap,bl,_,_⟩:=bo h.cH;rw[bl,dm]at z2;have hl:=h.len.2.1;have hlen:m.au.length=s.length+1:=jD;have hth:bD ⟨#[100,117,112]⟩=(1,2,true):=dJ;have HT:=af (fun w=>iF ⟨#[100,117,112]⟩ w);rw[hth]at HT;have H:=af h;have HS:=af hs;have fL:=af hlen;obtain⟨k,hk⟩:=ak (m.au.length);rw[←hk]at z2 hl hlen hov;have hk2:¬(k:Int)<1:=ag;have HK:=af hk;obtain⟨a1,a2⟩:=ha;clear h hs bl z0 z1 z3 z4 hth hlen hk hop;go_enter func199,ntmps199;go_wp2_with fail;refine(HT _).mono ?_;rintro e w1 ⟨rfl,rfl⟩;clear HT;go_wp2_with fail;go_quiet (fail);have hbq:Below w1.heap.size w1 (w1.drewN nq):=dz;obtain⟨V,hV⟩:=ak (w1.drewN nq:World);rw[←hV]at hbq;have bW:=af (H.below hbq);clear hbq z2;go_wp2_with fail;rw[←hV];clear hV;refine(dy 0 bW.at_ (show m.au[0]?=some a by rw[HS.out];rfl) ag).mono ?_;rintro e v1 ⟨rfl,hb1⟩;have bH:=af (bW.trans (bW.at_.below hb1));clear hb1 bW;go_wp2_with fail;refine(dy 0 bH.at_ (show m.au[0]?=some a by rw[HS.out];rfl) ag).mono ?_;rintro e v2 ⟨rfl,hb2⟩;have bp:=af (bH.trans (bH.at_.below hb2));clear hb2 bH;go_wp2_with fail;have HB:=af (bp.trans (bp.at_.below (show Below v2.heap.size v2 (v2.alloc (.cells #[ae (a),ae (a)] 3 (0,0)))from aQ.alloc aH _)));have cA:Hid (cN (v2.alloc (.cells #[ae (a),ae (a)] 3 (0,0))).heap.size (v2.alloc (.cells #[ae (a),ae (a)] 3 (0,0))) (aD v2.heap.size 2 2) [a,a]):=af (lF v2 [a,a]);clear bp;refine(iZ 1 [a,a] HB.at_ aw rX cA (fun y hy=>Oc)).mono ?_;rintro e w6 ⟨rfl,y,hy⟩;have HF:=af (HB.trans hy);clear hy HB cA;go_wp2_with fail
 exact tJ
theorem aaU(h:bC B w sb F x m u)(hs:m.au=a :: s)(ha:Cell a):
  Calls prog 199 #[ax x.mb,.string ⟨#[100,114,111,112]⟩,ax x.wp] w fun r w'=>r=.returned (.tuple #[])∧dp B w sb F x {m with au:=(bM 17 (turnsF m.fs) m.au u).1} (bM 17 (turnsF m.fs) m.au u).2 w':=by
 have hop:bM 17 (turnsF m.fs) m.au u=(s,u):=by rw[hs];rcases s with _|⟨_,_|_⟩<;>simp[bM,execM,arrP]
 rw[hop];obtain⟨z0,z1,z2,z3,z4,hlt⟩:=h.cells;obtain⟨ad,cap,bl,_,_⟩:=bo h.cH;rw[bl,dm]at z2;have hl:=h.len.2.1;have hlen:m.au.length=s.length+1:=jD;have hth:bD ⟨#[100,114,111,112]⟩=(1,0,true):=dJ;have HT:=af (fun w=>iF ⟨#[100,114,111,112]⟩ w);rw[hth]at HT;have H:=af h;have HS:=af hs;have fL:=af hlen;obtain⟨k,hk⟩:=ak (m.au.length);rw[←hk]at z2 hl hlen;have hk2:¬(k:Int)<1:=ag;have HK:=af hk;obtain⟨a1,a2⟩:=ha;clear h hs bl z0 z1 z3 z4 hth hlen hk hop;go_enter func199,ntmps199;go_wp2_with fail;refine(HT _).mono ?_;rintro e w1 ⟨rfl,rfl⟩;clear HT;go_wp2_with fail;go_quiet (fail);have hbq:Below w1.heap.size w1 (w1.drewN nq):=dz;obtain⟨V,hV⟩:=ak (w1.drewN nq:World);rw[←hV]at hbq;have bW:=af (H.below hbq);clear hbq z2;go_wp2_with fail;rw[←hV];clear hV;refine(iZ 1 [] bW.at_ aw JE (aC ⟨rfl,_,_,rfl⟩) (fun y hy=>by simp at hy)).mono ?_;rintro e w6 ⟨rfl,y,hy⟩;have HF:=af (bW.trans hy);clear hy bW;go_wp2_with fail;exact tJ
theorem Y1(h:bC B w sb F x m u)(hs:m.au=b :: a :: s)(ha:Cell a)(hb:Cell b):
  Calls prog 199 #[ax x.mb,.string ⟨#[115,119,97,112]⟩,ax x.wp] w fun r w'=>r=.returned (.tuple #[])∧dp B w sb F x {m with au:=(bM 18 (turnsF m.fs) m.au u).1} (bM 18 (turnsF m.fs) m.au u).2 w':=by
 have hop:bM 18 (turnsF m.fs) m.au u=(w32 a :: w32 b :: s,u):=Ju;rw[hop];obtain⟨z0,z1,z2,z3,z4,hlt⟩:=h.cells;obtain⟨ad,cap,bl,_,_⟩:=bo h.cH;rw[bl,dm]at z2;have hl:=h.len.2.1;have hlen:m.au.length=s.length+2:=jD;have hth:bD ⟨#[115,119,97,112]⟩=(2,2,true):=dJ;have HT:=af (fun w=>iF ⟨#[115,119,97,112]⟩ w);rw[hth]at HT;have H:=af h;have HS:=af hs;have fL:=af hlen;obtain⟨k,hk⟩:=ak (m.au.length);rw[←hk]at z2 hl hlen;have hk2:¬(k:Int)<2:=ag;have HK:=af hk;obtain⟨a1,a2⟩:=ha;obtain⟨b1,b2⟩:=hb;clear h hs bl z0 z1 z3 z4 hth hlen hk hop;go_enter func199,ntmps199;go_wp2_with fail;refine(HT _).mono ?_;rintro e w1 ⟨rfl,rfl⟩;clear HT;go_wp2_with fail;go_quiet (fail);have hbq:Below w1.heap.size w1 (w1.drewN nq):=dz;obtain⟨V,hV⟩:=ak (w1.drewN nq:World);rw[←hV]at hbq;have bW:=af (H.below hbq);clear hbq z2;go_wp2_with fail;rw[←hV];clear hV;refine(dy 0 bW.at_ (show m.au[0]?=some b by rw[HS.out];rfl) ag).mono ?_;rintro e v1 ⟨rfl,hb1⟩;have bH:=af (bW.trans (bW.at_.below hb1));clear hb1 bW;go_wp2_with fail;refine(dy 1 bH.at_ (show m.au[1]?=some a by rw[HS.out];rfl) ag).mono ?_;rintro e v2 ⟨rfl,hb2⟩;have bp:=af (bH.trans (bH.at_.below hb2));clear hb2 bH;go_wp2_with fail;have HB:=af (bp.trans (bp.at_.below (show Below v2.heap.size v2 (v2.alloc (.cells #[ae (b),ae (a)] 3 (0,0)))from aQ.alloc aH _)));have cA:Hid (cN (v2.alloc (.cells #[ae (b),ae (a)] 3 (0,0))).heap.size (v2.alloc (.cells #[ae (b),ae (a)] 3 (0,0))) (aD v2.heap.size 2 2) [b,a]):=af (lF v2 [b,a]);clear bp;refine(iZ 2 [b,a] HB.at_ aw rX cA (fun y hy=>Oc)).mono ?_;rintro e w6 ⟨rfl,y,hy⟩;have HF:=af (HB.trans hy);clear hy HB cA;go_wp2_with fail
 exact tJ
theorem SS(h:bC B w sb F x m u)(hs:m.au=a :: s)(ha:Cell a)(hov:32<m.au.length+1):
  Calls prog 199 #[ax x.mb,.string ⟨#[100,117,112]⟩,ax x.wp] w fun r w'=>r=.returned (.tuple #[])∧dp B w sb F x {m with done:=true,ed:=2} u w':=by
 obtain⟨z0,z1,z2,z3,z4,hlt⟩:=h.cells;obtain⟨ad,cap,bl,_,_⟩:=bo h.cH;rw[bl,dm]at z2;have hl:=h.len.2.1;have hlen:m.au.length=s.length+1:=jD;have hth:bD ⟨#[100,117,112]⟩=(1,2,true):=dJ;have HT:=af (fun w=>iF ⟨#[100,117,112]⟩ w);rw[hth]at HT;have H:=af h;have HS:=af hs;have fL:=af hlen;obtain⟨k,hk⟩:=ak (m.au.length);rw[←hk]at z2 hl hlen hov;have hk2:¬(k:Int)<1:=ag;have HK:=af hk;obtain⟨a1,a2⟩:=ha;clear h hs bl z0 z1 z3 z4 hth hlen hk;go_enter func199,ntmps199;go_wp2_with fail;refine(HT _).mono ?_;rintro e w1 ⟨rfl,rfl⟩;clear HT;go_wp2_with fail;go_quiet (fail);have hbq:Below w1.heap.size w1 (w1.drewN nq):=dz;obtain⟨V,hV⟩:=ak (w1.drewN nq:World);rw[←hV]at hbq;have bW:=af (H.below hbq);clear hbq z2;go_wp2_with fail;rw[←hV];clear hV;refine(dy 0 bW.at_ (show m.au[0]?=some a by rw[HS.out];rfl) ag).mono ?_;rintro e v1 ⟨rfl,hb1⟩;have bH:=af (bW.trans (bW.at_.below hb1));clear hb1 bW;go_wp2_with fail;refine(dy 0 bH.at_ (show m.au[0]?=some a by rw[HS.out];rfl) ag).mono ?_;rintro e v2 ⟨rfl,hb2⟩;have bp:=af (bH.trans (bH.at_.below hb2));clear hb2 bH;go_wp2_with fail;have HB:=af (bp.trans (bp.at_.below (show Below v2.heap.size v2 (v2.alloc (.cells #[ae (a),ae (a)] 3 (0,0)))from aQ.alloc aH _)));have cA:Hid (cN (v2.alloc (.cells #[ae (a),ae (a)] 3 (0,0))).heap.size (v2.alloc (.cells #[ae (a),ae (a)] 3 (0,0))) (aD v2.heap.size 2 2) [a,a]):=af (lF v2 [a,a]);clear bp;refine(yU 1 HB.at_ aw yA ag).mono ?_;rintro e w6 ⟨rfl,hy⟩;have HF:=af (HB.trans hy);clear hy HB cA;go_wp2_with fail
 go_end0
 exact⟨rfl,_,HF⟩
end
end
section
def turnsP:List Fr→Int
 |[]=>0
 |f :: r=>if f.dX=2 then f.n else turnsP r
theorem Ko(l:List (Value×Fr)):turnsF l=turnsP (l.map Prod.snd):=by
 induction l with
 |nil=>rfl
 |cons p r ih=>simp[turnsF,turnsP,ih]
abbrev DR:=Int×List Fr×List Int×MW
def xL(v:Int)(fs:List Fr)(s:List Int)(u:MW):DR:=if 32<s.length+1 then(2,fs,s,u)else(4,fs,v :: s,u)
def Bx(k:Nat)(fs:List Fr)(s:List Int)(u:MW):DR:=if dh k s u.vars.length≠4 then(dh k s u.vars.length,fs,s,u)else(4,fs,(bM k (turnsP fs) s u).1,(bM k (turnsP fs) s u).2)
def oY(ws:List RW)(t:IT)(fs:List Fr)(s:List Int)(u:MW):DR:=
 match t with
 |.num v=>xL v fs s u
 |.op b=>Bx ((jT b).getD 0) fs s u
 |.own k=>match ws[k]? with
  |some o=>if 0≤o.var then xL o.var fs s u else(4,⟨o.its,0,3,0,0⟩ :: fs,s,u)
  |none=>(4,fs,s,u)
 |.kY a=>match s with
  |x :: y :: r=>(4,if x<y then⟨a,0,2,x,y⟩ :: fs else fs,r,u)
  |_=>(1,fs,s,u)
 |.iff a=>match s with
  |x :: r=>(4,(if x=0 then⟨[],0,0,0,0⟩else⟨a,0,0,0,0⟩) :: fs,r,u)
  |[]=>(1,fs,s,u)
 |.els a b=>match s with
  |x :: r=>(4,(if x=0 then⟨b,0,0,0,0⟩else⟨a,0,1,0,0⟩) :: fs,r,u)
  |[]=>(1,fs,s,u)
def dStep(ws:List RW):List Fr→List Int→MW→DR
 |[],s,u=>(0,[],s,u)
 |f :: r,s,u=>
  match f.its[f.i]? with
  |some t=>oY ws t ({f with i:=f.i+1} :: r) s u
  |none=>
   if f.dX=0 then dStep ws r s u
   else if f.dX=1 then(4,r,s,u)
   else if f.dX=2 then(4,if f.e≤f.n+1 then r else{f with n:=f.n+1,i:=0} :: r,s,u)
   else(if r=[]then 0 else 4,r,s,u)
inductive Rel (es:List PE) (code:List Int):Bool→List Fr→Nat→List (Int×Int)→List Int→Prop
 |last (f:Fr) (p q:Nat) (hb:f.dX=3∧f.its.length≤code.length) (hc:dw es code false (f.its.drop f.i) p q) (h1:code[q]?=some 34):Rel es code false [f] p [] []
 |word (d:Bool) (f g:Fr) (r:List Fr) (p q p2:Nat) (ls:List (Int×Int)) (cs:List Int) (hb:f.dX=3∧f.its.length≤code.length) (hc:dw es code false (f.its.drop f.i) p q) (h1:code[q]?=some 34) (hp:p2≤code.length) (hr:Rel es code d (g :: r) p2 ls cs):Rel es code false (f :: g :: r) p ls (cs++[(p2:Int)])
 |none (d:Bool) (f:Fr) (r:List Fr) (p q:Nat) (ls:List (Int×Int)) (cs:List Int) (hb:f.dX=0∧f.its.length≤code.length) (hc:dw es code d (f.its.drop f.i) p q) (hr:Rel es code d r q ls cs):Rel es code d (f :: r) p ls cs
 |els (d:Bool) (f:Fr) (r:List Fr) (p q p2:Nat) (ls:List (Int×Int)) (cs:List Int) (hb:f.dX=1∧f.its.length≤code.length) (hc:dw es code d (f.its.drop f.i) p q) (h1:code[q]?=some 30) (h2:code[q+1]?=some (p2:Int)) (hp:p2≤code.length) (hr:Rel es code d r p2 ls cs):Rel es code d (f :: r) p ls cs
 |loop (d:Bool) (f:Fr) (r:List Fr) (p q p0:Nat) (ls:List (Int×Int)) (cs:List Int) (hb:f.dX=2∧f.its.length≤code.length) (hc:dw es code true (f.its.drop f.i) p q) (h1:code[q]?=some 32) (h2:code[q+1]?=some (p0:Int)) (hp:p0≤code.length) (h3:dw es code true f.its p0 q) (hn:Cell f.n∧Cell f.e∧f.n<f.e) (hr:Rel es code d r (q+2) ls cs):Rel es code true (f :: r) p (ls++[(f.n,f.e)]) cs
section
variable{es:List PE}{code:List Int}{ws:List RW}{d:Bool}{fs:List Fr}{p q:Nat}{ls:List (Int×Int)}{cs:List Int}
theorem Rel.turns(h:Rel es code d fs p ls cs):d=true→∃l e,ls=l++[(turnsP fs,e)]∧Cell (turnsP fs):=by
 induction h with
 |last=>intro h;cases h
 |word=>intro h;cases h
 |none d f r p q ls cs hb hc hr ih=>
  exact K9
 |els d f r p q p2 ls cs hb hc h1 h2 hp hr ih=>
  exact K9
 |loop d f r p q p0 ls cs hb hc h1 h2 hp h3 hn hr ih=>
  intro _;have e:turnsP (f :: r)=f.n:=by rw[turnsP,aG hb.1]
  rw[e];exact⟨ls,f.e,rfl,hn.1⟩
theorem Rel.X2(h:Rel es code d fs p ls cs):Cell (turnsP fs):=by
 induction h with
 |last f p q hb=>rw[turnsP,az ag];simp[turnsP,Cell]
 |word d f g r p q p2 ls cs hb hc h1 hp hr ih=>rw[turnsP,az ag];exact ih
 |none d f r p q ls cs hb hc hr ih=>rw[turnsP,az ag];exact ih
 |els d f r p q p2 ls cs hb hc h1 h2 hp hr ih=>rw[turnsP,az ag];exact ih
 |loop d f r p q p0 ls cs hb hc h1 h2 hp h3 hn hr ih=>rw[turnsP,aG hb.1];exact hn.1
theorem Rel.call(h:Rel es code d fs p ls cs):∀(l:List Int) (x:Int),cs=l++[x]→∃n:Nat,x=n∧n≤code.length:=by
 induction h with
 |last=>intro l x h;simp at h
 |word d f g r p q p2 ls cs hb hc h1 hp hr ih=>
  intro l x h;have:=List.append_inj_right' h rfl;simp only[List.cons.injEq,and_true]at this;exact⟨p2,this.symm,hp⟩
 |none d f r p q ls cs hb hc hr ih=>exact ih
 |els d f r p q p2 ls cs hb hc h1 h2 hp hr ih=>exact ih
 |loop d f r p q p0 ls cs hb hc h1 h2 hp h3 hn hr ih=>exact ih
theorem Rel.dX(h:Rel es code d fs p ls cs):∀f∈fs,f.dX≤3:=by
 induction h with
 |last f p q hb=>intro g hg;simp at hg;subst hg;omega
 |word d f g r p q p2 ls cs hb hc h1 hp hr ih=>
  exact CL
 |none d f r p q ls cs hb hc hr ih=>
  exact CL
 |els d f r p q p2 ls cs hb hc h1 h2 hp hr ih=>
  exact CL
 |loop d f r p q p0 ls cs hb hc h1 h2 hp h3 hn hr ih=>
  exact CL
theorem Rel.ne(h:Rel es code d fs p ls cs):fs≠[]:=by cases h<;>simp
theorem dw.most(h:dw es code d l p q)(hp:p≤code.length):l.length≤code.length:=by
 have hq:=h.le hp;obtain⟨ps,h1,h2,h3⟩:=h
 have key:∀j,j≤l.length→p+j≤ps j:=by
  intro j
  induction j with
  |zero=>intro _;omega
  |succ j ih=>
   intro hj;have:=(h3 j l[j] (bE ag)).le.1;have:=ih ag;omega
 have:=key l.length aH;omega
theorem Rel.len(h:Rel es code d (f :: r) p ls cs):f.its.length≤code.length:=by
 generalize Ds:f :: r=fs at h
 cases h with
 |last f' p q hb=>
  obtain⟨rfl,_⟩:f=f'∧r=[]:=kJ;exact hb.2
 |word d f' g r' p q p2 ls cs hb=>
  obtain⟨rfl,_⟩:f=f'∧r=g :: r':=kJ;exact hb.2
 |none d f' r' p q ls cs hb=>
  obtain⟨rfl,_⟩:f=f'∧r=r':=kJ;exact hb.2
 |els d f' r' p q p2 ls cs hb=>
  obtain⟨rfl,_⟩:f=f'∧r=r':=kJ;exact hb.2
 |loop d f' r' p q p0 ls cs hb=>
  obtain⟨rfl,_⟩:f=f'∧r=r':=kJ;exact hb.2
theorem dw.Ti(h:dw es code d [] p q):p=q:=by
 obtain⟨ps,h1,h2,_⟩:=h;rw[←h1,←h2];rfl
theorem dw.cons_inv(h:dw es code d (t :: l) p q):∃p',im es code d t p p'∧dw es code d l p' q:=by
 obtain⟨ps,h1,h2,h3⟩:=h;refine⟨ps 1,?_,fun i=>ps (i+1),rfl,h2,fun i x hx=>h3 (i+1) x (by simpa using hx)⟩;rw[←h1];exact h3 0 t rfl
theorem dw.next(h:dw es code d (l.drop i) p q)(ht:l[i]?=some t):∃p',im es code d t p p'∧dw es code d (l.drop (i+1)) p' q:=by
 obtain⟨hi,he⟩:=cI.1 ht;rw[qh hi,he]at h;exact h.cons_inv
theorem dw.done(h:dw es code d (l.drop i) p q)(ht:l[i]?=none):p=q:=by
 rw[List.drop_eq_nil_of_le (List.getElem?_eq_none_iff.1 ht)]at h;exact h.Ti
theorem Rel.next(h:Rel es code d (f :: r) p ls cs)(ht:f.its[f.i]?=some t):∃q,im es code d t p q∧Rel es code d ({f with i:=f.i+1} :: r) q ls cs:=by
 generalize Ds:f :: r=fs at h
 cases h with
 |last f' p q hb hc h1=>
  obtain⟨rfl,rfl⟩:f=f'∧r=[]:=kJ;obtain⟨p',k1,k2⟩:=hc.next ht;exact⟨p',k1,.last _ p' q hb k2 h1⟩
 |word d f' g r' p q p2 ls cs hb hc h1 hp hr=>
  obtain⟨rfl,rfl⟩:f=f'∧r=g :: r':=kJ;obtain⟨p',k1,k2⟩:=hc.next ht;exact⟨p',k1,.word d _ g r' p' q p2 ls cs hb k2 h1 hp hr⟩
 |none d f' r' p q ls cs hb hc hr=>
  obtain⟨rfl,rfl⟩:f=f'∧r=r':=kJ;obtain⟨p',k1,k2⟩:=hc.next ht;exact⟨p',k1,.none d _ r p' q ls cs hb k2 hr⟩
 |els d f' r' p q p2 ls cs hb hc h1 h2 hp hr=>
  obtain⟨rfl,rfl⟩:f=f'∧r=r':=kJ;obtain⟨p',k1,k2⟩:=hc.next ht;exact⟨p',k1,.els d _ r p' q p2 ls cs hb k2 h1 h2 hp hr⟩
 |loop d f' r' p q p0 ls cs hb hc h1 h2 hp h3 hn hr=>
  obtain⟨rfl,rfl⟩:f=f'∧r=r':=kJ;obtain⟨p',k1,k2⟩:=hc.next ht;exact⟨p',k1,.loop d {f with i:=f.i+1} r p' q p0 ls cs hb k2 h1 h2 hp h3 hn hr⟩
end
theorem abK(s:List Int)(n:Nat):dh 28 s n=if 32<s.length+1 then 2 else 4:=by
 have e1:(aL 28).need=0:=rfl;have e2:(aL 28).aM=1:=rfl;unfold dh;rw[e1,e2,az ag,az ag]
 by_cases h:32<s.length+1
 ·rw[aG ag,aG h]
 ·rw[az ag,az h]
theorem QJ(s:List Int)(n:Nat)(h:s.length≤32):dh 29 s n=if s.length<1 then 1 else 4:=by
 have e1:(aL 29).need=1:=rfl;have e2:(aL 29).aM= -1:=rfl;unfold dh;rw[e1,e2]
 by_cases h1:s.length<1
 ·rw[aG ag,aG h1]
 ·exact Qn
theorem ZX(s:List Int)(n:Nat)(h:s.length≤32):dh 31 s n=if s.length<2 then 1 else 4:=by
 have e1:(aL 31).need=2:=rfl;have e2:(aL 31).aM= -2:=rfl;unfold dh;rw[e1,e2]
 by_cases h1:s.length<2
 ·rw[aG ag,aG h1]
 ·exact Qn
theorem Ay(k:Nat)(hk:k=30∨k=32∨k=33∨k=34)(s:List Int)(n:Nat)(h:s.length≤32):dh k s n=4:=by
 have e1:(aL k).need=0:=by rcases hk with rfl|rfl|rfl|rfl<;>rfl
 have e2:(aL k).aM=0:=by rcases hk with rfl|rfl|rfl|rfl<;>rfl
 unfold dh;rw[e1,e2,az ag,az ag,az ag]
theorem tI{code:List Int}(u:MW)(h:code[m.at_]?=some (k:Int)):cK code m u=if dh k m.au u.vars.length≠4 then(dh k m.au u.vars.length,m,u)else execM k (code.getD (m.at_+1) 0) m u:=by
 have:(code.getD m.at_ 0).toNat=k:=by rw[lM,h];simp
 unfold cK;rw[this]
theorem Ta(k:Nat)(hk:k≤12)(ha:Cell a)(hb:Cell b):Cell (kD k a b):=by rw[←Ll k hk ha hb];exact E9 _
theorem one_cell(k:Nat)(ha:Cell a):Cell (mP k a):=by
 unfold mP
 split
 ·exact uT _
 ·split
  ·exact E9 _
  ·exact ha
theorem aae(k:Nat)(s:List Int)(h:∀a∈s,Cell a):∀a∈arrP k s,Cell a:=by
 unfold arrP
 split
 ·repeat' split
  all_goals simp_all
 ·repeat' split
  all_goals simp_all
 ·split
  all_goals simp_all
 ·exact h
theorem Sh(k:Nat)(s:List Int)(h1:16≤k)(h2:k≤22)(hn:(aL k).need≤s.length):((arrP k s).length:Int)=s.length+(aL k).aM:=by
 have hc:k=16∨k=17∨k=18∨k=19∨k=20∨k=21∨k=22:=ag;have a1:(aL 16).need=1∧(aL 16).aM=1:=⟨rfl,rfl⟩;have a2:(aL 17).need=1∧(aL 17).aM= -1:=⟨rfl,rfl⟩;have a3:(aL 18).need=2∧(aL 18).aM=0:=⟨rfl,rfl⟩;have a4:(aL 19).need=2∧(aL 19).aM=1:=⟨rfl,rfl⟩;have a5:(aL 20).need=3∧(aL 20).aM=0:=⟨rfl,rfl⟩;have a6:(aL 21).need=2∧(aL 21).aM= -1:=⟨rfl,rfl⟩;have a7:(aL 22).need=2∧(aL 22).aM=1:=⟨rfl,rfl⟩;rcases s with _|⟨c,_|⟨b,_|⟨a,s⟩⟩⟩
 ·rcases hc with rfl|rfl|rfl|rfl|rfl|rfl|rfl<;>simp_all
 ·rcases hc with rfl|rfl|rfl|rfl|rfl|rfl|rfl<;>simp_all[arrP]
 ·rcases hc with rfl|rfl|rfl|rfl|rfl|rfl|rfl<;>simp_all[arrP]
 ·rcases hc with rfl|rfl|rfl|rfl|rfl|rfl|rfl<;>simp_all[arrP]<;>omega
structure Wl (st:List Int) (u:MW):Prop where
 s:∀a∈st,Cell a
 v:∀a∈u.vars,Cell a
 i:∀a∈u.ins,Cell a
 l:st.length≤32
theorem VM{l:List Int}(h:∀a∈l,Cell a):Cell (l.getD i 0):=by
 rw[lM]
 cases hi:l[i]? with
 |none=>simp[Cell]
 |some y=>exact h y (mF hi)
theorem Vs{l:List Int}(h:∀a∈l,Cell a):Cell (l.headD 0):=by
 cases l with
 |nil=>simp[Cell]
 |cons a r=>exact h a aF
theorem aay(k:Nat)(hk:k<28)(v:Int){n:Int}{u:MW}(hh:dh k m.au u.vars.length=4)(h:Wl m.au u)(hn:k=27→(m.loops.getLastD (0,0)).1=n∧Cell n):
  execM k v m u=(4,{m with au:=(bM k n m.au u).1,at_:=m.at_+1},(bM k n m.au u).2)∧Wl (bM k n m.au u).1 (bM k n m.au u).2∧(bM k n m.au u).2.outs.length≤u.outs.length+1∧(bM k n m.au u).2.vars.length=u.vars.length∧(bM k n m.au u).2.ins.length≤u.ins.length:=by
 obtain⟨h1,h2,h3⟩:=M4 hh;obtain⟨s,ls,cs,at_⟩:=m;simp only at *;obtain⟨c1,c2,c3,c4⟩:=h;unfold bM execM
 by_cases iW:k≤12
 ·rw[Du k iW]at h1
  obtain⟨b,a,r,rfl⟩:=mA h1;simp only[aG iW];simp only[er,forall_eq_or_imp,fA]at c1 c4;refine⟨oN,⟨?_,c2,c3,aK⟩,aF,oN,xp⟩;simp only[er,forall_eq_or_imp];exact⟨Ta k iW c1.2.1 c1.1,c1.2.2⟩
 ·simp only[az iW]
  by_cases qx:k≤15
  ·rw[OY k ag qx]at h1
   obtain⟨a,r,rfl⟩:=ll h1;simp only[aG qx];simp only[er,forall_eq_or_imp,fA]at c1 c4;refine⟨oN,⟨?_,c2,c3,aK⟩,aF,oN,xp⟩;simp only[er,forall_eq_or_imp];exact⟨one_cell k c1.1,c1.2⟩
  ·simp only[az qx]
   by_cases h22:k≤22
   ·simp only[aG h22]
    have:=Sh k s ag h22 h1;exact⟨oN,⟨aae k s c1,c2,c3,ag⟩,aF,oN,xp⟩
   ·simp only[az h22]
    have hc:k=23∨k=24∨k=25∨k=26∨k=27:=ag;rcases hc with rfl|rfl|rfl|rfl|rfl
    ·obtain⟨a,r,rfl⟩:=ll (s:=s) h1
     simp only[er,forall_eq_or_imp,fA]at c1 c4;refine⟨oN,⟨?_,c2,c3,aK⟩,aF,oN,xp⟩;simp only[er,forall_eq_or_imp,if_true];exact⟨VM c2,c1.2⟩
    ·obtain⟨i,a,r,rfl⟩:=mA (s:=s) h1
     simp only[er,forall_eq_or_imp,fA]at c1 c4;refine⟨oN,⟨c1.2.2,fun y hy=>?_,c3,aK⟩,aF,aF,xp⟩;rcases List.mem_or_eq_of_mem_set hy with e|e
     ·exact c2 y e
     ·rw[e];exact c1.2.1
    ·have e2:(aL 25).aM=1:=rfl
     rw[e2]at h2;refine⟨oN,⟨?_,c2,fun y hy=>c3 y (List.mem_of_mem_tail hy),aK⟩,aF,oN,aF⟩;simp only[show(25:Nat)≠23 by decide,show(25:Nat)≠24 by decide,if_false,if_true,er,forall_eq_or_imp];exact⟨Vs c3,c1⟩
    ·obtain⟨a,r,rfl⟩:=ll (s:=s) h1
     simp only[er,forall_eq_or_imp,fA]at c1 c4;exact⟨oN,⟨c1.2,c2,c3,aK⟩,aF,oN,xp⟩
    ·have e2:(aL 27).aM=1:=rfl
     rw[e2]at h2;obtain⟨n1,n2⟩:=hn rfl;refine⟨?_,⟨?_,c2,c3,aK⟩,aF,oN,xp⟩
     ·rw[List.getLastD_eq_getLast?]at n1
      simp[n1]
     ·simp only[show(27:Nat)≠23 by decide,show(27:Nat)≠24 by decide,show(27:Nat)≠25 by decide,show(27:Nat)≠26 by decide,if_false,if_true,er,forall_eq_or_imp]
      exact⟨by simpa using n2,c1⟩
structure Conc (es:List PE) (code:List Int) (D:DR) (fs:List Fr) (m:MS) (x:MW):Prop where
 op:∃k:Nat,k<35∧code[m.at_]?=some (k:Int)
 opd:∀k:Nat,code[m.at_]?=some (k:Int)→28≤k→k≤33→∃v,code[m.at_+1]?=some v∧(k≠28→∃n:Nat,v=n∧n≤code.length)
 loop:∀k:Nat,code[m.at_]?=some (k:Int)→(k=27∨k=32)→∃l a b,m.loops=l++[(a,b)]∧ -9000000000≤a∧a≤9000000000
 e:(cK code m x).1=D.1
 s:(cK code m x).2.1.au=D.2.2.1
 u:(cK code m x).2.2=D.2.2.2
 nx:D.1=4→∃d,Rel es code d D.2.1 (cK code m x).2.1.at_ (cK code m x).2.1.loops (cK code m x).2.1.calls
 l1:(cK code m x).2.1.loops.length≤m.loops.length+1
 l2:(cK code m x).2.1.calls.length≤m.calls.length+1
 l3:D.2.2.2.outs.length≤x.outs.length+1
 l4:D.2.1.length≤fs.length+1
 l5:D.2.2.2.vars.length=x.vars.length
 wl:Wl D.2.2.1 D.2.2.2
section
variable{es:List PE}{code:List Int}{ws:List RW}{d:Bool}{fs:List Fr}{q:Nat}{m:MS}{u:MW}{t:IT}
theorem getD_some{l:List Int}(h:l[i]?=some v):l.getD i 0=v:=by rw[lM,h];rfl
theorem Conc.of{D:DR}{r:Int×MS×MW}(hk:k<35)(h1:code[m.at_]?=some (k:Int))(ho:28≤k→k≤33→∃v,code[m.at_+1]?=some v∧(k≠28→∃n:Nat,v=n∧n≤code.length))(hl:k=27∨k=32→∃l a b,m.loops=l++[(a,b)]∧ -9000000000≤a∧a≤9000000000)(hst:cK code m u=r)
  (e:r.1=D.1∧r.2.1.au=D.2.2.1∧r.2.2=D.2.2.2) (nx:D.1=4→∃d,Rel es code d D.2.1 r.2.1.at_ r.2.1.loops r.2.1.calls) (l:r.2.1.loops.length≤m.loops.length+1∧r.2.1.calls.length≤m.calls.length+1∧D.2.2.2.outs.length≤u.outs.length+1∧D.2.1.length≤fs.length+1∧D.2.2.2.vars.length=u.vars.length) (wl:Wl D.2.2.1 D.2.2.2):Conc es code D fs m u:=by
 have hu:∀j:Nat,code[m.at_]?=some (j:Int)→j=k:=fun j hj=>by rw[h1]at hj;simp only[Option.some.injEq]at hj;omega
 subst hst;exact⟨⟨k,hk,h1⟩,fun j hj=>by rw[hu j hj];exact ho,fun j hj=>by rw[hu j hj];exact hl,e.1,e.2.1,e.2.2,nx,l.1,l.2.1,l.2.2.1,l.2.2.2.1,l.2.2.2.2,wl⟩
theorem Kh(hr:Rel es code d fs (m.at_+2) m.loops m.calls)(hw:Wl m.au u)(h1:code[m.at_]?=some 28)(h2:code[m.at_+1]?=some v)(hv:Cell v):Conc es code (xL v fs m.au u) fs m u:=by
 have h1':code[m.at_]?=some ((28:Nat):Int):=h1;have hst:=tI u h1';rw[abK,getD_some h2]at hst;unfold xL
 by_cases h:32<m.au.length+1
 ·rw[aG h]at hst ⊢
  exact .of (r:=(2,m,u)) aj h1' (fun _ _=>⟨v,h2,fun e=>absurd rfl e⟩) ag hst ⟨rfl,rfl,rfl⟩ (fun e=>yu) aF hw
 ·rw[az h]at hst ⊢
  refine .of (r:=(4,{m with au:=v :: m.au,at_:=m.at_+2},u)) aj h1' (fun _ _=>⟨v,h2,fun e=>absurd rfl e⟩) ag hst ⟨rfl,rfl,rfl⟩ (fun _=>⟨d,hr⟩) aF ⟨?_,hw.v,hw.i,aK⟩;simp only[er,forall_eq_or_imp];exact⟨hv,hw.s⟩
theorem Wl.tail{x:Int}{r:List Int}(hw:Wl (x :: r) u):Wl r u:=⟨fun a ha=>hw.s a (List.mem_cons_of_mem _ ha),hw.v,hw.i,by have:=hw.l;simp at this;omega⟩
theorem U1(hc:kA es code ws)(ha:Alike es ws)(hi:im es code d t m.at_ q)(hr:Rel es code d fs q m.loops m.calls)(hw:Wl m.au u):Conc es code (oY ws t fs m.au u) fs m u:=by
 have hle:=hi.le;have zm:=hw.l;generalize hp:m.at_=p at hi hle
 cases hi with
 |num d n p h h1 h2=>
  subst hp;exact Kh hr hw h1 h2 h
 |op d s k p h h1 h2=>
  subst hp;have hk:=(Cc h).2.1
  have hlo:k=27∨k=32→∃l a b,m.loops=l++[(a,b)]∧ -9000000000≤a∧a≤9000000000:=fun hc=>by
   obtain⟨l,e,e1,b1,b2⟩:=hr.turns (h2 ag);exact⟨l,_,e,e1,ag,ag⟩
  have hst:=tI u h1
  show Conc es code (Bx ((jT s).getD 0) fs m.au u) fs m u
  unfold Bx;rw[h];simp only[Option.getD_some]
  by_cases hh:dh k m.au u.vars.length=4
  ·rw[az (fun e=>e hh)]at hst ⊢
   obtain⟨e1,e2,e3,e4,e5⟩:=aay k hk (code.getD (m.at_+1) 0) (n:=turnsP fs) hh hw (fun YZ=>by
    obtain⟨l,e,e1,e2⟩:=hr.turns (h2 YZ);exact⟨by rw[e1,List.getLastD_concat],e2⟩)
   rw[e1]at hst;exact .of ag h1 ag hlo hst ⟨rfl,rfl,rfl⟩ (fun _=>⟨d,hr⟩) ⟨aF,aF,e3,aF,e4⟩ e2
  ·rw[aG hh]at hst ⊢
   exact .of ag h1 ag hlo hst ⟨rfl,rfl,rfl⟩ (fun e=>absurd e hh) aF hw
 |var d k x p h hv h1 h2=>
  subst hp;have hkl:k<ws.length:=by have:=(cI.1 h).1;rw[ha.len]at this;exact this
  have hy:ws[k]?=some ws[k]:=bE hkl;obtain⟨e1,e2⟩:=(ha.use k x ws[k] h hy).1 hv;obtain⟨b1,b2⟩:=hc.v k x h hv;unfold oY;simp only[hy];rw[aG e2,e1];exact Kh hr hw h1 h2 ⟨ag,ag⟩
 |own d k x p h hv h1 h2=>
  subst hp;have hkl:k<ws.length:=by have:=(cI.1 h).1;rw[ha.len]at this;exact this
  have hy:ws[k]?=some ws[k]:=bE hkl;obtain⟨e1,_⟩:=(ha.use k x ws[k] h hy).2 hv;obtain⟨p',q',k1,k2,k3,k4⟩:=hc.w k x ws[k] h hy hv;have h1':code[m.at_]?=some ((33:Nat):Int):=h1;have hst:=tI u h1';rw[Ay 33 aj _ _ zm,getD_some h2,k1]at hst;unfold oY;simp only[hy];rw[az ag];refine .of (r:=(4,{m with calls:=m.calls++[((m.at_+2:Nat):Int)],at_:=p'},u)) aj h1' (fun _ _=>⟨_,h2,fun _=>⟨p',k1,k2⟩⟩) ag (by rw[hst];simp[execM]) ⟨rfl,rfl,rfl⟩ (fun _=>⟨false,?_⟩) aF hw
  obtain⟨g,r,rfl⟩:∃g r,fs=g :: r:=by
   cases fs with
   |nil=>exact absurd rfl hr.ne
   |cons g r=>exact⟨g,r,rfl⟩
  exact .word d _ g r p' q' _ _ _ ⟨rfl,k3.most k2⟩ (by simpa using k3) k4 hle.2 hr
 |iff d a p q ps h1 h2 h3 h4 h5=>
  subst hp;have h1':code[m.at_]?=some ((29:Nat):Int):=h1;have hst:=tI u h1';rw[QJ _ _ zm,getD_some h2]at hst;have nD:dw es code d a (m.at_+2) q:=⟨ps,h3,h4,h5⟩;have ham:=nD.most (by have:=kz h2;omega);have ho:28≤29→29≤33→∃v,code[m.at_+1]?=some v∧(29≠28→∃n:Nat,v=n∧n≤code.length):=fun _ _=>⟨_,h2,fun _=>⟨q,rfl,hle.2⟩⟩
  obtain⟨s,ls,cs,at_⟩:=m;simp only at *;unfold oY
  cases s with
  |nil=>exact .of (r:=(1,⟨[],ls,cs,at_⟩,u)) aj h1' ho ag (by rw[hst];rfl) ⟨rfl,rfl,rfl⟩ (fun e=>yu) aF hw
  |cons x r=>
   refine .of (r:=(4,⟨r,ls,cs,if x=0 then q else at_+2⟩,u)) aj h1' ho ag (by rw[hst];simp[execM]) ⟨rfl,rfl,rfl⟩ (fun _=>⟨d,?_⟩) aF hw.tail
   by_cases hx:x=0
   ·simp only[aG hx]
    exact .none d _ fs q q ls cs ⟨rfl,aF⟩ (by simpa using dw.nil es code d q) hr
   ·simp only[az hx]
    exact .none d _ fs _ q ls cs ⟨rfl,ham⟩ (by simpa using nD) hr
 |els d a b p q0 q ps qs h1 h2 h3 h4 h5 k1 k2 k3 k4 k5=>
  subst hp;have hq2:q0+2≤code.length:=by have:=kz k2;omega
  have hcb:dw es code d b (q0+2) q:=⟨qs,k3,k4,k5⟩;have nD:dw es code d a (m.at_+2) q0:=⟨ps,h3,h4,h5⟩;have ham:=nD.most (by have:=kz h2;omega);have h1':code[m.at_]?=some ((29:Nat):Int):=h1;have hst:=tI u h1';rw[QJ _ _ zm,getD_some h2]at hst;have ho:28≤29→29≤33→∃v,code[m.at_+1]?=some v∧(29≠28→∃n:Nat,v=n∧n≤code.length):=fun _ _=>⟨_,h2,fun _=>⟨q0+2,rfl,hq2⟩⟩
  obtain⟨s,ls,cs,at_⟩:=m;simp only at *;unfold oY
  cases s with
  |nil=>exact .of (r:=(1,⟨[],ls,cs,at_⟩,u)) aj h1' ho ag (by rw[hst];rfl) ⟨rfl,rfl,rfl⟩ (fun e=>yu) aF hw
  |cons x r=>
   refine .of (r:=(4,⟨r,ls,cs,if x=0 then q0+2 else at_+2⟩,u)) aj h1' ho ag (by rw[hst];simp[execM];split<;>omega) ⟨rfl,rfl,rfl⟩ (fun _=>⟨d,?_⟩) aF hw.tail
   by_cases hx:x=0
   ·simp only[aG hx]
    exact .none d _ fs (q0+2) q ls cs ⟨rfl,hcb.most hq2⟩ (by simpa using hcb) hr
   ·simp only[az hx]
    exact .els d _ fs _ q0 q ls cs ⟨rfl,ham⟩ (by simpa using nD) k1 k2 hle.2 hr
 |kY d a p q0 ps h1 h2 h3 h4 h5 k1 k2=>
  subst hp;have nD:dw es code true a (m.at_+2) q0:=⟨ps,h3,h4,h5⟩;have h1':code[m.at_]?=some ((31:Nat):Int):=h1;have hst:=tI u h1';rw[ZX _ _ zm,getD_some h2]at hst;have lJ:m.at_+2≤code.length:=by have:=kz h2;omega
  have ho:28≤31→31≤33→∃v,code[m.at_+1]?=some v∧(31≠28→∃n:Nat,v=n∧n≤code.length):=fun _ _=>⟨_,h2,fun _=>⟨q0+2,rfl,hle.2⟩⟩
  obtain⟨s,ls,cs,at_⟩:=m;simp only at *;unfold oY;rcases s with _|⟨x,_|⟨y,r⟩⟩
  ·exact .of (r:=(1,⟨[],ls,cs,at_⟩,u)) aj h1' ho ag (by rw[hst];rfl) ⟨rfl,rfl,rfl⟩ (fun e=>yu) aF hw
  ·exact .of (r:=(1,⟨[x],ls,cs,at_⟩,u)) aj h1' ho ag (by rw[hst];rfl) ⟨rfl,rfl,rfl⟩ (fun e=>yu) aF hw
  ·have pZ:cK code ⟨x :: y :: r,ls,cs,at_⟩ u=(4,if x<y then⟨r,ls++[(x,y)],cs,at_+2⟩else⟨r,ls,cs,q0+2⟩,u):=by rw[hst];simp[execM];split<;>simp;omega
   have fR:=hw.s;simp only[er,forall_eq_or_imp]at fR
   by_cases hxy:x<y
   ·simp only[aG hxy]at pZ ⊢
    exact .of aj h1' ho ag pZ ⟨rfl,rfl,rfl⟩ (fun _=>⟨true,.loop d ⟨a,0,2,x,y⟩ fs _ q0 (at_+2) ls cs ⟨rfl,nD.most lJ⟩ (by simpa using nD) k1 k2 lJ nD ⟨fR.1,fR.2.1,hxy⟩ hr⟩) aF hw.tail.tail
   ·simp only[az hxy]at pZ ⊢
    exact .of aj h1' ho ag pZ ⟨rfl,rfl,rfl⟩ (fun _=>⟨d,hr⟩) aF hw.tail.tail
theorem Conc.more{D:DR}(h:Conc es code D fs m u):Conc es code D (f :: fs) m u:=
 ⟨h.op,h.opd,h.loop,h.e,h.s,h.u,h.nx,h.l1,h.l2,h.l3,bB h.l4 aF,h.l5,h.wl⟩
theorem Conc.len{D:DR}{fs2:List Fr}(h:Conc es code D fs m u)(hl:fs.length≤fs2.length):Conc es code D fs2 m u:=
 ⟨h.op,h.opd,h.loop,h.e,h.s,h.u,h.nx,h.l1,h.l2,h.l3,bB h.l4 ag,h.l5,h.wl⟩
theorem AU(hc:kA es code ws)(ha:Alike es ws){p:Nat}{ls:List (Int×Int)}{cs:List Int}(hr:Rel es code d fs p ls cs):∀m:MS,m.at_=p→m.loops=ls→m.calls=cs→Wl m.au u→Conc es code (dStep ws fs m.au u) fs m u:=by
 have key:∀{d:Bool} {f:Fr} {r:List Fr} {t:IT} {m:MS},Rel es code d (f :: r) m.at_ m.loops m.calls→f.its[f.i]?=some t→Wl m.au u→Conc es code (oY ws t ({f with i:=f.i+1} :: r) m.au u) (f :: r) m u:=fun h ht hw=>by
  obtain⟨q',k1,k2⟩:=h.next ht;exact(U1 hc ha k1 k2 hw).len aF
 induction hr with
 |last f p q hb h1 h2=>
  intro m e1 e2 e3 hw;subst e1;rw[dStep]
  cases ht:f.its[f.i]? with
  |some t=>exact key (by rw[e2,e3];exact .last f m.at_ q hb h1 h2) ht hw
  |none=>
   obtain rfl:=h1.done ht;have h1':code[m.at_]?=some ((34:Nat):Int):=h2;have hst:=tI u h1';rw[Ay 34 aj _ _ hw.l]at hst;simp only;rw[az ag,az ag,az ag];simp only[if_true];exact .of (r:=(0,{m with at_:=m.at_+1},u)) aj h1' ag ag (by rw[hst];simp[execM,e3]) ⟨rfl,rfl,rfl⟩ (fun e=>yu) aF hw
 |word d f g r p q p2 ls cs hb h1 h2 hp hr ih=>
  intro m e1 e2 e3 hw;subst e1;rw[dStep]
  cases ht:f.its[f.i]? with
  |some t=>exact key (by rw[e2,e3];exact .word d f g r m.at_ q p2 ls cs hb h1 h2 hp hr) ht hw
  |none=>
   obtain rfl:=h1.done ht;have h1':code[m.at_]?=some ((34:Nat):Int):=h2;have hst:=tI u h1';rw[Ay 34 aj _ _ hw.l]at hst;simp only;rw[az ag,az ag,az ag];simp only[reduceCtorEq,if_false];exact .of (r:=(4,{m with calls:=cs,at_:=p2},u)) aj h1' ag ag (by rw[hst];simp[execM,e3]) ⟨rfl,rfl,rfl⟩ (fun _=>⟨d,by simp only;rw[e2];exact hr⟩) (by rw[e3];simp;omega) hw
 |none d f r p q ls cs hb h1 hr ih=>
  intro m e1 e2 e3 hw;subst e1;rw[dStep]
  cases ht:f.its[f.i]? with
  |some t=>exact key (by rw[e2,e3];exact .none d f r m.at_ q ls cs hb h1 hr) ht hw
  |none=>
   obtain rfl:=h1.done ht;simp only;rw[aG hb.1];exact(ih m rfl e2 e3 hw).more
 |els d f r p q p2 ls cs hb h1 h2 h3 hp hr ih=>
  intro m e1 e2 e3 hw;subst e1;rw[dStep]
  cases ht:f.its[f.i]? with
  |some t=>exact key (by rw[e2,e3];exact .els d f r m.at_ q p2 ls cs hb h1 h2 h3 hp hr) ht hw
  |none=>
   obtain rfl:=h1.done ht;have h1':code[m.at_]?=some ((30:Nat):Int):=h2;have hst:=tI u h1';rw[Ay 30 aj _ _ hw.l,getD_some h3]at hst;simp only;rw[az ag,aG hb.1];exact .of (r:=(4,{m with at_:=p2},u)) aj h1' (fun _ _=>⟨_,h3,fun _=>⟨p2,rfl,hp⟩⟩) ag (by rw[hst];simp[execM]) ⟨rfl,rfl,rfl⟩ (fun _=>⟨d,by simp only;rw[e2,e3];exact hr⟩) aK hw
 |loop d f r p q p0 ls cs hb h1 h2 h3 hp h4 hn hr ih=>
  intro m e1 e2 e3 hw;subst e1;rw[dStep]
  cases ht:f.its[f.i]? with
  |some t=>exact key (by rw[e2,e3];exact .loop d f r m.at_ q p0 ls cs hb h1 h2 h3 hp h4 hn hr) ht hw
  |none=>
   obtain rfl:=h1.done ht;have h1':code[m.at_]?=some ((32:Nat):Int):=h2;have hst:=tI u h1';rw[Ay 32 aj _ _ hw.l,getD_some h3]at hst;have pZ:cK code m u=(4,if f.n+1<f.e then{m with loops:=ls++[(f.n+1,f.e)],at_:=p0}else{m with loops:=ls,at_:=m.at_+2},u):=by rw[hst];simp[execM,e2]
   obtain⟨⟨n1,n2⟩,⟨n3,n4⟩,n5⟩:=hn;simp only;rw[az ag,az ag,aG hb.1];have ho:28≤32→32≤33→∃v,code[m.at_+1]?=some v∧(32≠28→∃n:Nat,v=n∧n≤code.length):=fun _ _=>⟨_,h3,fun _=>⟨p0,rfl,hp⟩⟩
   have hlo:32=27∨32=32→∃l a b,m.loops=l++[(a,b)]∧ -9000000000≤a∧a≤9000000000:=fun _=>⟨ls,f.n,f.e,e2,ag,ag⟩
   by_cases hne:f.n+1<f.e
   ·rw[aG hne]at pZ
    rw[az ag];exact .of aj h1' ho hlo pZ ⟨rfl,rfl,rfl⟩ (fun _=>⟨true,by simp only;rw[e3];exact .loop d {f with n:=f.n+1,i:=0} r p0 m.at_ p0 ls cs hb (by simpa using h4) h2 h3 hp h4 ⟨⟨iO,iO⟩,⟨n3,n4⟩,hne⟩ hr⟩) (by rw[e2];simp) hw
   ·rw[az hne]at pZ
    rw[aG ag];exact .of aj h1' ho hlo pZ ⟨rfl,rfl,rfl⟩ (fun _=>⟨d,by simp only;rw[e3];exact hr⟩) (by rw[e2];simp;omega) hw
end
structure oT (es:List PE) (code:List Int) (n:Nat) (fs:List Fr) (m:MS) (u:MW):Prop where
 rel:∃d,Rel es code d fs m.at_ m.loops m.calls
 wl:Wl m.au u
 l1:m.loops.length≤n
 l2:m.calls.length≤n
 l3:u.outs.length≤n
 l4:fs.length≤n+1
section
variable{es:List PE}{code:List Int}{ws:List RW}{fs:List Fr}{m:MS}{u:MW}{n:Nat}
theorem oT.ok(hc:kA es code ws)(ha:Alike es ws)(h:oT es code n fs m u)(hn:n≤1000000):yX code m u:=by
 obtain⟨d,hr⟩:=h.rel;have hcc:=AU (u:=u) hc ha hr m rfl rfl rfl h.wl;have:=h.l1;have:=h.l2;have:=h.l3;exact⟨hcc.op,h.wl.s,hcc.opd,hcc.loop,hr.call,ag,ag,ag⟩
theorem oT.step(hc:kA es code ws)(ha:Alike es ws)(h:oT es code n fs m u):(cK code m u).1=(dStep ws fs m.au u).1∧(cK code m u).2.1.au=(dStep ws fs m.au u).2.2.1∧(cK code m u).2.2=(dStep ws fs m.au u).2.2.2∧((dStep ws fs m.au u).1=4→oT es code (n+1) (dStep ws fs m.au u).2.1 (cK code m u).2.1 (cK code m u).2.2):=by
 obtain⟨d,hr⟩:=h.rel;have hcc:=AU (u:=u) hc ha hr m rfl rfl rfl h.wl;have h1:=h.l1;have h2:=h.l2;have h3:=h.l3;have h4:=h.l4;have k1:=hcc.l1;have k2:=hcc.l2;have k3:=hcc.l3;have k4:=hcc.l4;refine⟨hcc.e,hcc.s,hcc.u,fun e=>⟨hcc.nx e,?_,ag,ag,by rw[hcc.u];omega,ag⟩⟩;rw[hcc.s,hcc.u];exact hcc.wl
end
end
end Go.Proofs.YtcphhbofjkenaaaGreatDoor
