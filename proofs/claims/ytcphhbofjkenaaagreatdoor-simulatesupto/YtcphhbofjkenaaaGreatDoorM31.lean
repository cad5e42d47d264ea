import Derived.Test.YtcphhbofjkenaaaGreatDoorMy
import Derived.Test.YtcphhbofjkenaaaGreatDoorM30
namespace Go.Proofs.YtcphhbofjkenaaaGreatDoor
open Go Go.RowKit Proofs.Tryz
set_option linter.unusedVariables false
set_option linter.unusedSimpArgs false
set_option maxRecDepth 100000
set_option maxHeartbeats 16000000
variable{k vn vc p B n c:Nat}{y:RW}{va:Option Addr}{D:DR}{r:Ending}{ls:List (Int×Int)}{cs l:List Int}{f:Fr}{w2 w:World}
theorem My{p:Prop}(h:p:=by
  exact(Xb h gF).mono (fun r w' hr=>qP hr ⟨hs,rfl,aA ⟨aF,rfl,rfl⟩⟩)):p:=h
section
attribute [local go_sem] ui
def nQ:Array Value:= #[.string ⟨#[]⟩,ae 0,aI,ae 0,ae 0,ae 0,ae 0,.bool false]
section
variable{B:Nat}{w w':World}{sb:Nat}{F:Nat→Prop}{x:DX}{m m':DM}{u u':MW}{sv:Value}{ws:List RW}{sc sk:Int}
theorem cG.word(h:cG w sb sv ws sc sk)(hk:ws[k]?=some y):∃g cap,sv=aD g ws.length cap∧ws.length≤cap∧g<w.heap.size∧k<ws.length∧∀(j:Nat) (v:Value),y.cells[j]?=some v→w.cell? (ai g (k*8+j))=some v:=by
 obtain⟨hkl,he⟩:=cI.1 hk;obtain⟨g,cap,hv,_,hg,hc,_,_⟩:=cd h.row ag;exact⟨g,cap,hv,hc,hg,hkl,fun j v hj=>Dx h.row hv k j hkl v (by have:=(cI.1 hj).1;simpa [RW.cells]using this) (by rw[he];exact hj)⟩
theorem UF(h:bC B w sb F x m u)(iD:cG w sb sv ws sc sk)(fR:ws.length≤1100000)(hk:ws[k]?=some y)(qy:y.items=.slice va vn vc)(hc:0≤y.var→Cell y.var)(hT:y.var<0→fk F w (.slice va vn vc) y.its)(hfl:m.fs.length+1≤2000000):
  Calls prog 173 #[ax x.mb,.agg #[ae 3,ae k,.string ⟨#[]⟩,aI,aI],ax x.wp] w fun r w'=>r=.returned (.tuple #[])∧dp B w sb F x (if 0≤y.var then(if 32<m.au.length+1 then{m with done:=true,ed:=2}else{m with au:=y.var :: m.au})else{m with fs:=(.slice va vn vc,⟨y.its,0,3,0,0⟩) :: m.fs}) u w':=by
 obtain⟨MR,hMR⟩:∃MR:DM,MR=(if 0≤y.var then(if 32<m.au.length+1 then{m with done:=true,ed:=2}else{m with au:=y.var :: m.au})else{m with fs:=(.slice va vn vc,⟨y.its,0,3,0,0⟩) :: m.fs}):=⟨_,rfl⟩;rw[←hMR];have HMR:=af hMR;clear hMR;obtain⟨z0,z1,z2,z3,z4,hlt⟩:=h.cells;have hl:=h.len.2.1;obtain⟨sg,xd,hsv,hsc,hsg,hkl,hwc⟩:=iD.word hk;have s0:=iD.blk.cell 0 _ rfl;have hsl:=iD.blk.lt;simp only[List.getElem_toArray,List.getElem_cons_zero]at s0;rw[hsv]at s0;obtain⟨yn,yv,yi,yf,ys⟩:=y;simp only at qy hT hc;subst qy;have d0:w.cell? (ai sg (k*8))=some (.string yn):=hwc 0 _ rfl;have d1:w.cell? (ai sg (k*8+1))=some (ae yv):=hwc 1 _ rfl;have d2:w.cell? (ai sg (k*8+2))=some (.slice va vn vc):=hwc 2 _ rfl;have d3:w.cell? (ai sg (k*8+3))=some (ae yf.need):=hwc 3 _ rfl;have d4:w.cell? (ai sg (k*8+4))=some (ae yf.aM):=hwc 4 _ rfl;have d5:w.cell? (ai sg (k*8+5))=some (ae yf.high):=hwc 5 _ rfl;have d6:w.cell? (ai sg (k*8+6))=some (ae yf.steps):=hwc 6 _ rfl;have d7:w.cell? (ai sg (k*8+7))=some (.bool yf.str):=hwc 7 _ rfl;obtain⟨X,hX⟩:=ak (w.alloc (.cells #[ae 3,ae k,.string ⟨#[]⟩,aI,aI] 249 (0,0)):World);obtain⟨ib,hib⟩:=ak (w.heap.size);have hbX:Below w.heap.size w X:=jo;have aN:ay X ib #[ae 3,ae k,.string ⟨#[]⟩,aI,aI] 249:=pU;have i0:X.cell? (ai ib 0)=some (ae 3):=aN.cell 0 _ rfl;have i1:X.cell? (ai ib 1)=some (ae k):=aN.cell 1 _ rfl;have zX:X.cell? (ai x.mb 0)=some (ax sb):=(hbX.cell (p:=ai x.mb 0) hlt).trans z0;have sX:X.cell? (ai sb 0)=some (aD sg ws.length xd):=(hbX.cell (p:=ai sb 0) hsl).trans s0;have e0:X.cell? (ai sg (k*8))=some (.string yn):=(hbX.cell (p:=ai sg (k*8)) hsg).trans d0;have e1:X.cell? (ai sg (k*8+1))=some (ae yv):=(hbX.cell (p:=ai sg (k*8+1)) hsg).trans d1;have e2:X.cell? (ai sg (k*8+2))=some (.slice va vn vc):=(hbX.cell (p:=ai sg (k*8+2)) hsg).trans d2;have e3:X.cell? (ai sg (k*8+3))=some (ae yf.need):=(hbX.cell (p:=ai sg (k*8+3)) hsg).trans d3;have e4:X.cell? (ai sg (k*8+4))=some (ae yf.aM):=(hbX.cell (p:=ai sg (k*8+4)) hsg).trans d4;have e5:X.cell? (ai sg (k*8+5))=some (ae yf.high):=(hbX.cell (p:=ai sg (k*8+5)) hsg).trans d5;have e6:X.cell? (ai sg (k*8+6))=some (ae yf.steps):=(hbX.cell (p:=ai sg (k*8+6)) hsg).trans d6;have e7:X.cell? (ai sg (k*8+7))=some (.bool yf.str):=(hbX.cell (p:=ai sg (k*8+7)) hsg).trans d7;have hk0:(0:Int)≤(k:Int):=ag
 have bA:(k:Int)<(ws.length:Int):=ag;have HA:=af (h.below hbX);have HX:=af hX;have dU:=af hib;have HB:=af hbX;have HT:=af (fun (q:yv<0)=>(hT q).below h.fb (hbX.mono h.le));clear h iD hk hwc hX hib hbX aN z0 z1 z2 z3 z4 s0 d0 d1 d2 d3 d4 d5 d6 d7 hsv hT;generalize ws.length=N at *;go_enter func173,ntmps173;go_upto_region 1 with fail
 rw[←HX.out,←dU.out];go_upto_region 16 with fail
 clear HX dU;have hne:=cz.ne X.heap.size X nQ 186 aH;have k0:∀(S':Option Nat) (v:cz X.heap.size X nQ 186 S'),v.val.cell? (ai x.mb 0)=some (ax sb):=fun S' v=>v.cell zX (dD X _ zX)
 have k1:∀(S':Option Nat) (v:cz X.heap.size X nQ 186 S'),v.val.cell? (ai sb 0)=some (aD sg N xd):=fun S' v=>v.cell sX (dD X _ sX)
 have k2:∀(S':Option Nat) (v:cz X.heap.size X nQ 186 S'),v.val.cell? (ai ib 1)=some (ae k):=fun S' v=>v.cell i1 (dD X _ i1)
 have q0:∀(S':Option Nat) (v:cz X.heap.size X nQ 186 S'),v.val.cell? (ai sg (k*8))=some (.string yn):=fun S' v=>v.cell e0 (dD X _ e0)
 have q1:∀(S':Option Nat) (v:cz X.heap.size X nQ 186 S'),v.val.cell? (ai sg (k*8+1))=some (ae yv):=fun S' v=>v.cell e1 (dD X _ e1)
 have q2:∀(S':Option Nat) (v:cz X.heap.size X nQ 186 S'),v.val.cell? (ai sg (k*8+2))=some (.slice va vn vc):=fun S' v=>v.cell e2 (dD X _ e2)
 have q3:∀(S':Option Nat) (v:cz X.heap.size X nQ 186 S'),v.val.cell? (ai sg (k*8+3))=some (ae yf.need):=fun S' v=>v.cell e3 (dD X _ e3)
 have q4:∀(S':Option Nat) (v:cz X.heap.size X nQ 186 S'),v.val.cell? (ai sg (k*8+4))=some (ae yf.aM):=fun S' v=>v.cell e4 (dD X _ e4)
 have q5:∀(S':Option Nat) (v:cz X.heap.size X nQ 186 S'),v.val.cell? (ai sg (k*8+5))=some (ae yf.high):=fun S' v=>v.cell e5 (dD X _ e5)
 have q6:∀(S':Option Nat) (v:cz X.heap.size X nQ 186 S'),v.val.cell? (ai sg (k*8+6))=some (ae yf.steps):=fun S' v=>v.cell e6 (dD X _ e6)
 have q7:∀(S':Option Nat) (v:cz X.heap.size X nQ 186 S'),v.val.cell? (ai sg (k*8+7))=some (.bool yf.str):=fun S' v=>v.cell e7 (dD X _ e7)
 refine ur nQ 186 11 aP aP rfl (fun _=>rfl) (fun a w=>by simp[go_sem,nQ]) ?_;simp only[List.take_succ_cons,List.take_zero,List.drop_succ_cons,List.drop_zero]
 repeat (refine uB (fun K hK=>?_);go_simp;refine hK _ ?_;clear hK K)
 refine uU ?_;intro pb w6 hpb bL hblk;have a0:w6.cell? (ai pb 0)=some (.string ⟨#[]⟩):=hblk.cell 0 _ rfl;have f0:=hblk.frozen 0;have a1:w6.cell? (ai pb 1)=some (ae 0):=hblk.cell 1 _ rfl;have f1:=hblk.frozen 1;have a2:w6.cell? (ai pb 2)=some aI:=hblk.cell 2 _ rfl;have f2:=hblk.frozen 2;have a3:w6.cell? (ai pb 3)=some (ae 0):=hblk.cell 3 _ rfl;have f3:=hblk.frozen 3;have a4:w6.cell? (ai pb 4)=some (ae 0):=hblk.cell 4 _ rfl;have f4:=hblk.frozen 4;have a5:w6.cell? (ai pb 5)=some (ae 0):=hblk.cell 5 _ rfl;have f5:=hblk.frozen 5;have a6:w6.cell? (ai pb 6)=some (ae 0):=hblk.cell 6 _ rfl;have f6:=hblk.frozen 6;have a7:w6.cell? (ai pb 7)=some (.bool false):=hblk.cell 7 _ rfl;have f7:=hblk.frozen 7;have NV:=hblk.lt;obtain⟨V,hV⟩:=ak (((((((((w6.setCell (ai pb 0) (.string yn)).setCell (ai pb 1) (ae yv)).setCell (ai pb 2) (.slice va vn vc)).setCell (ai pb 3) (ae yf.need)).setCell (ai pb 4) (ae yf.aM)).setCell (ai pb 5) (ae yf.high)).setCell (ai pb 6) (ae yf.steps)).setCell (ai pb 7) (.bool yf.str)):World)
 have gQ:ay V pb #[.string yn,ae yv,.slice va vn vc,ae yf.need,ae yf.aM,ae yf.high,ae yf.steps,.bool yf.str] 186:=by
  rw[hV];have:=((((((((hblk.set (o:=0) (.string yn)).set (o:=1) (ae yv)).set (o:=2) (.slice va vn vc)).set (o:=3) (ae yf.need)).set (o:=4) (ae yf.aM)).set (o:=5) (ae yf.high)).set (o:=6) (ae yf.steps)).set (o:=7) (.bool yf.str));simpa [nQ]using this
 have fe:Below X.heap.size X V:=by rw[hV];exact((((((((bL.setCell hpb _).setCell hpb _).setCell hpb _).setCell hpb _).setCell hpb _).setCell hpb _).setCell hpb _).setCell hpb _)
 have mS:=af gQ;have HV:=af hV;have s7:=af (HA.trans (HA.at_.below fe));have HTV:=af (fun (q:yv<0)=>(HT q).below HA.at_.fb (fe.mono HA.at_.le));have dM:¬x.S pb:=fun e=>by have:=HA.at_.pI e;omega
 have ie:=af dM;clear k0 k1 k2 q0 q1 q2 q3 q4 q5 q6 q7 hne hblk bL gQ fe hV dM i0 i1 zX sX e0 e1 e2 e3 e4 e5 e6 e7;go_simp;go_upto_region 17 with fail
 rw[←HV.out];clear a0 a1 a2 a3 a4 a5 a6 a7 f0 f1 f2 f3 f4 f5 f6 f7 HV HA;have p1:V.cell? (ai pb 1)=some (ae yv):=mS.cell 1 _ rfl
 by_cases hv:0≤yv
 ·have gI:=af (s7.trans (s7.at_.below (show Below V.heap.size V (V.alloc (.cells #[ae yv] 3 (0,0)))from aQ.alloc aH _)))
  have cA:Hid (cN (V.alloc (.cells #[ae yv] 3 (0,0))).heap.size (V.alloc (.cells #[ae yv] 3 (0,0))) (aD V.heap.size 1 1) [yv]):=af (lF V [yv]);have qB:=hc hv;clear s7 HTV;go_wp2_with fail
  by_cases hov:32<m.au.length+1
  ·refine(yU 0 gI.at_ (bU _) ag ag).mono ?_
   rintro e w7 ⟨rfl,hy⟩;have HF:=af (gI.trans hy);clear hy gI;go_wp2_with fail;rw[show MR={m with done:=true,ed:=2} by rw[HMR.out];simp[hv,hov]];exact bodyPost_ret (results_none rfl _ _ _) rfl ⟨rfl,_,HF⟩
  ·refine(iZ 0 [yv] gI.at_ (bU _) ow cA (fun z hz=>by rw[p6.1 hz];obtain⟨a,b⟩:=qB;omega)).mono ?_
   rintro e w7 ⟨rfl,y,hy⟩;have HF:=af (gI.trans hy);clear hy gI cA;go_wp2_with fail;rw[show MR={m with au:=yv :: m.au} by rw[HMR.out];simp[hv,hov]];refine bodyPost_ret (results_none rfl _ _ _) rfl ⟨rfl,y,?_⟩;have:=HF.out;simp only[List.map_cons,List.map_nil,List.reverse_cons,List.reverse_nil,List.nil_append,List.singleton_append,List.drop_zero,kF qB]at this;exact this
 ·have p2:V.cell? (ai pb 2)=some (.slice va vn vc):=mS.cell 2 _ rfl
  have uM:=af (yr ys 3 3 0 0 rfl x.mb rfl s7.at_ (HTV ag) hfl);go_wp2_with fail;refine uM.mono ?_;rintro e w7 ⟨rfl,y2,hy2⟩;have HF:=af (s7.trans hy2);clear hy2 uM s7 HTV;go_wp2_with fail;go_end0;refine⟨rfl,y2,?_⟩;have e:MR={m with fs:=(.slice va vn vc,⟨ys,0,3,0,0⟩) :: m.fs}:=by rw[HMR.out];simp;omega
  rw[e];exact HF
end
end
section
def After(m m':DM)(u':MW)(D:DR):Prop:=m'.au=D.2.2.1∧u'=D.2.2.2∧((D.1=4∧m'.fs.map Prod.snd=D.2.1∧m'.done=m.done∧m'.ed=m.ed)∨(D.1≠4∧m'.done=true∧m'.ed=D.1))
section
variable{B:Nat}{w w':World}{sb:Nat}{F:Nat→Prop}{x:DX}{m m':DM}{u u':MW}{sv:Value}{ws:List RW}{sc sk:Int}{es:List PE}{code:List Int}{d:Bool}
def vB(B:Nat)(w:World)(sb:Nat)(F:Nat→Prop)(x:DX)(m:DM)(D:DR)(r:Ending)(w':World):Prop:=r=.returned (.tuple #[])∧∃t m' u',t≤1∧dp B w sb F {x with tk:=x.tk+t} m' u' w'∧After m m' u' D
theorem qP(h:r=.returned (.tuple #[])∧dp B w sb F x m' u' w')(ha:After m m' u' D):vB B w sb F x m D r w':=⟨h.1,0,m',u',ag,h.2,ha⟩
theorem fk.shape{v:Value}{its:List IT}(h:fk F w v its):∃a c,v=.slice a its.length c∧its.length≤c:=by
 obtain⟨xs,⟨a,c,h1,h2,_⟩,_⟩:=h;exact⟨a,c,h1,h2⟩
theorem fk.nil0:fk F w aI []:=⟨fun _=> #[],⟨Option.none,0,rfl,aH,fun i h=>jC,fun h=>jC⟩,fun i t h=>jC⟩
theorem XB{t:IT}{xa:Array Value}{q:Nat}(h:bC B w sb F x m u)(iD:cG w sb sv ws sc sk)(fR:ws.length≤1100000)(hT:lO F w xa t)(hTA:fM F w ws)(bj:wA ws)
  (dK:kA es code ws) (hal:Alike es ws) (hC:im es code d t p q) (hR:Rel es code d (m.fs.map Prod.snd) q ls cs) (hw:Wl m.au u) (ht:x.tk+1≤2000000) (ho:u.outs.length+1≤2000000) (hfl:m.fs.length+1≤2000000):
  Calls prog 173 #[ax x.mb,.agg xa,ax x.wp] w (vB B w sb F x m (oY ws t (m.fs.map Prod.snd) m.au u)):=by
 have zm:=hw.l
 cases hT with
 |num n hn=>
  show Calls _ _ _ _ (vB B w sb F x m (xL n (m.fs.map Prod.snd) m.au u))
  unfold xL
  by_cases hov:32<m.au.length+1
  ·rw[aG hov]
   exact(UM n h hov).mono (fun r w' hr=>qP hr ⟨rfl,rfl,aA ⟨aF,rfl,rfl⟩⟩)
  ·rw[az hov]
   exact(Uk n h hn ag).mono (fun r w' hr=>qP hr ⟨rfl,rfl,aC ⟨rfl,rfl,rfl,rfl⟩⟩)
 |op s=>
  cases hC with
  |op d s k p hk h1 h2=>
   show Calls _ _ _ _ (vB B w sb F x m (Bx ((jT s).getD 0) (m.fs.map Prod.snd) m.au u))
   unfold Bx;rw[hk];simp only[Option.getD_some];have hb:∀f∈m.fs,f.2.dX≤3:=fun f hf=>hR.dX f.2 (List.mem_map.2 ⟨f,hf,rfl⟩)
   have htc:Cell (turnsF m.fs):=by rw[Ko];exact hR.X2
   refine(Uz hk h hw htc hb ht ho).mono ?_;rintro r w' ⟨hr,t,ht1,hd⟩;refine⟨hr,t,_,_,ht1,hd,?_⟩
   by_cases hh:dh k m.au u.vars.length=4
   ·obtain⟨e1,e2⟩:=l9 (m:=m) hh
    rw[e1,e2,az (fun e=>e hh),Ko];exact⟨rfl,rfl,aC ⟨rfl,rfl,rfl,rfl⟩⟩
   ·obtain⟨e1,e2⟩:=vx (m:=m) rfl hh
    rw[e1,e2,aG hh];exact⟨rfl,rfl,aA ⟨hh,rfl,rfl⟩⟩
 |own k=>
  have hke:∃e,es[k]?=some e:=by
   cases hC with
   |var d k e p hk hv h1 h2=>exact⟨e,hk⟩
   |own d k e p hk hv h1 h2=>exact⟨e,hk⟩
  obtain⟨e,hke⟩:=hke;have hkl:k<ws.length:=by have:=(cI.1 hke).1;rw[hal.len]at this;exact this
  obtain⟨y,hy⟩:∃y,ws[k]?=some y:=⟨_,bE hkl⟩;unfold oY;simp only[hy];obtain⟨ya,yn,yc,qy⟩:=(bj y (mF hy)).2;refine(UF h iD fR hy qy (fun hv=>?_) (fun hv=>by rw[←qy];exact hTA y (mF hy) hv) hfl).mono (fun r w' hr=>qP hr ?_)
  ·have hev:e.var=true:=by
    cases hb:e.var with
    |true=>rfl
    |false=>have:=((hal.use k e y hke hy).2 hb).1;omega
   rw[((hal.use k e y hke hy).1 hev).1];obtain⟨a,b⟩:=dK.v k e hke hev;exact⟨ag,ag⟩
  ·by_cases hv:0≤y.var
   ·rw[aG hv,aG hv]
    unfold xL
    by_cases hov:32<m.au.length+1
    ·rw[aG hov,aG hov]
     exact⟨rfl,rfl,aA ⟨aF,rfl,rfl⟩⟩
    ·rw[az hov,az hov]
     exact⟨rfl,rfl,aC ⟨rfl,rfl,rfl,rfl⟩⟩
   ·rw[az hv,az hv]
    exact⟨rfl,rfl,aC ⟨rfl,rfl,rfl,rfl⟩⟩
 |iff v a xs h1 h2=>
  have hTa:fk F w v a:=⟨xs,h1,h2⟩;obtain⟨va,vc,rfl,hvc⟩:=hTa.shape;unfold oY
  cases hs:m.au with
  |nil=>exact(S6 h gF).mono (fun r w' hr=>qP hr ⟨hs,rfl,aA ⟨aF,rfl,rfl⟩⟩)
  |cons c s=>
   by_cases hc:c=0
   ·simp only[aG hc]
    exact(YA h hs (by simp[hc]) fk.nil0 hfl).mono (fun r w' hr=>qP hr ⟨rfl,rfl,aC ⟨rfl,rfl,rfl,rfl⟩⟩)
   ·simp only[az hc]
    exact(Y0 h hs (by simp[hc]) hTa hfl).mono (fun r w' hr=>qP hr ⟨rfl,rfl,aC ⟨rfl,rfl,rfl,rfl⟩⟩)
 |els v v2 a b xs ys h1 h2 k1 k2=>
  have hTa:fk F w v a:=⟨xs,h1,h2⟩;have hTb:fk F w v2 b:=⟨ys,k1,k2⟩;obtain⟨va,vc,rfl,hvc⟩:=hTa.shape;obtain⟨vb,vd,rfl,hvd⟩:=hTb.shape;unfold oY
  cases hs:m.au with
  |nil=>exact(ads h gF).mono (fun r w' hr=>qP hr ⟨hs,rfl,aA ⟨aF,rfl,rfl⟩⟩)
  |cons c s=>
   by_cases hc:c=0
   ·simp only[aG hc]
    exact(Xh h hs (by simp[hc]) hTb hfl).mono (fun r w' hr=>qP hr ⟨rfl,rfl,aC ⟨rfl,rfl,rfl,rfl⟩⟩)
   ·simp only[az hc]
    exact(aas h hs (by simp[hc]) hTa hfl).mono (fun r w' hr=>qP hr ⟨rfl,rfl,aC ⟨rfl,rfl,rfl,rfl⟩⟩)
 |kY v ad n c a xs h1 h2=>
  have hTa:fk F w v a:=⟨xs,h1,h2⟩;obtain⟨va,vc,rfl,hvc⟩:=hTa.shape;unfold oY;rcases hs:m.au with _|⟨c,_|⟨e,s⟩⟩
  ·exact My
  ·exact My
  ·by_cases hlt:c<e
   ·simp only[aG hlt]
    exact(SD h hs hlt hTa hfl).mono (fun r w' hr=>qP hr ⟨rfl,rfl,aC ⟨rfl,rfl,rfl,rfl⟩⟩)
   ·simp only[az hlt]
    exact(X0 h hs hlt hTa hfl).mono (fun r w' hr=>qP hr ⟨rfl,rfl,aC ⟨rfl,rfl,rfl,rfl⟩⟩)
end
end
section
section
variable{B:Nat}{w w':World}{sb:Nat}{F:Nat→Prop}{x:DX}{m m':DM}{u u':MW}{sv:Value}{ws:List RW}{sc sk:Int}{es:List PE}{code:List Int}{d:Bool}
theorem Rel.leave0{r:List Fr}(h:Rel es code d (f :: r) p ls cs)(hb:f.dX=0):∃p',Rel es code d r p' ls cs:=by
 generalize Ds:f :: r=fs at h
 cases h with
 |last f' p q hb' hc h1=>
  obtain⟨rfl,rfl⟩:f=f'∧r=[]:=kJ;omega
 |word d f' g r' p q p2 ls cs hb' hc h1 hp hr=>
  obtain⟨rfl,rfl⟩:f=f'∧r=g :: r':=kJ;omega
 |none d f' r' p q ls cs hb' hc hr=>
  obtain⟨rfl,rfl⟩:f=f'∧r=r':=kJ;exact⟨q,hr⟩
 |els d f' r' p q p2 ls cs hb' hc h1 h2 hp hr=>
  obtain⟨rfl,rfl⟩:f=f'∧r=r':=kJ;omega
 |loop d f' r' p q p0 ls cs hb' hc h1 h2 hp h3 hn hr=>
  obtain⟨rfl,rfl⟩:f=f'∧r=r':=kJ;omega
theorem Rel.acL{r:List Fr}(h:Rel es code d (f :: r) p ls cs)(hb:f.dX=2):Cell f.n∧Cell f.e:=by
 generalize Ds:f :: r=fs at h
 cases h with
 |last f' p q hb' hc h1=>
  obtain⟨rfl,rfl⟩:f=f'∧r=[]:=kJ;omega
 |word d f' g r' p q p2 ls cs hb' hc h1 hp hr=>
  obtain⟨rfl,rfl⟩:f=f'∧r=g :: r':=kJ;omega
 |none d f' r' p q ls cs hb' hc hr=>
  obtain⟨rfl,rfl⟩:f=f'∧r=r':=kJ;omega
 |els d f' r' p q p2 ls cs hb' hc h1 h2 hp hr=>
  obtain⟨rfl,rfl⟩:f=f'∧r=r':=kJ;omega
 |loop d f' r' p q p0 ls cs hb' hc h1 h2 hp h3 hn hr=>
  obtain⟨rfl,rfl⟩:f=f'∧r=r':=kJ;exact⟨hn.1,hn.2.1⟩
theorem bC.MO{pv:Value}{f':Fr}{r:List (Value×Fr)}{g cap:Nat}(h:bC B w sb F x m u)(hm:m.fs=(pv,f) :: r)(hfv:x.fv=aD g m.fs.length cap)(hc:aq (fun b=>b=g) w w')(hi:f'.its=f.its)
  (hr:w'.ownsRow B 257 5 (aD g m.fs.length cap) m.fs.length (r.reverse.flatMap Fr.cells++Fr.cells (pv,f'))):DN B w sb F x {m with fs:=(pv,f') :: r} u w' x:=by
 have hne:x.mb≠g:=fun e=>aZ h.fg h.dA aj (by rw[hfv,←e];rfl)
 have:=h.frames (oh:=x.fv) (fs':=(pv,f') :: r) (hc.mono (fun b _ e=>aA (by rw[hfv,e];rfl))) (h.dA.aB hc hne) (by
  show World.ownsRow _ _ _ _ _ _ _
  rw[hfv,List.reverse_cons,kS,List.flatMap_singleton,fA];rw[hm,fA]at hr;rw[hm,fA]
  exact hr) (Lc.refl _ _) (fun p hp=>by
   rcases er.1 hp with e|hp
   ·rw[e]
    have:=h.oD (pv,f) (by rw[hm];simp);simp only at this ⊢;rw[hi];exact this
   ·exact h.oD p (by rw[hm];exact List.mem_cons_of_mem _ hp)) (by have:=h.len.1;rw[hm]at this;simpa using this)
 exact this
theorem DN.S3{y z:DX}{m2:DM}{u2:MW}{t:Nat}(h:DN B w sb F x m' u' w' y)(h2:DN B w' sb F {y with tk:=y.tk+t} m2 u2 w2 z):DN B w sb F {x with tk:=x.tk+t} m2 u2 w2 z:=
 ⟨h2.at_,h2.mb.trans h.mb,h2.wp.trans h.wp,h2.cv.trans h.cv,h2.full.trans h.full,
  fun k hk=>(h2.fv k hk).elim (h.fv k) (fun e=>aA (bB h.aB.size e)),fun k hk=>(h2.ov k hk).elim (h.ov k) (fun e=>aA (bB h.aB.size e)),
  h.aB.fz h2.aB (fun b hb e=>(h.sub b e).elim id (fun e=>ag)),by rw[h2.tk];simp only;rw[h.tk]⟩
theorem abo{m1:DM}{y:DX}(h:DN B w sb F x m1 u w' y)(hm:m1.done=m.done∧m1.ed=m.ed)(hp:vB B w' sb F y m1 D r w2):vB B w sb F x m D r w2:=by
 obtain⟨hr,t,m',u',ht,⟨z,hz⟩,ha⟩:=hp;refine⟨hr,t,m',u',ht,⟨z,h.S3 hz⟩,ha.1,ha.2.1,?_⟩;rcases ha.2.2 with ⟨a,b,c,e⟩|e
 ·exact aC ⟨a,b,c.trans hm.1,e.trans hm.2⟩
 ·exact aA e
theorem cG.FL(h:cG w sb sv ws sc sk)(hs:sb<B∧∀k,sv.ownBlock=some k→k<B)(hc:Below B w w'):cG w' sb sv ws sc sk:=
 ⟨(hc.block sb hs.1).trans h.blk,aR (S:=fun k=>B≤k) h.row ⟨hc.os,hc.tape,hc.output,hc.size,fun k hk hn=>hc.block k ag⟩ (fun k hk e=>by have:=hs.2 k hk;omega),h.apart⟩
theorem ref_step(h:bC B w sb F x m u)(iD:cG w sb sv ws sc sk)(hsB:sb<B∧∀k,sv.ownBlock=some k→k<B)(fR:ws.length≤1100000)(hTA:fM F w ws)(bj:wA ws)
  (dK:kA es code ws) (hal:Alike es ws) (hcl:code.length≤1000000) (hR:Rel es code d (m.fs.map Prod.snd) p ls cs) (hw:Wl m.au u) (ht:x.tk+1≤2000000) (ho:u.outs.length+1≤2000000) (hfl:m.fs.length+1≤2000000):
  Calls prog 133 #[ax x.mb,ax x.wp] w (vB B w sb F x m (dStep ws (m.fs.map Prod.snd) m.au u)):=by
 obtain⟨D,hD⟩:=ak (dStep ws (m.fs.map Prod.snd) m.au u);rw[←hD];have H:=af h;have HSY:=af (aY iD hsB);have HTA:=af hTA;have HCD:=af (aY dK hal);have HR:=af hR;have HW:=af hw;have HD:=af hD;clear h iD hsB hTA dK hal hR hw hD;go_enter func133,ntmps133;go_wp2_with fail;go_loopw[4,5] (fun a b wr=>∃(m1:DM) (y:DX) (p1:Nat),Hid (DN B w sb F x m1 u wr y)∧Hid (m1.au=m.au∧m1.done=m.done∧m1.ed=m.ed∧m1.fs.length≤m.fs.length)∧Hid (Rel es code d (m1.fs.map Prod.snd) p1 ls cs)∧Hid (D=dStep ws (m1.fs.map Prod.snd) m.au u)) (fun _ _ wr=>match wr.cell? (ai x.mb 1)with|some (.slice _ n _)=>n|_=>0)
 case atStart=>exact⟨m,x,p,af (H.below aQ),af ⟨rfl,rfl,rfl,aH⟩,HR,HD⟩
 case round=>
  clear HR HD;obtain⟨m1,y,p1,HY,HE,kj,nV⟩:=hrel
  obtain⟨pv,f,r,hm1⟩:∃pv f r,m1.fs=(pv,f) :: r:=by
   cases hm:m1.fs with
   |nil=>have:=kj.ne;rw[hm]at this;exact absurd rfl this
   |cons a r=>exact⟨a.1,a.2,r,rfl⟩
  have hlen1:m1.fs.length=r.length+1:=by rw[hm1];rfl
  have hrev:m1.fs.reverse[r.length]?=some (pv,f):=by rw[hm1,List.reverse_cons,fP aF];simp
  obtain⟨g,cap,hfv,hcap,hg,_,hcell⟩:=HY.at_.Pg r.length hrev;obtain⟨z0,z1,z2,z3,z4,hlt⟩:=HY.at_.cells;rw[hfv,HY.mb,hlen1]at z1;rw[HY.mb]at hlt;have hTf:=HY.at_.oD (pv,f) (by rw[hm1];simp);obtain⟨pa,pc,hpv,hpc⟩:=hTf.shape;simp only at hpv hpc hTf;subst hpv;have q0:=hcell 0 _ rfl;have q1:=hcell 1 _ rfl;have q2:=hcell 2 _ rfl;have q3:=hcell 3 _ rfl;have q4:=hcell 4 _ rfl;rw[Nat.add_zero]at q0;obtain⟨n,hn⟩:=ak (r.length);rw[←hn]at z1 q0 q1 q2 q3 q4;rw[hlen1,←hn]at hcap;have hnl:n+1≤2000000:=by have:=HE.out.2.2.2;omega
  have HM1:=af hm1;have lW:=af hlen1;have HFV:=af hfv;have HTF:=af hTf;have HN:=af hn;have eF:(0:Int)≤(n:Int):=ag;have hn1:(n:Int)<(n:Int)+1:=ag;have hn2:(n:Int)+1 - 1=(n:Int):=ag;have YM:f.dX≤3:=kj.dX f (by rw[hm1];simp);clear hm1 hlen1 hrev hfv hcell hTf z0 z2 z3 z4 hn;go_upto_region 2 with fail
  obtain⟨Z,hZ⟩:=ak (wr.alloc (.cells #[.slice pa f.its.length pc,ae f.i,ae f.dX,ae f.n,ae f.e] 257 (0,0)):World);obtain⟨fb,hfb⟩:=ak (wr.heap.size);have mY:Below wr.heap.size wr Z:=by rw[hZ];exact aQ.alloc aH _
  have nG:ay Z fb #[.slice pa f.its.length pc,ae f.i,ae f.dX,ae f.n,ae f.e] 257:=by rw[hZ,hfb];exact bJ wr _ _
  rw[←hZ,←hfb];have hDZ:=HY.trans (HY.at_.below mY);have HDZ:=af hDZ;have lL:=af nG;have c0:Z.cell? (ai fb 0)=some (.slice pa f.its.length pc):=nG.cell 0 _ rfl;have c1:Z.cell? (ai fb 1)=some (ae f.i):=nG.cell 1 _ rfl;have c2:Z.cell? (ai fb 2)=some (ae f.dX):=nG.cell 2 _ rfl;have c3:Z.cell? (ai fb 3)=some (ae f.n):=nG.cell 3 _ rfl;have c4:Z.cell? (ai fb 4)=some (ae f.e):=nG.cell 4 _ rfl;have zZ:Z.cell? (ai x.mb 1)=some (aD g (n+1) cap):=(mY.cell (p:=ai x.mb 1) hlt).trans z1;have a1:Z.cell? (ai g (n*5+1))=some (ae f.i):=(mY.cell (p:=ai g (n*5+1)) hg).trans q1;have a3:Z.cell? (ai g (n*5+3))=some (ae f.n):=(mY.cell (p:=ai g (n*5+3)) hg).trans q3;have hgf:g≠fb:=ag;have hmf:x.mb≠fb:=ag;have hmZ:x.mb<Z.heap.size:=bF hlt mY.size;have hgZ:g<Z.heap.size:=bF hg mY.size;have hfZ:=nG.lt;have dM:¬y.S fb:=fun e=>by have:=HY.at_.pI e;omega
  have Km:(match wr.cell? (ai x.mb 1)with|some (.slice _ n _)=>n|_=>0)=n+1:=by rw[z1]
  have HME:=af Km;have hFl:(r.reverse.flatMap Fr.cells).length=n*5:=by rw[O5,dm,HN.out]
  have Cj:Z.ownsRow B 257 5 (aD g m1.fs.length cap) m1.fs.length (r.reverse.flatMap Fr.cells++Fr.cells (.slice pa f.its.length pc,f)):=by
   have:=hDZ.at_.fg;rw[show uu B Z y.fv m1.fs=Z.ownsRow B 257 5 y.fv m1.fs.length (m1.fs.reverse.flatMap Fr.cells)from rfl,HFV.out]at this;have e:m1.fs.reverse.flatMap Fr.cells=r.reverse.flatMap Fr.cells++Fr.cells (.slice pa f.its.length pc,f):=by rw[HM1.out,List.reverse_cons,kS,List.flatMap_singleton]
   rw[e]at this;exact this
  have f1:=aiq Cj (n*5+1);have f3:=aiq Cj (n*5+3);have qO:=af Cj;have HFL:=af hFl;have ie:=af dM;have HRR:Hid (Rel es code d (f :: r.map Prod.snd) p1 ls cs):=af (by have:=kj.out;rw[HM1.out]at this;exact this);have eO:Hid (D=dStep ws (f :: r.map Prod.snd) m.au u):=af (by have:=nV.out;rw[HM1.out]at this;exact this);clear hZ hfb mY nG hDZ z1 q0 q1 q2 q3 q4 hlt hg Km hFl Cj dM kj nV HTF
  by_cases hfi:f.i<f.its.length
  ·have ZP:(f.i:Int)<(f.its.length:Int):=by omega
   have aec:(f.i:Int)≤1000000:=by have:=HRR.len;omega
   have aem:(0:Int)≤(f.i:Int):=ag;obtain⟨W,hW⟩:=ak (Z.setCell (ai g (n*5+1)) (ae ((f.i:Int)+1)):World);have jx:aq (fun b=>b=g) Z W:=by rw[hW];exact(aq.refl (fun b=>b=g) Z).setCell (p:=ai g (n*5+1)) rfl _
   have hrW:W.ownsRow B 257 5 (aD g m1.fs.length cap) m1.fs.length (r.reverse.flatMap Fr.cells++Fr.cells (.slice pa f.its.length pc,{f with i:=f.i+1})):=by
    have:=rz qO HFL 1 (ae ((f.i:Int)+1));rw[hW];simpa [Fr.cells]using this
   have hDW:=HDZ.trans (HDZ.at_.MO (f':={f with i:=f.i+1}) HM1 HFV jx rfl hrW);obtain⟨tt,htt⟩:∃tt,f.its[f.i]?=some tt:=⟨_,bE hfi⟩;obtain⟨q,hC,hRn⟩:=HRR.next htt;have hTW:=hDW.at_.oD (.slice pa f.its.length pc,{f with i:=f.i+1}) aF;obtain⟨xs,⟨ad,cp,e1,e2,e3,e4⟩,hTr⟩:=hTW;simp only at e1 e2 e3 e4 hTr;obtain⟨ig,ics,rfl,e5,e6,e7⟩:=e4 ag;obtain⟨rfl,rfl⟩:pa=some (ai ig 0)∧pc=cp:=by simpa using e1
   obtain⟨xk,xn,xs_,xa1,xn1,xc1,xa2,xn2,xc2,hx5⟩:=e3 f.i hfi;have QX:=hTr f.i tt htt;have mi:Below B w W:=H.toBelow hDW.aB (fun _ e=>e);have hit:=XB hDW.at_ (HSY.out.1.FL HSY.out.2 mi) fR QX (HTA.mono (fun k cs hk _=>⟨hk,mi.block k (H.fb k hk)⟩)) bj HCD.out.1 HCD.out.2 hC (by simpa using hRn) (by rw[show({m1 with fs:=(aD ig f.its.length pc,{f with i:=f.i+1}) :: r}:DM).au=m.au from HE.out.1];exact HW) (by rw[hDW.tk];exact ht) ho (by have:=lW.out;have:=HE.out.2.2.2;simp only[fA];omega);rw[hDW.mb,hDW.wp,hx5]at hit;have hDe:D=oY ws tt ({f with i:=f.i+1} :: r.map Prod.snd) m.au u:=by rw[eO.out,dStep,htt]
   have t0:W.cell? (ai ig (f.i*5))=some (ae xk):=by
    have:=e7 f.i hfi 0 _ Ak;rw[Nat.add_zero]at this;exact ay.cell (w:=W) (b:=ig) e6 _ _ this
   have t1:W.cell? (ai ig (f.i*5+1))=some (ae xn):=ay.cell (w:=W) (b:=ig) e6 _ _ (e7 f.i hfi 1 _ Ak);have t2:W.cell? (ai ig (f.i*5+2))=some (.string xs_):=ay.cell (w:=W) (b:=ig) e6 _ _ (e7 f.i hfi 2 _ Ak);have t3:W.cell? (ai ig (f.i*5+3))=some (.slice xa1 xn1 xc1):=ay.cell (w:=W) (b:=ig) e6 _ _ (e7 f.i hfi 3 _ Ak);have t4:W.cell? (ai ig (f.i*5+4))=some (.slice xa2 xn2 xc2):=ay.cell (w:=W) (b:=ig) e6 _ _ (e7 f.i hfi 4 _ Ak);have b0:W.cell? (ai fb 0)=some (aD ig f.its.length pc):=(jx.cell (p:=ai fb 0) hfZ (fun e=>hgf e.symm)).trans c0;have b1:W.cell? (ai fb 1)=some (ae f.i):=(jx.cell (p:=ai fb 1) hfZ (fun e=>hgf e.symm)).trans c1;have hfW:fb<W.heap.size:=bF hfZ jx.size;have aeq:ig<W.heap.size:=(mD.1 e6).1;have qK:=af hit;have HDW:=af hDW;have HDE:=af hDe;have HWW:=af hW;clear hit hDW hDe jx hrW hTr e1 e2 e3 e4 e5 e6 e7 QX mi hC hRn hx5 htt hW;go_upto_region 4 with fail
   rw[←HWW.out];clear c0 c1 c2 c3 c4 zZ a1 a3 f1 f3;go_wp2_with fail;refine qK.mono ?_;intro e w6 oO;obtain rfl:=oO.1;have H6:=af oO;clear oO qK;go_wp2_with fail;refine bodyPost_ret (results_none rfl _ _ _) rfl ?_;rw[HDE.out];refine abo HDW ⟨HE.out.2.1,HE.out.2.2.1⟩ ?_;have h6:=H6.out;have es:({m1 with fs:=(aD ig f.its.length pc,{f with i:=f.i+1}) :: r}:DM).au=m.au:=HE.out.1;rw[es]at h6;exact h6
  ·have ZP:¬(f.i:Int)<(f.its.length:Int):=by omega
   have hnone:f.its[f.i]?=none:=jh ag;have mo:=af (QL HDZ.at_ HM1);rw[HY.mb]at mo;obtain⟨bb,fK⟩:=ak (f.dX);rw[←fK]at c2 YM;have hcs:bb=0∨bb=1∨bb=2∨bb=3:=ag;have gI:=af fK;clear fK;rcases hcs with rfl|rfl|rfl|rfl
   ·have HDn:Hid (D=dStep ws (r.map Prod.snd) m.au u):=af (by rw[eO.out,dStep,hnone];simp only;rw[aG gI.symm])
    obtain⟨p2,hR2⟩:=HRR.leave0 gI.symm;have HR2:=af hR2;clear hR2;go_wp2_with fail;refine mo.mono ?_;rintro e w6 ⟨rfl,y2,hy2⟩;have HF:=af (HDZ.trans hy2);clear hy2 mo;go_wp2_with fail;go_roundw
    case rel=>exact⟨_,y2,p2,HF,af ⟨HE.out.1,HE.out.2.1,HE.out.2.2.1,by have:=HE.out.2.2.2;have:=lW.out;simp only;omega⟩,HR2,HDn⟩
    case measure=>
     have h1:=HF.at_.cells.2.1;obtain⟨bI,bq,aa0,_,_⟩:=bo HF.at_.fg;rw[aa0,HF.mb]at h1;rw[HME.out,h1];simp only;have:=HN.out;omega
   ·have hDe:D=(4,r.map Prod.snd,m.au,u):=by rw[eO.out,dStep,hnone];simp only;rw[az zK,aG gI.symm]
    have HDE:=af hDe;clear hDe;go_wp2_with fail;refine mo.mono ?_;rintro e w6 ⟨rfl,y2,hy2⟩;have HF:=af (HDZ.trans hy2);clear hy2 mo;go_wp2_with fail;refine bodyPost_ret (results_none rfl _ _ _) rfl ?_;rw[HDE.out];exact⟨rfl,0,_,_,ag,⟨y2,HF⟩,HE.out.1,rfl,aC ⟨rfl,rfl,HE.out.2.1,HE.out.2.2.1⟩⟩
   ·obtain⟨⟨n1,n2⟩,n3,n4⟩:=HRR.acL gI.symm
    obtain⟨W,hW⟩:=ak ((Z.setCell (ai g (n*5+3)) (ae (f.n+1))).setCell (ai g (n*5+1)) (ae 0):World);have jx:aq (fun b=>b=g) Z W:=by rw[hW];exact((aq.refl (fun b=>b=g) Z).setCell (p:=ai g (n*5+3)) rfl _).setCell (p:=ai g (n*5+1)) rfl _
    have hrW:W.ownsRow B 257 5 (aD g m1.fs.length cap) m1.fs.length (r.reverse.flatMap Fr.cells++Fr.cells (.slice pa f.its.length pc,{f with n:=f.n+1,i:=0})):=by
     have:=rz (rz qO HFL 3 (ae (f.n+1))) HFL 1 (ae 0);rw[hW];simpa [Fr.cells]using this
    have hDW:=HDZ.trans (HDZ.at_.MO (f':={f with n:=f.n+1,i:=0}) HM1 HFV jx rfl hrW);have b3:W.cell? (ai fb 3)=some (ae f.n):=(jx.cell (p:=ai fb 3) hfZ (fun e=>hgf e.symm)).trans c3;have b4:W.cell? (ai fb 4)=some (ae f.e):=(jx.cell (p:=ai fb 4) hfZ (fun e=>hgf e.symm)).trans c4;have hfW:fb<W.heap.size:=bF hfZ jx.size
    have hDe:D=(4,if f.e≤f.n+1 then r.map Prod.snd else{f with n:=f.n+1,i:=0} :: r.map Prod.snd,m.au,u):=by
     rw[eO.out,dStep,hnone];simp only;rw[az zK,az zK,aG gI.symm]
    have HDE:=af hDe;have HDW:=af hDW;have HWW:=af hW;clear hDe hDW jx hrW hW mo;go_upto_region 16 with fail
    rw[←HWW.out];clear c0 c1 c2 c3 c4 zZ a1 a3 f1 f3 HWW
    by_cases hge:f.e≤f.n+1
    ·have HLW:=af (QL (r:=r) HDW.at_ rfl)
     rw[HY.mb]at HLW;go_wp2_with fail;refine HLW.mono ?_;rintro e w6 ⟨rfl,y2,hy2⟩;have HF:=af (HDW.trans hy2);clear hy2 HLW;go_wp2_with fail;refine bodyPost_ret (results_none rfl _ _ _) rfl ?_;rw[HDE.out,aG hge];exact⟨rfl,0,_,_,ag,⟨y2,HF⟩,HE.out.1,rfl,aC ⟨rfl,rfl,HE.out.2.1,HE.out.2.2.1⟩⟩
    ·go_wp2_with fail
     refine bodyPost_ret (results_none rfl _ _ _) rfl ?_;rw[HDE.out,az ag];exact⟨rfl,0,_,_,ag,⟨y,HDW⟩,HE.out.1,rfl,aC ⟨rfl,rfl,HE.out.2.1,HE.out.2.2.1⟩⟩
   ·have hDe:D=(if r.map Prod.snd=[]then 0 else 4,r.map Prod.snd,m.au,u):=by
     rw[eO.out,dStep,hnone];simp only;rw[az zK,az zK,az zK]
    have HDE:=af hDe;clear hDe
    by_cases np:r=[]
    ·have aam:n=0:=by rw[HN.out,np];rfl
     subst aam;go_wp2_with fail;refine mo.mono ?_;rintro e w6 ⟨rfl,y2,hy2⟩;have HF:=af (HDZ.trans hy2);have HST:=af (zo 0 hy2.at_);rw[hy2.mb,HY.mb]at HST;clear hy2 mo;go_wp2_with fail;refine HST.mono ?_;rintro e w7 ⟨rfl,hy7⟩;have H7:=af (HF.trans hy7);clear hy7 HST;go_wp2_with fail;refine bodyPost_ret (results_none rfl _ _ _) rfl ?_;rw[HDE.out,np];exact⟨rfl,0,_,_,ag,⟨y2,H7⟩,HE.out.1,rfl,aA ⟨aF,rfl,rfl⟩⟩
    ·have hnp:n≠0:=fun e=>np (List.eq_nil_of_length_eq_zero (by rw[←HN.out];exact e))
     have hnn:((n:Int) == 0)=false:=by simp;exact hnp
     go_wp2_with fail
     refine mo.mono ?_;rintro e w6 ⟨rfl,y2,hy2⟩;have HF:=af (HDZ.trans hy2);clear hy2 mo;go_wp2_with fail;refine bodyPost_ret (results_none rfl _ _ _) rfl ?_;rw[HDE.out,az (by simpa using np)];exact⟨rfl,0,_,_,ag,⟨y2,HF⟩,HE.out.1,rfl,aC ⟨rfl,rfl,HE.out.2.1,HE.out.2.2.1⟩⟩
end
end
section
attribute [local go_sem] fH
theorem YW{iv:Value}(hi:cN B w iv l)(hB:B≤w.heap.size)(hl:l.length≤1100000):
  Calls prog 131 #[iv] w fun e w'=>e=.returned (.bool (mR l))∧w'=w:=by
 obtain⟨R,hR⟩:=ak (mR l);rw[←hR];obtain⟨a,c,rfl,hv⟩:=BA hi
 ·have HR:=af hR;have HV:=af hv;have HL:=af hl
  obtain⟨n,hn⟩:=ak (l.length);rw[←hn]at hl ⊢;have HN:=af hn;clear hR hv hn hi;go_enter func131,ntmps131;go_wp2_with fail;go_loopw[3] (fun s wr=>∃k:Nat,k≤n∧s=ae k∧wr=w∧Hid (R=mR (l.drop k))) (fun s _=>n - (intOf s).toNat)
  case atStart=>exact⟨0,bU _,rfl,rfl,af (by rw[HR.out];rfl)⟩
  case round=>
   clear HR;obtain⟨k,hk,rfl,rfl,HC⟩:=hrel
   by_cases hlt:k<n
   ·have bV:(k:Int)<(n:Int):=by omega
    obtain⟨y,hy⟩:∃y,l[k]?=some y:=⟨_,bE uj⟩;obtain⟨pb,po,rfl,hp,cy⟩:=HV.out k y hy;have hpb:pb<wr.heap.size:=ag
    have hdr:R=(decide (Cell y)&&mR (l.drop (k+1))):=by
     have hyy:=(cI.1 hy);obtain⟨h1,h2⟩:=hyy;rw[HC.out,qh h1,h2];rfl
    have HD:=af hdr;clear hdr hy HC
    by_cases h1:y< -2147483648
    ·have HR:Hid (R=false):=by show R=false;rw[HD.out,gO (fun h=>by have:=h.1;omega)];rfl
     go_wp2_with fail
     rw[HR.out];go_ret;exact⟨rfl,rfl⟩
    ·by_cases h2:2147483647<y
     ·have HR:Hid (R=false):=by show R=false;rw[HD.out,gO (fun h=>by have:=h.2;omega)];rfl
      go_wp2_with fail
      rw[HR.out];go_ret;exact⟨rfl,rfl⟩
     ·have HR:Hid (R=mR (l.drop (k+1))):=by show R=_;rw[HD.out,jW ⟨ag,ag⟩,Bool.true_and]
      go_wp2_with fail
      go_roundw
      case rel=>exact⟨k+1,ag,bO,y8,HR⟩
      case measure=>simp only[intOf];omega
   ·obtain rfl:k=n:=by omega
    have bV:¬(k:Int)<(k:Int):=ag;have HR:Hid (R=true):=NH;clear HC;go_wp2_with fail;rw[HR.out];go_ret;exact⟨rfl,rfl⟩
theorem YT{W:World}{ops:Array Oper}{rest:List Oper}{o:Oper}{a:Act}{Q:Exit→Act→World→Prop}(hgd:o.guard=none)(s y:Operand)(ho:o.op=.call {callee:=.builtin .append,args:= #[s,y],argTypes:= #[24,24]})
  {ad:Option Addr}   (hs:a.eval s=aI) (hy:a.eval y=.slice ad n c) (hi:cN B W (.slice ad n c) l) (ir:ad=none→c=0) (hk:l.length≤1100000)
  (h:∀v' w',bX W.heap.size w' v' l→Below W.heap.size W w'→wpList prog ops Q rest (a.put o.dst v') w'):wpList prog ops Q (o :: rest) a W:=by
 obtain⟨i,hii,hz,hsz,hb⟩:=info_parts Tryz.vo
 have key:∀p,ad=some p→(∀(j:Nat) (u:Value),(ints l)[j]?=some u→W.cell? (p.add j)=some u)→n=l.length→wpList prog ops Q (o :: rest) a W:=fun p hp hc hn=>by
  subst hp;refine wpList_append_own W hgd s y 24 ho W.heap.size 3 i (ae 0) 1 8 underlying24 hii hz hsz hb rfl aj aI 0 [] hs (qQ _ _ _ _) p n c (ints l) hy (by simp[ints,hn]) hc (fun v hv'=>Qb) lu ag aH (fun v' w' h1 h2 _=>?_);refine h v' w' ?_ ((aq.dP h2).toBelow aH (fun b hb e=>by cases e));rw[Nat.zero_add,List.nil_append,hn]at h1;exact h1
 rcases hi with ⟨rfl,a',c',hv⟩|⟨pb,po,c',hv,h1,h2,h3⟩
 ·obtain⟨rfl,rfl,rfl⟩:ad=a'∧n=0∧c=c':=by simpa using hv
  cases ad with
  |none=>
   obtain rfl:=ir rfl;refine wpList_plain hgd fun K hK=>?_
   have hrun:=run_append_owned_none (P:=prog) W W.heap.size 24 o.type 3 i 1 underlying24 hii aI 0 [] (qQ _ _ _ _);unfold Oper.wp execOp;simp only[ho,resolve,invoke,builtin,Sem.run_bind,Sem.run_pure,Result.andThen_ok,List.map_toArray,List.map_cons,List.map_nil,hs,hy,hrun];exact hK _ _ (h _ _ (qQ _ _ _ _) aQ)
  |some p=>exact key p rfl (fun j u hu=>by simp[ints]at hu) rfl
 ·obtain⟨rfl,rfl,rfl⟩:ad=some (ai pb po)∧n=l.length∧c=c':=by simpa using hv
  refine key _ rfl (fun j u hu=>?_) rfl;rw[Addr.add_lit];rw[iH]at hu;obtain⟨z,hz1,rfl⟩:=Option.map_eq_some_iff.1 hu;exact h3 j z hz1
theorem Zt{sb:Nat}{sv:Value}{ws:List RW}{sc sk:Int}{ta:Option Addr}{tn tc:Nat}{st:List Int}(iD:cG w sb sv ws sc sk)(fR:ws.length≤1100000)(hk:ws[k]?=some y)(qy:y.items=.slice va vn vc)
  (hs:cN B w (.slice ta tn tc) st) (ir:ta=none→tc=0) (hB:B≤w.heap.size) (hl:st.length≤32):
  Calls prog 132 #[ax sb,ae k,.slice ta tn tc] w fun e w'=>∃mb fv ta' tn' tc',e=.returned (ax mb)∧w.heap.size≤mb∧ay w' mb #[ax sb,fv,.slice ta' tn' tc',.bool false,ae 0] 226∧uu w.heap.size w' fv [(.slice va vn vc,⟨y.its,0,3,0,0⟩)]∧bX w.heap.size w' (.slice ta' tn' tc') st∧Below w.heap.size w w':=by
 obtain⟨sg,xd,hsv,hsc,hsg,hkl,hwc⟩:=iD.word hk;have s0:=iD.blk.cell 0 _ rfl;have hsl:=iD.blk.lt;simp only[List.getElem_toArray,List.getElem_cons_zero]at s0;rw[hsv]at s0;have d2:w.cell? (ai sg (k*8+2))=some (.slice va vn vc):=hwc 2 _ (by simp[RW.cells,qy]);obtain⟨mb,hmb⟩:=ak (w.heap.size);obtain⟨X,hX⟩:=ak (w.alloc (.cells #[ax sb,aI,aI,.bool false,ae 0] 226 (0,0)):World);have hbX:Below w.heap.size w X:=jo;have aN:ay X mb #[ax sb,aI,aI,.bool false,ae 0] 226:=by rw[hX,hmb];exact bJ w _ _
 have nO:=(hs.below (hbX.mono hB));have m2:X.cell? (ai mb 2)=some aI:=aN.cell 2 _ rfl;have jI:=aN.lt;have hk0:(0:Int)≤(k:Int):=ag;have bA:(k:Int)<(ws.length:Int):=ag;have HX:=af hX;have jH:=af hmb;have bT:=af hbX;have bz:=af aN;have jq:=af nO;have HNC:=af ir;clear hX hmb hbX aN nO hs ir hwc hk iD qy hsv;generalize ws.length=N at *;go_enter func132,ntmps132;go_upto_region 2 with fail
 rw[←HX.out,←jH.out];go_wp2_with (at_builtin;refine YT rfl _ _ rfl rfl rfl jq HNC ag ?_);intro v1 w1 hr1 hb1;obtain⟨ta',tn',tc',rfl⟩:=Jq hr1;have wK:=bz.sub hb1 bz.lt;have q2:w1.cell? (ai mb 2)=some aI:=wK.cell 2 _ rfl;have q1:w1.cell? (ai mb 1)=some aI:=wK.cell 1 _ rfl;have f1:=wK.frozen 1;have f2:=wK.frozen 2;have hm1:=wK.lt;have ct:Below w.heap.size w w1:=bT.trans (hb1.mono bT.size);have t0:w1.cell? (ai sb 0)=some (aD sg N xd):=(ct.cell (p:=ai sb 0) hsl).trans s0;have t2:w1.cell? (ai sg (k*8+2))=some (.slice va vn vc):=(ct.cell (p:=ai sg (k*8+2)) hsg).trans d2;have ad4:sb<w1.heap.size:=bF hsl ct.size;have aew:sg<w1.heap.size:=bF hsg ct.size;have RH:sb≠mb:=zQ;have oZ:sg≠mb:=zQ;have kj:=af hr1;have bu:=af ct;have ft:=af wK;clear hr1 hb1 wK ct m2 s0 d2 jq HX;go_wp2_with fail;go_ret;obtain⟨Y,hY⟩:=ak ((w1.setCell (ai mb 2) (.slice ta' tn' tc')).setCell (ai mb 1) (aD w1.heap.size 1 1):World);obtain⟨U,hU⟩:=ak (Y.alloc (.cells #[.slice va vn vc,ae 0,ae 3,ae 0,ae 0] 257 (0,0)):World);have hYs:Y.heap.size=w1.heap.size:=by rw[hY];simp
 have jX:aq (fun b=>b=mb) w1 Y:=by rw[hY];exact((aq.refl (fun b=>b=mb) w1).setCell (p:=ai mb 2) rfl _).setCell (p:=ai mb 1) rfl _
 have eW:ay Y mb #[ax sb,aD w1.heap.size 1 1,.slice ta' tn' tc',.bool false,ae 0] 226:=by
  rw[hY];have:=(ft.set (o:=2) (.slice ta' tn' tc')).set (o:=1) (aD w1.heap.size 1 1);simpa using this
 have hrU:U.ownsRow w.heap.size 257 5 (aD w1.heap.size 1 1) 1 [.slice va vn vc,ae 0,ae 3,ae 0,ae 0]:=by
  rw[hU,←hYs];exact World.ownsRow_lit Y #[.slice va vn vc,ae 0,ae 3,ae 0,ae 0] 1 (by rw[hYs];exact bu.size) lu rfl
 have hcU:aq (fun b=>b=mb) w1 U:=by rw[hU];exact jX.alloc _
 have hI:bX w.heap.size w1 (.slice ta' tn' tc') st:=Fs kj bT.size;rw[←hY,←hU];refine⟨mb,aD w1.heap.size 1 1,ta',tn',tc',rfl,zQ,?_,?_,?_,?_⟩
 ·rw[hU];exact eW.alloc _
 ·show World.ownsRow _ _ _ _ _ _ _
  simp only[fA,List.length_nil,List.reverse_cons,List.reverse_nil,List.nil_append,List.flatMap_cons,List.flatMap_nil,List.append_nil,Fr.cells];exact hrU
 ·exact aR hI hcU (fun b hb e=>by subst e;exact aZ hI ft aj hb)
 ·exact bu.trans (hcU.toBelow bu.size (fun b hb e=>zQ))
end
section
section
variable{es:List PE}{code:List Int}{ws:List RW}
theorem PL(hc:kA es code ws)(ha:Alike es ws)(s:ByteArray):
  (startOf (lastP es s es.length)=none∧(findI ws s).2=3)∨∃(k p q:Nat) (y:RW),cL ws s=(k:Int)∧ws[k]?=some y∧y.var= -1∧startOf (lastP es s es.length)=some (p:Int)∧(findI ws s).2=0∧p<code.length∧dw es code false y.its p q∧code[q]?=some 34:=by
 rw[Fc ha.names s];have hlk:=xG (nameAt ws) s ws.length;have hf: -1≤cL ws s∧cL ws s<ws.length:=⟨hlk.2,hlk.1⟩
 by_cases h0:0≤cL ws s
 ·obtain⟨k,hk⟩:∃k:Nat,cL ws s=k:=⟨(cL ws s).toNat,ag⟩
  rw[aG h0];rw[hk]at hf ⊢;have hkl:k<ws.length:=ag;have hke:k<es.length:=by rw[ha.len];exact hkl
  have hx:es[k]?=some es[k]:=bE hke;have hy:ws[k]?=some ws[k]:=bE hkl;have hg:es.getD (k:Int).toNat PE.zero=es[k]:=by simp[hke]
  rw[hg]
  have hfi:(findI ws s).2=if 0≤(ws[k]).var then 3 else 0:=by
   unfold findI;rw[az ag,hk];simp only[rL,hy]
   split<;>rfl
  cases hv:(es[k]).var with
  |true=>
   obtain⟨_,e2⟩:=(ha.use k _ _ hx hy).1 hv
   left
   refine⟨by simp[startOf,hv],?_⟩;rw[hfi,aG e2]
  |false=>
   obtain⟨e1,_⟩:=(ha.use k _ _ hx hy).2 hv;obtain⟨p,q,k1,k2,k3,k4⟩:=hc.w k _ _ hx hy hv
   right
   have hpq:=k3.le k2;have hq:=kz k4;refine⟨k,p,q,ws[k],rfl,hy,e1,by simp[startOf,hv,k1],?_,ag,k3,k4⟩;rw[hfi,az ag]
 ·left
  rw[az h0];refine⟨rfl,?_⟩;unfold findI;rw[aG ag]
theorem aaH(h:mR l=true):∀a∈l,Cell a:=by
 intro a ha;unfold mR at h;exact of_decide_eq_true (List.all_eq_true.1 h a ha)
end
end
section
attribute [local go_sem] fH
theorem TQ{a:Option Addr}(h:cN B w (.slice a n c) l):n=l.length:=by
 obtain⟨a',c',e⟩:=xO h;simpa using(by injection e:n=l.length)
end
end Go.Proofs.YtcphhbofjkenaaaGreatDoor
