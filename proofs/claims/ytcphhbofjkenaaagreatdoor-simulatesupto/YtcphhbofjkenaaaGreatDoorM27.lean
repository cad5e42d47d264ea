import Derived.Test.YtcphhbofjkenaaaGreatDoorMy
import Derived.Test.YtcphhbofjkenaaaGreatDoorM26
namespace Go.Proofs.YtcphhbofjkenaaaGreatDoor
open Go Go.RowKit Proofs.Tryz
set_option linter.unusedVariables false
set_option linter.unusedSimpArgs false
set_option maxRecDepth 100000
set_option maxHeartbeats 16000000
variable{G:G4}{B wb n c szz B' k m base cap:Nat}{w w':World}{lv:Value}{bk:B4}{ds:List PD}{a ta:Option Addr}{xs:List Value}{l:List Int}
theorem aeR{p:Prop}(h:p:=by
  have PG:N≤1100007:=Gt;have Sx:g<wb:=by rw[hwb];exact cJ fc rfl
  have ad9:N≤cap:=by
   obtain⟨ad,cap',hv,h1,_⟩:=bo fc;simp at hv;omega
  have aau:Hid (all.length=N):=acN;clear Dr BX EI hbW hW0 hwb;go_loopw[7] (fun i wr=>∃k c m:Nat,k≤N∧i=ae k∧c≤k∧(1≤k→0<m)∧Hid (St wb wb wr c m)∧Hid (Below wb w2 wr)) (fun i _=>N - (intOf i).toNat)
  case atStart=>exact⟨0,0,0,bU _,rfl,aH,fun h=>absurd h ag,cA,bu⟩
  case round=>
   clear cA bu;obtain⟨k,c,m,hk,rfl,hck,hm,HST,fE⟩:=hrel
   by_cases hlt:k<N
   ·have bV:(k:Int)<(N:Int):=by omega
    have hl0:(0:Int)≤(k:Int):=ag;have hl1:(k:Int)≤1100007:=ag;have BP:k<all.length:=by rw[aau.out];exact hlt
    obtain⟨o,ho⟩:=ak (all[k]);have hmem:o∈F7++ops:=Tq;obtain⟨g',cap',hv,_,_,_,_,hcell⟩:=cd fc ag;obtain⟨rfl,rfl⟩:g=g'∧cap=cap':=gW
    have hcc:∀(j:Nat) (u:Value),j<7→o.cells[j]?=some u→wr.cell? (ai g (k*7+j))=some u:=fun j u hj hu=>by
     rw[fE.cell (p:=ai g (k*7+j)) Sx];refine hcell _ _ ?_;unfold ml;rw[flat_get gM.cells 7 (fun _=>rfl) all k j BP hj,←ho];exact hu
    have q0:=hcc 0 _ ag rfl;have q1:=hcc 1 _ ag rfl;have q2:=hcc 2 _ ag rfl;have q3:=hcc 3 _ ag rfl;have q4:=hcc 4 _ ag rfl;have q5:=hcc 5 _ ag rfl;have q6:=hcc 6 _ ag rfl;rw[Nat.add_zero]at q0
    have MF:k=0→o.k=1:=fun e=>by
     obtain⟨o',r,h1,h2⟩:=HH.out;subst e;have:all[0]?=some o':=by rw[sq.out,h1];rfl
     rw[bE BP]at this;rw[ho,fy this];exact h2
    obtain⟨X,hX⟩:=ak (wr.alloc (.cells #[ae o.k,ae o.A,ae o.C,.string o.S,.slice o.a1 o.n1 o.c1,.slice o.a2 o.n2 o.c2,.slice o.a3 o.n3 o.c3] 86 (0,0)):World);obtain⟨ob,fV⟩:=ak (wr.heap.size);have hbX:Below wr.heap.size wr X:=jo;have aN:ay X ob #[ae o.k,ae o.A,ae o.C,.string o.S,.slice o.a1 o.n1 o.c1,.slice o.a2 o.n2 o.c2,.slice o.a3 o.n3 o.c3] 86:=by rw[hX,fV];exact bJ wr _ _
    have IK:wb≤wr.heap.size:=bB aeP fE.size;have GD:Below wb w2 X:=fE.trans (hbX.mono IK)
    have hpX:∀j (h:j<pl.length),X.cell? (ai pb j)=some (ae pl[j]):=fun j h=>by
     have hpw:pb<wb:=bF hpb Rv;rw[GD.cell (p:=ai pb j) hpw,aW.cell (p:=ai pb j) hpb];exact lG j h
    have xo:=af (abg pb Ef pl o.k X ag hpc hpX);have jq:=af (jY.below wb wb wr X c m HST hbX);have x0:X.cell? (ai ob 0)=some (ae o.k):=aN.cell 0 _ rfl;have x1:X.cell? (ai ob 1)=some (ae o.A):=aN.cell 1 _ rfl;have x2:X.cell? (ai ob 2)=some (ae o.C):=aN.cell 2 _ rfl;have x3:X.cell? (ai ob 3)=some (.string o.S):=aN.cell 3 _ rfl;have x4:X.cell? (ai ob 4)=some (.slice o.a1 o.n1 o.c1):=aN.cell 4 _ rfl;have x5:X.cell? (ai ob 5)=some (.slice o.a2 o.n2 o.c2):=aN.cell 5 _ rfl;have x6:X.cell? (ai ob 6)=some (.slice o.a3 o.n3 o.c3):=aN.cell 6 _ rfl;have HX:=af hX;have HOB:=af fV;have GG:=af GD;have O8:=af hmem;have iM:=af MF;obtain⟨bi,eJ⟩:=ak (pl.any (fun x=>x == o.k));rw[←eJ]at xo;have HBI:=af eJ;have hl2:(k:Int)<144115188075855872:=ag;have iE:=af PG;have AV:=af (aY hk (aY hck hlt));clear hv hcell hcc hbX aN GD hpX hX fV hmem MF ho eJ PG hk hck hlt hl1 BP IK hn hl;go_upto_region 8 with fail
    rw[←HX.out,←HOB.out];clear q0 q1 q2 q3 q4 q5 q6;go_wp2_with fail;refine xo.mono ?_;rintro e w3 ⟨rfl,rfl⟩;clear xo
    cases bi with
    |false=>
     go_wp2_with fail
     go_roundw
     case rel=>
      obtain⟨hk,hck,hlt⟩:=AV.out;refine⟨k+1,c,m,ag,bO,ag,fun _=>?_,jq,GG⟩;rcases wO k with h0|h0
      ·exfalso
       have h1:=iM.out h0;have h2:=HBI.out;rw[h1,jY.one]at h2
       cases h2
      ·exact hm h0
     case measure=>obtain⟨hk,hck,hlt⟩:=AV.out;simp[intOf];omega
    |true=>
     have Qg:=af (jY.step wb wb o O8 HBI.symm w3 c m jq (((QM o (by rw[sq.out];exact O8)).mono aeP).below GG) (fun h1=>hm (by
      rcases wO k with h0|h0
      ·exact absurd (iM h0) h1
      ·exact h0)) QB)
     go_wp2_with fail
     refine Qg.mono ?_;rintro e w4 ⟨rfl,hb4,m',BN,hmm,hm1⟩;have wu:=af (jY.looks wb wb w4 (c+1) m' BN QB);have aax:=af BN;have HB4:=af (GG.trans hb4);have HMM:=af (aY hmm hm1);have Nb:=(jY.size wb wb w4 (c+1) m' BN).2;clear Qg hb4 BN hmm hm1 x0 x1 x2 x3 x4 x5 x6;go_wp2_with fail;refine wu.mono ?_;rintro e w5 ⟨rfl,hb5⟩;have XR:=af (jY.below wb wb w4 w5 (c+1) m' aax hb5);have dI:=af (HB4.trans (hb5.mono ag));clear wu hb5;go_wp2_with fail;go_roundw
     case rel=>
      obtain⟨hk,hck,hlt⟩:=AV.out;refine⟨k+1,c+1,m',ag,bO,ag,fun _=>?_,XR,dI⟩;obtain⟨h1,h2⟩:=HMM.out;rcases wO k with h0|h0
      ·exact h2 (iM h0)
      ·exact bF (hm h0) h1
     case measure=>obtain⟨hk,hck,hlt⟩:=AV.out;simp[intOf];omega
   ·have bV:¬(k:Int)<(N:Int):=by omega
    go_wp2_with fail
    go_ret
    exact⟨rfl,aW.trans (fE.mono Rv)⟩):p:=h
theorem KS{p:Prop}(h:p:=by
  go_roundw
  case rel=>
   refine⟨rfl,k+1,ys.set k (ae 1),ag,bO,af ⟨iJ HY.out.1 k _,fun j hj=>?_⟩,af (HC.setCell (p:=ai tg k) rfl _)⟩;rw[dr ag];exact HY.out.2 j ag
  case measure=>simp[intOf];omega):p:=h
section
def GLe(G G':G4):Prop:=∀j,j<4→(G'.get j).length≤(G.get j).length+12
theorem GLe.refl(G:G4):GLe G G:=fun j _=>ag
theorem GLe.of{G':G4}{j:Nat}(hj:j<4)(h:G'=G.set j (G'.get j))(hl:(G'.get j).length=(G.get j).length+4):GLe G G':=fun k hk=>by
 by_cases e:k=j
 ·subst e;omega
 ·rw[h,G4.zz G _ j hj k hk,az e];omega
end
section
attribute [local go_sem] ui
def CY(B:Nat)(w:World)(wb:Nat)(ds:List PD)(G:G4)(n:Nat)(e:Ending)(w':World):Prop:=
 e=.returned (.bool true)∧∃eD jG G' ds',eT B w' wb eD jG G' ds'∧ds.length+n≤ds'.length∧ds'.length≤ds.length+1∧GLe G G'∧Below B w w'
theorem Pd(c:Int)(n:Nat)(hn:0<n):∃i:Nat,qM c n=(i:Int)∧i<n:=by
 obtain⟨h1,h2⟩:=YQ c n ag;exact⟨(qM c n).toNat,ag,ag⟩
theorem acS(h:eT B w wb lv bk G ds)(hl:ds.length≤9000000)
  (A C:Int) (S:ByteArray) (a1 a2 a3:Option Addr) (n1 c1 n2 c2 n3 c3:Nat):
  Calls prog 35 #[ax wb,.agg #[ae 1,ae A,ae C,.string S,.slice a1 n1 c1,.slice a2 n2 c2,.slice a3 n3 c3]] w (CY B w wb ds G 1):=by
 have hb0:∀o,Below w.heap.size w (w.alloc o):=fun o=>aQ.alloc aH _
 have HM:=af (fun o=>Yg (h.below (hb0 o)) ag);have HL:=af h;clear h hb0;go_enter func35,ntmps35;go_wp2_with fail;refine(HM _).mono ?_;rintro e w1 ⟨rfl,eD,d,hL1,hc1⟩;have lW:=af hL1;have iI:=af hc1;clear HM hL1 hc1;go_wp2_with fail;go_ret;have nD:=iI.out;have fK:∀o,Below w.heap.size w (w.alloc o):=fun o=>aQ.alloc aH _
 refine⟨rfl,eD,bk,G,ds++[d],lW,aF,aF,GLe.refl _,?_⟩
 ·refine((fK _).mono HL.le).trans (nD.toBelow (by simp;have:=HL.le;omega) (fun k hk e=>?_))
  rcases e with e|e
  ·have:=HL.lz.2;omega
  ·have:=cR HL.lA e;omega
theorem VY(h:eT B w wb lv bk G ds)(hp:0<ds.length)(hl:ds.length≤9000000)
  (A C:Int) (S:ByteArray) (a1 a2 a3:Option Addr) (n1 c1 n2 c2 n3 c3:Nat) (hA0: -9223372036854775808≤A) (hA1:A≤9223372036854775807) (hS:S.size≤1100000):
  Calls prog 35 #[ax wb,.agg #[ae 2,ae A,ae C,.string S,.slice a1 n1 c1,.slice a2 n2 c2,.slice a3 n3 c3]] w (CY B w wb ds G 0):=by
 obtain⟨pR,nE,hlv,hlc,_⟩:=bo h.lA;subst hlv;obtain⟨i,hpi,hil⟩:=Pd A ds.length hp;obtain⟨d,hd⟩:∃d,ds[i]?=some d:=⟨_,bE hil⟩;obtain⟨X,hX⟩:=ak (w.alloc (.cells #[ae 2,ae A,ae C,.string S,.slice a1 n1 c1,.slice a2 n2 c2,.slice a3 n3 c3] 86 (0,0)):World);obtain⟨ob,fV⟩:=ak (w.heap.size);have hbX:Below w.heap.size w X:=jo;have aN:ay X ob #[ae 2,ae A,ae C,.string S,.slice a1 n1 c1,.slice a2 n2 c2,.slice a3 n3 c3] 86:=by rw[hX,fV];exact bJ w _ _
 have hLX:=h.below hbX;have o0:X.cell? (ai ob 0)=some (ae 2):=aN.cell 0 _ rfl;have o1:X.cell? (ai ob 1)=some (ae A):=aN.cell 1 _ rfl;have o3:X.cell? (ai ob 3)=some (.string S):=aN.cell 3 _ rfl;have w0:X.cell? (ai wb 0)=some (.slice pR ds.length nE):=hLX.blk.cell 0 _ rfl;obtain⟨lg,EW,hv,_,Ye,_,_,hcell⟩:=cd hLX.lA hp;obtain⟨rfl,rfl⟩:pR=some (ai lg 0)∧nE=EW:=gW
 have g0:X.cell? (ai lg (i*2))=some (ax d.bb):=by
  refine hcell _ _ ?_;have:=flat_get PD.cells 2 (fun _=>rfl) ds i 0 hil ag;rw[Nat.add_zero]at this;rw[this,(cI.1 hd).2];rfl
 have g1:X.cell? (ai lg (i*2+1))=some (ax d.sb):=by
  refine hcell _ _ ?_;rw[flat_get PD.cells 2 (fun _=>rfl) ds i 1 hil ag,(cI.1 hd).2];rfl
 have HX:=af hX;have HOB:=af fV;have HL:=af h;have rG:=af hLX;have bz:=af aN;have bT:=af hbX;have HD:=af hd;have bV:(i:Int)<(ds.length:Int):=ag;have hl0:(0:Int)≤(i:Int):=ag;have hln:(ds.length:Int)≤9000000:=ag;have qo:=af (fun w'=>(PI A ds.length w' ag ag hA0 hA1).mono (fun e w2 (he:e=.returned (ae (qM A ds.length))∧w2=w')=>(show e=.returned (ae i)∧Below w'.heap.size w' w2 by rw[he.1,he.2,hpi];exact⟨rfl,aQ⟩)));clear h hX fV hbX aN hLX hd hv hcell hpi;go_enter func35,ntmps35;go_upto_region 1 with fail
 rw[←HX.out,←HOB.out];go_upto_region 3 with fail
 have hne:=cz.ne X.heap.size X #[.pointer none,.pointer none] 143 aH;have k0:∀(S':Option Nat) (u:cz X.heap.size X #[.pointer none,.pointer none] 143 S'),u.val.cell? (ai wb 0)=some (aD lg ds.length nE):=fun S' u=>u.cell w0 (dD X _ w0)
 have k1:∀(S':Option Nat) (u:cz X.heap.size X #[.pointer none,.pointer none] 143 S'),u.val.cell? (ai ob 1)=some (ae A):=fun S' u=>u.cell o1 (dD X _ o1)
 have k2:∀(S':Option Nat) (u:cz X.heap.size X #[.pointer none,.pointer none] 143 S'),u.val.cell? (ai lg (i*2))=some (ax d.bb):=fun S' u=>u.cell g0 (dD X _ g0)
 have k3:∀(S':Option Nat) (u:cz X.heap.size X #[.pointer none,.pointer none] 143 S'),u.val.cell? (ai lg (i*2+1))=some (ax d.sb):=fun S' u=>u.cell g1 (dD X _ g1)
 refine ur #[.pointer none,.pointer none] 143 14 aP aP rfl (fun _=>rfl) (fun a w=>by simp[go_sem]) ?_;simp only[List.take_succ_cons,List.take_zero,List.drop_succ_cons,List.drop_zero]
 repeat (refine uB (fun K hK=>?_);go_simp;first|(refine hK _ ?_;clear hK K)|(apply Exists.intro;refine⟨fun S u=>?_,hK _ ?_⟩;(go_at_call 63;exact cz.calls aH u (qo _));clear hK K))
 refine uU ?_;intro pb w6 hpb bL hblk;have z0:w6.cell? (ai pb 0)=some (.pointer none):=hblk.cell 0 _ rfl;have z1:w6.cell? (ai pb 1)=some (.pointer none):=hblk.cell 1 _ rfl;have y0:=hblk.frozen 0;have y1:=hblk.frozen 1;have NV:=hblk.lt;obtain⟨V,hV⟩:=ak ((w6.setCell (ai pb 0) (ax d.bb)).setCell (ai pb 1) (ax d.sb):World)
 have gQ:ay V pb #[ax d.bb,ax d.sb] 143:=by
  rw[hV];have:=(hblk.set (o:=0) (ax d.bb)).set (o:=1) (ax d.sb);simpa using this
 have fe:Below X.heap.size X V:=Rz;have mS:=af gQ;have cS:=af fe;have HV:=af hV;clear k0 k1 k2 k3 hne hblk bL gQ fe o0 o1 o3 w0 g0 g1 hV;go_simp;go_upto_region 4 with fail
 rw[←HV.out];clear z0 z1 y0 y1;have hLV:=rG.below cS;have pX:=bz.sub cS bz.lt;have hdV:=hLV.at_ i d HD;have o0:V.cell? (ai ob 0)=some (ae 2):=pX.cell 0 _ rfl;have o3:V.cell? (ai ob 3)=some (.string S):=pX.cell 3 _ rfl;have p0:V.cell? (ai pb 0)=some (ax d.bb):=mS.cell 0 _ rfl;have gi:=af (acd S hdV.ps hLV.tab hS hdV.li);have HRL:=af (fun (w':World) (hr:cG w' d.sb d.sv d.ws d.nv d.nt) (oV:fM d.F w' d.ws)=>aci S d.sb d.sv w' hr hdV.al oV hdV.li hdV.ok hS);obtain⟨R,hR⟩:=ak (ug S d.es d.nv d.nt d.code);rw[←hR]at gi HRL;obtain⟨⟨r,q⟩,es',dZ,iL,code'⟩:=R;have mo:=af hLV;have HOV:=af pX;have fJ:=af hdV;clear hLV pX hdV hR;go_wp2_with fail;refine gi.mono ?_;rintro e w7 ⟨rfl,⟨cT,cv',rV,acK,BQ,BU⟩,z8,gP⟩;simp only at rV z8;have Db:∀k,(k=d.bb∨d.ev.ownBlock=some k∨d.cv.ownBlock=some k)→d.foot k:=fun k e=>e.elim aC (fun e=>e.elim (fun e=>aA (aC e)) (fun e=>aA (aA (aC e))))
 have NB:=mS.aB gP (fun e=>fJ.Bl mS aj aj aj aj aj aj (Db _ e));have LY:=HOV.aB gP (fun e=>fJ.Bl HOV aj aj aj aj aj aj (Db _ e))
 have ue:cG w7 d.sb d.sv d.ws d.nv d.nt:=fJ.rs.aB gP (fun e=>by
   rcases e with e|e|e
   ·exact pK fJ.rs.blk fJ.ps.blk aj e
   ·exact aZ fJ.ps.row fJ.rs.blk aj e
   ·exact aZ fJ.ps.bG fJ.rs.blk aj e) (fun k hk e=>by
   rcases e with e|e|e
   ·exact aZ fJ.rs.row fJ.ps.blk aj jr
   ·exact fw fJ.rs.row fJ.ps.row aj hk e
   ·exact fw fJ.rs.row fJ.ps.bG aj hk e)
 have Rx:fM d.F w7 d.ws∧∀k,d.F k→∃cs,ay w7 k cs 249:=by
  have hn:∀k cs,ay V k cs 249→¬(k=d.bb∨d.ev.ownBlock=some k∨d.cv.ownBlock=some k):=fun k cs hb e=>by
   rcases e with e|e|e
   ·subst e;exact absurd (kE fJ.ps.blk hb) aj
   ·exact aZ fJ.ps.row hb aj e
   ·exact aZ fJ.ps.bG hb aj e
  exact⟨fJ.tr.aB gP (fun k cs _ hb=>hn k cs hb),fun k hk=>(fJ.fi k hk).imp (fun cs hb=>hb.aB gP (hn k cs hb))⟩
 have abd:=af Rx;clear Rx;have o3':w7.cell? (ai ob 3)=some (.string S):=LY.cell 3 _ rfl;have p1':w7.cell? (ai pb 1)=some (ax d.sb):=NB.cell 1 _ rfl;have H7:=af (aY rV (aY BQ (aY BU (aY z8 (aY gP ue)))));have HS7:=af Db;clear rV acK BQ BU z8 gP ue NB LY Db o0 o3 p0 gi;go_wp2_with fail;refine(HRL _ H7.out.2.2.2.2.2 abd.out.1).mono ?_;rintro e w8 ⟨rfl,⟨eG,fS,Ad,A5,CJ,C1,F8,hF8,hT8⟩,rT⟩;simp only at Ad A5;have HT8:=af hT8.shrink;have HF8:=af hF8;clear hT8 hF8;have H8:=af (aY Ad (aY A5 (aY CJ (aY C1 rT))));clear Ad A5 CJ C1 rT HRL o3' p1';go_wp2_with fail;go_ret;obtain⟨rV,BQ,BU,z8,gP,ue⟩:=H7.out;obtain⟨Ad,A5,CJ,C1,rT⟩:=H8.out
 have UW:dF w8 d.bb cT cv' es' dZ iL code':=rV.aB rT (fun e=>by
   rcases e with e|e
   ·exact pK rV.blk ue.blk aj e
   ·exact aZ ue.row rV.blk aj e) (fun k hk e=>by
   rcases e with e|e
   ·exact aZ rV.row ue.blk aj jr
   ·exact fw rV.row ue.row aj hk e) (fun k hk e=>by
   rcases e with e|e
   ·exact aZ rV.bG ue.blk aj jr
   ·exact fw rV.bG ue.row aj hk e)
 have hcV:aq d.foot V w8:=(gP.mono (fun k _ e=>HS7 k e)).trans (rT.mono (fun k _ e=>e.elim (fun e=>aA (aA (aA (aC e)))) (fun e=>aA (aA (aA (aA (aC e)))))))
 have hf:∀k,(⟨d.bb,cT,cv',es',dZ,iL,code',d.sb,eG,fS,fun k=>F8 k∧∃cs,ay w8 k cs 249⟩:PD).foot k→d.foot k∨V.heap.size≤k:=fun k hk=>by
  rcases hk with e|e|e|e|e|e
  ·exact aC (aC e)
  ·exact(BQ k e).imp (fun e=>aA (aC e)) id
  ·exact(BU k e).imp (fun e=>aA (aA (aC e))) id
  ·exact aC (aA (aA (aA (aC e))))
  ·exact(C1 k e).imp (fun e=>aA (aA (aA (aA (aC e))))) (fun e=>bB gP.size e)
  ·exact(HF8 k e.1).imp (fun e=>aA (aA (aA (aA (aA e))))) (fun e=>bB gP.size e)
 have iX:=mo.le;have hfin:=mo.turn HD (d':=⟨d.bb,cT,cv',es',dZ,iL,code',d.sb,eG,fS,fun k=>F8 k∧∃cs,ay w8 k cs 249⟩) rfl rfl hcV ⟨UW,z8,Ad,A5,CJ,fun k hk=>(hf k hk).elim (fun e=>fJ.fp k e) (fun e=>bB iX e),HT8,fun k hk=>hk.2⟩ hf;refine⟨rfl,_,bk,G,_,hfin,aF,aF,GLe.refl _,?_⟩
 ·exact((bT.mono HL.le).trans (cS.mono rG.le)).trans (hcV.toBelow iX (fun k hk e=>by have:=fJ.fp k e;omega))
end
section
structure gM where
 k:Int
 A:Int
 C:Int
 S:ByteArray
 a1:Option Addr
 n1:Nat
 c1:Nat
 a2:Option Addr
 n2:Nat
 c2:Nat
 a3:Option Addr
 n3:Nat
 c3:Nat
def gM.cells(o:gM):List Value:=[ae o.k,ae o.A,ae o.C,.string o.S,.slice o.a1 o.n1 o.c1,.slice o.a2 o.n2 o.c2,.slice o.a3 o.n3 o.c3]
def ml(l:List gM):List Value:=l.flatMap gM.cells
def Dw:ByteArray:=⟨#[115,117,109]⟩
def Qw:ByteArray:=⟨#[58,32,115,117,109,32,48,32,53,32,49,32,100,111,32,105,32,43,32,108,111,111,112,32,111,117,116,32,59,32,118,97,114,105,97,98,108,101,32,118]⟩
def wU(tb ib:Nat):List gM:=[
 ⟨1,0,0,⟨#[]⟩,none,0,0,none,0,0,none,0,0⟩,
 ⟨2,0,0,Qw,none,0,0,none,0,0,none,0,0⟩,
 ⟨4,0,0,Dw,none,0,0,none,0,0,none,0,0⟩,
 ⟨3,0,0,⟨#[]⟩,none,0,0,none,0,0,none,0,0⟩,
 ⟨5,0,100,Dw,some (ai ib 0),1,1,none,0,0,none,0,0⟩,
 ⟨6,0,0,⟨#[]⟩,none,0,0,none,0,0,some (ai tb 0),1,1⟩,
 ⟨7,0,50,⟨#[]⟩,none,0,0,none,0,0,some (ai tb 0),1,1⟩]
def ep(B:Nat)(w:World)(a:Option Addr)(n c size:Nat)(xs:List Value):Prop:=
 xs.length=n*size∧n≤c∧((a=none∧n=0∧c=0)∨∃p,a=some p∧∀(j:Nat) (u:Value),xs[j]?=some u→p.block<B∧w.cell? (p.add j)=some u)
theorem Jc(p:Addr)(n:Nat):(p.add n).block=p.block:=by unfold Addr.add;split<;>rfl
theorem ep.below(h:ep B w a n c szz xs)(hb:Below B w w'):ep B w' a n c szz xs:=by
 obtain⟨h1,h2,h3⟩:=h;refine⟨h1,h2,h3.imp id ?_⟩;rintro ⟨p,e,hc⟩;exact⟨p,e,fun j u hu=>⟨(hc j u hu).1,by rw[hb.cell (by rw[Jc];exact(hc j u hu).1)];exact(hc j u hu).2⟩⟩
theorem ep.mono(h:ep B w a n c szz xs)(hb:B≤B'):ep B' w a n c szz xs:=by
 obtain⟨h1,h2,h3⟩:=h;refine⟨h1,h2,h3.imp id ?_⟩;rintro ⟨p,e,hc⟩;exact⟨p,e,fun j u hu=>⟨bF (hc j u hu).1 hb,(hc j u hu).2⟩⟩
theorem ep.nil(B:Nat)(w:World)(size:Nat):ep B w none 0 0 size []:=⟨aF,aH,aC ⟨rfl,rfl,rfl⟩⟩
theorem ep.blk{b:Nat}{cs:Array Value}{t:TypeId}(h:ay w b cs t)(hb:b<B)(hs:cs.size=n*szz):ep B w (some (ai b 0)) n n szz cs.toList:=
 ⟨by rw[kP];exact hs,aH,aA ⟨⟨b,0,none⟩,rfl,fun j u hu=>⟨hb,by
  rw[Addr.add_lit,Nat.zero_add];exact h.cell j u (by simpa using hu)⟩⟩⟩
def gM.At(B:Nat)(w:World)(o:gM):Prop:=∃(ls ms:List Int) (ts:List TK),ep B w o.a1 o.n1 o.c1 1 (ls.map (Value.int .i64))∧ep B w o.a2 o.n2 o.c2 1 (ms.map (Value.int .i64))∧ep B w o.a3 o.n3 o.c3 4 (ts.flatMap TK.cells)∧o.n1≤1100000∧o.n2≤1100000∧o.n3≤1100000
theorem gM.At.below{o:gM}(h:o.At B w)(hb:Below B w w'):o.At B w':=by
 obtain⟨ls,ms,ts,h1,h2,h3,h4⟩:=h;exact⟨ls,ms,ts,h1.below hb,h2.below hb,h3.below hb,h4⟩
theorem gM.At.mono{o:gM}(h:o.At B w)(hb:B≤B'):o.At B' w:=by
 obtain⟨ls,ms,ts,h1,h2,h3,h4⟩:=h;exact⟨ls,ms,ts,h1.mono hb,h2.mono hb,h3.mono hb,h4⟩
def Bb:TK:=⟨Dw,40,30,0⟩
theorem abh{tb ib:Nat}(h1:ay w tb Bb.cells.toArray 67)(h2:ay w ib #[ae 7] 3)(b1:tb<B)(b2:ib<B):∀o∈wU tb ib,o.At B w:=by
 intro o ho;have z0:0≤1100000:=aj;have z1:1≤1100000:=aj;have n1:=ep.nil B w 1;have n4:=ep.nil B w 4;have i1:ep B w (some (ai ib 0)) 1 1 1 ([7].map (Value.int .i64)):=ep.blk h2 b2 rfl;have t1:ep B w (some (ai tb 0)) 1 1 4 ([Bb].flatMap TK.cells):=ep.blk h1 b1 rfl;simp only[wU,er,List.not_mem_nil,or_false]at ho;rcases ho with rfl|rfl|rfl|rfl|rfl|rfl|rfl
 ·exact⟨[],[],[],n1,n1,n4,z0,z0,z0⟩
 ·exact⟨[],[],[],n1,n1,n4,z0,z0,z0⟩
 ·exact⟨[],[],[],n1,n1,n4,z0,z0,z0⟩
 ·exact⟨[],[],[],n1,n1,n4,z0,z0,z0⟩
 ·exact⟨[7],[],[],i1,n1,n4,z1,z0,z0⟩
 ·exact⟨[],[],[Bb],n1,n1,t1,z0,z0,z1⟩
 ·exact⟨[],[],[Bb],n1,n1,t1,z0,z0,z1⟩
theorem Xs(w:World)(o2 o3:Obj)(cs:Array Value)(t:TypeId):ay (((w.alloc (.cells cs t (0,0))).alloc o2).alloc o3) w.heap.size cs t:=((bJ w cs t).alloc o2).alloc o3
theorem Yn(w:World)(o1 o3:Obj)(cs:Array Value)(t:TypeId):ay (((w.alloc o1).alloc (.cells cs t (0,0))).alloc o3) (w.heap.size+1) cs t:=by
 have:=(bJ (w.alloc o1) cs t).alloc o3;simpa using this
theorem Vt(w:World)(o1 o2:Obj)(cs:Array Value)(t:TypeId):ay (((w.alloc o1).alloc o2).alloc (.cells cs t (0,0))) (w.heap.size+1+1) cs t:=by
 have:=bJ ((w.alloc o1).alloc o2) cs t;simpa using this
theorem WH(w:World):
  Calls prog 33 #[] w fun e w'=>e=.returned (aD (w.heap.size+1+1) 7 7)∧ay w' (w.heap.size+1+1) (ml (wU w.heap.size (w.heap.size+1))).toArray 86∧ay w' w.heap.size Bb.cells.toArray 67∧ay w' (w.heap.size+1) #[ae 7] 3∧Below w.heap.size w w':=by
 go_enter func33,ntmps33
 go_wp2_with fail
 go_ret
 refine⟨rfl,?_,?_,?_,?_⟩
 ·exact Vt w _ _ _ _
 ·exact Xs w _ _ _ _
 ·exact Yn w _ _ _ _
 ·exact((aQ.alloc aH _).alloc aF _).alloc aK _
def opz:Value:=.agg #[ae 0,ae 0,ae 0,.string ⟨#[]⟩,aI,aI,aI]
theorem Tryz.XN:(prog.info? 86).map (fun i=>(i.zero,i.size,i.bytes))=some (some opz,7,112):=aP
theorem BJ(l:List gM):(ml l).length=l.length*7:=flat_length gM.cells 7 (fun _=>rfl) l
theorem YR(l:List gM):∀u∈ml l,u.oneCell'=true:=by
 intro u hu;unfold ml at hu;obtain⟨o,_,hu⟩:=List.mem_flatMap.1 hu;simp only[gM.cells,er,List.not_mem_nil,or_false]at hu;rcases hu with rfl|rfl|rfl|rfl|rfl|rfl|rfl<;>rfl
def Cu(w:World)(v:Value)(ops:List gM):Prop:=
 (v=aI∧ops=[])∨∃a c,v=.slice (some a) ops.length c∧∀(j:Nat) (u:Value),(ml ops)[j]?=some u→w.cell? (a.add j)=some u
structure Ms (pl:List Int) (all:List gM) (St:Nat→Nat→World→Nat→Nat→Prop):Prop where
 step:∀(B wb:Nat) (o:gM),o∈all→(pl.any (fun x=>x == o.k))=true→∀(w:World) (k m:Nat),St B wb w k m→o.At B w→(o.k≠1→0<m)→k≤2000000→
  Calls prog 35 #[ax wb,.agg #[ae o.k,ae o.A,ae o.C,.string o.S,.slice o.a1 o.n1 o.c1,.slice o.a2 o.n2 o.c2,.slice o.a3 o.n3 o.c3]] w fun e w'=>e=.returned (.bool true)∧Below B w w'∧∃m',St B wb w' (k+1) m'∧m≤m'∧(o.k=1→0<m')
 looks:∀(B wb:Nat) (w:World) (k m:Nat),St B wb w k m→k≤2000001→Calls prog 36 #[.pointer (some (ai wb 1))] w fun e w'=>e=.returned (.bool true)∧Below w.heap.size w w'
 below:∀(B wb:Nat) (w w':World) (k m:Nat),St B wb w k m→Below w.heap.size w w'→St B wb w' k m
 init:∀(W:World),cQ W→St W.heap.size W.heap.size (W.alloc (.cells (lwC jg jg jg jg jg) 84 (0,0))) 0 0
 size:∀(B wb:Nat) (w:World) (k m:Nat),St B wb w k m→B≤wb∧wb<w.heap.size
 one:pl.any (fun x=>x == 1)=true
theorem Ss{pl:List Int}{ops:List gM}{St:Nat→Nat→World→Nat→Nat→Prop}(w:World)(sv:Value)(pb Ef:Nat)(hP:∀tb ib,Ms pl (wU tb ib++ops) St)(hs:Cu w sv ops)(hat:∀o∈ops,o.At w.heap.size w)(hn:ops.length≤1100000)(ht:cQ w)
  (hl:pl.length≤10) (hpc:pl.length≤Ef) (hpb:pb<w.heap.size) (hp:∀j (h:j<pl.length),w.cell? (ai pb j)=some (ae pl[j])):
  Calls prog 13 #[sv,aD pb pl.length Ef] w fun e w'=>e=.returned (.bool true)∧Below w.heap.size w w':=by
 have HF:=af (WH w);have HP:=af hP;have HS:=af hs;have HT:=af ht;have lG:=af hp;have gU:=af hat
 obtain⟨sa,sn,sc,hsv⟩:∃a n c,sv=.slice a n c:=by
  rcases hs with ⟨e,_⟩|⟨a,c,e,_⟩
  ·exact⟨_,_,_,e⟩
  ·exact⟨_,_,_,e⟩
 subst hsv;clear hP hs ht hp hat;go_enter func13,ntmps13;go_wp2_with fail;refine HF.mono ?_;rintro e w1 ⟨rfl,hb1,LI,PX,uG⟩;obtain⟨fb,hfb⟩:=ak (w.heap.size+1+1);rw[←hfb]at hb1;rw[←hfb];obtain⟨F7,hF7⟩:=ak (wU w.heap.size (w.heap.size+1));have hP:=HP.out w.heap.size (w.heap.size+1);rw[←hF7]at hb1 hP;have Bk:F7.length=7:=by rw[hF7];rfl
 have JG:∃o r,F7=o :: r∧o.k=1:=by rw[hF7];exact⟨_,_,rfl,rfl⟩
 have Qo:∀w2:World,aq (fun b=>b=fb) w1 w2→∀o∈F7,o.At w2.heap.size w2:=fun w2 hc o ho=>by
  have k1:=LI.aB hc ag;have k2:=PX.aB hc ag;rw[hF7]at ho;exact abh k1 k2 k1.lt k2.lt o ho
 have HA7:=af Qo
 have hown:w1.ownsRow w.heap.size 86 7 (aD fb 7 7) 7 (ml F7):=by
  refine⟨by rw[BJ,Bk],aA ⟨fb,7,_,rfl,ag,hb1,aH,lu,?_,?_⟩⟩
  ·simp[BJ,Bk]
  ·rw[List.toList_toArray];exact List.take_of_length_le (by rw[BJ,Bk];omega)
 obtain⟨i0,hi,hz0,hz1,hz2⟩:=info_parts Tryz.XN;have HI:=af (aY hi (aY hz0 (aY hz1 hz2)));have HO:=af hown;have HB1:=af uG;have jY:=af hP;have H7:=af Bk;have HH:=af JG;have hs1:=uG.size;clear HF HP hb1 LI PX Qo uG hown hP Bk JG hi hz0 hz1 hz2 hF7 hfb;obtain⟨N,hN⟩:=ak (7+ops.length);obtain⟨all,hall⟩:=ak (F7++ops);have HN:=af hN;have sq:=af hall;clear hN hall;rcases HS.out with ⟨hnil,Ff⟩|⟨sa',sc',hsv,hcells⟩
 ·obtain⟨rfl,rfl,rfl⟩:sa=none∧sn=0∧sc=0:=by simpa using hnil
  have HN7:Hid (N=7∧all=F7):=by
   refine⟨?_,?_⟩
   ·rw[HN.out,Ff];rfl
   ·rw[sq.out,Ff,List.append_nil]
  clear hnil Ff HS;go_wp2_with (at_builtin;refine Ld _ rfl _ _ 22 rfl 86 i0 underlying22 HI.out.1 (ai fb 0) 7 7 rfl aH rfl ?_);obtain⟨w2,hw2⟩:=ak (w1:World);obtain⟨g,hg⟩:=ak (fb);obtain⟨cap,hcap⟩:=ak (7:Nat)
  have fc:Hid (w2.ownsRow w.heap.size 86 7 (aD g N cap) N (ml all)):=by
   show World.ownsRow _ _ _ _ _ _ _
   rw[hw2,hg,hcap,HN7.out.1,HN7.out.2];exact HO
  have aW:Hid (Below w.heap.size w w2):=by show Below _ _ _;rw[hw2];exact HB1
  have QM:=af (show ∀o∈all,o.At w2.heap.size w2 from fun o ho=>by
   rw[HN7.out.2]at ho;exact HA7 w2 (by rw[hw2];exact aq.refl _ _) o ho)
  rw[←hw2,←hg,show Value.slice (some ⟨g,0,none⟩) 7 7=aD g N cap by rw[hcap,HN7.out.1]];clear hw2 hg hcap HN7 HO HB1 HI HA7;have Dr:=HT.below aW;have BX:=jY.init w2 Dr;obtain⟨wb,hwb⟩:=ak (w2.heap.size);obtain⟨W0,hW0⟩:=ak (w2.alloc (.cells #[aI,aI,aI,aI,aI] 84 (0,0)):World);have EI:St wb wb W0 0 0:=by rw[hW0,hwb];exact BX
  have hbW:Below wb w2 W0:=by rw[hW0,hwb];exact aQ.alloc aH _
  rw[←hW0,←hwb];have cA:=af EI;have bu:=af hbW;have xx:=af hwb;have Rv:w.heap.size≤wb:=by rw[hwb];exact aW.size
  exact aeR
 ·obtain⟨rfl,rfl,rfl⟩:sa=some sa'∧sn=ops.length∧sc=sc':=by simpa using hsv
  have rR:=af (show ∀j u,(ml ops)[j]?=some u→w1.cell? (sa'.add j)=some u from fun j u hu=>by
   have h1:=hcells j u hu;have hlt:=dD w _ h1;rw[HB1.cell hlt];exact h1)
  have HU:=af (aY (BJ ops) (aY (YR ops) (aY (show 7+ops.length≤maxLen by unfold maxLen;omega) (show(7+ops.length)*112≤140737488355328 by omega))));clear hsv hcells HS;go_wp2_with (at_builtin;refine I4 _ rfl _ _ 22 rfl w.heap.size 86 i0 opz 7 112 underlying22 HI.out.1 HI.out.2.1 HI.out.2.2.1 HI.out.2.2.2 rfl aj (aD fb 7 7) 7 (ml F7) rfl HO sa' ops.length sc (ml ops) rfl HU.out.1 rR HU.out.2.1 HU.out.2.2.1 HU.out.2.2.2 hs1 ?_);intro v' w2 hr2 hg2 lJ _;obtain⟨g,cap,hv',_,_⟩:=hr2.form ag;subst hv'
  have fc:Hid (w2.ownsRow w.heap.size 86 7 (aD g N cap) N (ml all)):=by
   show World.ownsRow _ _ _ _ _ _ _
   rw[HN.out,sq.out];have e:ml (F7++ops)=ml F7++ml ops:=by unfold ml;rw[kS]
   rw[e];exact hr2
  have aW:Hid (Below w.heap.size w w2):=HB1.grown hg2 hs1 (fun k hk=>cR HO hk)
  have QM:=af (show ∀o∈all,o.At w2.heap.size w2 from fun o ho=>by
   rw[sq.out]at ho;rcases List.mem_append.1 ho with ho|ho
   ·exact HA7 w2 ((aq.dP hg2).mono (fun b _ e=>by simpa [Value.ownBlock]using e)) o ho
   ·exact((gU o ho).below aW).mono aW.size)
  rw[show Value.slice (some ⟨g,0,none⟩) (7+ops.length) cap=aD g N cap by rw[HN.out]];clear hr2 hg2 lJ HO HB1 HI rR HU HA7;go_wp2_with fail;have Dr:=HT.below aW;have BX:=jY.init w2 Dr;obtain⟨wb,hwb⟩:=ak (w2.heap.size);obtain⟨W0,hW0⟩:=ak (w2.alloc (.cells #[aI,aI,aI,aI,aI] 84 (0,0)):World);have EI:St wb wb W0 0 0:=by rw[hW0,hwb];exact BX
  have hbW:Below wb w2 W0:=by rw[hW0,hwb];exact aQ.alloc aH _
  rw[←hW0,←hwb];have cA:=af EI;have bu:=af hbW;have xx:=af hwb;have Rv:w.heap.size≤wb:=by rw[hwb];exact aW.size
  exact aeR
end
section
structure gM.Ok (o:gM):Prop where
 a0: -9223372036854775808≤o.A
 a1:o.A≤9223372036854775807
 s:o.S.size≤1100000
theorem abZ(tb ib:Nat):∀o∈wU tb ib,o.Ok:=by
 intro o ho;simp only[wU,er,List.not_mem_nil,or_false]at ho;have k0:(ByteArray.mk #[]).size≤1100000:=aj;have k1:Dw.size≤1100000:=aj;have k2:Qw.size≤1100000:=aj;rcases ho with rfl|rfl|rfl|rfl|rfl|rfl|rfl<;>constructor<;>first|assumption|(dsimp only;omega)
def l7(B wb:Nat)(w:World)(k m:Nat):Prop:=∃lv bk G ds,eT B w wb lv bk G ds∧ds.length=m∧m≤k∧∀j,j<4→(G.get j).length≤12*k
theorem jJ.init(B:Nat)(w:World):jJ B w ⟨jg,jg,jg,jg⟩ G4.none:=
 ⟨gR ⟨rfl,aC ⟨rfl,rfl⟩⟩ ⟨rfl,aC ⟨rfl,rfl⟩⟩ ⟨rfl,aC ⟨rfl,rfl⟩⟩ ⟨rfl,aC ⟨rfl,rfl⟩⟩,gR (fun i u hu=>Co) (fun i u hu=>Co) (fun i u hu=>Co) (fun i u hu=>Co),gR rfl rfl rfl rfl⟩
theorem eT.init(W:World)(ht:cQ W):eT W.heap.size (W.alloc (.cells (lwC jg jg jg jg jg) 84 (0,0))) W.heap.size jg ⟨jg,jg,jg,jg⟩ G4.none []:=
 ⟨bJ W _ _,⟨rfl,aC ⟨rfl,rfl⟩⟩,fun i d hd=>by simp at hd,fun i j d d' hd=>by simp at hd,fun i d hd=>by simp at hd,jJ.init _ _,ht.below (aQ.alloc aH _),ht.lt,aH⟩
theorem l7.next{e:Ending}{o:gM}(hm:ds.length=m)(hmk:m≤k)(hg:∀j,j<4→(G.get j).length≤12*k)(hn1:o.k=1→n=1)(h:CY B w wb ds G n e w'):
  e=.returned (.bool true)∧Below B w w'∧∃m',l7 B wb w' (k+1) m'∧m≤m'∧(o.k=1→0<m'):=by
 obtain⟨he,eD,jG,G',ds',hL',g1,g2,g3,g4⟩:=h;exact⟨he,g4,ds'.length,⟨eD,jG,G',ds',hL',rfl,ag,fun j hj=>by have:=g3 j hj;have:=hg j hj;omega⟩,ag,fun h=>by have:=hn1 h;omega⟩
theorem l7.looks(h:l7 B wb w k m)(hk:k≤2000001):Calls prog 36 #[.pointer (some (ai wb 1))] w fun e w'=>e=.returned (.bool true)∧Below w.heap.size w w':=by
 obtain⟨lv,bk,G,ds,hL,hm,hmk,hg⟩:=h;exact aa9 B w wb lv bk G hL.blk hL.o9 (fun j hj=>by have:=hg j hj;omega)
theorem l7.below(h:l7 B wb w k m)(hb:Below w.heap.size w w'):l7 B wb w' k m:=by
 obtain⟨lv,bk,G,ds,hL,r⟩:=h;exact⟨lv,bk,G,ds,hL.below hb,r⟩
theorem l7.init(W:World)(ht:cQ W):l7 W.heap.size W.heap.size (W.alloc (.cells (lwC jg jg jg jg jg) 84 (0,0))) 0 0:=
 ⟨_,_,_,_,eT.init W ht,rfl,aH,gR aj aj aj aj⟩
theorem l7.size(h:l7 B wb w k m):B≤wb∧wb<w.heap.size:=by
 obtain⟨lv,bk,G,ds,hL,r⟩:=h;exact⟨hL.lz.2,hL.blk.lt⟩
end
section
attribute [local go_sem] fH
def pH(l:List Int):List Value:=ints (l++List.replicate 8 77)
theorem abt(l:List Int):(pH l).length=l.length+8:=by simp[pH,ints]
theorem Og(l:List Int)(j:Nat)(h:j<l.length):(pH l)[j]?=(ints l)[j]?:=by
 unfold pH ints;rw[List.map_append,dH Bt]
theorem K7(l:List Int)(k:Nat)(hk:k<l.length+8):(pH l)[k]?=some (ae (if h:k<l.length then l[k]else 77)):=by
 unfold pH ints;rw[iH]
 by_cases h:k<l.length
 ·rw[dH h,bE h,dif_pos h];rfl
 ·rw[fP ag,xB,aG ag,dif_neg h];rfl
theorem YO{ys:List Value}(h1:ys.length=n)(h2:xs.length=n)(h:∀j,j<n→ys[j]?=xs[j]?):ys=xs:=by
 apply List.ext_getElem?;intro j
 by_cases hj:j<n
 ·exact h j hj
 ·rw[jh ag,jh ag]
theorem NJ{e:TypeId}{g:Nat}(h:w.ownsRow base e szz (aD g n cap) n xs)(k:Nat):w.frozen? (ai g k)=false:=by
 rcases h.2 with ⟨h0,_⟩|⟨g',cap',cur,hv,_,hh,_⟩
 ·cases h0
 ·obtain⟨rfl,rfl⟩:g=g'∧cap=cap':=by simpa using hv
  simp[World.frozen?,hh]
theorem Xe(n:Nat)(hn:n≤1100000)(w:World):
  (Instr.makeSlice 24 (ae ((n:Int)+8)) (ae ((n:Int)+8))).run prog w=.ok (aD w.heap.size (n+8) (n+8)) (w.alloc (.cells (madeCells #[ae 0] (n+8)) 3 (0,0))):=by
 obtain⟨i,hi,hz,hs,hb⟩:=info_parts Tryz.vo;have:=run_make (P:=prog) w 24 3 i (ae 0) underlying24 hi hz .i64 .i64 ((n:Int)+8) ((n:Int)+8) ag (Int.le_refl _) (by rw[hb];omega) ag;rw[hs]at this;have e:((n:Int)+8).toNat=n+8:=ag;rw[e,Nat.mul_one]at this;exact this
theorem ZR(w:World)(p:Addr)(n cap:Nat)(l:List Int)(hn:n=l.length)(hb:n≤1100000)(ir:n≤cap)(hs:∀(j:Nat) (u:Value),(ints l)[j]?=some u→p.block<w.heap.size∧w.cell? (p.add j)=some u):
  Calls prog 94 #[.slice (some p) n cap] w fun e w'=>∃tg,e=.returned (aD tg n (n+8))∧w.heap.size≤tg∧w'.ownsRow w.heap.size 3 1 (aD tg (n+8) (n+8)) (n+8) (pH l)∧Below w.heap.size w w':=by
 have hmk:=Xe n hb;obtain⟨tg,n9⟩:=ak (w.heap.size);obtain⟨zs,hzs⟩:=ak (madeCells #[ae 0] (n+8));have hzl:zs.size=n+8:=by rw[hzs,size_madeCells]
 obtain⟨X,hX⟩:=ak (w.alloc (.cells zs 3 (0,0)):World);have hbX:Below w.heap.size w X:=jo;have hgX:X.heap[tg]?=some (.cells zs 3 (0,0)):=by rw[hX,n9];exact heap_alloc_new w _
 have nO:∀(j:Nat) (u:Value),(ints l)[j]?=some u→X.cell? (p.add j)=some u:=fun j u hu=>by
  rw[hbX.cell (by rw[Jc];exact(hs j u hu).1)];exact(hs j u hu).2
 rw[←hzs]at hmk;have vE:=af n9;have HX:=af hX;have bT:=af hbX;have HGX:=af hgX;have jq:=af nO;have HN:=af hn;have pN:=af (show(ints l).length=n by simp[ints,hn]);have HZL:=af hzl;have fB:=af (show ∀u∈ints l,u.oneCell'=true from fun u hu=>by obtain⟨z,_,rfl⟩:=List.mem_map.1 hu;rfl);obtain⟨lc,hlc⟩:=ak (ints l);rw[←hlc]at jq pN fB;have iR:=af hlc;clear n9 hX hbX hgX nO hs hn hlc hzs hzl;have hnl:=fun w=>Lib.run_eql_slice_nil (P:=prog) w 24 3 (some p) n cap 0 0 underlying24
 simp only[Option.isNone_some]at hnl;go_enter func94,ntmps94;go_upto_region 5 with fail
 rw[←HX.out,←vE.out];clear hmk hnl;obtain⟨w2,hw2⟩:=ak (X.setRow tg (zs.toList.take 0++lc++zs.toList.drop (0+lc.length)).toArray:World);have mU:=run_copy_row (P:=prog) X 24 24 3 3 tg 0 (n+8) (n+8) p n cap zs 3 lc underlying24 Ea HGX (by rw[pN.out];exact(Nat.min_eq_left ag).symm) jq (by rw[pN.out,HZL.out];omega) fB;rw[←hw2,pN.out]at mU;have hg2:w2.heap[tg]?=some (.cells (zs.toList.take 0++lc++zs.toList.drop (0+lc.length)).toArray 3 (0,0)):=LN;have hc2:aq (fun b=>b=tg) X w2:=KY;clear hw2;have hb2:Below w.heap.size w w2:=bT.trans (hc2.toBelow (by rw[←vE.out];exact Nat.le_of_lt (mD.1 HGX).1) (fun b hb e=>tC))
 have nk:(zs.toList.take 0++lc++zs.toList.drop (0+lc.length)).length=n+8:=by
  rw[cF,cF,List.length_take,List.length_drop,kP,HZL.out,pN.out];omega
 obtain⟨y0,hy0⟩:=ak (zs.toList.take 0++lc++zs.toList.drop (0+lc.length));rw[←hy0]at hg2 nk
 have hrow2:w2.ownsRow w.heap.size 3 1 (aD tg (n+8) (n+8)) (n+8) y0:=by
  refine⟨ag,aA ⟨tg,n+8,_,rfl,tC,hg2,aH,lu,by rw[List.size_toArray];omega,?_⟩⟩;rw[List.toList_toArray];exact List.take_of_length_le ag
 have hpre:∀j,j<n→y0[j]?=(pH l)[j]?:=fun j hj=>by
  rw[hy0,List.take_zero,List.nil_append,dH (by rw[pN.out];exact hj),iR.out,Og l j (by rw[←HN.out];exact hj)]
 have aW:=af hb2;have HR2:=af hrow2;have nA:=af hpre;clear hg2 hc2 hb2 hrow2 hpre HGX jq hy0 nk;go_wp2_with fail;clear mU;go_loopw[5] (fun i wr=>∃(k:Nat) (ys:List Value),n≤k∧k≤n+8∧i=ae k∧Hid (wr.ownsRow w.heap.size 3 1 (aD tg (n+8) (n+8)) (n+8) ys∧∀j,j<k→ys[j]?=(pH l)[j]?)∧Hid (Below w.heap.size w wr)) (fun i _=>n+8 - (intOf i).toNat)
 case atStart=>exact⟨n,_,aH,ag,rfl,af ⟨HR2,nA⟩,aW⟩
 case round=>
  clear HR2 nA aW;obtain⟨k,ys,bA,hk2,rfl,HY,HB⟩:=hrel
  by_cases hlt:k<n+8
  ·have bV:(k:Int)<(n:Int)+8:=by omega
   have hl0:(0:Int)≤(k:Int):=ag;have hkn:(k:Int)≤2000000:=ag;obtain⟨sN,cap',hv,_,uI,_,_,hcc⟩:=cd HY.out.1 ag;obtain⟨rfl,rfl⟩:tg=sN∧n+8=cap':=gW;have pM:ys.length=(n+8)*1:=HY.out.1.1;obtain⟨y0,hy0⟩:∃x,ys[k]?=some x:=⟨_,bE ag⟩;have e0:wr.cell? (ai tg k)=some y0:=hcc _ _ hy0;have f0:=NJ HY.out.1 k;have HYL:=af pM;clear hv hcc hy0 pM;go_wp2_with fail;go_roundw
   case rel=>
    have hwt:w.heap.size≤tg:=tC;refine⟨k+1,ys.set k (ae 77),ag,ag,bO,af ⟨iJ HY.out.1 k _,fun j hj=>?_⟩,af (HB.setCell hwt _)⟩
    by_cases hjk:j=k
    ·subst hjk
     rw[eL (by have:=HYL.out;omega),K7 l j uj,dif_neg (by rw[←HN.out];omega)]
    ·rw[dr ag];exact HY.out.2 j ag
   case measure=>simp[intOf];omega
  ·obtain rfl:k=n+8:=by omega
   have hys:ys=pH l:=YO (n:=n+8) (by have:=HY.out.1.1;omega) (by rw[abt,←HN.out]) HY.out.2;have hrow:=HY.out.1;rw[hys]at hrow;have fc:=af hrow;clear hys hrow HY;have bV:¬((n:Int)+8<(n:Int)+8):=ag;go_wp2_with fail;go_ret;exact⟨tg,rfl,tC,fc,HB⟩
theorem abk(w:World):Calls prog 94 #[aI] w fun e w'=>e=.returned aI∧Below w.heap.size w w':=by
 have hnl:=fun w=>Lib.run_eql_slice_nil (P:=prog) w 24 3 none 0 0 0 0 underlying24
 simp only[Option.isNone_none]at hnl;go_enter func94,ntmps94;go_wp2_with fail;go_ret;exact⟨rfl,aQ⟩
theorem We(w:World)(o:Value):Calls prog 96 #[o,aI] w fun e w'=>e=.returned (.bool true)∧Below w.heap.size w w':=by
 have hnl:=fun w=>Lib.run_eql_slice_nil (P:=prog) w 24 3 none 0 0 0 0 underlying24
 simp only[Option.isNone_none]at hnl;go_enter func96,ntmps96;go_wp2_with fail;go_ret;exact⟨rfl,aQ⟩
theorem XE(w:World)(base tg B:Nat)(p:Addr)(n cap:Nat)(l:List Int)(hn:n=l.length)(hb:n≤1100000)(ir:n≤cap)(hBt:B≤tg)(mi:B≤w.heap.size)(hs:∀(j:Nat) (u:Value),(ints l)[j]?=some u→p.block<B∧w.cell? (p.add j)=some u)
  (hr:w.ownsRow base 3 1 (aD tg (n+8) (n+8)) (n+8) (pH l)):
  Calls prog 96 #[aD tg n (n+8),.slice (some p) n cap] w fun e w'=>e=.returned (.bool true)∧aq (fun b=>b=tg) w w':=by
 have hnl:=fun w=>Lib.run_eql_slice_nil (P:=prog) w 24 3 (some p) n cap 0 0 underlying24
 simp only[Option.isNone_some]at hnl
 have hsp:0<n→p.spot=none∧p.block<B:=fun h0=>by
  obtain⟨u,hu⟩:∃u,(ints l)[0]?=some u:=⟨_,bE (by simp[ints];omega)⟩;obtain⟨pB,this⟩:=hs 0 u hu;have h0:p.add 0=p:=DU;rw[h0]at this;refine⟨?_,pB⟩;unfold World.cell? at this
  split at this
  ·split at this
   ·cases this
   ·rename_i h;simpa using h
  ·cases this
 obtain⟨pb,po,ps⟩:=p;simp only at hsp
 have mv:0<n→∀(w':World),aq (fun b=>b=tg) w w'→∀k (hk:k<l.length),w'.cell? (ai pb (po+k))=some (ae l[k]):=fun h0 w' hc k hk=>by
  obtain⟨e,pB⟩:=hsp h0;subst e;have hp:pb<w.heap.size:=ag;have hpt:pb≠tg:=ag;have:=(hs k (ae l[k]) (by simp[ints,hk])).2;rw[Addr.add_lit]at this;exact(hc.cell (p:=ai pb (po+k)) hp hpt).trans this
 have htl:tg<w.heap.size:=cJ hr (k:=tg) rfl;have HTA:=af mv;have HSP:=af hsp;have HN:=af hn;have HR:=af hr;clear mv hsp hn hr hs;go_enter func96,ntmps96;go_wp2_with fail;go_loopw[7,8] (fun o i wr=>o=.bool true∧∃(k:Nat) (ys:List Value),k≤n+8∧i=ae k∧Hid (wr.ownsRow base 3 1 (aD tg (n+8) (n+8)) (n+8) ys∧∀j,k≤j→ys[j]?=(pH l)[j]?)∧Hid (aq (fun b=>b=tg) w wr)) (fun _ i _=>n+8 - (intOf i).toNat)
 case atStart=>exact⟨rfl,0,_,ag,rfl,af ⟨HR,fun j _=>rfl⟩,af (aq.refl _ _)⟩
 case round=>
  clear HR hnl;obtain⟨rfl,k,ys,hk,rfl,HY,HC⟩:=hrel
  by_cases hlt:k<n+8
  ·have bV:(k:Int)<(n:Int)+8:=by omega
   have hl0:(0:Int)≤(k:Int):=ag;have hkn:(k:Int)≤2000000:=ag;obtain⟨t,ht⟩:=ak (if h:k<l.length then l[k]else 77:Int);have hcell:ys[k]?=some (ae t):=by rw[HY.out.2 _ ag,K7 l k uj,ht]
   obtain⟨sN,cap',hv,_,uI,_,_,hcc⟩:=cd HY.out.1 ag;obtain⟨rfl,rfl⟩:tg=sN∧n+8=cap':=gW;have c0:wr.cell? (ai tg k)=some (ae t):=hcc _ _ hcell;have f0:=NJ HY.out.1 k;have hee:(t == t)=true:=aF;clear hcell hv hcc
   by_cases hkl:k<n
   ·have FA:(k:Int)<(n:Int):=by omega
    have Be:k<l.length:=Kr;obtain⟨k9,pB⟩:=HSP.out ag;subst k9;have hp:pb<wr.heap.size:=by have:=HC.size;omega
    have q:=HTA.out ag wr HC k Be;have htk:t=l[k]:=by rw[ht,dif_pos Be]
    rw[←htk]at q;clear ht htk;go_wp2_with fail;exact KS
   ·have FA:¬(k:Int)<(n:Int):=by omega
    have htk:t=77:=LV;rw[htk]at c0;clear ht htk hee;go_wp2_with fail;exact KS
  ·obtain rfl:k=n+8:=by omega
   have bV:¬((n:Int)+8<(n:Int)+8):=ag;go_wp2_with fail;go_ret;exact⟨rfl,HC⟩
def ry(base:Nat)(w:World)(a:Option Addr)(n:Nat)(ta:Option Addr)(cap:Nat)(l:List Int):Prop:=
 (a=none∧ta=none∧cap=0)∨((∃p,a=some p)∧∃tg,ta=some (ai tg 0)∧cap=n+8∧base≤tg∧w.ownsRow base 3 1 (aD tg (n+8) (n+8)) (n+8) (pH l))
theorem ry.below(h:ry base w a n ta cap l)(hb:Below w.heap.size w w'):ry base w' a n ta cap l:=by
 rcases h with h|⟨h1,tg,h2,h3,h4,h5⟩
 ·exact aC h
 ·exact aA ⟨h1,tg,h2,h3,h4,aR h5 (aq.bf (S:=fun _=>False) hb) (fun _ _=>id)⟩
theorem ry.aB{S:Nat→Prop}(h:ry base w a n ta cap l)(hc:aq S w w')(hs:∀b,ta=some (ai b 0)→¬S b):ry base w' a n ta cap l:=by
 rcases h with h|⟨h1,tg,h2,h3,h4,h5⟩
 ·exact aC h
 ·exact aA ⟨h1,tg,h2,h3,h4,aR h5 hc (fun b hb=>hs b (by rw[h2];simpa [Value.ownBlock]using hb))⟩
theorem yQ(h:ep B w a n c 1 (ints l)):n=l.length:=by
 have:=h.1;simp[ints]at this;omega
theorem Sl(h:ep B w a n c 1 (ints l))(hn:n≤1100000)(hB:B≤w.heap.size):
  Calls prog 94 #[.slice a n c] w fun e w'=>∃ta cap,e=.returned (.slice ta n cap)∧ry w.heap.size w' a n ta cap l∧Below w.heap.size w w':=by
 have hl:=yQ h;obtain⟨_,hc,h|⟨p,rfl,h⟩⟩:=h
 ·obtain⟨rfl,rfl,rfl⟩:=h
  refine(abk w).mono ?_;rintro e w' ⟨he,hb⟩;exact⟨none,0,he,aC ⟨rfl,rfl,rfl⟩,hb⟩
 ·refine(ZR w p n c l hl hn hc (fun j u hu=>⟨bF (h j u hu).1 hB,(h j u hu).2⟩)).mono ?_
  rintro e w' ⟨tg,he,h1,h2,h3⟩;exact⟨_,_,he,aA ⟨⟨p,rfl⟩,tg,rfl,rfl,h1,h2⟩,h3⟩
theorem ac5(h:ep B w a n c 1 (ints l))(hn:n≤1100000)(hB:B≤base)(fU:base≤w.heap.size)(hl:ry base w a n ta cap l):
  Calls prog 96 #[.slice ta n cap,.slice a n c] w fun e w'=>e=.returned (.bool true)∧aq (fun b=>ta=some (ai b 0)) w w':=by
 have hlen:=yQ h;obtain⟨_,hc,h|⟨p,rfl,h⟩⟩:=h
 ·obtain⟨rfl,rfl,rfl⟩:=h
  refine(We w _).mono ?_;rintro e w' ⟨he,hb⟩;exact⟨he,aq.bf hb⟩
 ·rcases hl with ⟨e,_⟩|⟨_,tg,rfl,rfl,h4,h5⟩
  ·cases e
  ·refine(XE w base tg B p n c l hlen hn hc (bB hB h4) (bB hB fU) h h5).mono ?_
   rintro e w' ⟨he,bP⟩;exact⟨he,bP.mono (fun b _ e=>by rw[e])⟩
theorem ry.ins{w0:World}(h:ep B w0 a n c 1 (ints l))(hl:ry base w a n ta cap l):cN w.heap.size w (.slice ta n cap) l:=by
 have hlen:=yQ h;obtain⟨_,hc,h0⟩:=h;rcases hl with ⟨e1,e2,e3⟩|⟨⟨p,hp⟩,tg,rfl,rfl,h4,h5⟩
 ·rcases h0 with ⟨_,h0,_⟩|⟨p,h0,_⟩
  ·subst h0;exact aC ⟨List.eq_nil_of_length_eq_zero hlen.symm,ta,cap,rfl⟩
  ·rw[e1]at h0;cases h0
 ·refine aA ⟨tg,0,n+8,by rw[hlen],ag,cJ h5 (k:=tg) rfl,fun j y hy=>?_⟩
  have hj:=(cI.1 hy).1;obtain⟨g',cap',hv,_,_,_,_,hcc⟩:=cd h5 ag;obtain⟨rfl,rfl⟩:tg=g'∧n+8=cap':=gW;rw[Nat.zero_add];exact hcc _ _ (by rw[Og l j hj];simp[ints,hy])
theorem ep.ins(h:ep B w a n c 1 (ints l)):cN B w (.slice a n c) l:=by
 have hlen:=yQ h;obtain⟨_,hc,⟨_,h0,_⟩|⟨p,rfl,h⟩⟩:=h
 ·subst h0;exact aC ⟨List.eq_nil_of_length_eq_zero hlen.symm,a,c,rfl⟩
 ·rcases wO n with h0|h0
  ·subst h0;exact aC ⟨List.eq_nil_of_length_eq_zero hlen.symm,_,c,rfl⟩
  ·right
   obtain⟨u,hu⟩:∃u,(ints l)[0]?=some u:=⟨_,bE (by simp[ints];omega)⟩;obtain⟨pB,h1⟩:=h 0 u hu
   have hsp:p.spot=none:=by
    have h0:p.add 0=p:=DU;rw[h0]at h1;unfold World.cell? at h1
    split at h1
    ·split at h1
     ·cases h1
     ·rename_i h;simpa using h
    ·cases h1
   obtain⟨pb,po,ps⟩:=p;simp only at hsp pB;subst hsp;exact⟨pb,po,c,by rw[hlen],ag,pB,fun j y hy=>by have:=(h j (ae y) (by simp[ints,hy])).2;rwa [Addr.add_lit]at this⟩
end
end Go.Proofs.YtcphhbofjkenaaaGreatDoor
