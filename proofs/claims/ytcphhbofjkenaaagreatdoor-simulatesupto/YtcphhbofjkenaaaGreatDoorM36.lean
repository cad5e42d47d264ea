import Derived.Test.YtcphhbofjkenaaaGreatDoorMy
import Derived.Test.YtcphhbofjkenaaaGreatDoorM34
import Derived.Test.YtcphhbofjkenaaaGreatDoorM35
namespace Go.Proofs.YtcphhbofjkenaaaGreatDoor
open Go Go.RowKit Proofs.Tryz
set_option linter.unusedVariables false
set_option linter.unusedSimpArgs false
set_option maxRecDepth 100000
set_option maxHeartbeats 16000000
variable{base n cap:Nat}{w:World}{a ta:Option Addr}
theorem Mu{p:Prop}(h:p:=by
  intro b hb;rcases h with ⟨_,e,_⟩|⟨_,tg,e,_,h4,h5⟩
  ·rw[e]at hb;cases hb
  ·rw[e]at hb
   obtain rfl:tg=b:=xy;exact⟨h4,cJ h5 (k:=tg) rfl⟩):p:=h
theorem NS{p:Prop}(h:p:=by
  refine HF2.mono ?_;intro e w8 hp8;obtain rfl:=hp8.1;have H8:=af hp8;clear hp8 HF2;go_wp2_with fail;go_ret;exact⟨rfl,HF1 _ _ H8⟩):p:=h
section
theorem XT{es:List PE}{code:List Int}{ws:List RW}{nn:Nat}{l:List TK}{ins:List Int}{h:Int}(hk:rH es code ws)(h0:(iu ws l ins h).1=0):(Bi es code ws nn l ins h.toNat).es.length≤1000000:=by
 unfold iu at h0
 split at h0
 ·rename_i hc
  obtain⟨c1,c2,c3⟩:=hc;obtain⟨_,t2⟩:=I9 hk h0;have:=(eQ.sim hk.tQ hk.toAlike (rk:=fF (dt ws l)) (fun t ht=>(t2 t ht).1) (yb h0).2.1 (Eu (nn:=nn) (es:=es) (code:=code) (l:=l) c3) h.toNat).le
  show(gz _ _ _ _ _ _).es.length≤_
  omega
 ·exact absurd h0 aj
theorem uE.lies{ts:List TK}(h:uE base w a n ta cap ts):∀b,ta=some (ai b 0)→base≤b∧b<w.heap.size:=by
 exact Mu
theorem ry.lie{l:List Int}(h:ry base w a n ta cap l):∀b,ta=some (ai b 0)→base≤b∧b<w.heap.size:=by
 exact Mu
theorem WR{B:Nat}{wb:Nat}{lv:Value}{bk:B4}{G:G4}{ds:List PD}{i:Nat}{d:PD}(h:eT B w wb lv bk G ds)(hi:ds[i]?=some d)(hg:G.e.length≤90000000)
  (k A C:Int) (S:ByteArray) (a1 a2 a3:Option Addr) (n1 c1 n2 c2 n3 c3:Nat) (ms:List Int) (ts:List TK) (fT:ep B w a2 n2 c2 1 (ints ms)) (hd:ep B w a3 n3 c3 4 (ts.flatMap TK.cells)) (hn2:n2≤1100000) (gT:n3≤1100000):
  Calls prog 69 #[ax wb,.agg #[ax d.bb,ax d.sb],.agg #[ae k,ae A,ae C,.string S,.slice a1 n1 c1,.slice a2 n2 c2,.slice a3 n3 c3]] w fun e w'=>e=.returned (.bool true)∧∃jG G',eT B w' wb lv jG G' ds∧GLe G G'∧Below B w w':=by
 obtain⟨pb,hpb⟩:=ak (w.heap.size);obtain⟨ob,fV⟩:=ak (w.heap.size+1);obtain⟨X,hX⟩:=ak ((w.alloc (.cells #[ax d.bb,ax d.sb] 143 (0,0))).alloc (.cells #[ae k,ae A,ae C,.string S,.slice a1 n1 c1,.slice a2 n2 c2,.slice a3 n3 c3] 86 (0,0)):World);have hb0:Below w.heap.size w X:=by rw[hX];exact(aQ.alloc aH _).alloc aF _
 have hkp:ay X pb #[ax d.bb,ax d.sb] 143:=by rw[hX,hpb];exact(bJ w _ _).alloc _
 have hko:ay X ob #[ae k,ae A,ae C,.string S,.slice a1 n1 c1,.slice a2 n2 c2,.slice a3 n3 c3] 86:=by
  rw[hX,fV];have:=bJ (w.alloc (.cells #[ax d.bb,ax d.sb] 143 (0,0))) #[ae k,ae A,ae C,.string S,.slice a1 n1 c1,.slice a2 n2 c2,.slice a3 n3 c3] 86;simpa using this
 have hdX:=hd.below (hb0.mono h.le);have o6:X.cell? (ai ob 6)=some (.slice a3 n3 c3):=hko.cell 6 _ rfl;have HLN:=af (SU hdX gT (bB h.le hb0.size));have hle:=h.le;have HL:=af h;have HX:=af hX;have HPB:=af hpb;have HOB:=af fV;have nj:=af hb0;have HKP:=af hkp;have HKO:=af hko;have HI:=af hi;have HD:=af hd;have dL:=af fT;clear h hX hpb fV hb0 hkp hko hdX hi hd fT;go_enter func69,ntmps69;go_upto_region 1 with fail
 rw[←HX.out,←HOB.out,←HPB.out];go_wp2_with fail;refine HLN.mono ?_;rintro e w1 ⟨ta,tc,rfl,hlt,hb1⟩;have hB1:=nj.trans (hb1.mono nj.size);have Bh:=HKP.sub hb1 HKP.lt;have Ir:=HKO.sub hb1 HKO.lt;have o5:w1.cell? (ai ob 5)=some (.slice a2 n2 c2):=Ir.cell 5 _ rfl;have OB:=af (Sl (dL.below (hB1.mono HL.le)) hn2 (bB HL.le hB1.size));have rQ:=af hlt;have HB1:=af hB1;have Gz:=af Bh;have Gg:=af Ir;have HTB:=af hlt.lies;have hs1:=hb1.size;clear hlt hb1 hB1 Bh Ir HLN HKP HKO o6;go_wp2_with fail;refine OB.mono ?_;rintro e w2 ⟨ia,ic,rfl,hlt2,hb2⟩;have hB2:=HB1.trans (hb2.mono HB1.size);have xN:=Gz.sub hb2 Gz.lt;have Hz:=Gg.sub hb2 Gg.lt;have hL2:=HL.below hB2;have zU:=hL2.at_ i d HI;have p0:w2.cell? (ai pb 0)=some (ax d.bb):=xN.cell 0 _ rfl;have o2:w2.cell? (ai ob 2)=some (ae C):=Hz.cell 2 _ rfl;have j9:=rQ.below hb2;obtain⟨htc,htt⟩:=j9.tasks HD;have HSI:=af (Yz ts ta n3 tc C zU.ps zU.li zU.al hL2.tab (yE HD) htc gT htt (hlt2.ins dL) (by rw[←yQ dL.out];exact hn2));have HLEN:=af (fun h0=>XT (nn:=d.nv.toNat) (l:=ts) (ins:=ms) (h:=C) zU.al h0);have Lr:=af j9;have zq:=af hlt2;have aW:=af hB2;have FC:=af xN;have Iq:=af Hz;have dU:=af hlt2.lie;have hs2:=hb2.size;obtain⟨E,hE⟩:=ak ((iu d.ws ts ms C).1);obtain⟨K,hK⟩:=ak ((iu d.ws ts ms C).2);obtain⟨evs,hevs⟩:=ak ((Bi d.es d.code d.ws d.nv.toNat ts ms C.toNat).es);rw[←hE,←hevs]at HLEN;have HE:=af hE;have HK:=af hK;have HEV:=af hevs;clear hlt2 hb2 hB2 xN Hz hL2 zU j9 htt OB Gz Gg rQ o5 hE hK hevs;go_wp2_with fail
 refine HSI.mono ?_;rintro e w3 ⟨⟨pa,pn,pc,rfl,mM,bj⟩,hb3⟩;rw[←HE.out]at mM bj;rw[←HEV.out]at bj;rw[←HE.out,←HK.out];have oz:=aW.trans (hb3.mono aW.size);have wX:=FC.sub hb3 FC.lt;have Ai:=Iq.sub hb3 Iq.lt;have hL3:=HL.below oz;have mE:=hL3.at_ i d HI;have yV:=HD.below (oz.mono HL.le);have ND:=dL.below (oz.mono HL.le);have q1:w3.cell? (ai pb 1)=some (ax d.sb):=wX.cell 1 _ rfl;have q2:w3.cell? (ai ob 2)=some (ae C):=Ai.cell 2 _ rfl;have q5:w3.cell? (ai ob 5)=some (.slice a2 n2 c2):=Ai.cell 5 _ rfl;have q6:w3.cell? (ai ob 6)=some (.slice a3 n3 c3):=Ai.cell 6 _ rfl;have acV:=mE.li.v0;have S0:=mE.li.v1;obtain⟨nn,hnn⟩:∃nn:Nat,d.nv=nn:=⟨d.nv.toNat,ag⟩;have rY:=mE.rs;rw[hnn]at rY;have hRA:=Sq ts C rY (DI mE.li mE.al.toAlike) ag mE.tr (fun q hq=>by obtain⟨cs,hb⟩:=mE.fi q hq;exact hb.lt) mE.ok mE.al (by have:=mE.li.c;have:=mE.li.t1;omega) (yE HD) HD.out.2.1 gT (yV.tasks (bB HL.le oz.size)) ND.ins (bB HL.le oz.size) (by rw[←yQ dL.out];exact hn2);have HRA:=af hRA;have iI:=af (aY mM bj);have eR:=af oz;have ES:=af Ai;have M5:=af (Lr.below hb3);have NU:=af (zq.below hb3);have mQ:Hid (d.nv.toNat=nn):=af (by rw[hnn];rfl);have hs3:=hb3.size;clear mM bj hb3 oz wX Ai hL3 mE yV ND rY hRA hnn acV S0 HSI aW FC Iq Lr zq p0 o2;go_wp2_with fail;refine HRA.mono ?_;rintro e w4 ⟨⟨qa,qn,qc,rfl,mM,bj⟩,hb4⟩;rw[←HE.out]at mM bj;rw[←mQ.out,←HEV.out]at bj;rw[←HE.out,←HK.out];have hB4:=eR.trans (hb4.mono eR.size);have Fm:=ES.sub hb4 ES.lt;have r6:w4.cell? (ai ob 6)=some (.slice a3 n3 c3):=Fm.cell 6 _ rfl;have CD:=M5.below hb4;have OD:=NU.below hb4;have nR:=hb4.size;have hXw:=nj.size;have HWH:=af (TJ (HD.below (hB4.mono HL.le)) gT (bB HL.le hXw) (bB hs1 (bB hs2 (bB hs3 nR))) CD);have kj:Hid (E=0→lx w2.heap.size w4 (.slice pa pn pc) evs):=af (fun e0=>aR (iI.out.2 e0) (aq.bf (S:=fun _=>False) hb4) (fun _ _=>id));have lB:=af (aY mM bj);have HB4:=af hB4;have Qe:=af Fm;have MV:=af OD;clear mM bj hb4 hB4 Fm CD OD HRA eR ES M5 NU q1 q2 q5 q6;go_wp2_with fail
 refine HWH.mono ?_;rintro e w5 ⟨rfl,hc5⟩;have hlo:∀b,ta=some (ai b 0)→X.heap.size≤b∧b<w1.heap.size:=HTB.out;have cZ:Below w.heap.size w w5:=HB4.trans (hc5.toBelow HB4.size (fun b hb e=>by have:=(hlo b e).1;omega));have aey:ob<X.heap.size:=by rw[HOB.out,HX.out];simp
 have PW:=Qe.aB hc5 (fun e=>by have:=(hlo _ e).1;omega);have r5:w5.cell? (ai ob 5)=some (.slice a2 n2 c2):=PW.cell 5 _ rfl;have Nq:=MV.aB hc5 (fun b hb e=>by have:=(hlo _ e).2;have:=(dU b hb).1;omega);have hs5:=hc5.size;have Mm:=af (ac5 (dL.below (cZ.mono HL.le)) hn2 (bB HL.le (bB hXw hs1)) (bB hs2 (bB hs3 (bB nR hs5))) Nq);have FD:∀{base:Nat} {v:Value} {xs:List EV},w2.heap.size≤base→lx base w4 v xs→lx base w5 v xs:=fun hb hr=>aR hr hc5 (fun b hb' e=>by have:=(hlo _ e).2;have:=cR hr hb';omega)
 have mz:Hid (E=0→lx w2.heap.size w5 (.slice pa pn pc) evs∧lx w3.heap.size w5 (.slice qa qn qc) evs):=af (fun e0=>⟨FD aH (kj e0),FD hs3 (lB.out.2 e0)⟩);have dI:=af cZ;clear hc5 hlo cZ PW Nq FD HWH HB4 Qe MV kj r6;go_wp2_with fail;refine Mm.mono ?_;rintro e w6 ⟨rfl,kU⟩;have hlo:∀b,ia=some (ai b 0)→w1.heap.size≤b∧b<w2.heap.size:=dU.out;have jZ:Below w.heap.size w w6:=dI.trans (kU.toBelow dI.size (fun b hb e=>by have:=(hlo b e).1;omega));have Iz:∀{base:Nat} {v:Value} {xs:List EV},w2.heap.size≤base→lx base w5 v xs→lx base w6 v xs:=fun hb hr=>aR hr kU (fun b hb' e=>by have:=(hlo _ e).2;have:=cR hr hb';omega)
 have HR6:Hid (E=0→lx w2.heap.size w6 (.slice pa pn pc) evs∧lx w3.heap.size w6 (.slice qa qn qc) evs):=af (fun e0=>⟨Iz aH (mz e0).1,Iz hs3 (mz e0).2⟩);have hL6:=HL.below jZ;have ac4:=hL6.blk.lt;have adB:w.heap.size≤w2.heap.size:=ag
 have fin:∀(w7:World),Below w6.heap.size w6 w7→Hid (∃xs,w7.ownsRow w2.heap.size 69 4 (.slice pa pn pc) pn xs)→pn≤1000000→Hid (∀e w8,AD 3 B w7 wb lv bk G.e (.slice pa pn pc) e w8→∃jG G',eT B w8 wb lv jG G' ds∧GLe G G'∧Below B w w8)∧Hid (Calls prog 104 #[.pointer (some (ai wb 1)),.slice pa pn pc] w7 (AD 3 B w7 wb lv bk G.e (.slice pa pn pc))):=fun w7 iU hx hn=>by
  obtain⟨xs,hr⟩:=hx.out;have hL7:=hL6.below iU;have mi:=jZ.trans (iU.mono jZ.size);refine⟨af (fun e w8 hp=>?_),af (Ue B w7 wb lv bk G.e pa pn pc xs hL7.blk (hL7.o9.row 3 ag) ag ag hL7.le (ownsRow_base hr (fun b hb=>bB HL.le (bB ag (cR hr hb)))))⟩
  obtain⟨jG,G',hL',hG',hl',_,hc'⟩:=hL7.keeps (j:=3) ag (fun b hb=>by
   have h1:=cR hr hb;have hw0:=HL.blk.lt;have hle:=HL.le;refine⟨ag,cJ hr hb,ag,fun e=>?_,fun e=>?_,fun i d hd e=>?_⟩
   ·have:=cJ HL.lA e;omega
   ·have:=HL.o9.lt e;omega
   ·have:=(HL.at_ i d hd).lt e;omega) hp
  refine⟨jG,G',hL',GLe.of ag hG' hl',(mi.mono HL.le).trans (hc'.toBelow hL7.le (fun b hb e=>?_))⟩;have hwB:=HL.lz.2;rcases e with e|e|e
  ·omega
  ·have:=cR hr e;have:=HL.le;omega
  ·have:=hL7.o9.base e;omega
 have HFN:=af fin;have gD:=af jZ;clear kU hlo jZ Iz fin hL6 Mm dI mz r5
 by_cases hE0:E=0
 ·obtain⟨hr1,hr2⟩:=HR6.out hE0
  have hpl:=HLEN.out hE0
  have hpn:pn=evs.length:=by
   obtain⟨ad,cap,e,_⟩:=bo hr1;simp at e;exact e.2.1
  have lN:qn=evs.length:=by
   obtain⟨ad,cap,e,_⟩:=bo hr2;simp at e;exact e.2.1
  obtain rfl:pn=qn:=ag;have oO:pn≤1000000:=ag;have HR:=af hr1;have HQ:=af hr2;have HPN:=af hpn;have hnl:=fun w=>Lib.run_eql_slice_nil (P:=prog) w 60 69 pa pn pc 0 0 underlying60
  obtain⟨bn,hbn⟩:=ak (pa.isNone);rw[←hbn]at hnl;have hee:(E == E)=true:=aF;have hkk:((K:Int) == (K:Int))=true:=aF;have hE1:(E == 0)=true:=by simp[hE0]
  clear hr1 hr2 hpl hpn lN hbn hE0 iI lB HR6 HLEN
  cases bn
  all_goals
   go_wp2_with fail
   go_loopw[17,18] (fun o i wr=>o=.bool true∧∃j:Nat,j≤pn∧i=ae j∧Hid (Below w6.heap.size w6 wr)) (fun _ i _=>pn - (intOf i).toNat)
   case atStart=>exact⟨rfl,0,bU _,rfl,aQ⟩
   case round=>
    clear hnl;obtain⟨rfl,j,hj,rfl,fE⟩:=hrel;have sF:=aR HR (aq.bf (S:=fun _=>False) fE) (fun _ _=>id)
    by_cases hjn:j<pn
    ·have hji:(j:Int)<(pn:Int):=by omega
     have hj0:(0:Int)≤(j:Int):=ag;have hqw:=aR HQ (aq.bf (S:=fun _=>False) fE) (fun _ _=>id);have hjl:j<evs.length:=by have:=HPN.out;omega
     obtain⟨g1,gX,hv1,_,hg1,Ws,_,hc1⟩:=cd sF ag;obtain⟨g2,bq,hv2,_,hg2,ZU,_,hc2⟩:=cd hqw ag;obtain⟨rfl,rfl⟩:pa=some (ai g1 0)∧pc=gX:=by simp at hv1;exact⟨hv1.1,hv1.2.2⟩
     obtain⟨rfl,rfl⟩:qa=some (ai g2 0)∧qc=bq:=by simp at hv2;exact⟨hv2.1,hv2.2.2⟩
     obtain⟨ek,ej,et,ew,hee⟩:∃ek ej et ew,evs[j]=⟨ek,ej,et,ew⟩:=⟨_,_,_,_,rfl⟩
     have hcell:∀m u,[ae ek,ae ej,ae et,ae ew][m]?=some u→wr.cell? (ai g1 (j*4+m))=some u∧wr.cell? (ai g2 (j*4+m))=some u:=fun m u hm=>by
      have hm4:m<4:=by have:=(cI.1 hm).1;simpa using this
      have e:(evs.flatMap EV.cells)[j*4+m]?=some u:=by rw[flat_get EV.cells 4 (fun _=>rfl) evs j m hjl hm4,hee];exact hm
      exact⟨hc1 _ _ e,hc2 _ _ e⟩
     obtain⟨e0,f0⟩:=hcell 0 _ rfl;obtain⟨e1,f1⟩:=hcell 1 _ rfl;obtain⟨e2,f2⟩:=hcell 2 _ rfl;obtain⟨e3,f3⟩:=hcell 3 _ rfl;rw[Nat.add_zero]at e0 f0;have hn1:pn≤pc:=by have:=HPN.out;omega
     have hn2:pn≤qc:=by have:=HPN.out;omega
     clear hcell hee hc1 hc2 hv1 hv2 sF hqw Ws ZU;go_wp2_with fail;go_quiet (fail);go_wp2_with fail;go_roundw
     case rel=>exact⟨rfl,j+1,ag,bO,af (fE.trans ((BO wr nq).mono fE.size))⟩
     case measure=>simp[intOf];omega
    ·obtain rfl:j=pn:=by omega
     have hji:¬(j:Int)<(j:Int):=ag;obtain⟨HF1,HF2⟩:=HFN.out wr fE (af ⟨_,by rw[HPN.out];rw[HPN.out]at sF;exact sF⟩) oO;have IK:wb<wr.heap.size:=bF ac4 fE.size;clear sF HFN;go_wp2_with fail;exact NS
 ·obtain⟨rfl,rfl,rfl⟩:=iI.out.1 hE0
  obtain⟨rfl,rfl,rfl⟩:=lB.out.1 hE0;have hnl:=fun w=>Lib.run_eql_slice_nil (P:=prog) w 60 69 none 0 0 0 0 underlying60
  simp only[Option.isNone_none]at hnl;obtain⟨HF1,HF2⟩:=HFN.out w6 aQ (af ⟨[],rfl,aC ⟨rfl,rfl⟩⟩) ag;have hee:(E == E)=true:=aF;have hkk:((K:Int) == (K:Int))=true:=aF;clear iI lB HR6 HFN;go_wp2_with fail;refine wp_loop_rounds 1 ?_;rw[rounds_succ];go_wp2_with fail;exact NS
end
end Go.Proofs.YtcphhbofjkenaaaGreatDoor
