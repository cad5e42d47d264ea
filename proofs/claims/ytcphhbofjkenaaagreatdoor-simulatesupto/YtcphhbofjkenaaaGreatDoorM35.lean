import Derived.Test.YtcphhbofjkenaaaGreatDoorMy
import Derived.Test.YtcphhbofjkenaaaGreatDoorM33
namespace Go.Proofs.YtcphhbofjkenaaaGreatDoor
open Go Go.RowKit Proofs.Tryz
set_option linter.unusedVariables false
set_option linter.unusedSimpArgs false
set_option maxRecDepth 100000
set_option maxHeartbeats 16000000
variable{B sb mg n:Nat}{F:Nat→Prop}{s:DW}{u:MW}{qs:List (Option (DQ×DM))}{ev:Value}{es:List PE}{code:List Int}{p:PS}
theorem Iy{p:Prop}(h:p:=by
  clear HEB;go_wp2_with fail;exact bodyPost_ret (v:=.tuple #[aI,ae 1,ae 0]) Gr rfl (tT.err HE aj rfl aQ)):p:=h
theorem LU{p:Prop}(h:p:=by
  go_quiet (fail)
  have jq:=af (HS.below (BO wr nq));have bT:=af (HB.trans ((BO wr nq).mono HB.size));go_wp2_with fail;go_roundw
  case rel=>exact⟨i+1,ea,en,ec,pc,ag,rfl,bO,jq,eZ,bT⟩
  case measure=>simp[intOf];omega):p:=h
theorem OS{p:Prop}(h:p:=by
  go_roundw
  case rel=>exact⟨j+1,c,ag,rfl,bO,⟨hc1,hc2⟩,HPX,HS,HB⟩
  case measure=>simp[intOf];omega):p:=h
section
attribute [local go_sem] fH
theorem E7{W:World}{es:List EV}{ops:Array Oper}{rest:List Oper}{o:Oper}{a:Act}{Q:Exit→Act→World→Prop}(hgd:o.guard=none)(sx y:Operand)(ho:o.op=.call {callee:=.builtin .append,args:= #[sx,y],argTypes:= #[60,60]})
  (h:gV B W sb F mg n s u qs ev es) (x:EV) (hl:es.length≤90000000) (hs:a.eval sx=ev) (hy:a.eval y=aD W.heap.size 1 1)
  (k:∀ea en ec w',gV B w' sb F mg n s u qs (.slice ea en ec) (es++[x])→Below B W w'→wpList prog ops Q rest (a.put o.dst (.slice ea en ec)) w'):wpList prog ops Q (o :: rest) a (W.alloc (.cells #[ae x.kind,ae x.task,ae x.tick,ae x.val] 69 (0,0))):=by
 obtain⟨i0,hi,hz0,hz1,hz2⟩:=info_parts Tryz.PH;have hb:Below W.heap.size W (W.alloc (.cells #[ae x.kind,ae x.task,ae x.tick,ae x.val] 69 (0,0))):=aQ.alloc aH _;have h1:=h.below hb;refine wpList_append_own _ hgd sx y 60 ho B 69 i0 ev0 4 32 underlying60 hi hz0 hz1 hz2 rfl aj ev es.length (es.flatMap EV.cells) hs h1.evs (ai W.heap.size 0) 1 1 [ae x.kind,ae x.task,ae x.tick,ae x.val] hy rfl (za W _ _) (EV.one x) lu ag h1.bs ?_;intro v' w' hr hg _
 have he:lx B w' v' (es++[x]):=by
  show World.ownsRow _ _ _ _ _ _ _
  rw[cF,gJ,kS];exact hr
 obtain⟨ea,ec,rfl,_,_⟩:=bo he;exact k _ _ _ w' (h1.event hg he) ((hb.mono h.bs).trans ((aq.dP hg).toBelow h1.bs (fun b hb e=>by have:=cR h1.evs e.symm;omega)))
theorem Yd(n:Nat):(madeCells #[Value.pointer none] n).toList=List.replicate n (qptr none):=toList_madeCells_one ..
def tE(es:List PE)(code:List Int)(B sb:Nat)(F:Nat→Prop)(mg n wp:Nat)(wr:World)(q:Nat)(ev:Value)(p:PS):Prop:=∃s u qs,gV B wr sb F mg n s u qs ev p.es∧rA es code q p qs s u∧s.wp=wp
theorem tE.below{wp:Nat}{wr wx:World}{q:Nat}(h:tE es code B sb F mg n wp wr q ev p)(hb:Below wr.heap.size wr wx):tE es code B sb F mg n wp wx q ev p:=by
 obtain⟨s,u,qs,a,b,c⟩:=h;exact⟨s,u,qs,a.below hb,b,c⟩
theorem BO(w:World)(k:Nat):Below w.heap.size w (w.drewN k):=⟨rfl,rfl,rfl,aH,fun _ _=>rfl⟩
theorem rA.more{k:Nat}(h:rA es code k p qs s u):rA es code (k+1) p qs s u:=by
 have:=h.outs;have:=h.tk;refine⟨h.len,h.lb,h.vars,h.ins,h.po,ag,ag,fun i hi=>?_,h.idle⟩;obtain⟨q,m,ms,a,b,c,d,e⟩:=h.busy i hi;exact⟨q,m,ms,a,b,c,d.after d.wl.v d.wl.i ag,e⟩
theorem Tryz.YD:(prog.info? 222).map (fun i=>(i.zero,i.size,i.bytes))=some (some (.pointer none),1,8):=aP
section
variable{es:List PE}{code:List Int}{ws:List RW}{l:List TK}
theorem ZY(hk:rH es code ws)(h:(admitT ws l).1=0){i:Nat}(hi:i<l.length):∃(kk p q:Nat) (y:RW),cL ws l[i].word=(kk:Int)∧ws[kk]?=some y∧y.var= -1∧(ma es l)[i]?=some ⟨l[i].word,l[i].bZ,l[i].dl,l[i].off,p⟩∧p<code.length∧dw es code false y.its p q∧code[q]?=some 34:=by
 obtain⟨_,_,_,ha⟩:=yb h;rcases PL hk.tQ hk.toAlike l[i].word with ⟨_,e2⟩|⟨k,p,q,y,e1,e2,e3,e4,e5,e6,e7,e8⟩
 ·have:=(ha l[i] (nS hi)).1;omega
 ·refine⟨k,p,q,y,e1,e2,e3,?_,e6,e7,e8⟩
  unfold ma;rw[iH,bE hi];simp[e4]
end
theorem Sq{w:World}{sv:Value}{ws:List RW}{sk:Int}{nn:Nat}{ta ia:Option Addr}{tc inn ic:Nat}{ins:List Int}(l:List TK)(h:Int)(iD:cG w sb sv ws nn sk)(fR:ws.length≤1100000)(hnn:nn≤1000)
  (hTA:fM F w ws) (hFw:∀k,F k→k<w.heap.size) (bj:wA ws) (hk:rH es code ws) (hcl:code.length≤1000000) (hn:n=l.length) (ir:n≤tc) (hnb:n≤1100000) (hc:n=0∨∃pb po,ta=some (ai pb po)∧oq w pb po l)
  (hj:cN B w (.slice ia inn ic) ins) (hB:B≤w.heap.size) (hil:ins.length≤1100000):
  Calls prog 103 #[ax sb,.slice ta n tc,.slice ia inn ic,ae h] w (tT w es code ws nn l ins h):=by
 have iI:=af (YW hj hB hil);have HAD:=af (ref_admit l ta n tc w iD fR hk.toAlike hn ir hnb hc);have hin:=TQ hj;have HSY:=af iD;have HTA:=af hTA;have HFW:=af hFw;have eP:=af bj;have HK:=af hk;have HN:=af hn;have HC:=af hc;have HJ:=af (hj.mono hB);have HIL:=af hil;have cA:=af hin;clear iD hTA hFw bj hk hn hc hj hin hil;obtain⟨A,hA⟩:=ak (mR ins);rw[←hA]at iI;have lC:=af hA;clear hA;go_enter func103,ntmps103;go_wp2_with fail;refine iI.mono ?_;rintro e w' ⟨rfl,rfl⟩;clear iI;have HEB:Hid (¬(A=true∧0≤h∧h≤100000)→iu ws l ins h=(1,0)):=af fun e=>by unfold iu;rw[az (fun ⟨a,b,c⟩=>e ⟨lC.trans c,a,b⟩)]
 cases A
 ·have HE:Hid (iu ws l ins h=(1,0)):=af (HEB aF)
  exact Iy
 by_cases h0:h<0
 ·have HE:Hid (iu ws l ins h=(1,0)):=af (HEB ag)
  exact Iy
 by_cases h1:100000<h
 ·have HE:Hid (iu ws l ins h=(1,0)):=af (HEB ag)
  exact Iy
 have o8:Hid (iu ws l ins h=admitT ws l):=af Ov;clear HEB;go_wp2_with fail;refine HAD.mono ?_;rintro e w2 ⟨⟨pa,pn,pc,rfl,mM,bj⟩,hb2⟩;obtain⟨E,hE⟩:=ak ((admitT ws l).1);obtain⟨K,hK⟩:=ak ((admitT ws l).2);rw[←hE]at mM bj;rw[←hE,←hK]
 by_cases hE0:E=0
 case neg=>
  have hx:(E != 0)=true:=by simpa using hE0
  have HE:Hid (iu ws l ins h=(E,K)):=af (by rw[o8.out,hE,hK]);have aW:=af hb2;have HE0:=af hE0;clear mM bj hE hK hb2 hE0 HAD HJ HSY HTA HFW eP HK HN HC;go_wp2_with fail;exact bodyPost_ret (v:=.tuple #[aI,ae E,ae K]) Gr rfl (tT.err HE HE0 rfl aW)
 case pos=>
  subst hE0;obtain⟨d1,d2,d3,d4⟩:=yb hE.symm;have hK0:K=0:=by rw[hK];exact d3
  subst hK0;have hnl:=HN.out;have eF:0<n:=ag;have hn8:n≤8:=ag
  obtain⟨pb,po,rfl,hts⟩:∃pb po,ta=some (ai pb po)∧oq w' pb po l:=by
   rcases HC.out with hc|g
   ·omega
   ·exact g
  have kT:Hid (iu ws l ins h=(0,0)):=af (by rw[o8.out];exact Prod.ext hE.symm d3);have kR:=af hts;have HE:=af hE.symm;have aW:=af hb2;have iK:=af d4;have s1:=HSY.blk.cell 1 _ rfl;simp only[List.getElem_toArray,List.getElem_cons_succ,List.getElem_cons_zero]at s1;have hsl:=HSY.blk.lt;have s1U:w2.cell? (ai sb 1)=some (ae nn):=(hb2.cell (p:=ai sb 1) hsl).trans s1;have V4:sb<w2.heap.size:=bF hsl hb2.size;have HSV:Hid (∀k,sv.ownBlock=some k→k<w'.heap.size):=af (fun k hk=>cJ HSY.row hk);have hmk:=Hv (P:=prog) 24 3 (ae 0) #[ae 0] 1 8 rfl underlying24 Tryz.vo nn ag ag;have Ur:=Hv (P:=prog) 231 222 (.pointer none) #[.pointer none] 1 8 rfl underlying231 Tryz.YD n ag ag;obtain⟨vg,hvg⟩:=ak (w2.heap.size);obtain⟨X,hX⟩:=ak (w2.alloc (.cells (madeCells #[ae 0] nn) 3 (0,0)):World);obtain⟨wp,sH⟩:=ak (vg+1);obtain⟨Y,hY⟩:=ak (X.alloc (.cells #[aD vg nn nn,.slice ia inn ic,ae 0,aI] 221 (0,0)):World);obtain⟨mg,hmg⟩:=ak (wp+1);obtain⟨Z,hZ⟩:=ak (Y.alloc (.cells (madeCells #[.pointer none] n) 222 (0,0)):World);have hXs:X.heap.size=vg+1:=by rw[hX,hvg];simp
  have hYs:Y.heap.size=wp+1:=by rw[hY,sH];simp[hXs]
  have HVG:=af hvg;have HX:=af hX;have HWP:=af sH;have HY:=af hY;have HMG:=af hmg;have HZ:=af hZ;have HXS:=af hXs;have rD:=af hYs;clear mM bj hE hK hb2 d1 d2 d3 d4 hts hvg hX sH hY hmg hZ hXs hYs hnl HAD HC;go_upto_region 9 with fail
  rw[←HX.out,←HVG.out,←HY.out,←HWP.out,←HZ.out,←HMG.out];have hnl:=HN.out;have QU:wp=X.heap.size:=by rw[HWP.out,HXS.out]
  have Ot:mg=Y.heap.size:=by rw[HMG.out,rD.out]
  have hw2:=aW.size;have hbX:Below w2.heap.size w2 X:=by rw[HX.out];exact aQ.alloc aH _
  have ki:X.ownsRow w'.heap.size 3 1 (aD vg nn nn) nn (madeCells #[ae 0] nn).toList:=by
   rw[HX.out,HVG.out];exact World.ownsRow_lit w2 _ nn hw2 lu Fp
  have dV:Below w2.heap.size w2 Y:=by rw[HY.out];exact hbX.alloc hbX.size _
  have eW:ay Y wp #[aD vg nn nn,.slice ia inn ic,ae 0,aI] 221:=by rw[HY.out,QU];exact bJ X _ _
  have mY:Below w2.heap.size w2 Z:=by rw[HZ.out];exact dV.alloc dV.size _
  have nG:ay Z wp #[aD vg nn nn,.slice ia inn ic,ae 0,aI] 221:=by rw[HZ.out];exact eW.alloc _
  have hrZ:bX w'.heap.size Z (aD vg nn nn) (List.replicate nn 0):=by
   have h:=(ki.alloc (.cells #[aD vg nn nn,.slice ia inn ic,ae 0,aI] 221 (0,0)));rw[←HY.out]at h;have h:=h.alloc (.cells (madeCells #[.pointer none] n) 222 (0,0));rw[←HZ.out]at h;have e:=Q5 nn;rw[Nat.mul_one]at e;rw[e]at h;unfold bX;rw[List.length_replicate];exact h
  have hmr:Z.ownsRow w'.heap.size 222 1 (aD mg n n) n ((List.replicate n (none:Option (DQ×DM))).map qptr):=by
   have h:=World.ownsRow_lit Y (e:=222) (size:=1) (madeCells #[.pointer none] n) n (base:=w'.heap.size) (by have:=dV.size;omega) lu Fp;rw[←HZ.out,←Ot]at h
   have e:(madeCells #[Value.pointer none] n).toList=(List.replicate n (none:Option (DQ×DM))).map qptr:=by
    rw[List.map_replicate];exact Yd n
   rw[e]at h;exact h
  have ct:Below w'.heap.size w' Z:=aW.trans (mY.mono hw2);have hvg:=HVG.out;have hin:=cA.out
  have hDs:gV w'.heap.size Z sb F mg n ⟨wp,aD vg nn nn,.slice ia inn ic,aI,ins,0⟩ ⟨List.replicate nn 0,[],ins⟩ (List.replicate n none) aI []:=by
   have hno:∀{i:Nat} {q:DQ} {m:DM},¬(List.replicate n (none:Option (DQ×DM)))[i]?=some (some (q,m)):=fun {i q m} e=>by
    rw[xB]at e
    split at e
    ·cases fy e
    ·cases e
   refine⟨List.length_replicate,hmr,fun i q m hi=>absurd hi hno,⟨nG,hrZ,qQ _ _ _ _,HJ.below ct,rfl,fun k _ e=>by simp[Value.ownBlock]at e,by simp only;have:=HWP.out;omega,aF,by have:=HIL.out;simp only;omega,by simpa using hnn,aF⟩,fun i q m hi=>absurd hi hno,fun i j q m q' m' _ hi=>absurd hi hno,qQ _ _ _ _,HFW,ct.size⟩
  obtain⟨H,rfl⟩:∃H:Nat,h=H:=⟨h.toNat,ag⟩;obtain⟨ts,hts⟩:=ak (ma es l);obtain⟨ls,hls⟩:=ak (dt ws l);obtain⟨p0,hp0⟩:=ak (rF es nn l ins)
  have hDr:rA es code 0 p0 (List.replicate n none) ⟨wp,aD vg nn nn,.slice ia inn ic,aI,ins,0⟩ ⟨List.replicate nn 0,[],ins⟩:=by
   rw[hp0];refine⟨by simp[rF,ma,hnl],by simp[rF,ma],rfl,rfl,rfl,aH,aH,fun i hi=>?_,fun i q m _ hi=>?_⟩
   ·exfalso
    simp only[rF,lM,xB]at hi
    split at hi<;>simp at hi
   ·exfalso
    rw[xB]at hi
    split at hi
    ·cases fy hi
    ·cases hi
  obtain⟨t1,t2⟩:=I9 HK HE
  have hI:∀k,eQ es code n nn k (10*k) (gz code ts (fF ls) n k p0):=fun k=>by
   rw[hts,hp0,hnl];exact eQ.sim HK.tQ HK.toAlike (fun t ht=>(t2 t ht).1) (by rw[←hnl];exact hn8) (Eu lC.symm) k
  have hes0:p0.es=[]:=by rw[hp0];rfl
  have PU:Hid (tE es code w'.heap.size sb F mg n wp Z 0 aI (gz code ts (fF ls) n 0 p0)):=af ⟨_,_,_,by show gV _ _ _ _ _ _ _ _ _ _ p0.es;rw[hes0];exact hDs,hDr,rfl⟩;have u6:Hid (Bi es code ws nn l ins H=gz code ts (fF ls) n H p0):=af (by rw[hts,hls,hp0,hnl];rfl)
  have abG:Hid (∀i,i<n→∃(kk p q:Nat) (y:RW) (t:TK),l[i]?=some t∧cL ws t.word=(kk:Int)∧ws[kk]?=some y∧y.var= -1∧ts[i]?=some ⟨t.word,t.bZ,t.dl,t.off,p⟩∧p<code.length∧dw es code false y.its p q∧code[q]?=some 34∧t.Fits):=af fun i hi=>by
   have hil:i<l.length:=ag;obtain⟨kk,p,q,y,a1,a2,a3,a4,a5⟩:=ZY HK HE hil;exact⟨kk,p,q,y,l[i],bE hil,a1,a2,a3,by rw[hts];exact a4,a5.1,a5.2.1,a5.2.2,(iK l[i] (nS hil)).2⟩
  have wE:ls.length=n:=by rw[hls,hnl];unfold dt;simp
  have hgo:∀i j,i<n→j<n→xh l i j=eB ls i j:=fun i j a b=>by rw[hls];exact IX ws l i j ag ag
  have HI:=af hI;have bu:=af ct;have oH:=af wE;have HGO:=af hgo;have iE:=af hnl;have Fg:=af (show ∀t∈ts,TOk es code t from fun t ht=>(t2 t (by rw[←hts];exact ht)).1);have mG:wp<Z.heap.size:=nG.lt;clear QU Ot hw2 hbX ki dV eW mY nG hrZ hmr ct hvg hin hDs hDr hI hts hls hp0 hes0 wE hgo t1 t2 hnl hmk Ur s1 s1U V4 HX HY HZ HVG HWP HMG HXS rD iK HE HJ;go_wp2_with fail;go_loopw[17,18] (fun ov tv wr=>∃(q:Nat) (ea:Option Addr) (en ec:Nat),q≤H∧ov=.slice ea en ec∧tv=ae q∧Hid (tE es code w'.heap.size sb F mg n wp wr q (.slice ea en ec) (gz code ts (fF ls) n q p0))∧Hid (Below w'.heap.size w' wr)) (fun _ tv _=>H - (intOf tv).toNat)
  case atStart=>exact⟨0,none,0,0,bU _,rfl,rfl,PU,bu⟩
  case round=>
   clear PU bu;obtain⟨q,ea,en,ec,hq,rfl,rfl,HS,HB⟩:=hrel
   by_cases hlt:q<H
   ·have jf:(q:Int)<(H:Int):=by omega
    obtain⟨P1,hP1⟩:=ak (relP ts q n 0 (gz code ts (fF ls) n q p0));have HIR:Hid (eQ es code n nn q (10*q+n) P1):=af (by rw[hP1];exact(HI q).rel Fg (q:Int) n 0 _ _);have dQ:Hid (gz code ts (fF ls) n (q+1) p0=turnP code (fF ls) n q P1):=af (by rw[hP1];rfl);have HP0:Hid (relP ts q (n - 0) 0 (gz code ts (fF ls) n q p0)=P1∧(gz code ts (fF ls) n q p0).es.length≤10*q+0∧(gz code ts (fF ls) n q p0).ms.length=n∧(gz code ts (fF ls) n q p0).u=(gz code ts (fF ls) n q p0).u):=af ⟨hP1.symm,(HI q).le,(HI q).l1,rfl⟩;clear hP1;go_wp2_with fail;go_loopw[17,19] (fun ov iv wr=>∃(i:Nat) (ea:Option Addr) (en ec:Nat) (pc:PS),i≤n∧ov=.slice ea en ec∧iv=ae i∧Hid (tE es code w'.heap.size sb F mg n wp wr q (.slice ea en ec) pc)∧Hid (relP ts q (n - i) i pc=P1∧pc.es.length≤10*q+i∧pc.ms.length=n∧pc.u=(gz code ts (fF ls) n q p0).u)∧Hid (Below w'.heap.size w' wr)) (fun _ iv _=>n - (intOf iv).toNat)
    case atStart=>exact⟨0,ea,en,ec,_,bU _,rfl,rfl,HS,⟨HP0.out.1,HP0.out.2.1,HP0.out.2.2.1,rfl⟩,HB⟩
    case round=>
     clear HS HB HP0;obtain⟨i,ea,en,ec,pc,hi,rfl,rfl,HS,HR,HB⟩:=hrel
     by_cases Cx:i<n
     ·have hii:(i:Int)<(n:Int):=by omega
      obtain⟨kk,p,qq,y,t,b1,b2,b3,b4,b5,b6,b7,b8,f1,f2,f3,f4,f5,f6⟩:=abG.out i Cx;have hil:i<l.length:=qf;have Fi:l[i]=t:=(cI.1 b1).2;have Ul:=kR.out.1;have hTs:=kR.below HB Ul;obtain⟨c0,c1,c2,c3⟩:=hTs.cells i hil;rw[Fi]at c0 c1 c3;have Md:pb<wr.heap.size:=hTs.1;have hr1:=HR.out.1;rw[show n - i=(n - (i+1))+1 by omega,relP,b5]at hr1;simp only at hr1;have hes:=HR.out.2.1;have hml:=HR.out.2.2.1;have hpu:=HR.out.2.2.2;have kj:=af hr1;have HPU:=af hpu;obtain⟨tw,tp,td,tf⟩:=t;simp only at c0 c1 c3 f1 f2 f5 f6 b2
      have UL:(q:Int)<tf∨(tf≤(q:Int)∧∃r,((q:Int) - tf) % tp=r∧0≤r∧r<tp∧r≠0)∨(tf≤(q:Int)∧((q:Int) - tf) % tp=0):=by
       rcases Int.lt_or_le (q:Int) tf with g|g
       ·exact aC g
       ·by_cases e:((q:Int) - tf) % tp=0
        ·exact aA (aA ⟨g,e⟩)
        ·exact aA (aC ⟨g,_,rfl,Int.emod_nonneg _ ag,Eb _ ag,e⟩)
      have HB4:=af (aY b2 (aY b3 (aY b4 (aY b6 (aY b7 b8)))));clear hTs b1 b2 b3 b4 b5 b6 b7 b8 hr1 Fi f3 f4 c2;rcases UL with g|⟨g,r,hr,r0,r1,r2⟩|⟨g,hr⟩
      ·have hd:decide (tf≤(q:Int))=false:=gO ag
       have eZ:Hid (relP ts q (n - (i+1)) (i+1) pc=P1∧pc.es.length≤10*q+(i+1)∧pc.ms.length=n∧pc.u=(gz code ts (fF ls) n q p0).u):=af ⟨by have:=kj.out;unfold tM vC at this;simpa [hd]using this,ag,hml,hpu⟩;go_upto_region 16 with fail
       exact LU
      ·have hd:decide (tf≤(q:Int))=true:=jW ag
       have hm:((q:Int) - tf).tmod tp=r:=Ml;have hrb:(r == 0)=false:=by simpa using r2
       have eZ:Hid (relP ts q (n - (i+1)) (i+1) pc=P1∧pc.es.length≤10*q+(i+1)∧pc.ms.length=n∧pc.u=(gz code ts (fF ls) n q p0).u):=af ⟨by have:=kj.out;unfold tM vC at this;simpa [hd,hr,hrb]using this,ag,hml,hpu⟩;clear hr r2;go_upto_region 16 with fail
       exact LU
      ·have hd:decide (tf≤(q:Int))=true:=jW ag
       have hm:((q:Int) - tf).tmod tp=0:=Ml;have eZ:Hid (relP ts q (n - (i+1)) (i+1) ⟨pc.ms.set i (jR p),pc.bs.set i true,pc.u,pc.es++[⟨1,i,q,0⟩]⟩=P1∧(pc.es++[(⟨1,i,q,0⟩:EV)]).length≤10*q+(i+1)∧(pc.ms.set i (jR p)).length=n∧pc.u=(gz code ts (fF ls) n q p0).u):=af ⟨by have:=kj.out;unfold tM vC at this;simpa [hd,hr]using this,PC,by rw[km];exact hml,hpu⟩;clear hr hpu;go_upto_region 16 with fail
       go_quiet (fail)
       have fe:=BO wr nq;obtain⟨V,hV⟩:=ak (wr.drewN nq:World);rw[←hV]at fe ⊢;have oC:=HB.trans (fe.mono HB.size);have v0:V.cell? (ai pb (po+i*4))=some (.string tw):=(fe.cell (p:=ai pb (po+i*4)) Md).trans c0;have aea:pb<V.heap.size:=bF Md fe.size;have Hr:=HSY.FL ⟨hsl,HSV⟩ oC;have hFI:=Ei tw V Hr fR;rw[HB4.out.1]at hFI;obtain⟨va,vn,vc,qy⟩:=(eP y (mF HB4.out.2.1)).2;have qR:=af (Zt (B:=V.heap.size) (ta:=none) (tn:=0) (tc:=0) (st:=[]) Hr fR HB4.out.2.1 qy (aC ⟨rfl,none,0,rfl⟩) (fun _=>rfl) aH aF);have iM:=af hFI;have NG:=af (HS.below fe);have cS:=af oC;have HYI:=af qy;clear hV fe oC Hr qy hFI c0 c1 c3 hm hd HS HB;go_wp2_with fail;refine iM.mono ?_;rintro e V2 ⟨rfl,rfl⟩;clear iM;go_wp2_with fail;refine qR.mono ?_;rintro e w5 ⟨mb,fv,ta',tn',tc',rfl,hmb,hk5,hf5,ht5,hb5⟩;obtain⟨s,u,qs,hD,hRl,tH⟩:=NG.out;obtain⟨_,b3,b4,b6,b7,b8⟩:=HB4.out;have cZ:Below w'.heap.size w' w5:=cS.trans (hb5.mono cS.size)
       have oV:fk F w5 (.slice va vn vc) y.its:=by
        have:=HTA.out y (mF b3) ag;rw[HYI.out]at this;exact this.below HFW cZ
       have hD5:=hD.release (i:=i) Cx hb5 hk5 hmb hf5 ht5 (fun p hp=>by rw[p6.1 hp];exact oV) aF;have hcu:(∀a∈u.vars,Cell a)∧∀a∈u.ins,Cell a:=by rw[hRl.vars,hRl.ins,HPU.out];exact⟨(HI q).vc,(HI q).ic⟩
       have Q2:oT es code q ([(Value.slice va vn vc,(⟨y.its,0,3,0,0⟩:Fr))].map Prod.snd) (jR p) u:=⟨⟨false,.last _ p qq ⟨rfl,b7.most ag⟩ (by simpa using b7) b8⟩,⟨(fun a ha=>by cases ha),hcu.1,hcu.2,bU _⟩,bU _,bU _,hRl.outs,aF⟩;have hR5:=hRl.release (q:=⟨mb,fv,.slice ta' tn' tc'⟩) (x:=⟨1,i,q,0⟩) (by rw[hml];exact Cx) Q2;have Ab:=(hD.below hb5).row;obtain⟨g',cap',hv',_,_,_,_,hcc⟩:=cd Ab eF;obtain⟨rfl, -⟩:mg=g'∧n=cap':=vA;obtain⟨x0,hx0⟩:∃x,(qs.map qptr)[i]?=some x:=⟨_,bE (by rw[List.length_map,hD.ql];exact Cx)⟩;have m0:w5.cell? (ai mg i)=some x0:=hcc i x0 hx0;have fr:=oW Ab i;have Qh:mg<w5.heap.size:=cJ Ab (k:=mg) rfl;have Qt:w'.heap.size≤mg:=cR Ab (k:=mg) rfl;obtain⟨W5,hW5⟩:∃W:World,W=w5.setCell (ai mg i) (ax mb):=⟨_,rfl⟩;rw[←hW5]at hD5;have J1:Below w'.heap.size w' W5:=by rw[hW5];exact cZ.setCell Qt _
       have HW5:=af hW5;have ni:=af hD5;have mz:=af hR5;have LA:=af J1;have HSW:=af tH;clear hW5 hD5 hR5 J1 tH hD hRl b3 b4 b6 b7 b8 cZ oV hcu Q2 Ab hv' hcc hx0 Qt hmb hk5 hf5 ht5 hb5 qR NG cS;go_upto_region 18 with fail
       rw[←HW5.out];clear m0 fr;go_wp2_with (at_builtin;refine E7 rfl _ _ rfl ni ⟨1,i,q,0⟩ ag rfl rfl ?_);intro ea' en' ec' w6 hd6 kL;have HS6:Hid (tE es code w'.heap.size sb F mg n wp w6 q (.slice ea' en' ec') ⟨pc.ms.set i (jR p),pc.bs.set i true,pc.u,pc.es++[⟨1,i,q,0⟩]⟩):=af ⟨_,_,_,hd6,mz,HSW⟩;have gD:=af (LA.trans kL);clear hd6 kL ni mz LA HW5;go_wp2_with fail;go_roundw
       case rel=>exact⟨i+1,ea',en',ec',_,ag,rfl,bO,HS6,eZ,gD⟩
       case measure=>simp[intOf];omega
     ·obtain rfl:n=i:=by omega
      have hii:¬(n:Int)<(n:Int):=ag;obtain rfl:P1=pc:=by have:=HR.out.1;rw[Nat.sub_self,relP]at this;exact this.symm
      have qo:Hid (oX ls P1.bs 0 (-1)):=af (aC ⟨rfl,fun j hj=>ag⟩);go_wp2_with fail;go_loopw[20,21] (fun kv jv wr=>∃(j:Nat) (c:Int),j≤n∧kv=ae c∧jv=ae j∧(-1≤c∧c<n)∧Hid (oX ls P1.bs j c)∧Hid (tE es code w'.heap.size sb F mg n wp wr q (.slice ea en ec) P1)∧Hid (Below w'.heap.size w' wr)) (fun _ jv _=>n - (intOf jv).toNat)
      case atStart=>exact⟨0, -1,bU _,rfl,rfl,⟨ag,ag⟩,qo,HS,HB⟩
      case round=>
       clear qo HS HB;obtain⟨j,c,hj,rfl,rfl,⟨hc1,hc2⟩,qo,HS,HB⟩:=hrel;obtain⟨s,u,qs,hD,hRl,tH⟩:=HS.out
       by_cases J5:j<n
       ·have hji:(j:Int)<(n:Int):=by omega
        obtain⟨g',cap',hv',_,Qh,_,_,hcc⟩:=cd hD.row eF;obtain⟨rfl, -⟩:mg=g'∧n=cap':=vA;have hjq:j<qs.length:=by rw[hD.ql];exact J5
        have m0:wr.cell? (ai mg j)=some (qptr qs[j]):=hcc j _ (by rw[iH,bE hjq];rfl);clear hv' hcc
        cases hb:P1.bs.getD j false with
        |true=>
         obtain⟨qj,mj,msj,a1,a2,a3,a4,a5⟩:=hRl.busy j hb;have hqj:qs[j]=some (qj,mj):=(cI.1 a1).2;rw[hqj]at m0;simp only[qptr]at m0;have hqm:=(hD.mX j qj mj a1).dA;have d3:wr.cell? (ai qj.mb 3)=some (.bool mj.done):=hqm.cell 3 _ rfl;rw[a3]at d3;have Hh:=hqm.lt;obtain⟨mbj,Bu⟩:=ak (qj.mb);rw[←Bu]at m0 d3 Hh;clear hqm Bu a1 a2 a3 a4 a5 hqj hRl hD
         by_cases hc0:c<0
         ·have HPX:=af (qo.take hb (aC ag))
          clear hb;go_wp2_with fail;go_roundw
          case rel=>exact⟨j+1,j,ag,rfl,bO,⟨ag,ag⟩,HPX,HS,HB⟩
          case measure=>simp[intOf];omega
         ·obtain⟨k,rfl⟩:∃k:Nat,c=k:=⟨c.toNat,ag⟩
          have hkn:k<n:=ag;have hAH:=FZ wr pb po tc l j k (kR.below HB kR.out.1) qf qf qf qf;rw[←iE.out,HGO.out j k J5 hkn]at hAH;have qU:=af hAH;have HBJ:=af hb;clear hAH hb;go_wp2_with fail;refine qU.mono ?_;rintro e w7 ⟨rfl,iU⟩;have HS7:=af (HS.below iU);have mO:=af (HB.trans (iU.mono HB.size));clear iU qU
          cases hg:eB ls j k with
          |true=>
           have HPX:=af (qo.take HBJ (aA ⟨k,rfl,hg⟩));clear hg;go_wp2_with fail;go_roundw
           case rel=>exact⟨j+1,j,ag,rfl,bO,⟨ag,ag⟩,HPX,HS7,mO⟩
           case measure=>simp[intOf];omega
          |false=>
           have HPX:=af (qo.keep hg);clear hg;go_wp2_with fail;go_roundw
           case rel=>exact⟨j+1,k,ag,rfl,bO,⟨ag,ag⟩,HPX,HS7,mO⟩
           case measure=>simp[intOf];omega
        |false=>
         have HPX:=af (qo.skip hb)
         cases hqj:qs[j]with
         |none=>
          rw[hqj]at m0;simp only[qptr]at m0;clear hb hqj hRl hD;go_wp2_with fail;exact OS
         |some pq=>
          obtain⟨qj,mj⟩:=pq;have a1:qs[j]?=some (some (qj,mj)):=by rw[bE hjq,hqj]
          have a3:=hRl.idle j qj mj hb a1;rw[hqj]at m0;simp only[qptr]at m0;have hqm:=(hD.mX j qj mj a1).dA;have d3:wr.cell? (ai qj.mb 3)=some (.bool mj.done):=hqm.cell 3 _ rfl;rw[a3]at d3;have Hh:=hqm.lt;obtain⟨mbj,Bu⟩:=ak (qj.mb);rw[←Bu]at m0 d3 Hh;clear hqm Bu a1 a3 hb hqj hRl hD;go_wp2_with fail;exact OS
       ·obtain rfl:n=j:=by omega
        have hji:¬(n:Int)<(n:Int):=ag;have hfin:=oX.fin (ls:=ls) (bs:=P1.bs) (c:=c) (by rw[oH.out];exact qo);rw[oH.out]at hfin
        cases ht:turnOf (fF ls) P1.bs n 0 with
        |none=>
         rw[ht]at hfin;simp only at hfin;subst hfin;have jq:Hid (tE es code w'.heap.size sb F mg n wp wr (q+1) (.slice ea en ec) (gz code ts (fF ls) n (q+1) p0)):=af ⟨s,u,qs,by rw[dQ.out];unfold turnP;rw[ht];exact hD,by rw[dQ.out];unfold turnP;rw[ht];exact hRl.more,tH⟩;clear ht hD hRl tH;go_wp2_with fail;go_roundw
         case rel=>exact⟨q+1,ea,en,ec,ag,rfl,bO,jq,HB⟩
         case measure=>simp[intOf];omega
        |some t=>
         rw[ht]at hfin;simp only at hfin;subst hfin;obtain⟨t1,t2,_⟩:=J7 (ls:=ls) (bs:=P1.bs) (i:=t) (by rw[oH.out];exact ht);rw[oH.out]at t1;obtain⟨qt,mt,mst,a1,a2,a3,a4,a5⟩:=hRl.busy t t2;obtain⟨g',cap',hv',_,Qh,_,_,hcc⟩:=cd hD.row eF;obtain⟨rfl, -⟩:mg=g'∧n=cap':=vA;have m0:wr.cell? (ai mg t)=some (ax qt.mb):=hcc t _ (by rw[iH,a1];rfl);obtain⟨oa,oc,hov,_,_⟩:=bo hD.sat.cY
         have w3:wr.cell? (ai wp 3)=some (.slice oa u.outs.length oc):=by
          have:=hD.sat.bK.cell 3 _ rfl;rw[tH]at this;rw[this];exact congrArg some hov
         have hwl:wp<wr.heap.size:=by have:=hD.sat.bK.lt;rw[tH]at this;exact this
         obtain⟨dd,hrel⟩:=a4.rel;have ho1:=hRl.outs;have htk:=hRl.tk;have hl4:=a4.l4;rw[List.length_map]at hl4;have hst:=ref_step (hD.dat a1) (HSY.FL ⟨hsl,HSV⟩ HB) ⟨hsl,HSV⟩ fR (HTA.mono (fun k cs hk _=>⟨hk,HB.block k (HFW k hk)⟩)) eP HK.tQ HK.toAlike hcl hrel (by rw[a5];exact a4.wl) (by show s.tk+1≤_;omega) ag ag;have hst:Calls prog 133 #[ax qt.mb,ax wp] wr (vB w'.heap.size wr sb F (qt.dx s) mt (dStep ws (mt.fs.map Prod.snd) mt.au u)):=by rw[←tH];exact hst
         obtain⟨mbt,Hl⟩:=ak (qt.mb);rw[←Hl]at m0 hst;obtain⟨on,hon⟩:=ak (u.outs.length);rw[←hon]at w3;have HST:=af hst;have eO:=af hD;have HRL:=af hRl;have HA:=af (aY a1 (aY a2 (aY a3 (aY a4 a5))));have jH:=af Hl;have fB:=af hon;have HSW:=af tH;have dv:=af t2;have HTT:=af ht;have hti:(t:Int)<(n:Int):=ag;have adH:on≤1000000:=ag;clear hst hD hRl a1 a2 a3 a4 a5 Hl hon tH t2 ht hv' hcc hov hrel ho1 htk hl4;go_wp2_with fail;refine HST.mono ?_;rintro e w7 ⟨rfl,tt,m2,u2,htt,⟨z,hz⟩,hAf⟩;obtain⟨a1,a2,a3,a4,a5⟩:=HA.out;obtain⟨hD7,hzm,hzw⟩:=eO.step a1 hz;obtain⟨hR7,g1,g2,g3,g4⟩:=HRL.turn HK.tQ HK.toAlike dv a1 a2 a4 a5 a3 htt hz.tk (q:Int) hAf;obtain⟨r,hr⟩:=ak (cK code mst P1.u);rw[←hr]at g1 g2 g3 g4;have hNX:gz code ts (fF ls) n (q+1) p0=turnQ code t q P1:=by rw[dQ.out];unfold turnP;rw[HTT.out]
         have hTe:(turnQ code t q P1).es=P1.es++puts t q r.2.2.outs++(if r.1≠4 then [⟨2,t,q,r.1⟩]else []):=by unfold turnQ;rw[a2,hr]
         have hB7:Below w'.heap.size w' w7:=HB.trans ((eO.dat a1).toBelow hz.aB (fun _ e=>e));obtain⟨oa7,oc7,Jj,_,_⟩:=bo hD7.sat.cY
         have w73:w7.cell? (ai wp 3)=some (.slice oa7 u2.outs.length oc7):=by
          have:=hD7.sat.bK.cell 3 _ rfl;rw[show z.s.wp=wp from hzw.trans HSW.out]at this;rw[this];exact congrArg some Jj
         have aej:wp<w7.heap.size:=by have:=hD7.sat.bK.lt;rw[show z.s.wp=wp from hzw.trans HSW.out]at this;exact this
         have a17:(qs.set t (some (z.q,m2)))[t]?=some (some (z.q,m2)):=eL (cI.1 a1).1;obtain⟨r1,rm,rv,ro,ri⟩:=r;simp only at g1 g2 g3 g4 hTe;have iM:Hid (∀wx ev,gV w'.heap.size wx sb F mg n z.s u2 (qs.set t (some (z.q,m2))) ev (P1.es++puts t q ro++(if r1≠4 then [⟨2,t,q,r1⟩]else []))→tE es code w'.heap.size sb F mg n wp wx (q+1) ev (gz code ts (fF ls) n (q+1) p0)):=af (fun wx ev h=>⟨z.s,u2,_,by rw[hNX,hTe];exact h,by rw[hNX];exact hR7,hzw.trans HSW⟩)
         have rR:Hid (∀wx ev E,gV w'.heap.size wx sb F mg n z.s u2 (qs.set t (some (z.q,m2))) ev E→mg<wx.heap.size∧mbt<wx.heap.size∧wx.cell? (ai mg t)=some (ax mbt)∧wx.cell? (ai mbt 3)=some (.bool m2.done)∧wx.cell? (ai mbt 4)=some (ae m2.ed)):=af (fun wx ev E h=>by
          obtain⟨g7,Ve,hv7,_,Yi,_,_,WQ⟩:=cd h.row eF;obtain⟨rfl, -⟩:mg=g7∧n=Ve:=by simpa using hv7
          have hk:=(h.mX t z.q m2 a17).dA;rw[show z.q.mb=mbt from hzm.trans jH.symm]at hk;exact⟨Yi,hk.lt,WQ t _ (by rw[iH,a17];show some (ax z.mb)=_;rw[hzm,jH.out]),hk.cell 3 _ rfl,hk.cell 4 _ rfl⟩)
         have HD7:=af hD7;have mO:=af hB7;have HOV:=af Jj;have HG1:=af (aY g1 g2);have hpe:=HR.out.2.1
         have hro:ro=[]∨∃cv,ro=[cv]:=by
          match ro,g4 with
          |[],_=>exact aC rfl
          |[cv],_=>exact aA ⟨cv,rfl⟩
         clear hz hAf a1 a2 a3 a4 a5 hD7 hR7 hNX hTe hB7 Jj a17 hzm hzw hr g1 g2 g4 HST eO HRL HA HS m0 w3;rcases hro with rfl|⟨cv,rfl⟩
         case' inl=>
          have hu2:u2.outs.length=on:=by rw[g3,List.append_nil,fB.out]
          rw[hu2]at w73;have XL:¬(on:Int)<(on:Int):=ag;have HD8:Hid (gV w'.heap.size w7 sb F mg n z.s u2 (qs.set t (some (z.q,m2))) (.slice ea en ec) (P1.es++puts t q [])):=af (by simpa [puts]using HD7.out);have lG:Hid ((P1.es++puts t q []).length≤90000000):=af (by simp[puts];omega);have HB8:=mO;clear hu2 g3 HD7 mO;go_upto_region 30 with fail
         case' inr=>
          have hu2:u2.outs.length=on+1:=by rw[g3,cF,fB.out];rfl
          have hcv:u2.outs[on]?=some cv:=by rw[g3,fB.out];simp
          obtain⟨og,Zv,OL,_,adO,_,_,O1⟩:=cd HD7.sat.cY ag;have b0:w7.cell? (ai og on)=some (ae cv):=O1 on _ (by simp[ints,hcv])
          obtain⟨rfl,rfl⟩:oa7=some (ai og 0)∧oc7=Zv:=by
           have:=HOV.symm.trans OL;simpa using this
          rw[hu2]at w73;have XL:(on:Int)<(on:Int)+1:=ag;have X1:P1.es.length≤90000000:=ag;clear hu2 hcv g3 OL O1;go_wp2_with (at_builtin;refine E7 rfl _ _ rfl HD7 ⟨3,t,q,cv⟩ X1 rfl rfl ?_);clear b0 w73;intro ea en ec w8 hd8 hb8;have HD8:Hid (gV w'.heap.size w8 sb F mg n z.s u2 (qs.set t (some (z.q,m2))) (.slice ea en ec) (P1.es++puts t q [cv])):=af hd8;have lG:Hid ((P1.es++puts t q [cv]).length≤90000000):=af (by simp[puts];omega);have HB8:=af (mO.trans hb8);clear hd8 hb8 HD7 mO;go_upto_region 30 with fail
         all_goals
          obtain⟨x1,x2,x3,x4,x5⟩:=rR.out _ _ _ HD8;have J3:=lG
          by_cases h4:r1=4
          ·have hd:m2.done=false:=by rw[HG1.out.1,gO (fun e=>e h4)]
           rw[hd]at x4;have HS8:=af (iM _ _ (by rw[az (fun e=>e h4),List.append_nil];exact HD8));clear hd h4 x5 HD8 lG J3 rR iM;go_wp2_with fail;go_roundw
           case rel=>exact⟨q+1,ea,en,ec,ag,rfl,bO,HS8,HB8⟩
           case measure=>simp[intOf];omega
          ·have hd:m2.done=true:=by rw[HG1.out.1,jW h4]
           rw[hd]at x4;rw[HG1.out.2 h4]at x5;have HF4:=af (fun wx ev h=>iM wx ev (by rw[aG h4];exact h));clear hd h4 rR iM;go_wp2_with (at_builtin;refine E7 rfl _ _ rfl HD8 ⟨2,t,q,r1⟩ lG rfl rfl ?_);intro ea9 en9 ec9 w9 hd9 hb9;have HS9:=af (HF4 _ _ (by rw[vZ];exact hd9));have HB9:=af (HB8.trans hb9);clear hd9 hb9 HD8 HB8 HF4 lG J3 x1 x2 x3 x4 x5;go_wp2_with fail;go_roundw
           case rel=>exact⟨q+1,ea9,en9,ec9,ag,rfl,bO,HS9,HB9⟩
           case measure=>simp[intOf];omega
   ·obtain rfl:q=H:=by omega
    have jf:¬(q:Int)<(q:Int):=ag;obtain⟨s,u,qs,hD,hR,_⟩:=HS.out;have HEV:=af hD.evs;clear hD hR;go_wp2_with fail;refine bodyPost_ret (v:=.tuple #[.slice ea en ec,ae 0,ae 0]) Gr rfl ⟨⟨ea,en,ec,?_,fun e=>?_,fun _=>?_⟩,HB⟩
    ·rw[kT.out];rfl
    ·rw[kT.out]at e;exact absurd rfl e
    ·rw[rL,u6.out];exact HEV
end
end Go.Proofs.YtcphhbofjkenaaaGreatDoor
