import Derived.Test.YtcphhbofjkenaaaGreatDoorMy
import Derived.Test.YtcphhbofjkenaaaGreatDoorM20
import Derived.Test.YtcphhbofjkenaaaGreatDoorM21
namespace Go.Proofs.YtcphhbofjkenaaaGreatDoor
open Go Go.RowKit Proofs.Tryz
set_option linter.unusedVariables false
set_option linter.unusedSimpArgs false
set_option maxRecDepth 100000
set_option maxHeartbeats 16000000
variable{es:List PE}{ws:List RW}{a g I p k base pb po sb:Nat}{b z:PB}{c loops nt tk r hole nv a':Int}{s t:ByteArray}{dc bQ code:List Int}{kn i:Inf}{ar:List Tk}{acc la:List AI}{x:PE}{y:RW}{ls:List (Int×Int)}{w:World}{sv:Value}
theorem N8{p:Prop}(h:p:=by
  go_quiet (fail)
  have hbq:Below X.heap.size X (X.drewN nq):=dz;obtain⟨V,hV⟩:=ak (X.drewN nq:World);rw[←hV]at hbq;rw[←hV];have gQ:=bz.sub hbq bz.lt;have v0:V.cell? (ai lb 0)=some (ae c):=gQ.cell 0 _ rfl;have v1:V.cell? (ai lb 1)=some (ae p):=gQ.cell 1 _ rfl;have iY:=aR eZ (aq.bf (S:=fun _=>False) hbq) (fun _ _=>id);have fe:=bT.trans (hbq.mono bT.size);have lr:=af (iY.alloc (.cells #[ae c,ae p] 128 (0,0)));have cS:=af fe;have jL:=af (qd V #[ae c,ae p] 128);have jF:=af (show w.heap.size≤(V.alloc (.cells #[ae c,ae p] 128 (0,0))).heap.size by have:=fe.size;simp;omega);have fB:=af (aai [(c,p)]);have ud:=af (aY (show m+1≤maxLen by unfold maxLen;omega) (show(m+1)*16≤140737488355328 by omega));have HHS:=af (show(V.alloc (.cells #[ae c,ae p] 128 (0,0))).heap.size=V.heap.size+1 by simp);have ad7:=gQ.lt;clear gQ iY fe hbq hV x0 x1 f1;go_wp2_with (at_builtin;refine wpList_append_lies _ rfl _ _ 125 rfl w.heap.size 128 i0 ldz 2 16 underlying125 HI.out.1 HI.out.2.1 HI.out.2.2.1 HI.out.2.2.2 rfl aj (.slice ua m uc) m ((aheadP ls K k).flatMap gL) rfl lr (ai V.heap.size 0) 1 1 [ae c,ae p] rfl rfl jL fB aj ud.out.1 ud.out.2 jF (V.heap.size+1) HHS ?_);intro g2 bq w2 hr2 hg2 lJ hlt2;have hb2:Below w.heap.size w w2:=(cS.alloc cS.size _).grown hg2 jF (fun b hb=>cR lr hb);have HR2:=af hr2;have aW:=af hb2;clear hr2 hg2 lJ hlt2 hb2;go_wp2_with fail;go_roundw
  case rel=>
   refine⟨k+1,some (ai g2 0),m+1,bq,ag,bO,rfl,af ⟨?_,?_⟩,aW⟩
   ·rw[HST.out,cF,←HM.out];rfl
   ·rw[HST.out,kS];exact HR2
  case measure=>simp[intOf];omega):p:=h
theorem xF{p:Prop}(h:p:=by
  clear hR;unfold TK.val;go_enter func81,ntmps81;go_wp2_with fail;rw[HR.out];go_ret;exact⟨rfl,HB _⟩):p:=h
theorem Px{p:Prop}(h:p:=by
  go_quiet (fail)
  have hbq:Below X.heap.size X (X.drewN nq):=dz;have lr:=af (aR eZ (aq.bf (S:=fun _=>False) hbq) (fun _ _=>id));have cS:=af (bT.trans (hbq.mono bT.size));clear hbq x0 x1 f1;go_wp2_with fail;go_roundw
  case rel=>exact⟨k+1,ua,m,uc,ag,bO,rfl,af ⟨by rw[HST.out,←HM.out],by rw[HST.out];exact lr⟩,cS⟩
  case measure=>simp[intOf];omega):p:=h
theorem B6{p:Prop}(h:p:=by
  go_wp2_with fail
  go_quiet (fail)
  go_wp2_with fail
  rw[HG.out];go_ret;exact⟨rfl,df _⟩):p:=h
theorem QH{p:Prop}(h:p:=by
  have nI:Hid (P=0∧E=10):=⟨Mk,hE⟩;clear hE;go_wp2_with fail;exact bodyPost_ret (v:=.tuple #[ae 0,ae 10]) Dd rfl ⟨BZ nI.out.1.symm nI.out.2.symm,aW⟩):p:=h
theorem Fk{p:Prop}(h:p:=by
  have HE:=af hE;clear hE l8;go_wp2_with fail;rw[HE.out];go_ret;exact⟨rfl,cx⟩):p:=h
theorem N0{p:Prop}(h:p:=by
  rw[az hj]
  by_cases hk:eB ls n k=true
  ·rw[aG hk,cF];omega
  ·rw[az hk];exact ih):p:=h
theorem QN{p:Prop}(h:p:=by
  split at h
  ·rename_i r hr;cases h;exact ih _ _ _ _ _ hr
  ·split at h
   ·exact ih _ _ _ _ _ h
   ·cases h;simp):p:=h
section
structure Alike (es:List PE) (ws:List RW):Prop where
 names:es.map PE.name=ws.map RW.name
 use:∀(k:Nat) (x:PE) (y:RW),es[k]?=some x→ws[k]?=some y→(x.var=true→y.var=x.place∧0≤y.var)∧(x.var=false→y.var= -1∧x.inf=y.inf∧y.inf.Nn∧1≤y.inf.steps∧y.inf.steps≤1000000000)
theorem Alike.len(h:Alike es ws):es.length=ws.length:=by
 have:=congrArg List.length h.names;simpa using this
structure BR (b:PB) (l:List AI) (loops:Int):Prop where
 does:b.does=bS l
 nn:(bS l).Nn
 rE:b.iN=decide (0<loops)
 num:od b l
structure Same (b b':PB):Prop where
 op:b'.opener=b.opener
 rE:b'.iN=b.iN
 hole:b'.hole=b.hole
 times:b'.times=b.times
 other:b'.other=b.other
theorem Same.refl(b:PB):Same b b:=⟨rfl,rfl,rfl,rfl,rfl⟩
theorem Same.trans{a c:PB}(h:Same a b)(h':Same b c):Same a c:=⟨h'.op.trans h.op,h'.rE.trans h.rE,h'.hole.trans h.hole,h'.times.trans h.times,h'.other.trans h.other⟩
theorem Same.add(b:PB)(i:Inf):Same b (b.add i):=⟨rfl,rfl,rfl,rfl,rfl⟩
def vy(o:Int):List ByteArray:=if o=29 then [jm,eC]else if o=30 then [eC]else if o=31 then [jV]else [iw]
def Opn(b:PB):Prop:=b.opener=29∨b.opener=30∨b.opener=31∨b.opener=34
theorem Opn.none(h:Opn b):ck ⟨#[]⟩ (vy b.opener)=false:=by
 rcases h with h|h|h|h<;>rw[h]
 ·exact BF
 ·exact Cq
 ·exact CR
 ·exact PZ
theorem BR.snoc{l:List AI}(h:BR b l loops)(i:Inf)(t:IT)(hi:i.Nn):BR (b.add i) (l++[⟨none,i,t⟩]) loops:=
 ⟨by rw[tD];simp[PB.add,h.does],by rw[tD];exact h.nn.then hi,h.rE,od.none rfl⟩
theorem zO{r:List PB}{E:Int}(h:(stepP es nt (tk+1) dc (b :: r) kn (nx s a).1).1=E)(hE:E≠0):defP es nt s (g+1) tk dc (b :: r) kn a=.inr (E,((nx s a).2.1:Int)):=by
 rw[defP,h,az hE]
theorem uW{eh:List Int}{r st':List PB}{lR:Inf}(h:stepP es nt (tk+1) dc (b :: r) kn (nx s a).1=(0,eh,st',lR)):defP es nt s (g+1) tk dc (b :: r) kn a=defP es nt s g (tk+1) eh st' lR (nx s a).2.2:=by
 rw[defP,h];simp
theorem JJ(t:ByteArray):ck t gw=true↔(t.toList=[]∨t.toList=[101,108,115,101]∨t.toList=[116,104,101,110]∨t.toList=[108,111,111,112]∨t.toList=[59]∨t.toList=[58]∨t.toList=[118,97,114,105,97,98,108,101]):=by
 unfold ck gw jm eC jV iw Bv Bj;simp only[List.any_cons,List.any_nil,lZ,Bool.or_false,Bool.or_eq_true,beq_iff_eq]
 constructor
 ·rintro (h|h|h|h|h|h|h)<;>simp[←h]
 ·rintro (h|h|h|h|h|h|h)<;>simp[h]
theorem aaB(h:ck t gw=true):t.toList=[]∨t.toList=[101,108,115,101]∨t.toList=[116,104,101,110]∨t.toList=[108,111,111,112]∨t.toList=[59]∨t.toList=[58]∨t.toList=[118,97,114,105,97,98,108,101]:=(JJ t).1 h
theorem ID(h:ck t gw=false):t.toList≠[]∧t.toList≠[101,108,115,101]∧t.toList≠[116,104,101,110]∧t.toList≠[108,111,111,112]∧t.toList≠[59]∧t.toList≠[58]∧t.toList≠[118,97,114,105,97,98,108,101]:=by
 have h2:¬ck t gw=true:=tV;rw[JJ]at h2;simp only[not_or]at h2;exact h2
theorem Wc(h:ck t [jm,eC]=true):t.toList=[101,108,115,101]∨t.toList=[116,104,101,110]:=by
 unfold ck jm eC at h;simp only[List.any_cons,List.any_nil,lZ,Bool.or_false,Bool.or_eq_true,beq_iff_eq]at h;rcases h with h|h<;>simp[←h]
theorem adp(h:ck t [eC]=true):t.toList=[116,104,101,110]:=by
 unfold ck eC at h;simp only[List.any_cons,List.any_nil,lZ,Bool.or_false,Bool.or_eq_true,beq_iff_eq]at h;exact h.symm
theorem ac0(h:ck t [jV]=true):t.toList=[108,111,111,112]:=by
 unfold ck jV at h;simp only[List.any_cons,List.any_nil,lZ,Bool.or_false,Bool.or_eq_true,beq_iff_eq]at h;exact h.symm
theorem Zj(h:ck t [iw]=true):t.toList=[59]:=by
 unfold ck iw at h;simp only[List.any_cons,List.any_nil,lZ,Bool.or_false,Bool.or_eq_true,beq_iff_eq]at h;exact h.symm
theorem TA(es:List PE)(nt tk:Int)(dc:List Int)(r:List PB)(kn:Inf)(hb:Opn b)(h:ck t gw=true)(hn:ck t (vy b.opener)=false):(stepP es nt tk dc (b :: r) kn t).1=5:=by
 rcases aaB h with e|e|e|e|e|e|e
 ·simp[stepP,e]
 ·have:b.opener≠29:=by rintro h1;rw[h1]at hn;simp[vy,ck,jm,lZ,e]at hn
  simp[stepP,e,this]
 ·have:¬(b.opener=29∨b.opener=30):=by
   rintro (h1|h1)<;>rw[h1]at hn<;>simp[vy,ck,jm,eC,lZ,e]at hn
  simp[stepP,e,this]
 ·have:b.opener≠31:=by rintro h1;rw[h1]at hn;simp[vy,ck,jV,lZ,e]at hn
  simp[stepP,e,this]
 ·have:b.opener≠34:=by rintro h1;rw[h1]at hn;simp[vy,ck,iw,lZ,e]at hn
  simp[stepP,e,this]
 ·simp[stepP,e]
 ·simp[stepP,e]
theorem Rs(h:t.toList=[105,102]∨t.toList=[100,111]):(dC t).2=false:=by
 rcases h with h|h
 ·have:t=⟨#[105,102]⟩:=(uk t [105,102]).1 tV
  subst this;decide +kernel
 ·have:t=⟨#[100,111]⟩:=(uk t [100,111]).1 tV
  subst this;decide +kernel
theorem acY(es:List PE)(nt tk:Int)(dc:List Int)(b:PB)(r:List PB)(kn:Inf)(h:ck t gw=false)(hn:(dC t).2=true):
  stepP es nt tk dc (b :: r) kn t=(0,dc++[28,(dC t).1],{b.add (aL 28)with numbers:=min (b.numbers+1) 2,a0:=b.a1,a1:=(dC t).1} :: r,kn):=by
 obtain⟨h1,h2,h3,h4,h5,h6,h7⟩:=ID h;have n1:t.toList≠[105,102]:=fun e=>by rw[Rs (aC e)]at hn;cases hn
 have n2:t.toList≠[100,111]:=fun e=>by rw[Rs (aA e)]at hn;cases hn
 obtain⟨q1,q2⟩:=Ew t;rw[hn]at q1;rw[←q2 q1];simp[stepP,h1,h2,h3,h4,h5,h6,h7,n1,n2,q1]
theorem adx(es:List PE)(nt tk:Int)(dc:List Int)(b:PB)(r:List PB)(kn:Inf)(h:ck t gw=false)(hn:¬(dC t).2=true)(n1:¬(t.toList == [105,102])=true)(n2:¬(t.toList == [100,111])=true):
  stepP es nt tk dc (b :: r) kn t=stepW es dc b r kn t:=by
 obtain⟨h1,h2,h3,h4,h5,h6,h7⟩:=ID h;obtain⟨q1,q2⟩:=Ew t;have hn':(numP t).2=false:=by rw[q1];simpa using hn
 simp only[beq_iff_eq]at n1 n2;simp[stepP,h1,h2,h3,h4,h5,h6,h7,n1,n2,hn']
theorem YV(hA:Alike es ws)(dc:List Int)(r:List PB)(kn:Inf)(t:ByteArray)(hl:0≤loops)(hb:b.iN=decide (0<loops)):
  (lp ws t loops=0∧(wordI ws t).Nn∧∃eh,stepW es dc b r kn t=(0,eh,b.add (wordI ws t) :: r,kn)∧dc.length≤eh.length∧(∀i,i<dc.length→eh[i]?=dc[i]?)∧im es eh (decide (0<loops)) (tF ws t) dc.length eh.length)∨(lp ws t loops≠0∧(stepW es dc b r kn t).1=lp ws t loops):=by
 unfold stepW lp wordI;rw[Fc hA.names t]
 by_cases hf:0≤cL ws t
 ·left
  have hlt:cL ws t<ws.length:=(xG (nameAt ws) t ws.length).1;have hk:(cL ws t).toNat<ws.length:=ag;have hy:ws[(cL ws t).toNat]?=some ws[(cL ws t).toNat]:=bE hk;have eI:(cL ws t).toNat<es.length:=by rw[hA.len];exact hk
  have hx:es[(cL ws t).toNat]?=some es[(cL ws t).toNat]:=bE eI;have hu:=hA.use _ _ _ hx hy;rw[aG hf,aG hf,aG hf,hy];have hg:es.getD (cL ws t).toNat PE.zero=es[(cL ws t).toNat]:=by simp[eI]
  simp only[hg];have hx':=hx;generalize es[(cL ws t).toNat]=x at hu hx';generalize ws[(cL ws t).toNat]=y at hu
  have key:x.use=AP y∧(AP y).Nn:=by
   unfold PE.use AP
   cases hv:x.var with
   |true=>
    have:=(hu.1 hv).2;rw[aG rfl,aG this,El.1];exact⟨rfl,Inf.Nn.plain ag ag⟩
   |false=>
    obtain⟨u1,u2,u3,_⟩:=hu.2 hv;rw[az aF,az ag,u2,CX.2.2.1];exact⟨acQ u3,u3.more⟩
  refine⟨y8,key.2,_,by rw[key.1],aF,fun i hi=>dH hi,?_⟩;unfold tF PE.op;rw[aG hf];have g1:∀o:Int,(dc++[o,x.place])[dc.length]?=some o:=fun o=>aF
  have g2:∀o:Int,(dc++[o,x.place])[dc.length+1]?=some x.place:=fun o=>by rw[fP ag];simp
  rw[show(dc++[if x.var=true then 28 else 33,x.place]).length=dc.length+2 by simp]
  cases hv:x.var with
  |true=>exact .var _ _ x _ hx' hv (g1 _) (g2 _)
  |false=>exact .own _ _ x _ hx' hv (g1 _) (g2 _)
 ·rw[az hf,az hf,az hf]
  cases ho:jT t with
  |none=>
   right
   rw[W7 ho];exact⟨aF,aF⟩
  |some k=>
   obtain⟨e1,e2,e3⟩:=Cc ho;have e4:=Ym ho;have hb2:=Hd t;simp only
   by_cases h5:k=27∧b.iN=false
   ·right
    have hl0:loops=0:=by
     have:=h5.2;rw[hb]at this;simp at this;omega
    have hi:(t.toList == [105])=true:=by simpa using e3.2 h5.1
    rw[e1];simp only[Bool.true_eq_false,if_false];rw[aG ⟨hi,hl0⟩,aG h5];exact⟨aj,rfl⟩
   ·left
    have hno:¬((t.toList == [105])=true∧loops=0):=by
     rintro ⟨h1,h2⟩;exact h5 ⟨e3.1 (by simpa using h1),by rw[hb,h2];rfl⟩
    rw[az h5];have h22:(bD t).2.2=true:=by rw[e1]
    rw[h22];simp only[Bool.true_eq_false,if_false];rw[az hno];refine⟨rfl,Inf.Nn.plain hb2.1 hb2.2.2.1,_,by rw[e4],aF,fun i hi=>dH hi,?_⟩;unfold tF;rw[az hf,show(dc++[(k:Int)]).length=dc.length+1 by simp];refine .op _ t k _ ho aF (fun hk=>?_);rw[←hb]
    cases hd:b.iN with
    |true=>rfl
    |false=>exact absurd ⟨hk,hd⟩ h5
def Dz(es:List PE)(nt:Int)(s:ByteArray)(ar:List Tk)(ends:List ByteArray)(loops:Int)(I g:Nat)(tk:Int)(dc:List Int)(b:PB)(r:List PB)(kn:Inf)(a:Nat)(acc:List AI):PR→Prop
 |.inr E=>defP es nt s g tk dc (b :: r) kn a=.inr E
 |.inl (l,t,I')=>I<I'∧I'≤ar.length∧ck t ends=true∧t=aS ar (I' - 1)∧∃g' eh b' a',defP es nt s g tk dc (b :: r) kn a=defP es nt s g' (tk+((I' - 1 - I:Nat):Int)) eh (b' :: r) kn a'∧ar.length - (I' - 1)+2≤g'∧At s ar (I' - 1) a'∧Same b b'∧BR b' l loops∧∀p,CO es dc p loops acc→CO es eh p loops l∧∀i,i<p→eh[i]?=dc[i]?
theorem Dz.step{ends:List ByteArray}{J g1:Nat}{tk1:Int}{b1:PB}{r:List PB}{a1:Nat}{OA:List AI}{R:PR}
  (h:Dz es nt s ar ends loops J g1 tk1 bQ b1 r kn a1 OA R) (h1:defP es nt s g tk dc (b :: r) kn a=defP es nt s g1 tk1 bQ (b1 :: r) kn a1) (hIJ:I<J) (htk:tk1=tk+((J - I:Nat):Int)) (hs:Same b b1) (hco:∀p,CO es dc p loops acc→CO es bQ p loops OA∧∀i,i<p→bQ[i]?=dc[i]?):
  Dz es nt s ar ends loops I g tk dc b r kn a acc R:=by
 match R,h with
 |.inr E,h=>exact h1.trans h
 |.inl (l,t,I'),h=>
  obtain⟨c1,c2,c3,c4,g',eh,b',a',c5,c6,c7,c8,c9,c10⟩:=h;refine⟨ag,c2,c3,c4,g',eh,b',a',?_,c6,c7,hs.trans c8,c9,fun p hp=>?_⟩
  rotate_left
  ·obtain⟨q1,q2⟩:=hco p hp
   obtain⟨q3,q4⟩:=c10 p q1;exact⟨q3,fun i hi=>(q4 i hi).trans (q2 i hi)⟩
  rw[h1,c5,htk]
  congr 1
  omega
theorem CO.nil'(es:List PE)(p:Nat)(loops:Int)(h:p=dc.length):CO es dc p loops []:=by subst h;exact CO.nil es dc loops
theorem CS(l:List Int)(i:Nat)(x:Int):(l.set i x).length=l.length:=aF
theorem co_then(hp:CO es dc p loops acc)(hh:hole=(PB.opened {PB.zero with opener:=29} PB.zero (dc.length+2)).hole)
  (h1:CO es bQ (dc.length+2) loops la∧∀i,i<dc.length+2→bQ[i]?=(dc++[29,0])[i]?):CO es (bQ.set hole.toNat bQ.length) p loops (acc++[⟨none,i,.iff (trees la)⟩])∧∀i,i<p→(bQ.set hole.toNat bQ.length)[i]?=dc[i]?:=by
 obtain⟨⟨h2,h3⟩,h4⟩:=h1;have hho:hole.toNat=dc.length+1:=Jv;rw[hho];have e1:∀i,i≠dc.length+1→(bQ.set (dc.length+1) bQ.length)[i]?=bQ[i]?:=fun i hi=>by rw[dr ag]
 have e2:∀i,i<dc.length→(bQ.set (dc.length+1) bQ.length)[i]?=dc[i]?:=fun i hi=>by
  rw[e1 i ag,h4 i ag,dH hi]
 refine hp.snoc (by rw[CS];omega) e2 ?_;rw[CS];obtain⟨ps,q1,q2,q3⟩:=h3.tj h2 (es':=es) (code':=bQ.set (dc.length+1) bQ.length) (fun _ _=>id) (fun i hi _=>e1 i ag);refine .iff _ _ _ _ ps ?_ ?_ q1 q2 q3
 ·rw[e1 _ ag,h4 _ ag];simp
 ·rw[eL ag]
theorem aa2{jQ:List Int}{lb:List AI}{Em:Int}{o:Inf}(hp:CO es dc p loops acc)(hh:hole=(PB.opened {PB.zero with opener:=29} z (dc.length+2)).hole)
  (hh2:Em=(PB.opened {PB.zero with opener:=30,other:=o} z (bQ.length+2)).hole)
  (h1:CO es bQ (dc.length+2) loops la∧∀i,i<dc.length+2→bQ[i]?=(dc++[29,0])[i]?)
  (k1:CO es jQ (bQ.length+2) loops lb∧∀i,i<bQ.length+2→jQ[i]?=((bQ++[30,0]).set hole.toNat (bQ.length+2))[i]?):
  CO es (jQ.set Em.toNat jQ.length) p loops (acc++[⟨none,i,.els (trees la) (trees lb)⟩])∧∀i,i<p→(jQ.set Em.toNat jQ.length)[i]?=dc[i]?:=by
 obtain⟨⟨h2,h3⟩,h4⟩:=h1;obtain⟨⟨k2,k3⟩,k4⟩:=k1;have hho:hole.toNat=dc.length+1:=Jv;have Vw:Em.toNat=bQ.length+1:=by rw[hh2];simp[PB.opened];omega
 rw[Vw];rw[hho]at k4;have e1:∀i,i≠bQ.length+1→(jQ.set (bQ.length+1) jQ.length)[i]?=jQ[i]?:=fun i hi=>by rw[dr ag]
 have e3:∀i,i<bQ.length→i≠dc.length+1→(jQ.set (bQ.length+1) jQ.length)[i]?=bQ[i]?:=fun i hi hn=>by
  rw[e1 i ag,k4 i ag,dr ag,dH hi]
 have e2:∀i,i<dc.length→(jQ.set (bQ.length+1) jQ.length)[i]?=dc[i]?:=fun i hi=>by
  rw[e3 i ag ag,h4 i ag,dH hi]
 refine hp.snoc (by rw[CS];omega) e2 ?_;rw[CS];obtain⟨ps,q1,q2,q3⟩:=h3.tj h2 (es':=es) (code':=jQ.set (bQ.length+1) jQ.length) (fun _ _=>id) (fun i hi ky=>e3 i ky ag);obtain⟨qs,r1,r2,r3⟩:=k3.tj k2 (es':=es) (code':=jQ.set (bQ.length+1) jQ.length) (fun _ _=>id) (fun i hi _=>e1 i ag);refine .els _ _ _ _ bQ.length _ ps qs ?_ ?_ q1 q2 q3 ?_ ?_ r1 r2 r3
 ·rw[e3 _ ag ag,h4 _ ag];simp
 ·rw[e1 _ ag,k4 _ ag,eL aK];simp
 ·rw[e1 _ ag,k4 _ ag,dr ag];simp
 ·rw[eL ag]
theorem Xc{tm:Int}(hp:CO es dc p loops acc)(hl:0≤loops)(hh:hole=(PB.opened {PB.zero with opener:=31,times:=tm} z (dc.length+2)).hole)
  (h1:CO es bQ (dc.length+2) (loops+1) la∧∀i,i<dc.length+2→bQ[i]?=(dc++[31,0])[i]?):CO es ((bQ++[32,(hole.toNat:Int)+1]).set hole.toNat (bQ.length+2)) p loops (acc++[⟨none,i,.kY (trees la)⟩])∧∀i,i<p→((bQ++[32,(hole.toNat:Int)+1]).set hole.toNat (bQ.length+2))[i]?=dc[i]?:=by
 obtain⟨⟨h2,h3⟩,h4⟩:=h1;have hho:hole.toNat=dc.length+1:=Jv;rw[hho];obtain⟨c,hc⟩:=ak ((bQ++[32,((dc.length+1:Nat):Int)+1]).set (dc.length+1) (bQ.length+2));rw[←hc];have hcl:c.length=bQ.length+2:=by rw[hc];simp
 have e1:∀i,i<bQ.length→i≠dc.length+1→c[i]?=bQ[i]?:=fun i hi hn=>by rw[hc,dr ag,dH hi]
 have e2:∀i,i<dc.length→c[i]?=dc[i]?:=fun i hi=>by
  rw[e1 i ag ag,h4 i ag,dH hi]
 refine hp.snoc ag e2 ?_;rw[hcl];rw[show decide (0<loops+1)=true by simp;omega]at h3;obtain⟨ps,q1,q2,q3⟩:=h3.tj h2 (es':=es) (code':=c) (fun _ _=>id) (fun i hi ky=>e1 i ky ag);refine .kY _ _ _ bQ.length ps ?_ ?_ q1 q2 q3 ?_ ?_
 ·rw[e1 _ ag ag,h4 _ ag];simp
 ·rw[hc,eL aK];simp
 ·rw[hc,dr ag];simp
 ·rw[hc,dr ag,fP ag]
  simp;omega
theorem VI(hA:Alike es ws)(nt:Int)(s:ByteArray)(ar:List Tk):∀(f:Nat) (ends:List ByteArray) (loops:Int) (acc:List AI) (I g:Nat) (tk:Int) (dc:List Int) (b:PB) (r:List PB) (kn:Inf) (a:Nat),
  ar.length+1 - I≤f→I≤ar.length→ar.length - I+2≤g→At s ar I a→BR b acc loops→0≤loops→Opn b→ends=vy b.opener→
  Dz es nt s ar ends loops I g tk dc b r kn a acc (pItems ws ar s.size f ends loops acc I):=by
 intro f
 induction f with
 |zero=>intro ends loops acc I g tk dc b r kn a h1 h2;omega
 |succ f ih=>
  intro ends loops acc I g tk dc b r kn a hf hI hg hat hbr hl hop vX;obtain⟨g,rfl⟩:∃g0,g=g0+1:=⟨g - 1,ag⟩;obtain⟨n1,n2,n3⟩:=hat.next hI
  have bad:∀{E:Int} {jN:Int} {eh:List Int} {b':PB} {r':List PB} {lR:Inf} {g':Nat},(stepP es nt (jN+1) eh (b' :: r') lR (aS ar I)).1=E→E≠0→defP es nt s (g'+1) jN eh (b' :: r') lR a=.inr (E,cE ar s.size I):=by
   intro E jN eh b' r' lR g' h hE;rw[←n1]at h;rw[zO h hE,n2]
  have hnone:=hop.none;rw[pItems]
  split
  ·rename_i hin
   have hlt:I<ar.length:=OE ar I ends (by rw[vX];exact hnone) hin;exact⟨ag,ag,hin,aF,g+1,dc,b,a,aF,by simpa using hg,by simpa using hat,Same.refl b,hbr,fun p hp=>⟨hp,fun _ _=>rfl⟩⟩
  ·rename_i hin
   have aa3:ck (aS ar I) (vy b.opener)=false:=by rw[←vX];simpa using hin
   split
   ·rename_i hst
    exact bad (TA es nt (tk+1) dc r kn hop hst aa3) aj
   ·rename_i hst
    have pZ:ck (aS ar I) gw=false:=by simpa using hst
    have hne:=(ID pZ).1;obtain⟨hlt,qL⟩:=n3.resolve_left hne
    split
    ·rename_i hnum
     have hs:=acY es nt (tk+1) dc b r kn pZ hnum;rw[←n1]at hs
     refine(ih ends loops _ (I+1) g (tk+1) _ {b.add (aL 28)with numbers:=min (b.numbers+1) 2,a0:=b.a1,a1:=(dC (nx s a).1).1} r kn _ ag ag ag qL ?_ hl hop vX).step (uW hs) ag ag ⟨rfl,rfl,rfl,rfl,rfl⟩ (fun p hp=>hp.snoc aF (fun i hi=>dH hi) (by
      rw[n1,show(dc++[28,(dC (aS ar I)).1]).length=dc.length+2 by simp];exact .num _ _ _ (Me _ hnum) aF (by rw[fP ag];simp)))
     refine⟨?_,?_,hbr.rE,?_⟩
     ·rw[tD];simp[PB.add,hbr.does,El.1]
     ·rw[tD];exact hbr.nn.then (Inf.Nn.plain ag ag)
     ·rw[n1];exact hbr.num.some rfl rfl rfl
    ·rename_i hnum
     split
     ·rename_i hif
      have VD:(nx s a).1.toList=[105,102]:=by rw[n1];simpa using hif
      have hs:stepP es nt (tk+1) dc (b :: r) kn (nx s a).1=(0,dc++[29,0],PB.opened {PB.zero with opener:=29} (b.add (aL 29)) (dc.length+2) :: b.add (aL 29) :: r,kn):=by simp[stepP,VD]
      have hd:=uW (es:=es) (nt:=nt) (g:=g) hs;have hB:BR (PB.opened {PB.zero with opener:=29} (b.add (aL 29)) (dc.length+2)) [] loops:=⟨rfl,Inf.Nn.zero,by simp[PB.opened,PB.add,hbr.rE],rfl⟩;have iA:=ih [jm,eC] loops [] (I+1) g (tk+1) (dc++[29,0]) _ (b.add (aL 29) :: r) kn _ ag ag ag qL hB hl (aC rfl) rfl;generalize pItems ws ar s.size f [jm,eC] loops [] (I+1)=RA at iA
      match RA,iA with
      |.inr E,iA=>exact hd.trans iA
      |.inl (la,ta,I1),iA=>
       obtain⟨a1,a2,a3,a4,g1,bQ,b1,p1,a5,a6,a7,a8,a9,a10⟩:=iA;obtain⟨g1,rfl⟩:∃g0,g1=g0+1:=⟨g1 - 1,ag⟩;obtain⟨m1,m2,m3⟩:=a7.next ag;rw[←a4]at m1;simp only
       have mv:ta.toList=[101,108,115,101]∨ta.toList=[116,104,101,110]:=by
        exact Wc a3
       have hI1:I1 - 1+1=I1:=ag
       have m4:At s ar I1 (nx s p1).2.2:=by
        rcases m3 with m3|⟨_,m3⟩
        ·rw[←a4]at m3;rcases mv with h|h<;>rw[h]at m3<;>cases m3
        ·rw[hI1]at m3;exact m3
       have vG:b1.opener=29:=a8.op
       split
       ·rename_i hel
        have Cz:(nx s p1).1.toList=[101,108,115,101]:=by rw[m1];simpa using hel
        have hs1:stepP es nt (tk+1+((I1 - 1 - (I+1):Nat):Int)+1) bQ (b1 :: b.add (aL 29) :: r) kn (nx s p1).1=(0,(bQ++[30,0]).set b1.hole.toNat (bQ.length+2),PB.opened {PB.zero with opener:=30,other:=b1.does.then (aL 30)} (b.add (aL 29)) (bQ.length+2) :: b.add (aL 29) :: r,kn):=by
         simp[stepP,Cz,vG]
        have iC:=uW (es:=es) (nt:=nt) (g:=g1) hs1;have hB2:BR (PB.opened {PB.zero with opener:=30,other:=b1.does.then (aL 30)} (b.add (aL 29)) (bQ.length+2)) [] loops:=⟨rfl,Inf.Nn.zero,by simp[PB.opened,PB.add,hbr.rE],rfl⟩;have iB:=ih [eC] loops [] I1 g1 (tk+1+((I1 - 1 - (I+1):Nat):Int)+1) ((bQ++[30,0]).set b1.hole.toNat (bQ.length+2)) _ (b.add (aL 29) :: r) kn _ ag a2 ag m4 hB2 hl (aA (aC rfl)) rfl;generalize pItems ws ar s.size f [eC] loops [] I1=RB at iB
        match RB,iB with
        |.inr E,iB=>exact hd.trans (a5.trans (iC.trans iB))
        |.inl (lb,tb,I2),iB=>
         obtain⟨b1',b2',b3,b4,g2,jQ,b2,p2,b5,b6,b7,b8,b9,fG⟩:=iB;obtain⟨g2,rfl⟩:∃g0,g2=g0+1:=⟨g2 - 1,ag⟩;obtain⟨q1,q2,q3⟩:=b7.next ag;rw[←b4]at q1;simp only
         have jO:tb.toList=[116,104,101,110]:=by
          exact adp b3
         have hI2:I2 - 1+1=I2:=ag
         have q4:At s ar I2 (nx s p2).2.2:=by
          rcases q3 with q3|⟨_,q3⟩
          ·rw[←b4,jO]at q3;cases q3
          ·rw[hI2]at q3;exact q3
         have Ae:b2.opener=30:=b8.op;have hoth:b2.other=(bS la).more:=by rw[b8.other,a9.does.symm];show b1.does.then (aL 30)=_;rw[CX.1,Gx (by rw[a9.does];exact a9.nn)]
         have p9:b2.does=bS lb:=b9.does;have K4:(nx s p2).1.toList=[116,104,101,110]:=by rw[q1];exact jO
         split
         ·rename_i ei
          have hnn:b2.does.aM=b2.other.aM:=by rw[hoth,p9];exact ei.symm
          have hs2:stepP es nt (tk+1+((I1 - 1 - (I+1):Nat):Int)+1+((I2 - 1 - I1:Nat):Int)+1) jQ (b2 :: b.add (aL 29) :: r) kn (nx s p2).1=(0,jQ.set b2.hole.toNat jQ.length,(b.add (aL 29)).add (b2.does.gY b2.other) :: r,kn):=by
           simp[stepP,K4,Ae,hnn]
          have fT:=uW (es:=es) (nt:=nt) (g:=g2) hs2;refine(ih ends loops _ I2 g2 (tk+1+((I1 - 1 - (I+1):Nat):Int)+1+((I2 - 1 - I1:Nat):Int)+1) _ ((b.add (aL 29)).add (b2.does.gY b2.other)) r kn _ ag b2' ag q4 ?_ hl hop vX).step (hd.trans (a5.trans (iC.trans (b5.trans fT)))) ag ag ⟨rfl,rfl,rfl,rfl,rfl⟩ (fun p hp=>aa2 hp a8.hole b8.hole (a10 _ (CO.nil' es _ loops aF)) (fG _ (CO.nil' es _ loops aF)));have hw:((bS la).more.ways (bS lb)).Nn:=a9.nn.more.ways b9.nn ei;refine⟨?_,?_,hbr.rE,od.none rfl⟩
          ·rw[tD]
           show(b.does.then (aL 29)).then (b2.does.gY b2.other)=_
           rw[hbr.does,hoth,p9];exact Qz hbr.nn b9.nn a9.nn.more ei.symm
          ·rw[tD];exact hbr.nn.then ((Inf.Nn.plain ag ag).then hw)
         ·rename_i ei
          have hnn:¬b2.does.aM=b2.other.aM:=by rw[hoth,p9];exact fun e=>ei e.symm
          refine hd.trans (a5.trans (iC.trans (b5.trans ?_)));rw[zO (E:=6) (by simp[stepP,K4,Ae,hnn]) aj,q2]
       ·rename_i hel
        have hth:ta.toList=[116,104,101,110]:=mv.resolve_left (by simpa using hel);have LS:(nx s p1).1.toList=[116,104,101,110]:=by rw[m1];exact hth
        have hoth:b1.other=Inf.zero:=a8.other;have p9:b1.does=bS la:=a9.does
        split
        ·rename_i ei
         have hnn:b1.does.aM=b1.other.aM:=by rw[hoth,p9];exact ei
         have hs1:stepP es nt (tk+1+((I1 - 1 - (I+1):Nat):Int)+1) bQ (b1 :: b.add (aL 29) :: r) kn (nx s p1).1=(0,bQ.set b1.hole.toNat bQ.length,(b.add (aL 29)).add (b1.does.gY b1.other) :: r,kn):=by
          simp[stepP,LS,vG,hnn]
         have iC:=uW (es:=es) (nt:=nt) (g:=g1) hs1;refine(ih ends loops _ I1 g1 (tk+1+((I1 - 1 - (I+1):Nat):Int)+1) _ ((b.add (aL 29)).add (b1.does.gY b1.other)) r kn _ ag a2 ag m4 ?_ hl hop vX).step (hd.trans (a5.trans iC)) ag ag ⟨rfl,rfl,rfl,rfl,rfl⟩ (fun p hp=>co_then hp a8.hole (a10 _ (CO.nil' es _ loops aF)));have hw:((bS la).ways Inf.zero).Nn:=a9.nn.ways Inf.Nn.zero ei
         have ZH:(bS la).ways Inf.zero=Inf.zero.ways (bS la):=by
          refine Inf.ext' ?_ ?_ ?_ ?_ ?_<;>simp only[Inf.ways]
          ·omega
          ·exact ei
          ·omega
          ·omega
         refine⟨?_,?_,hbr.rE,od.none rfl⟩
         ·rw[tD]
          show(b.does.then (aL 29)).then (b1.does.gY b1.other)=_
          rw[hbr.does,hoth,p9,ZH];exact Qz hbr.nn a9.nn Inf.Nn.zero ei
         ·rw[tD];exact hbr.nn.then ((Inf.Nn.plain ag ag).then hw)
        ·rename_i ei
         have hnn:¬b1.does.aM=b1.other.aM:=by rw[hoth,p9];exact ei
         refine hd.trans (a5.trans ?_);rw[zO (E:=6) (by simp[stepP,LS,vG,hnn]) aj,m2]
     ·rename_i hif
      split
      ·rename_i hdo
       have zJ:(nx s a).1.toList=[100,111]:=by rw[n1];simpa using hdo
       rcases hbr.num.two with ⟨t1,t2⟩|⟨t1,t2⟩
       ·rw[t2]
        simp only;exact bad (by rw[n1]at zJ;simp[stepP,zJ,t1]) aj
       ·rw[t2]
        simp only;have hnl:¬b.numbers<2:=ag
        split
        ·rename_i hbig
         have h1:1000<max 0 (b.a0 - b.a1):=ag
         exact bad (E:=7) (by
          rw[n1]at zJ;simp only[stepP];rw[az mZ,az mZ,az mZ,az mZ,az mZ,az mZ,az mZ,aG mZ,az hnl,aG h1]) aj
        ·rename_i hbig
         have h1:¬1000<max 0 (b.a0 - b.a1):=ag
         have hs:stepP es nt (tk+1) dc (b :: r) kn (nx s a).1=(0,dc++[31,0],PB.opened {PB.zero with opener:=31,times:=max 0 (b.a0 - b.a1)} (b.add (aL 31)) (dc.length+2) :: b.add (aL 31) :: r,kn):=by
          simp only[stepP];rw[az mZ,az mZ,az mZ,az mZ,az mZ,az mZ,az mZ,aG mZ,az hnl,az h1]
         have hd:=uW (es:=es) (nt:=nt) (g:=g) hs;have hB:BR (PB.opened {PB.zero with opener:=31,times:=max 0 (b.a0 - b.a1)} (b.add (aL 31)) (dc.length+2)) [] (loops+1):=⟨rfl,Inf.Nn.zero,Cb,rfl⟩;have iA:=ih [jV] (loops+1) [] (I+1) g (tk+1) (dc++[31,0]) _ (b.add (aL 31) :: r) kn _ ag ag ag qL hB ag (aA (aA (aC rfl))) rfl;generalize pItems ws ar s.size f [jV] (loops+1) [] (I+1)=RA at iA
         match RA,iA with
         |.inr E,iA=>exact hd.trans iA
         |.inl (la,ta,I1),iA=>
          obtain⟨a1,a2,a3,a4,g1,bQ,b1,p1,a5,a6,a7,a8,a9,a10⟩:=iA;obtain⟨g1,rfl⟩:∃g0,g1=g0+1:=⟨g1 - 1,ag⟩;obtain⟨m1,m2,m3⟩:=a7.next ag;rw[←a4]at m1;simp only
          have mv:ta.toList=[108,111,111,112]:=by
           exact ac0 a3
          have Cl:(nx s p1).1.toList=[108,111,111,112]:=by rw[m1];exact mv
          have hI1:I1 - 1+1=I1:=ag
          have m4:At s ar I1 (nx s p1).2.2:=by
           rcases m3 with m3|⟨_,m3⟩
           ·rw[←a4,mv]at m3;cases m3
           ·rw[hI1]at m3;exact m3
          have vG:b1.opener=31:=a8.op;have htm:b1.times=max 0 (b.a0 - b.a1):=a8.times;have p9:b1.does=bS la:=a9.does
          split
          ·rename_i ei
           have hnn:b1.does.aM=0:=by rw[p9];exact ei
           have hs1:stepP es nt (tk+1+((I1 - 1 - (I+1):Nat):Int)+1) bQ (b1 :: b.add (aL 31) :: r) kn (nx s p1).1=(0,(bQ++[32,(b1.hole.toNat:Int)+1]).set b1.hole.toNat (bQ.length+2),(b.add (aL 31)).add ((b1.does.then (aL 32)).je b1.times) :: r,kn):=by
            simp[stepP,Cl,vG,hnn]
           have iC:=uW (es:=es) (nt:=nt) (g:=g1) hs1;refine(ih ends loops _ I1 g1 (tk+1+((I1 - 1 - (I+1):Nat):Int)+1) _ ((b.add (aL 31)).add ((b1.does.then (aL 32)).je b1.times)) r kn _ ag a2 ag m4 ?_ hl hop vX).step (hd.trans (a5.trans iC)) ag ag ⟨rfl,rfl,rfl,rfl,rfl⟩ (fun p hp=>Xc hp hl a8.hole (a10 _ (CO.nil' es _ (loops+1) aF)));refine⟨?_,?_,hbr.rE,od.none rfl⟩
           ·rw[tD]
            show(b.does.then (aL 31)).then ((b1.does.then (aL 32)).je b1.times)=_
            rw[hbr.does,p9,htm];exact ZQ hbr.nn a9.nn ag
           ·rw[tD];exact hbr.nn.then ((Inf.Nn.plain ag ag).then (a9.nn.times ag))
          ·rename_i ei
           have hnn:¬b1.does.aM=0:=by rw[p9];exact ei
           refine hd.trans (a5.trans ?_);rw[zO (E:=6) (by simp[stepP,Cl,vG,hnn]) aj,m2]
      ·rename_i hdo
       have hw:=adx es nt (tk+1) dc b r kn pZ hnum hif hdo;rcases YV hA dc r kn (aS ar I) hl hbr.rE with ⟨w1,w2,eh,w3,w4,w5,w6⟩|⟨w1,w2⟩
       ·rw[aG w1]
        have hw2:stepP es nt (tk+1) dc (b :: r) kn (nx s a).1=(0,eh,b.add (wordI ws (aS ar I)) :: r,kn):=by rw[n1];exact hw.trans w3
        exact(ih ends loops _ (I+1) g (tk+1) _ (b.add (wordI ws (aS ar I))) r kn _ ag ag ag qL (hbr.snoc _ _ w2) hl hop vX).step (uW hw2) ag ag (Same.add b _) (fun p hp=>hp.snoc w4 w5 w6)
       ·rw[az w1]
        exact bad (by rw[hw];exact w2) w1
end
section
def pColon(ws:List RW)(k:Int)(ar:List Tk)(fin:Int)(f I:Nat):(ByteArray×List AI×Nat) ⊕ (Int×Int):=
 if gK (aS ar I)=false then .inr (4,cE ar fin I)
 else if 40≤ws.length then .inr (8,cE ar fin I)
 else match pItems ws ar fin f [iw] 0 [] (I+1)with
  |.inr E=>.inr E
  |.inl (l,_,I')=>
   if 1000000000<(bS l).steps+1 then .inr (7,cE ar fin (I' - 1))
   else if 400<k+I' - ((I:Int) - 1)then .inr (8,cE ar fin (I' - 1))
   else .inl (aS ar I,l,I')
def oP(l:List AI):Inf:={bS l with steps:=(bS l).steps+1}
theorem Kt(hA:Alike es ws)(hl:es.length≤40)(hat:At s ar I a)(hI:I≤ar.length):
  ra es (nx s a).1=if gK (aS ar I)=false then 4 else if 40≤ws.length then 8 else 0:=by
 unfold ra;rw[hat.name hI];have:=hA.len
 cases gK (aS ar I)with
 |false=>simp
 |true=>
  simp only[if_true,Bool.true_eq_false,if_false]
  by_cases h:40≤ws.length
  ·rw[aG h,aG ag]
  ·rw[az h,az ag]
theorem Alike.nil:Alike [] []:=⟨rfl,fun k x y h=>jC⟩
theorem Alike.push(h:Alike es ws)(hn:x.name=y.name)(hu:(x.var=true→y.var=x.place∧0≤y.var)∧(x.var=false→y.var= -1∧x.inf=y.inf∧y.inf.Nn∧1≤y.inf.steps∧y.inf.steps≤1000000000)):Alike (es++[x]) (ws++[y]):=by
 refine⟨by simp[h.names,hn],fun k a b h1 h2=>?_⟩;have hl:=h.len
 by_cases hk:k<es.length
 ·rw[dH hk]at h1
  rw[dH ag]at h2;exact h.use k a b h1 h2
 ·rw[fP ag]at h1
  rw[fP ag]at h2;rw[←hl]at h2
  by_cases e:k - es.length=0
  ·rw[e]at h1 h2;simp at h1 h2;subst h1;subst h2;exact hu
  ·rw[jh aK]at h1;cases h1
theorem GH(h:gK t=true):t.toList≠[]:=by
 intro e;have:t=⟨#[]⟩:=(uk t []).1 (by simp[e]);subst this;exact absurd h dJ
theorem VF(ws:List RW)(ar:List Tk)(fin:Int):∀(f:Nat) (ends:List ByteArray) (loops:Int) (acc:List AI) (I:Nat) (E:Int×Int),pItems ws ar fin f ends loops acc I=.inr E→E.1≠0:=by
 intro f
 induction f with
 |zero=>intro ends loops acc I E h;simp[pItems]at h;subst h;decide
 |succ f ih=>
  intro ends loops acc I E h;rw[pItems]at h
  split at h
  ·cases h
  split at h
  ·cases h;simp
  split at h
  ·exact ih _ _ _ _ _ h
  split at h
  ·split at h
   ·rename_i r hr;cases h;exact ih _ _ _ _ _ hr
   ·split at h
    ·exact QN
    ·split at h
     ·exact ih _ _ _ _ _ h
     ·cases h;simp
  split at h
  ·split at h
   ·cases h;simp
   ·split at h
    ·cases h;simp
    ·exact QN
  split at h
  ·exact ih _ _ _ _ _ h
  ·rename_i hw;cases h;exact hw
theorem Aj(s:ByteArray):∀(f i:Nat),(jA s f i).length≤f
 |0,i=>by simp[jA]
 |f+1,i=>by
  unfold jA
  split
  ·split
   ·have:=Aj s f (i+1);omega
   ·split
    ·have:=Aj s f (scan dY s (scan blk s i));omega
    ·have:=Aj s f (scan blk s i);simp;omega
  ·simp
theorem colon_eq(hA:Alike es ws)(hL:jP es nv nt code)(htk:ar.length≤s.size)(hat:At s ar I a)(hI:I≤ar.length)(hI1:1≤I)(f:Nat)(hf:ar.length+1≤f):
  match pColon ws nt ar s.size f I with
  |.inr E=>E.1≠0∧wordP es nt code s a=(E,es,nt,code,0)
  |.inl (t,l,I')=>I<I'∧I'≤ar.length∧t=aS ar I∧(bS l).Nn∧(bS l).steps+1≤1000000000∧pItems ws ar s.size f [iw] 0 [] (I+1)=.inl (l,aS ar (I' - 1),I')∧∃dc a',wordP es nt code s a=((0,0),es++[⟨t,false,code.length,oP l⟩],nt+(I' - ((I:Int) - 1)),dc,a')∧At s ar I' a'∧(∃q,dw es dc false (trees l) code.length q∧dc[q]?=some 34)∧∀i,i<code.length→dc[i]?=code[i]?:=by
 unfold pColon wordP;rw[Kt hA hL.l hat hI];obtain⟨n1,n2,n3⟩:=hat.next hI
 cases hnm:gK (aS ar I)with
 |false=>
  simp only[if_true];exact⟨aF,by rw[az aj,n2]⟩
 |true=>
  simp only[Bool.true_eq_false,if_false]
  by_cases hfull:40≤ws.length
  ·rw[aG hfull,aG hfull,az aj,n2]
   exact⟨aF,rfl⟩
  ·rw[az hfull,az hfull,aG rfl]
   obtain⟨hlt,qL⟩:=n3.resolve_left (GH hnm);have hB:BR PB.first [] 0:=⟨rfl,Inf.Nn.zero,rfl,rfl⟩;have H:=VI hA nt s ar f [iw] 0 [] (I+1) (s.size+2) 2 code PB.first [] Inf.zero (nx s a).2.2 ag ag ag qL hB ag (aA (aA (aA rfl))) rfl
   cases hp:pItems ws ar s.size f [iw] 0 [] (I+1)with
   |inr E=>
    rw[hp]at H;have hE:=VF _ _ _ _ _ _ _ _ _ hp;have H':defP es nt s (s.size+2) 2 code [PB.first] Inf.zero (nx s a).2.2=.inr E:=H;simp only[H'];exact⟨hE,trivial⟩
   |inl x=>
    obtain⟨l,t',I'⟩:=x;rw[hp]at H;obtain⟨a1,a2,a3,a4,g1,bQ,b1,p1,a5,a6,a7,a8,a9,a10⟩:=H;obtain⟨⟨c1,c2⟩,c3⟩:=a10 code.length (CO.nil es code 0);obtain⟨g1,rfl⟩:∃g0,g1=g0+1+1:=⟨g1 - 2,ag⟩;obtain⟨m1,m2,m3⟩:=a7.next ag;rw[←a4]at m1
    have mv:t'.toList=[59]:=by
     exact Zj a3
    have Cl:(nx s p1).1.toList=[59]:=by rw[m1];exact mv
    have vG:b1.opener=34:=a8.op;have p9:b1.does=bS l:=a9.does;have Tg:b1.does.then (aL 34)=(bS l).more:=by rw[CX.2.2.2,p9];exact Gx a9.nn
    have m4:At s ar I' (nx s p1).2.2:=by
     rcases m3 with m3|⟨_,m3⟩
     ·rw[←a4,mv]at m3;cases m3
     ·rw[show I' - 1+1=I' by omega]at m3;exact m3
    have JO:(2:Int)+((I' - 1 - (I+1):Nat):Int)+1=I' - ((I:Int) - 1):=ag
    have hs:stepP es nt ((2:Int)+((I' - 1 - (I+1):Nat):Int)+1) bQ [b1] Inf.zero (nx s p1).1=(nY (bS l).more.steps nt (I' - ((I:Int) - 1)),bQ++[34],[],(bS l).more):=by
     rw[←JO,←Tg];simp[stepP,Cl,vG]
    have hst:(bS l).more.steps=min ((bS l).steps+1) 1000000001:=rfl;simp only
    by_cases h7:1000000000<(bS l).steps+1
    ·rw[aG h7]
     have he:nY (bS l).more.steps nt (I' - ((I:Int) - 1))=7:=by unfold nY;rw[aG ag]
     rw[a5,zO (E:=7) (by rw[hs,he]) aj,m2];exact⟨aF,rfl⟩
    ·rw[az h7]
     by_cases h8:400<nt+I' - ((I:Int) - 1)
     ·rw[aG h8]
      have he:nY (bS l).more.steps nt (I' - ((I:Int) - 1))=8:=by unfold nY;rw[az ag,aG ag]
      rw[a5,zO (E:=8) (by rw[hs,he]) aj,m2];exact⟨aF,rfl⟩
     ·rw[az h8]
      have he:nY (bS l).more.steps nt (I' - ((I:Int) - 1))=0:=by unfold nY;rw[az ag,az ag]
      rw[he]at hs
      have hw:(bS l).more=oP l:=by
       refine Inf.ext' rfl rfl rfl ?_ rfl
       show min ((bS l).steps+1) 1000000001=(bS l).steps+1
       omega
      rw[a5,uW hs,JO,hw];refine⟨ag,a2,rfl,a9.nn,ag,by rw[a4],bQ++[34],(nx s p1).2.2,?_,m4,⟨bQ.length,c2.tj c1 (fun _ _=>id) (fun i _ hi=>dH hi),aF⟩,fun i hi=>(dH ag).trans (c3 i hi)⟩;simp[defP,n1]
structure kA (es:List PE) (code:List Int) (ws:List RW):Prop where
 w:∀(k:Nat) (x:PE) (y:RW),es[k]?=some x→ws[k]?=some y→x.var=false→∃p q:Nat,x.place=p∧p≤code.length∧dw es code false y.its p q∧code[q]?=some 34
 v:∀(k:Nat) (x:PE),es[k]?=some x→x.var=true→0≤x.place∧x.place≤16
structure rH (es:List PE) (code:List Int) (ws:List RW):Prop extends Alike es ws where
 tQ:kA es code ws
theorem kA.nil:kA [] [] []:=⟨fun k x y h=>jC,fun k x h=>jC⟩
theorem kA.push{code':List Int}(h:kA es code ws)(hl:es.length=ws.length)(hc:∀i,i<code.length→code'[i]?=code[i]?)(hle:code.length≤code'.length)
  (h1:x.var=false→∃p q:Nat,x.place=p∧p≤code'.length∧dw es code' false y.its p q∧code'[q]?=some 34) (h2:x.var=true→0≤x.place∧x.place≤16):kA (es++[x]) code' (ws++[y]):=by
 have he:∀(k:Nat) (z:PE),es[k]?=some z→(es++[x])[k]?=some z:=fun k z hz=>by rw[dH (cI.1 hz).1];exact hz
 refine⟨fun k a b ha hb hv=>?_,fun k a ha hv=>?_⟩
 ·by_cases hk:k<es.length
  ·rw[dH hk]at ha
   rw[dH ag]at hb;obtain⟨p,q,e1,e2,e3,e4⟩:=h.w k a b ha hb hv;have hq:=e3.le e2;have:=kz e4;exact⟨p,q,e1,ag,e3.tj e2 he (fun i _ hi=>hc i ag),(hc q ag).trans e4⟩
  ·rw[fP ag]at ha
   rw[fP ag,←hl]at hb;have h0:k - es.length=0:=by have:=(cI.1 ha).1;simp at this;omega
   rw[h0]at ha hb;obtain rfl:x=a:=by simpa using ha
   obtain rfl:y=b:=xy;obtain⟨p,q,e1,e2,e3,e4⟩:=h1 hv;exact⟨p,q,e1,e2,e3.tj e2 he (fun _ _ _=>rfl),e4⟩
 ·by_cases hk:k<es.length
  ·rw[dH hk]at ha;exact h.v k a ha hv
  ·rw[fP ag]at ha
   have h0:k - es.length=0:=by have:=(cI.1 ha).1;simp at this;omega
   rw[h0]at ha;obtain rfl:x=a:=by simpa using ha
   exact h2 hv
theorem var_eq(hA:Alike es ws)(hL:jP es nv nt code)(hat:At s ar I a)(hI:I≤ar.length):
  ny es nv s a=if gK (aS ar I)=false then((4,cE ar s.size I),es,nv)else if 40≤ws.length then((8,cE ar s.size I),es,nv)else if 16≤nv then((8,cE ar s.size I),es,nv)else((0,0),es++[⟨aS ar I,true,nv,Inf.zero⟩],nv+1):=by
 unfold ny;rw[Kt hA hL.l hat hI];obtain⟨n1,n2,n3⟩:=hat.next hI;have:=hL.v1
 cases hnm:gK (aS ar I)with
 |false=>simp[n2]
 |true=>
  simp only[Bool.true_eq_false,if_false]
  by_cases hfull:40≤ws.length
  ·simp[hfull,n2]
  ·rw[az hfull,az hfull,aG rfl]
   by_cases h16:16≤nv
   ·rw[aG h16,aG ag,n2]
   ·rw[az h16,az ag,n1]
end
section
def lU(ws:List RW)(c:Int)(t:ByteArray):Int:=if iG ws t=0 then(if 16≤c then 8 else 0)else iG ws t
theorem Ob(ws:List RW)(t:ByteArray):(if gK t=false then(4:Int)else if 40≤ws.length then 8 else 0)=iG ws t:=rfl
structure LD (s:ByteArray) (ar:List Tk) (R:(Int×Int)×List PE×Int×Int×List Int) (I a f:Nat) (es:List PE) (nv nt:Int) (code:List Int) (ws:List RW):Prop where
 at_:At s ar I a
 le:I≤ar.length
 alike:rH es code ws
 inv:jP es nv nt code
 res:R=loadP s f a es nv nt code
 fuel:s.size - a+1≤f
 ok:∀x∈ws,x.inf.Wt 1∧∃a n c,x.items=.slice a n c
theorem B1(s:ByteArray):∀(f i:Nat),∀x∈jA s f i,x.1.toList≠[]
 |0,i=>by simp[jA]
 |f+1,i=>by
  unfold jA
  split
  ·rename_i hi
   split
   ·exact B1 s f (i+1)
   ·rename_i hb
    split
    ·exact B1 s f _
    ·intro x hx
     rcases er.1 hx with rfl|hx
     ·intro e
      have hlt:=ub s i hi xy;have hle:=(iP blk s i ag).2.1;have h1:(s.extract i (scan blk s i)).size=scan blk s i - i:=by simp[ByteArray.size_extract];omega
      have h2:s.extract i (scan blk s i)=⟨#[]⟩:=(uk _ []).1 (by simpa using e);rw[h2]at h1;have:(ByteArray.mk #[]).size=0:=rfl;omega
     ·exact B1 s f _ x hx
  ·simp
theorem TE(ht:ar=cU s 0)(h:I<ar.length):(aS ar I).toList≠[]:=by
 have hm:ar[I]∈ar:=nS h;have:aS ar I=ar[I].1:=by simp[aS,h]
 rw[this];exact B1 s (s.size - 0) 0 _ (by unfold cU at ht;rw[←ht];exact hm)
theorem C5(s:ByteArray):∀(f i:Nat),∀x∈jA s f i,x.1.size≤s.size
 |0,i=>by simp[jA]
 |f+1,i=>by
  unfold jA
  split
  ·split
   ·exact C5 s f (i+1)
   ·split
    ·exact C5 s f _
    ·intro x hx
     rcases er.1 hx with rfl|hx
     ·simp only[ByteArray.size_extract];omega
     ·exact C5 s f _ x hx
  ·simp
theorem Y2(s:ByteArray)(f i j:Nat):(aS (jA s f i) j).size≤s.size:=by
 unfold aS
 by_cases h:j<(jA s f i).length
 ·have:=C5 s f i _ (nS h)
  simpa [h]using this
 ·simp[List.getD,jh (Nat.le_of_not_lt h)]
  exact bU _
section
variable{s:ByteArray}{ar:List Tk}{R:(Int×Int)×List PE×Int×Int×List Int}{I a f:Nat}{es:List PE}{nv nt:Int}{code:List Int}{ws:List RW}
theorem LD.done(h:LD s ar R I a f es nv nt code ws)(hI:¬I<ar.length):R=((0,0),es,nv,nt,code):=by
 obtain⟨n1,n2,n3⟩:=h.at_.next h.le;have hf:=h.fuel;obtain⟨f',rfl⟩:∃f',f=f'+1:=⟨f - 1,ag⟩;have he:(aS ar I).toList=[]:=n3.resolve_right (fun e=>hI e.1);rw[h.res,loadP,n1];simp[he]
theorem LD.more(h:LD s ar R I a f es nv nt code ws)(ht:ar=cU s 0)(hI:I<ar.length):
  ∃f',f=f'+1∧(nx s a).1=aS ar I∧((nx s a).2.1:Int)=cE ar s.size I∧((aS ar I).toList == [])=false∧At s ar (I+1) (nx s a).2.2∧a<(nx s a).2.2∧(nx s a).2.2≤s.size:=by
 obtain⟨n1,n2,n3⟩:=h.at_.next h.le;have hf:=h.fuel;have hne:=TE ht hI;have hat:=(n3.resolve_left hne).2;have CP:((aS ar I).toList == [])=false:=by simpa using hne
 exact⟨f - 1,ag,n1,n2,CP,hat,Ep s (s.size - a) a h.at_.le (by rw[show(nextF s (s.size - a) a).1=(nx s a).1 from rfl,n1];exact CP),hat.le⟩
theorem LD.bad(h:LD s ar R I a f es nv nt code ws)(ht:ar=cU s 0)(hI:I<ar.length)(h1:((aS ar I).toList == [118,97,114,105,97,98,108,101])=false)(h2:((aS ar I).toList == [58])=false):R=((3,cE ar s.size I),es,nv,nt,code):=by
 obtain⟨f',rfl,n1,n2,n3,n4,n5,n6⟩:=h.more ht hI;rw[h.res,loadP,n1,n2];simp only[n3,h1,h2,Bool.false_eq_true,if_false]
theorem LD.aak(h:LD s ar R I a f es nv nt code ws)(ht:ar=cU s 0)(hI:I<ar.length)(h1:((aS ar I).toList == [118,97,114,105,97,98,108,101])=true)(hE:lU ws nv (aS ar (I+1))≠0):R=((lU ws nv (aS ar (I+1)),cE ar s.size (I+1)),es,nv,nt,code):=by
 obtain⟨f',rfl,n1,n2,n3,n4,n5,n6⟩:=h.more ht hI;have hv:=var_eq h.alike.toAlike h.inv n4 ag;rw[h.res,loadP,n1];simp only[n3,h1,Bool.false_eq_true,if_false,if_true];unfold lU at hE ⊢;rw[←Ob]at hE ⊢
 cases hn:gK (aS ar (I+1))with
 |false=>
  rw[hn]at hv;simp only[if_true]at hv;simp[hv]
 |true=>
  rw[hn]at hv hE;simp only[Bool.true_eq_false,if_false]at hv hE ⊢
  by_cases pQ:40≤ws.length
  ·rw[aG pQ]at hv
   simp[hv,pQ]
  ·rw[az pQ]at hv hE
   by_cases h16:16≤nv
   ·rw[aG h16]at hv
    simp[hv,pQ,h16]
   ·simp[h16]at hE
theorem LD.VN(h:LD s ar R I a f es nv nt code ws)(ht:ar=cU s 0)(hI:I<ar.length)(h1:((aS ar I).toList == [118,97,114,105,97,98,108,101])=true)(hE:lU ws nv (aS ar (I+1))=0):
  ∃a' f' es',LD s ar R (I+2) a' f' es' (nv+1) nt code (ws++[⟨aS ar (I+1),nv,aI,⟨0,0,0,0,false⟩,[]⟩]):=by
 obtain⟨f',rfl,n1,n2,n3,n4,n5,n6⟩:=h.more ht hI;have hv:=var_eq h.alike.toAlike h.inv n4 ag;have bV:=h.inv.var (s:=s) (a:=(nx s a).2.2);obtain⟨m1,m2,m3⟩:=n4.next ag;have hres:=h.res;rw[loadP,n1]at hres;simp only[n3,h1,Bool.false_eq_true,if_false,if_true]at hres;unfold lU at hE;rw[←Ob]at hE
 cases hn:gK (aS ar (I+1))with
 |false=>rw[hn]at hE;simp at hE
 |true=>
  rw[hn]at hv hE;simp only[Bool.true_eq_false,if_false]at hv hE
  by_cases pQ:40≤ws.length
  ·simp[pQ]at hE
  ·rw[az pQ]at hv hE
   by_cases h16:16≤nv
   ·simp[h16]at hE
   ·rw[az h16]at hv
    rw[hv]at hres bV;simp only[if_true]at hres bV;obtain⟨hlt,hat⟩:=m3.resolve_left (GH hn);have hv0:=h.inv.v0;obtain⟨q1,q2,q3,q4⟩:=tG s (s.size - (nx s a).2.2) (nx s a).2.2 n6;refine⟨_,f',_,hat,ag,⟨h.alike.toAlike.push rfl ⟨fun _=>⟨rfl,hv0⟩,fun e=>by cases e⟩,h.alike.tQ.push h.alike.len (fun _ _=>rfl) aH (fun e=>by cases e) (fun _=>⟨hv0,by have:=h.inv.v1;show nv≤16;omega⟩)⟩,bV,hres,?_,?_⟩
    ·have:=h.fuel;unfold nx at *;omega
    ·intro x hx
     rcases List.mem_append.1 hx with hx|hx
     ·exact h.ok x hx
     ·rw[p6.1 hx]
      exact⟨by constructor<;>simp,_,_,_,rfl⟩
theorem LD.abm(h:LD s ar R I a f es nv nt code ws)(ht:ar=cU s 0)(hI:I<ar.length)(h1:((aS ar I).toList == [118,97,114,105,97,98,108,101])=false)(h2:((aS ar I).toList == [58])=true)(F:Nat)(hF:ar.length+1≤F){E:Int×Int}(hE:pColon ws nt ar s.size F (I+1)=.inr E):R=(E,es,nv,nt,code):=by
 obtain⟨f',rfl,n1,n2,n3,n4,n5,n6⟩:=h.more ht hI;have hl:ar.length≤s.size:=Oo;have hw:=colon_eq h.alike.toAlike h.inv hl n4 ag ag F hF;rw[hE]at hw;rw[h.res,loadP,n1];simp only[n3,h1,h2,Bool.false_eq_true,if_false,if_true];rw[hw.2];simp only;rw[az hw.1]
theorem LD.aa8(h:LD s ar R I a f es nv nt code ws)(ht:ar=cU s 0)(hI:I<ar.length)(h1:((aS ar I).toList == [118,97,114,105,97,98,108,101])=false)(h2:((aS ar I).toList == [58])=true)(F:Nat)(hF:ar.length+1≤F){l:List AI}{I':Nat}(hE:pColon ws nt ar s.size F (I+1)=.inl (t,l,I')){v:Value}(hv:∃a n c,v=.slice a n c):
  I+1<I'∧∃a' f' es' code',LD s ar R I' a' f' es' nv (nt+I' - (((I+1:Nat):Int) - 1)) code' (ws++[⟨t, -1,v,oP l,trees l⟩]):=by
 obtain⟨f',rfl,n1,n2,n3,n4,n5,n6⟩:=h.more ht hI;have hl:ar.length≤s.size:=Oo;have hw:=colon_eq h.alike.toAlike h.inv hl n4 ag ag F hF;have bV:=h.inv.word (s:=s) (a:=(nx s a).2.2) n6;rw[hE]at hw;obtain⟨w1,w2,w3,w4,w5,w6,dc,a',w7,w8,⟨q9,w9,w10⟩,w11⟩:=hw
 have hle:code.length≤dc.length:=by
  rcases kh dc.length code.length with h|h
  ·have:=w11 dc.length h
   rw[jh aH,bE h]at this;cases this
  ·exact h
 have hres:=h.res;rw[loadP,n1]at hres;simp only[n3,h1,h2,Bool.false_eq_true,if_false,if_true]at hres;rw[w7]at hres bV;simp only[if_true]at hres bV;have e1:nt+(((I':Nat):Int) - (((I+1:Nat):Int) - 1))=nt+I' - (((I+1:Nat):Int) - 1):=ag;rw[e1]at hres bV
 have hnn:(oP l).Nn:=by
  obtain⟨a1,a2,a3,a4,a5,a6⟩:=w4
  constructor<;>simp only[oP]<;>omega
 have hs1:1≤(oP l).steps:=by have:=w4.s;simp only[oP];omega
 refine⟨w1,a',f',_,dc,w8,w2,⟨h.alike.toAlike.push rfl ⟨(fun e=>by cases e),fun _=>⟨rfl,rfl,hnn,hs1,w5⟩⟩,h.alike.tQ.push h.alike.len w11 hle (fun _=>⟨code.length,q9,rfl,hle,w9,w10⟩) (fun e=>by cases e)⟩,bV.1,hres,?_,?_⟩
 ·have:=h.fuel;have:=bV.2 trivial;omega
 ·intro x hx
  rcases List.mem_append.1 hx with hx|hx
  ·exact h.ok x hx
  ·rw[p6.1 hx]
   exact⟨bV.1.w ⟨t,false,code.length,oP l⟩ aF,hv⟩
end
end
section
theorem find_eq(hA:Alike es ws)(s:ByteArray):findRes (lastP es s es.length)=.tuple #[(findI ws s).1.val,ae (findI ws s).2]:=by
 rw[Fc hA.names s];have hb:=xG (nameAt ws) s ws.length;have hb':cL ws s<ws.length∧ -1≤cL ws s:=hb;unfold findI
 by_cases h0:0≤cL ws s
 ·rw[aG h0,az ag]
  obtain⟨i,hi⟩:∃i:Nat,cL ws s=i:=⟨(cL ws s).toNat,ag⟩;rw[hi]at hb' ⊢;simp only[rL];have hiw:i<ws.length:=ag;have hie:i<es.length:=by rw[hA.len];exact hiw
  have hu:=hA.use i es[i] ws[i] (bE hie) (bE hiw);rw[bE hiw];have he:es.getD i PE.zero=es[i]:=by simp[hie]
  rw[he];simp only[findRes]
  cases hv:es[i].var with
  |true=>
   have:=hu.1 hv;rw[aG rfl,aG this.2];rfl
  |false=>
   have:=hu.2 hv;rw[az aF,az (by rw[this.1];decide),this.2.1]
 ·rw[az h0,aG ag]
  rfl
theorem Xx(hA:Alike es ws)(s:ByteArray)(h:(findI ws s).2=0):1≤(findI ws s).1.steps∧(findI ws s).1.steps≤1000000000:=by
 have hb:cL ws s<ws.length∧ -1≤cL ws s:=xG (nameAt ws) s ws.length;unfold findI at h ⊢
 by_cases h0:cL ws s<0
 ·rw[aG h0]at h;exact absurd h aj
 ·rw[az h0]at h ⊢
  obtain⟨i,hi⟩:∃i:Nat,cL ws s=i:=⟨(cL ws s).toNat,ag⟩;rw[hi]at hb h ⊢;simp only[rL]at h ⊢;have hiw:i<ws.length:=ag;have hie:i<es.length:=by rw[hA.len];exact hiw
  have hu:=hA.use i es[i] ws[i] (bE hie) (bE hiw);rw[bE hiw]at h ⊢;simp only at h ⊢
  by_cases hv:0≤ws[i].var
  ·rw[aG hv]at h;exact absurd h aj
  ·rw[az hv]at h ⊢
   cases hx:es[i].var with
   |true=>exact absurd (hu.1 hx).2 hv
   |false=>exact(hu.2 hx).2.2.2
structure TK where
 word:ByteArray
 bZ:Int
 dl:Int
 off:Int
deriving Inhabited
def TK.cells(t:TK):List Value:=[.string t.word,ae t.bZ,ae t.dl,ae t.off]
def TK.val(t:TK):Value:=.agg #[.string t.word,ae t.bZ,ae t.dl,ae t.off]
def TK.Fits(t:TK):Prop:=1≤t.bZ∧t.bZ≤1000000∧1≤t.dl∧t.dl≤t.bZ∧0≤t.off∧t.off≤1000000
instance (t:TK):Decidable t.Fits:=by unfold TK.Fits;infer_instance
def jl(ws:List RW)(t:TK):Int:=
 if(findI ws t.word).2≠0 then(findI ws t.word).2 else if ¬t.Fits then 9 else if 0<(findI ws t.word).1.need∨32<(findI ws t.word).1.high then 10 else 0
def scanW(ws:List RW):List TK→Nat→Option (Int×Nat)
 |[],_=>none
 |t :: r,k=>if jl ws t≠0 then some (jl ws t,k)else scanW ws r (k+1)
theorem CW{ws:List RW}:∀{l:List TK} {k:Nat},scanW ws l k=none→∀t∈l,jl ws t=0
 |[],_,_,t,ht=>by cases ht
 |x :: r,k,h,t,ht=>by
  unfold scanW at h
  split at h
  ·cases h
  ·rename_i hx
   rcases er.1 ht with e|e
   ·subst e;exact tq hx
   ·exact CW h t e
def dt(ws:List RW)(l:List TK):List (Int×Int):=l.map fun t=>((findI ws t.word).1.steps,t.bZ)
theorem EK(hA:Alike es ws){l:List TK}(h:∀t∈l,jl ws t=0):∀x∈dt ws l,1≤x.1∧x.1≤1000000000∧1≤x.2∧x.2≤1000000:=by
 intro x hx;obtain⟨t,ht,rfl⟩:=List.mem_map.1 hx;have:=h t ht;unfold jl at this
 split at this
 ·contradiction
 ·rename_i h0
  have hb:=Xx hA t.word (tq h0)
  split at this
  ·exact absurd this aj
  ·rename_i h1
   have h1:t.Fits:=tq h1;exact⟨hb.1,hb.2,h1.1,h1.2.1⟩
def kC(ls:List (Int×Int))(k:Nat):Int:=(ls.getD k (0,0)).1
def iy(ls:List (Int×Int))(k:Nat):Int:=(ls.getD k (0,0)).2
def eB(ls:List (Int×Int))(j k:Nat):Bool:=decide (iy ls j<iy ls k)||(decide (iy ls j=iy ls k)&&decide (j<k))
def aheadP(ls:List (Int×Int))(k:Nat):Nat→List (Int×Int)
 |0=>[]
 |n+1=>if eB ls n k=true then aheadP ls k n++[(kC ls n,iy ls n)]else aheadP ls k n
theorem ym(ls:List (Int×Int))(k n:Nat):(aheadP ls k n).length≤n:=by
 induction n with
 |zero=>simp[aheadP]
 |succ n ih=>
  unfold aheadP
  split
  ·rw[cF,gJ];omega
  ·omega
def within(r:Int):List (Int×Int)→Int
 |[]=>0
 |x :: l=>x.1*((r+x.2 - 1) / x.2)+within r l
theorem MQ(r:Int)(a b:List (Int×Int)):within r (a++b)=within r a+within r b:=by
 induction a with
 |nil=>simp[within]
 |cons x l ih=>simp only[List.cons_append,within,ih];omega
theorem U0(r:Int)(l:List (Int×Int))(n:Nat)(h:n<l.length):within r (l.take (n+1))=within r (l.take n)+l[n].1*((r+l[n].2 - 1) / l[n].2):=by
 rw[List.take_add_one,MQ,bE h];simp[within]
def nz(x:Int×Int):Prop:=1≤x.1∧x.1≤1000000000∧1≤x.2∧x.2≤1000000
theorem TX{p a b:Int}(hp:1≤p)(h:a≤b):(a+p - 1) / p≤(b+p - 1) / p:=Int.ediv_le_ediv ag ag
theorem Hg{p:Int}(hp:1≤p)(hr:0≤r)(hr2:r≤1000000):0≤(r+p - 1) / p∧(r+p - 1) / p≤1000000:=by
 refine⟨Int.ediv_nonneg ag ag,?_⟩
 by_cases h0:r=0
 ·subst h0
  have:(0+p - 1) / p=0:=Int.ediv_eq_zero_of_lt ag ag;omega
 ·have h1:(r+p - 1) / p≤r:=by
   apply Int.le_of_lt_add_one;apply Int.ediv_lt_of_lt_mul ag;have:r*1≤r*p:=Int.mul_le_mul_of_nonneg_left hp ag;rw[Int.add_mul];have e:1*p=p:=Int.one_mul p;omega
  omega
theorem Hm{x:Int×Int}(h:nz x)(hr:0≤r)(hr2:r≤1000000):0≤x.1*((r+x.2 - 1) / x.2)∧x.1*((r+x.2 - 1) / x.2)≤1000000000000000:=by
 obtain⟨a,b,c,d⟩:=h;obtain⟨e,f⟩:=Hg c hr hr2;refine⟨Int.mul_nonneg ag e,?_⟩;have:x.1*((r+x.2 - 1) / x.2)≤1000000000*1000000:=Int.mul_le_mul b f e ag;omega
theorem Ek{l:List (Int×Int)}(h:∀x∈l,nz x)(hr:0≤r)(hr2:r≤1000000):0≤within r l∧within r l≤l.length*1000000000000000:=by
 induction l with
 |nil=>simp[within]
 |cons x l ih=>
  have h1:=Hm (h x (List.mem_cons_self ..)) hr hr2;have h2:=ih (fun y hy=>h y (List.mem_cons_of_mem _ hy));simp only[within,fA];omega
theorem P6{l:List (Int×Int)}(h:∀x∈l,nz x){a b:Int}(hab:a≤b):within a l≤within b l:=by
 induction l with
 |nil=>simp[within]
 |cons x l ih=>
  have h2:=ih (fun y hy=>h y (List.mem_cons_of_mem _ hy));obtain⟨c,_,d,_⟩:=h x (List.mem_cons_self ..);have h1:x.1*((a+x.2 - 1) / x.2)≤x.1*((b+x.2 - 1) / x.2):=Int.mul_le_mul_of_nonneg_left (TX d hab) ag;simp only[within];omega
def respG(D:Int→Int)(dl:Int):Nat→Int→Int
 |0,_=>0
 |f+1,r=>if r≤dl then(if D r=r then r else respG D dl f (D r))else 0
def yF(D:Int→Int)(dl:Int):Int:=respG D dl (dl.toNat+1) 1
def oU(ls:List (Int×Int))(k:Nat)(r:Int):Int:=kC ls k+within r (aheadP ls k ls.length)
theorem Ou(h:k<ls.length):kC ls k=ls[k].1:=by simp[kC,h]
theorem Qv(h:k<ls.length):iy ls k=ls[k].2:=by simp[iy,h]
theorem AY(h:∀x∈ls,nz x)(hk:k<ls.length):nz (kC ls k,iy ls k):=by
 rw[Ou hk,Qv hk];exact h _ (nS hk)
theorem yH{ls:List (Int×Int)}(h:∀x∈ls,nz x)(k:Nat):∀n,n≤ls.length→∀x∈aheadP ls k n,nz x
 |0,_,x,hx=>by cases hx
 |n+1,hn,x,hx=>by
  unfold aheadP at hx
  split at hx
  ·rcases List.mem_append.1 hx with hx|hx
   ·exact yH h k n ag x hx
   ·rw[p6.1 hx];exact AY h ag
  ·exact yH h k n ag x hx
theorem Xy(h:∀x∈ls,nz x)(k:Nat){a b:Int}(hab:a≤b):oU ls k a≤oU ls k b:=by
 have:=P6 (yH h k ls.length aH) hab;unfold oU;omega
theorem acb(h:∀x∈ls,nz x)(h8:ls.length≤8)(hk:k<ls.length)(hr:0≤r)(hr2:r≤1000000):1≤oU ls k r∧oU ls k r≤9000000000000000:=by
 have h1:=Ek (yH h k ls.length aH) hr hr2;have h2:=ym ls k ls.length;have h3:=(AY h hk);obtain⟨a,b,_,_⟩:=h3;unfold oU;simp only at a b;omega
def uf(ls:List (Int×Int))(l:List TK)(k:Nat):Int:=yF (oU ls k) (l.getD k default).dl
def wN(ls:List (Int×Int))(l:List TK)(k:Nat):List Value:=[ae (kC ls k),ae ((aheadP ls k ls.length).length:Int),ae (uf ls l k)]
def qZ(ls:List (Int×Int))(l:List TK):Nat→List Value
 |0=>[]
 |n+1=>qZ ls l n++wN ls l n
theorem Dn(ls:List (Int×Int))(l:List TK)(n:Nat):(qZ ls l n).length=n*3:=by
 induction n with
 |zero=>rfl
 |succ n ih=>rw[qZ,cF,ih];simp[wN];omega
def tN(ls:List (Int×Int))(l:List TK):Nat→Nat→Option Nat
 |0,_=>none
 |n+1,k=>if uf ls l k=0 then some k else tN ls l n (k+1)
def admitT(ws:List RW)(l:List TK):Int×Nat:=
 if l.length=0∨8<l.length then(1,0)else
  match scanW ws l 0 with
  |some (e,k)=>(e,k)
  |none=>match tN (dt ws l) l l.length 0 with
   |some k=>(11,k)
   |none=>(0,0)
end
section
theorem pig:∀(n:Nat) (f:Nat→Nat),(∀i,i<n→f i<n)→(∀i k,i<n→k<n→f i=f k→i=k)→∀j,j<n→∃i,i<n∧f i=j
 |0,_,_,_,j,hj=>ag
 |n+1,f,hb,hi,j,hj=>by
  by_cases hn:f n=n
  ·by_cases hjn:j=n
   ·exact⟨n,ag,by rw[hn,hjn]⟩
   ·obtain⟨i,h1,h2⟩:=pig n f (fun i h=>by
     have h1:=hb i ag;have:f i≠n:=fun e=>by have:=hi i n ag ag (e.trans hn.symm);omega
     omega) (fun i k h1 h2 e=>hi i k ag ag e) j ag
    exact⟨i,ag,h2⟩
  ·have hfn:f n<n:=by have:=hb n ag;omega
   have key:=pig n (fun i=>if f i=n then f n else f i) (fun i h=>by
     show(if f i=n then f n else f i)<n
     have:=hb i ag
     split<;>omega) (fun i k h1 h2 e=>by
     have a1:=hi i n ag ag;have a2:=hi k n ag ag;have a3:=hi i k ag ag
     by_cases c1:f i=n<;>by_cases c2:f k=n
     ·exact a3 (c1.trans c2.symm)
     ·rw[aG c1,az c2]at e;have:=a2 e.symm;omega
     ·rw[az c1,aG c2]at e;have:=a1 e;omega
     ·rw[az c1,az c2]at e;exact a3 e)
   by_cases rq:j=f n
   ·exact⟨n,ag,rq.symm⟩
   ·by_cases hjn:j=n
    ·obtain⟨i,h1,h2⟩:=key (f n) hfn
     by_cases c:f i=n
     ·exact⟨i,ag,ag⟩
     ·rw[az c]at h2;have:=hi i n ag ag h2;omega
    ·obtain⟨i,h1,h2⟩:=key j ag
     by_cases c:f i=n
     ·rw[aG c]at h2;exact absurd h2.symm rq
     ·rw[az c]at h2;exact⟨i,ag,h2⟩
section
variable{ls:List (Int×Int)}{i j k:Nat}
theorem vF:eB ls j k=true↔iy ls j<iy ls k∨(iy ls j=iy ls k∧j<k):=by
 unfold eB;simp only[Bool.or_eq_true,Bool.and_eq_true,decide_eq_true_eq]
theorem Ri:eB ls j j=false:=by
 cases h:eB ls j j with
 |false=>rfl
 |true=>have:=vF.1 h;omega
theorem PM(h:eB ls i j=true)(h':eB ls j k=true):eB ls i k=true:=by
 have a:=vF.1 h;have b:=vF.1 h';exact vF.2 ag
theorem LH(h:j≠k):eB ls j k=true∨eB ls k j=true:=by
 rcases Int.lt_trichotomy (iy ls j) (iy ls k)with e|e|e
 ·exact aC (vF.2 (aC e))
 ·rcases Nat.lt_or_gt_of_ne h with e'|e'
  ·exact aC (vF.2 (aA ⟨e,e'⟩))
  ·exact aA (vF.2 (aA ⟨e.symm,e'⟩))
 ·exact aA (vF.2 (aC e))
theorem Ry(h:∀i,eB ls i j=true→eB ls i k=true):∀n,(aheadP ls j n).length≤(aheadP ls k n).length
 |0=>aH
 |n+1=>by
  have ih:=Ry h n;unfold aheadP
  by_cases hj:eB ls n j=true
  ·rw[aG hj,aG (h n hj),cF,cF];simp;exact ih
  ·exact N0
theorem Rw(h:eB ls j k=true):∀n,j<n→(aheadP ls j n).length<(aheadP ls k n).length
 |0,hn=>ag
 |n+1,hn=>by
  have h':∀i,eB ls i j=true→eB ls i k=true:=fun i hi=>PM hi h
  unfold aheadP
  by_cases e:j=n
  ·subst e
   have:=Ry h' j;rw[az (by rw[Ri];decide),aG h,cF];simp;omega
  ·have ih:=Rw h n ag
   by_cases hj:eB ls n j=true
   ·rw[aG hj,aG (h' n hj),cF,cF];simp;exact ih
   ·exact N0
theorem Ls:∀n,k<n→(aheadP ls k n).length<n
 |0,h=>ag
 |n+1,h=>by
  unfold aheadP
  by_cases e:k=n
  ·subst e
   have:=ym ls k k;rw[az (by rw[Ri];decide)];omega
  ·have ih:=Ls n ag
   by_cases hk:eB ls n k=true
   ·rw[aG hk,cF];simp;exact ih
   ·rw[az hk];omega
def kW(ls:List (Int×Int))(k:Nat):Nat:=(aheadP ls k ls.length).length
theorem yw(h:k<ls.length):kW ls k<ls.length:=Ls _ h
theorem Jk(hj:j<ls.length)(h:eB ls j k=true):kW ls j<kW ls k:=Rw h _ hj
theorem Jm(hj:j<ls.length)(hk:k<ls.length)(h:kW ls j=kW ls k):j=k:=tq fun e=>by
 rcases LH (ls:=ls) e with g|g
 ·have:=Jk hj g;omega
 ·have:=Jk hk g;omega
theorem XO(h:p<ls.length):∃k,k<ls.length∧kW ls k=p:=pig _ (kW ls) (fun _ h=>yw h) (fun _ _ h h' e=>Jm h h' e) p h
def xD(ls:List (Int×Int))(p:Nat):Nat:=((List.range ls.length).find? fun k=>kW ls k == p).getD 0
def fF(ls:List (Int×Int)):List Nat:=(List.range ls.length).map (xD ls)
theorem B8(h:p<ls.length):xD ls p<ls.length∧kW ls (xD ls p)=p:=by
 unfold xD
 cases hf:(List.range ls.length).find? fun k=>kW ls k == p with
 |none=>
  obtain⟨k,h1,h2⟩:=XO h;have:=List.find?_eq_none.1 hf k (List.mem_range.2 h1);simp[h2]at this
 |some k=>
  have h1:=List.mem_range.1 (List.mem_of_find?_eq_some hf);have h2:=List.find?_some hf;exact⟨h1,by simpa using h2⟩
theorem Pq(h:k<ls.length):xD ls (kW ls k)=k:=by
 obtain⟨a,b⟩:=B8 (yw h);exact Jm a h b
theorem Ag(h:p<ls.length):(fF ls).getD p 0=xD ls p:=by
 simp[fF,h]
end
end
section
theorem ye{t:TK}(h:¬(1≤t.bZ∧t.bZ≤1000000∧1≤t.dl∧t.dl≤t.bZ∧0≤t.off∧t.off≤1000000)):decide t.Fits=false:=gO h
theorem aca(t:TK)(w:World):
  Calls prog 81 #[t.val] w fun e w'=>e=.returned (.bool (decide t.Fits))∧Below w.heap.size w w':=by
 obtain⟨s,p,d,o⟩:=t;obtain⟨R,hR⟩:=ak (decide (TK.mk s p d o).Fits);rw[←hR];have hb:∀ob:Obj,Below w.heap.size w (w.alloc ob):=fun ob=>aQ.alloc aH _
 have HB:=af hb;clear hb
 by_cases h1:1≤p
 ·by_cases h2:p≤1000000
  ·by_cases h3:1≤d
   ·by_cases h4:d≤p
    ·by_cases h5:0≤o
     ·by_cases h6:o≤1000000
      ·have HR:Hid (R=true):=by show R=true;rw[hR];exact jW ⟨h1,h2,h3,h4,h5,h6⟩
       exact xF
      ·have HR:Hid (R=false):=by show R=false;rw[hR];exact ye (fun h=>h6 h.2.2.2.2.2)
       exact xF
     ·have HR:Hid (R=false):=by show R=false;rw[hR];exact ye (fun h=>h5 h.2.2.2.2.1)
      exact xF
    ·have HR:Hid (R=false):=by show R=false;rw[hR];exact ye (fun h=>h4 h.2.2.2.1)
     exact xF
   ·have HR:Hid (R=false):=by show R=false;rw[hR];exact ye (fun h=>h3 h.2.2.1)
    exact xF
  ·have HR:Hid (R=false):=by show R=false;rw[hR];exact ye (fun h=>h2 h.2.1)
   exact xF
 ·have HR:Hid (R=false):=by show R=false;rw[hR];exact ye (fun h=>h1 h.1)
  exact xF
theorem BZ{a b b':Int}(h:a=a')(h':b=b'):Ending.returned (.tuple #[ae a,ae b])=.returned (.tuple #[ae a',ae b']):=by rw[h,h']
def AW(ws:List RW)(t:TK):Int:=if jl ws t=0 then(findI ws t.word).1.steps else 0
theorem UC{bb:Nat}{ev cv:Value}(t:TK)(h:dF w bb ev cv es nv nt code)(hl:es.length≤1000)(hA:Alike es ws):
  Calls prog 53 #[ax bb,t.val] w fun e w'=>e=.returned (.tuple #[ae (AW ws t),ae (jl ws t)])∧Below w.heap.size w w':=by
 have hff:∀w':World,Below w.heap.size w w'→Calls prog 18 #[ax bb,.string t.word] w' fun e w2=>e=.returned (.tuple #[(findI ws t.word).1.val,ae (findI ws t.word).2])∧Below w'.heap.size w' w2:=fun w' hb=>by
  have:=ace t.word (h.below hb) hl;rw[find_eq hA t.word]at this;exact this
 obtain⟨P,hP⟩:=ak (AW ws t);obtain⟨E,hE⟩:=ak (jl ws t);have pJ:=hP;unfold AW at pJ;rw[←hE]at pJ;have nT:=hE;unfold jl at nT;rw[←hP,←hE];obtain⟨⟨⟨b1,b2,b3,b4,b5⟩,f⟩,hF⟩:∃F,F=findI ws t.word:=⟨_,rfl⟩;rw[←hF]at hff pJ nT;simp only[Inf.val]at hff pJ nT;have fK:=h.blk.lt;have HF:=af hff;have HFT:=af (fun w'=>aca t w');have nA:=af pJ;have l8:=af nT;clear h hff hP hE pJ nT hF;obtain⟨s,p,d,o⟩:=t;simp only at HF;obtain⟨B,hB⟩:=ak (decide (TK.mk s p d o).Fits);rw[←hB]at HFT;have gI:=af hB;clear hB;unfold TK.val at HFT ⊢;simp only at HFT ⊢;have hb0:Below w.heap.size w (w.alloc (.cells #[.string s,ae p,ae d,ae o] 67 (0,0))):=aQ.alloc aH _;obtain⟨X,hX⟩:=ak (w.alloc (.cells #[.string s,ae p,ae d,ae o] 67 (0,0)):World);obtain⟨tb,jO⟩:=ak (w.heap.size);have aN:ay X tb #[.string s,ae p,ae d,ae o] 67:=by rw[hX,jO];exact bJ w _ _
 rw[←hX]at hb0;have HX:=af hX;have HTB:=af jO;have nj:=af hb0;have bz:=af aN;have x0:X.cell? (ai tb 0)=some (.string s):=aN.cell 0 _ rfl;clear hX jO hb0 aN;go_enter func53,ntmps53;go_upto_region 1 with fail
 rw[←HX.out,←HTB.out];go_wp2_with fail;refine(HF _ nj).mono ?_;rintro e w1 ⟨rfl,hb1⟩;obtain⟨Y,hY⟩:=ak (w1.alloc (.cells #[ae b1,ae b2,ae b3,ae b4,.bool b5] 36 (0,0)):World);obtain⟨ib,hib⟩:=ak (w1.heap.size);have dV:Below X.heap.size X Y:=E4;have eW:ay Y ib #[ae b1,ae b2,ae b3,ae b4,.bool b5] 36:=Gw;have tW:=bz.sub dV bz.lt;have y0:Y.cell? (ai tb 0)=some (.string s):=tW.cell 0 _ rfl;have y1:Y.cell? (ai tb 1)=some (ae p):=tW.cell 1 _ rfl;have y2:Y.cell? (ai tb 2)=some (ae d):=tW.cell 2 _ rfl;have y3:Y.cell? (ai tb 3)=some (ae o):=tW.cell 3 _ rfl;have HY:=af hY;have dU:=af hib;have cx:=af (nj.trans (dV.mono nj.size));have px:=af eW;clear hY hib dV eW tW hb1 HF x0;go_upto_region 2 with fail
 rw[←HY.out,←dU.out]
 by_cases hf0:f=0
 ·have hfn:(f != 0)=false:=by simp[hf0]
  have hE:=l8.out;rw[az (by simp[hf0])]at hE;have HE3:=af hE;clear hE;go_wp2_with fail;refine(HFT _).mono ?_;rintro e w2 ⟨rfl,hb2⟩;have hk2:=px.sub hb2 px.lt;have z0:w2.cell? (ai ib 0)=some (ae b1):=hk2.cell 0 _ rfl;have z2:w2.cell? (ai ib 2)=some (ae b3):=hk2.cell 2 _ rfl;have z3:w2.cell? (ai ib 3)=some (ae b4):=hk2.cell 3 _ rfl;have aW:=af (cx.trans (hb2.mono cx.size));clear hb2 hk2 y0 y1 y2 y3
  cases B with
  |false=>
   have hE:=HE3.out;rw[aG (by have:=gI.symm;exact of_decide_eq_false this)]at hE;have nI:Hid (P=0∧E=9):=⟨Mk,hE⟩;clear hE;go_wp2_with fail;exact bodyPost_ret (v:=.tuple #[ae 0,ae 9]) Dd rfl ⟨BZ nI.out.1.symm nI.out.2.symm,aW⟩
  |true=>
   have hE:=HE3.out;rw[az (by have:=of_decide_eq_true gI.symm;exact fun h=>h this)]at hE
   by_cases hn:0<b1
   ·rw[aG (aC hn)]at hE
    exact QH
   ·by_cases hh:32<b3
    ·rw[aG (aA hh)]at hE
     exact QH
    ·rw[az (fun e=>e.elim hn hh)]at hE
     have nI:Hid (P=b4∧E=0):=⟨by have:=nA.out;rw[aG hE]at this;exact this,hE⟩;clear hE;go_wp2_with fail;exact bodyPost_ret (v:=.tuple #[ae b4,ae 0]) Dd rfl ⟨BZ nI.out.1.symm nI.out.2.symm,aW⟩
 ·have hfn:(f != 0)=true:=by simp[hf0]
  have hE:=l8.out;rw[aG hf0]at hE;have nI:Hid (P=0∧E=f):=⟨by have:=nA.out;rw[az (by rw[hE];exact hf0)]at this;exact this,hE⟩;clear hE;go_wp2_with fail;exact bodyPost_ret (v:=.tuple #[ae 0,ae f]) Dd rfl ⟨BZ nI.out.1.symm nI.out.2.symm,cx⟩
theorem D5(n:Int)(h: -9223372036854775808≤n∧n≤9223372036854775807):wrap64 n=n:=by unfold wrap64;omega
def gL(x:Int×Int):List Value:=[ae x.1,ae x.2]
theorem VS(r:Int)(ls:List (Int×Int))(v:Value)(w:World)(hr:w.ownsRow base 128 2 v ls.length (ls.flatMap gL))(bj:∀x∈ls,nz x)(h8:ls.length≤8)(h0:0≤r)(h1:r≤1000000):
  Calls prog 82 #[ae r,v] w fun e w'=>e=.returned (ae (within r ls))∧Below w.heap.size w w':=by
 obtain⟨va,vc,hv,hvc,_⟩:=bo hr;subst hv;obtain⟨R,hR⟩:=ak (within r ls);rw[←hR];have HR:=af hR;have fc:=af hr;have eP:=af bj;obtain⟨N,hN⟩:=ak (ls.length);rw[←hN]at h8 hvc;have HN:=af hN;rw[←hN];clear hR hr bj hN;go_enter func82,ntmps82;go_wp2_with fail;go_loopw[5,11] (fun s i wr=>∃k:Nat,k≤N∧i=ae k∧s=ae (within r (ls.take k))∧Hid (Below w.heap.size w wr)) (fun _ i _=>N - (intOf i).toNat)
 case atStart=>exact⟨0,bU _,rfl,rfl,aQ⟩
 case round=>
  obtain⟨k,hk,rfl,rfl,HB⟩:=hrel
  by_cases hlt:k<N
  ·have bV:(k:Int)<(N:Int):=by omega
   have hl0:(0:Int)≤(k:Int):=ag;have hkl:k<ls.length:=uj;obtain⟨g,cap',hv,_,hg,_,_,hc⟩:=cd fc ag;obtain⟨rfl,rfl⟩:va=some (ai g 0)∧vc=cap':=gW;obtain⟨⟨c,p⟩,hx⟩:∃x,x=ls[k]:=⟨_,rfl⟩
   have e0:wr.cell? (ai g (k*2))=some (ae c):=by
    rw[HB.cell (p:=ai g (k*2)) hg];refine hc _ _ ?_;have:=flat_get gL 2 (fun _=>rfl) ls k 0 hkl ag;rw[Nat.add_zero]at this;rw[this,←hx];rfl
   have e1:wr.cell? (ai g (k*2+1))=some (ae p):=by
    rw[HB.cell (p:=ai g (k*2+1)) hg];refine hc _ _ ?_;rw[flat_get gL 2 (fun _=>rfl) ls k 1 hkl ag,←hx];rfl
   have Ig:=eP.out _ (nS hkl);rw[←hx]at Ig;have fV:=Hm Ig h0 h1;obtain⟨o1,o2,o3,o4⟩:=Ig;simp only at o1 o2 o3 o4 fV;have hrb:=Hg o3 h0 h1;have hwb:=Ek (l:=ls.take k) (fun x hx=>eP x (List.mem_of_mem_take hx)) h0 h1;have hwl:((ls.take k).length:Int)≤8:=yN;have fR:=U0 r ls k hkl;rw[←hx]at fR;simp only at fR;obtain⟨S,hS⟩:=ak (within r (ls.take k));rw[←hS]at fR hwb ⊢;have hS0:0≤S:=hwb.1;have hS1:S≤8000000000000000:=by have:=hwb.2;omega
   obtain⟨q,hq⟩:=ak ((r+p - 1) / p);rw[←hq]at fV hrb fR;have HWS:=af fR;have HQE:=af hq.symm;obtain⟨M,hM⟩:=ak (c*q);rw[←hM]at fV;obtain⟨hM0,hM1⟩:=fV;have HM:=af hM;have hp0:p≠0:=ag;clear fR hq hwb hwl hS hc hv hx hM;go_wp2_with fail;go_roundw
   case rel=>
    refine⟨k+1,ag,bO,?_,af (HB.alloc HB.size _)⟩;rw[HWS.out,HQE.out,←HM.out,D5 M ag,D5 (S+M) ag]
   case measure=>simp[intOf];omega
  ·have bV:¬(k:Int)<(N:Int):=by omega
   have hkN:k=ls.length:=by rw[←HN.out];omega
   have HK:=af hkN;clear hkN;go_wp2_with fail;rw[HK.out,List.take_length,←HR.out];go_ret;exact⟨rfl,HB⟩
theorem OO{a:Int}{b b':Bool}(h:a=a')(h':b=b'):Ending.returned (.tuple #[ae a,.bool b])=.returned (.tuple #[ae a',.bool b']):=by rw[h,h']
theorem KH{D:Int→Int}{dl:Int}{f:Nat}(hm:∀a b,a≤b→D a≤D b)(hf:dl - r<f)(hr:r≤D r)(hle:r≤dl)(hne:D r≠r):
  ∃f',f=f'+1∧respG D dl f r=respG D dl f' (D r)∧dl - D r<f'∧D r≤D (D r)∧r<D r:=by
 obtain⟨f',rfl⟩:∃f',f=f'+1:=⟨f - 1,ag⟩;refine⟨f',rfl,?_,ag,hm _ _ hr,ag⟩;rw[respG,aG hle,az hne]
theorem adh(c dl:Int)(ls:List (Int×Int))(v:Value)(w:World)(hr:w.ownsRow base 128 2 v ls.length (ls.flatMap gL))(bj:∀x∈ls,nz x)(h8:ls.length≤8)(hc1:1≤c)(hc2:c≤1000000000)(iC:1≤dl)(fT:dl≤1000000):
  Calls prog 55 #[ae c,v,ae dl] w fun e w'=>e=.returned (.tuple #[ae (yF (fun r=>c+within r ls) dl),.bool (decide (yF (fun r=>c+within r ls) dl≠0))])∧Below w.heap.size w w':=by
 obtain⟨va,vc,hv,hvc,_⟩:=bo hr;subst hv;obtain⟨D,hD⟩:=ak (fun r=>c+within r ls:Int→Int);have hDr:∀r,D r=c+within r ls:=fun r=>by rw[hD]
 have AQ:∀a b,a≤b→D a≤D b:=fun a b h=>by have:=P6 bj h;rw[hDr,hDr];omega
 have di:∀r,0≤r→r≤1000000→1≤D r∧D r≤9000000000000000:=fun r a b=>by have:=Ek bj a b;rw[hDr];omega
 rw[←hD];obtain⟨R,hR⟩:=ak (yF D dl);rw[←hR];have HW:=af (fun (r:Int) (w':World) (hb:Below w.heap.size w w') (a:0≤r) (b:r≤1000000)=>VS r ls _ w' (aR hr (aq.bf (S:=fun _=>False) hb) (fun _ _=>id)) bj h8 a b);have HDR:=af hDr;have HMO:=af AQ;have HBD:=af di;have HR:=af hR;obtain⟨N,hN⟩:=ak (ls.length);rw[←hN]at HW ⊢;clear hD hDr AQ di hR hr bj h8 hvc hN;go_enter func55,ntmps55;go_wp2_with fail;go_loopw[8] (fun i wr=>∃(r:Int) (f:Nat),i=ae r∧1≤r∧r≤9000000000000000∧Hid (R=respG D dl f r∧dl - r<f∧r≤D r)∧Hid (Below w.heap.size w wr)) (fun i _=>(dl+1 - intOf i).toNat)
 case atStart=>
  exact⟨1,dl.toNat+1,rfl,ag,ag,af ⟨HR,ag,(HBD 1 ag ag).1⟩,aQ⟩
 case round=>
  clear HR;obtain⟨r,f,rfl,h1,h2,HF,HB⟩:=hrel
  by_cases hle:r≤dl
  ·have pE:=af (HW r wr HB ag ag)
   obtain⟨x,hx⟩:=ak (within r ls);rw[←hx]at pE;have hDx:=HDR.out r;rw[←hx]at hDx;have di:=HBD.out r ag ag;have hb1:1≤c+x:=ag;have hb2:c+x≤9000000000000000:=ag;have HDX:=af hDx;clear hDx hx di;go_wp2_with fail;refine pE.mono ?_;rintro e w2 ⟨rfl,hb⟩;have aW:=af (HB.trans (hb.mono HB.size));clear hb pE
   by_cases he:c+x=r
   ·have hfin:Hid (R=r):=by
     show R=r
     obtain⟨a,b,_⟩:=HF.out;obtain⟨f',rfl⟩:∃f',f=f'+1:=⟨f - 1,ag⟩;rw[a,respG,aG hle,aG Eh]
    have he':(c+x == r)=true:=by simp[he]
    have HE:=af he;clear he;go_wp2_with fail;exact bodyPost_ret (v:=.tuple #[ae r,.bool true]) (by simp[results,results55,go_sem]) rfl ⟨OO hfin.symm (by rw[hfin.out];exact(jW ag).symm),aW⟩
   ·have he':(c+x == r)=false:=by simp[he]
    obtain⟨a,b,cc⟩:=HF.out;have hst:=KH HMO b cc hle Eh;rw[HDX.out]at hst;have HST:=af hst;have HA:=af a;clear hst a b cc HF;go_wp2_with fail;go_roundw
    case rel=>
     obtain⟨f',rfl,s1,s2,s3,s4⟩:=HST.out;exact⟨c+x,f',rfl,hb1,hb2,af ⟨by rw[HA.out,s1],s2,s3⟩,aW⟩
    case measure=>
     obtain⟨f',rfl,s1,s2,s3,s4⟩:=HST.out;simp[intOf];omega
  ·have hfin:Hid (R=0):=by
    show R=0
    obtain⟨a,b,_⟩:=HF.out;rw[a]
    cases f with
    |zero=>rfl
    |succ f=>rw[respG,az hle]
   clear HF;go_wp2_with fail;exact bodyPost_ret (v:=.tuple #[ae 0,.bool false]) (by simp[results,results55,go_sem]) rfl ⟨OO hfin.symm (by rw[hfin.out];rfl),HB⟩
end
section
def ldz:Value:=.agg #[ae 0,ae 0]
theorem Tryz.Mv:(prog.info? 128).map (fun i=>(i.zero,i.size,i.bytes))=some (some ldz,2,16):=aP
theorem ET{n cap:Nat}(hr:w.ownsRow base 128 2 (aD g n cap) n (ls.flatMap gL))(hk:k<ls.length)(hn:ls.length=n):
  w.cell? (ai g (k*2))=some (ae (kC ls k))∧w.cell? (ai g (k*2+1))=some (ae (iy ls k)):=by
 obtain⟨g',cap',hv,_,hg,_,_,hc⟩:=cd hr ag;obtain⟨rfl,rfl⟩:g=g'∧cap=cap':=gW
 constructor
 ·refine hc _ _ ?_
  have:=flat_get gL 2 (fun _=>rfl) ls k 0 hk ag;rw[Nat.add_zero]at this;rw[this,Ou hk];rfl
 ·refine hc _ _ ?_
  rw[flat_get gL 2 (fun _=>rfl) ls k 1 hk ag,Qv hk];rfl
theorem aai(ls:List (Int×Int)):∀u∈ls.flatMap gL,u.oneCell'=true:=by
 intro u hu;obtain⟨x,_,hu⟩:=List.mem_flatMap.1 hu;simp[gL]at hu;rcases hu with rfl|rfl<;>rfl
theorem Tv(ls:List (Int×Int))(g n cap K:Nat)(w:World)(hr:w.ownsRow base 128 2 (aD g n cap) n (ls.flatMap gL))(hn:ls.length=n)(h8:n≤8)(hK:K<n):
  Calls prog 54 #[aD g n cap,ae K] w fun e w'=>∃ua uc,e=.returned (.slice ua (aheadP ls K n).length uc)∧w'.ownsRow w.heap.size 128 2 (.slice ua (aheadP ls K n).length uc) (aheadP ls K n).length ((aheadP ls K n).flatMap gL)∧Below w.heap.size w w':=by
 obtain⟨i0,hi,hz0,hz1,hz2⟩:=info_parts Tryz.Mv;have HI:=af (aY hi (aY hz0 (aY hz1 hz2)));obtain⟨g',cap',hv,_,hg,hcap,_,_⟩:=cd hr ag;obtain⟨rfl,rfl⟩:g=g'∧cap=cap':=gW;have fc:=af hr;have HN:=af hn;have HRB:=af (fun (w':World) (hb:Below w.heap.size w w')=>aR hr (aq.bf (S:=fun _=>False) hb) (fun _ _=>id));have hKi:(K:Int)<(n:Int):=ag;have hK0:(0:Int)≤(K:Int):=ag;obtain⟨q,hq⟩:=ak (iy ls K);have HQ:=af hq;clear hr hn hv hi hz0 hz1 hz2 hq;go_enter func54,ntmps54;go_wp2_with fail;go_loopw[5,10] (fun s i wr=>∃(k:Nat) (ua:Option Addr) (m uc:Nat),k≤n∧i=ae k∧s=.slice ua m uc∧Hid (m=(aheadP ls K k).length∧wr.ownsRow w.heap.size 128 2 (.slice ua m uc) m ((aheadP ls K k).flatMap gL))∧Hid (Below w.heap.size w wr)) (fun _ i _=>n - (intOf i).toNat)
 case atStart=>exact⟨0,none,0,0,bU _,rfl,rfl,af ⟨rfl,rfl,aC ⟨rfl,rfl⟩⟩,aQ⟩
 case round=>
  obtain⟨k,ua,m,uc,hk,rfl,rfl,HU,HB⟩:=hrel
  by_cases hlt:k<n
  ·have bV:(k:Int)<(n:Int):=by omega
   have hl0:(0:Int)≤(k:Int):=ag;have hkl:k<ls.length:=by rw[HN.out];exact hlt
   have hKl:K<ls.length:=by rw[HN.out];exact hK
   obtain⟨c,hc⟩:=ak (kC ls k);obtain⟨p,hp⟩:=ak (iy ls k);have e0:=ET (HRB wr HB) hkl HN;rw[←hc,←hp]at e0;obtain⟨e0,e1⟩:=e0;obtain⟨X,hX⟩:=ak (wr.alloc (.cells #[ae c,ae p] 128 (0,0)):World);obtain⟨lb,hlb⟩:=ak (wr.heap.size);have hbX:Below w.heap.size w X:=EL;have aN:ay X lb #[ae c,ae p] 128:=by rw[hX,hlb];exact bJ wr _ _
   have ki:X.ownsRow w.heap.size 128 2 (.slice ua m uc) m ((aheadP ls K k).flatMap gL):=by rw[hX];exact HU.out.2.alloc _
   have x0:X.cell? (ai lb 0)=some (ae c):=aN.cell 0 _ rfl;have x1:X.cell? (ai lb 1)=some (ae p):=aN.cell 1 _ rfl;have f1:=(ET (HRB X hbX) hKl HN).2;rw[←HQ.out]at f1;have adS:=aN.lt;have hgX:g<X.heap.size:=bF hg hbX.size;have HX:=af hX;have HLB:=af hlb;have bT:=af hbX;have bz:=af aN;have eZ:=af ki;have HC:=af hc;have HP:=af hp;have HM:=af HU.out.1;have hml:m≤8:=by have:=HU.out.1;have:=ym ls K k;omega
   clear hX hlb hbX aN ki hc hp HU;go_upto_region 5 with fail
   rw[←HX.out,←HLB.out];clear e0 e1;have hgo:eB ls k K=(decide (p<q)||(decide (p=q)&&decide (k<K))):=by rw[eB,HP.out,HQ.out]
   by_cases mC:eB ls k K=true
   ·have hstep:aheadP ls K (k+1)=aheadP ls K k++[(c,p)]:=by rw[aheadP,aG mC,HC.out,HP.out]
    have HST:=af hstep;rw[hgo]at mC;have fin:∀V:World,Below X.heap.size X V→∃Z:World,True:=fun V h=>⟨V,trivial⟩
    clear hstep hgo fin
    by_cases hpq:p<q
    ·have hd:decide (p<q)=true:=jW hpq
     clear mC;go_wp2_with fail;exact N8
    ·have hd:decide (p<q)=false:=gO hpq
     rw[hd]at mC;have hpe:p=q:=by have:=mC;simp at this;exact this.1
     have hkK:k<K:=by have:=mC;simp at this;exact this.2
     have fT:(p == q)=true:=by simp[hpe]
     have Gy:(k:Int)<(K:Int):=ag;have mE:decide ((k:Int)<(K:Int))=true:=jW Gy;have HPE:=af hpe;clear mC hpe;go_wp2_with fail;exact N8
   ·have hstep:aheadP ls K (k+1)=aheadP ls K k:=by rw[aheadP,az mC]
    have HST:=af hstep;rw[hgo]at mC;clear hstep hgo;have hpq:¬p<q:=fun h=>mC tV
    have hd:decide (p<q)=false:=gO hpq
    by_cases hpe:p=q
    ·have hkK:¬k<K:=fun h=>mC (by simp[h,hpe])
     have fT:(p == q)=true:=by simp[hpe]
     have Gy:¬(k:Int)<(K:Int):=ag;have mE:decide ((k:Int)<(K:Int))=false:=gO Gy;have HPE:=af hpe;clear mC hpe;go_wp2_with fail;exact Px
    ·have fT:(p == q)=false:=by simp[hpe]
     clear mC;go_wp2_with fail;exact Px
  ·have bV:¬(k:Int)<(n:Int):=by omega
   obtain rfl:k=n:=ag;go_wp2_with fail;obtain⟨h1,h2⟩:=HU.out;subst h1;go_ret;exact⟨ua,uc,rfl,h2,HB⟩
end
section
def oq(w:World)(pb po:Nat)(l:List TK):Prop:=pb<w.heap.size∧∀(j:Nat) (u:Value),(l.flatMap TK.cells)[j]?=some u→w.cell? (ai pb (po+j))=some u
theorem oq.below{B:Nat}{w':World}{l:List TK}(h:oq w pb po l)(hb:Below B w w')(hB:pb<B):oq w' pb po l:=
 ⟨bF h.1 hb.size,fun j u hu=>by rw[hb.cell (p:=ai pb (po+j)) hB];exact h.2 j u hu⟩
theorem oq.cells{l:List TK}(h:oq w pb po l)(k:Nat)(hk:k<l.length):
  w.cell? (ai pb (po+k*4))=some (.string l[k].word)∧w.cell? (ai pb (po+k*4+1))=some (ae l[k].bZ)∧w.cell? (ai pb (po+k*4+2))=some (ae l[k].dl)∧w.cell? (ai pb (po+k*4+3))=some (ae l[k].off):=by
 have q:∀m u,m<4→(l[k].cells)[m]?=some u→w.cell? (ai pb (po+k*4+m))=some u:=fun m u hm hu=>by
  rw[Nat.add_assoc];refine h.2 _ _ ?_;rw[flat_get TK.cells 4 (fun _=>rfl) l k m hk hm];exact hu
 exact⟨Lu,q 1 _ ag rfl,q 2 _ ag rfl,q 3 _ ag rfl⟩
def xh(l:List TK)(j k:Nat):Bool:=decide ((l.getD j default).bZ<(l.getD k default).bZ)||(decide ((l.getD j default).bZ=(l.getD k default).bZ)&&decide (j<k))
theorem IX(ws:List RW)(l:List TK)(j k:Nat)(hj:j<l.length)(hk:k<l.length):xh l j k=eB (dt ws l) j k:=by
 have e:∀i,i<l.length→iy (dt ws l) i=(l.getD i default).bZ:=fun i hi=>by simp[iy,dt,hi]
 unfold xh eB;rw[e j hj,e k hk]
theorem FZ(w:World)(pb po cap:Nat)(l:List TK)(j k:Nat)(h:oq w pb po l)(hn:l.length≤cap)(h8:l.length≤8)(hj:j<l.length)(hk:k<l.length):
  Calls prog 136 #[.slice (some (ai pb po)) l.length cap,ae j,ae k] w fun e w'=>e=.returned (.bool (xh l j k))∧Below w.heap.size w w':=by
 obtain⟨_,a1,_,_⟩:=h.cells j hj;obtain⟨_,b1,_,_⟩:=h.cells k hk;obtain⟨x,hx⟩:=ak (l[j].bZ);obtain⟨y,hy⟩:=ak (l[k].bZ);have hg:xh l j k=(decide (x<y)||(decide (x=y)&&decide (j<k))):=by unfold xh;simp[hj,hk,hx,hy]
 rw[←hx]at a1;rw[←hy]at b1;obtain⟨R,hR⟩:=ak (xh l j k);rw[←hR];rw[←hR]at hg;have hp:=h.1;obtain⟨n,hnn⟩:=ak (l.length);rw[←hnn]at hn h8 hj hk ⊢;have hji:(j:Int)<(n:Int):=ag;have fD:(k:Int)<(n:Int):=ag;have hj0:(0:Int)≤(j:Int):=ag;have hk0:(0:Int)≤(k:Int):=ag;have hbq:∀nq,Below w.heap.size w (w.drewN nq):=fun nq=>⟨rfl,rfl,rfl,aH,fun _ _=>rfl⟩
 have df:=af hbq;clear h hx hy hR hnn hbq
 by_cases hxy:x<y
 ·have HG:Hid (R=true):=by show R=true;rw[hg];simp[hxy]
  have hd:decide (x<y)=true:=jW hxy;clear hg;go_enter func136,ntmps136;exact B6
 ·have hd:decide (x<y)=false:=gO hxy
  by_cases hxe:x=y
  ·have fT:(x == y)=true:=by simp[hxe]
   by_cases hjk:j<k
   ·have HG:Hid (R=true):=by show R=true;rw[hg];simp[hxe,hjk]
    have EU:(j:Int)<(k:Int):=ag;have mE:decide ((j:Int)<(k:Int))=true:=jW EU;have HXE:=af hxe;clear hg hxe;go_enter func136,ntmps136;exact B6
   ·have HG:Hid (R=false):=by show R=false;rw[hg];simp[hxe,hjk]
    have EU:¬(j:Int)<(k:Int):=ag;have mE:decide ((j:Int)<(k:Int))=false:=gO EU;have HXE:=af hxe;clear hg hxe;go_enter func136,ntmps136;exact B6
  ·have fT:(x == y)=false:=by simp[hxe]
   have HG:Hid (R=false):=by show R=false;rw[hg];simp[hxe,hxy]
   clear hg;go_enter func136,ntmps136;exact B6
theorem ack{k:Int}(t:TK)(w:World)(h:cG w sb sv ws c k)(hl:ws.length≤1100000):
  Calls prog 134 #[ax sb,t.val] w fun e w'=>e=.returned (ae (jl ws t))∧Below w.heap.size w w':=by
 obtain⟨E,hE⟩:=ak (jl ws t);have nT:=hE;unfold jl at nT;rw[←hE]
 have hff:∀w':World,Below w.heap.size w w'→Calls prog 66 #[ax sb,.string t.word] w' fun e w2=>e=.returned (.tuple #[(findI ws t.word).1.val,ae (findI ws t.word).2])∧Below w'.heap.size w' w2:=fun w' hb=>
  Jh t.word w' (h.aB (aq.bf (S:=fun _=>False) hb) id (fun _ _=>id)) hl
 obtain⟨⟨⟨b1,b2,b3,b4,b5⟩,f⟩,hF⟩:∃F,F=findI ws t.word:=⟨_,rfl⟩;rw[←hF]at hff nT;simp only[Inf.val]at hff nT;have rJ:=h.blk.lt;have HF:=af hff;have l8:=af nT;clear h hff hE nT hF;obtain⟨s,p,d,o⟩:=t;simp only at HF l8;unfold TK.val;simp only;obtain⟨X,hX⟩:=ak (w.alloc (.cells #[.string s,ae p,ae d,ae o] 67 (0,0)):World);obtain⟨tb,jO⟩:=ak (w.heap.size);have hb0:Below w.heap.size w X:=jo;have aN:ay X tb #[.string s,ae p,ae d,ae o] 67:=by rw[hX,jO];exact bJ w _ _
 have HX:=af hX;have HTB:=af jO;have nj:=af hb0;have bz:=af aN;have x0:X.cell? (ai tb 0)=some (.string s):=aN.cell 0 _ rfl;clear hX jO hb0 aN;go_enter func134,ntmps134;go_upto_region 1 with fail
 rw[←HX.out,←HTB.out];go_wp2_with fail;refine(HF _ nj).mono ?_;rintro e w1 ⟨rfl,hb1⟩;obtain⟨Y,hY⟩:=ak (w1.alloc (.cells #[ae b1,ae b2,ae b3,ae b4,.bool b5] 36 (0,0)):World);obtain⟨ib,hib⟩:=ak (w1.heap.size);have dV:Below X.heap.size X Y:=E4;have eW:ay Y ib #[ae b1,ae b2,ae b3,ae b4,.bool b5] 36:=Gw;have tW:=bz.sub dV bz.lt;have y1:Y.cell? (ai tb 1)=some (ae p):=tW.cell 1 _ rfl;have y2:Y.cell? (ai tb 2)=some (ae d):=tW.cell 2 _ rfl;have y3:Y.cell? (ai tb 3)=some (ae o):=tW.cell 3 _ rfl;have z0:Y.cell? (ai ib 0)=some (ae b1):=eW.cell 0 _ rfl;have z2:Y.cell? (ai ib 2)=some (ae b3):=eW.cell 2 _ rfl;have HY:=af hY;have dU:=af hib;have cx:=af (nj.trans (dV.mono nj.size));clear hY hib dV eW tW hb1 HF x0;go_upto_region 2 with fail
 rw[←HY.out,←dU.out]
 by_cases hf0:f=0
 ·have hfn:(f != 0)=false:=by simp[hf0]
  have hE:=l8.out;rw[az (by simp[hf0])]at hE
  by_cases jz:(TK.mk s p d o).Fits
  ·rw[az (fun h=>h jz)]at hE
   obtain⟨f1,f2,f3,f4,f5,f6⟩:=jz;simp only at f1 f2 f3 f4 f5 f6
   by_cases hn:0<b1
   ·rw[aG (aC hn)]at hE
    exact Fk
   ·by_cases hh:32<b3
    ·rw[aG (aA hh)]at hE
     exact Fk
    ·rw[az (fun e=>e.elim hn hh)]at hE
     exact Fk
  ·rw[aG jz]at hE
   have HE:=af hE;have HNF:=af jz;clear hE l8 jz
   by_cases f1:p<1
   ·go_wp2_with fail
    rw[HE.out];go_ret;exact⟨rfl,cx⟩
   ·by_cases f2:1000000<p
    ·go_wp2_with fail
     rw[HE.out];go_ret;exact⟨rfl,cx⟩
    ·by_cases f3:d<1
     ·go_wp2_with fail
      rw[HE.out];go_ret;exact⟨rfl,cx⟩
     ·by_cases f4:p<d
      ·go_wp2_with fail
       rw[HE.out];go_ret;exact⟨rfl,cx⟩
      ·by_cases f5:o<0
       ·go_wp2_with fail
        rw[HE.out];go_ret;exact⟨rfl,cx⟩
       ·have f6:1000000<o:=by
         apply tq;intro h6;refine HNF ⟨?_,?_,?_,?_,?_,?_⟩<;>simp only<;>omega
        go_wp2_with fail
        rw[HE.out];go_ret;exact⟨rfl,cx⟩
 ·have hfn:(f != 0)=true:=by simp[hf0]
  have hE:=l8.out;rw[aG hf0]at hE;have HE:=af hE;clear hE l8;go_wp2_with fail;rw[HE.out];go_ret;exact⟨rfl,cx⟩
def rf(ls:List (Int×Int))(k n:Nat)(r:Int):Int:=kC ls k+within r (aheadP ls k n)
theorem Vy(ls:List (Int×Int))(k n:Nat)(r:Int):rf ls k (n+1) r=if eB ls n k=true then rf ls k n r+kC ls n*((r+iy ls n - 1) / iy ls n)else rf ls k n r:=by
 unfold rf;rw[aheadP]
 split
 ·rw[MQ];simp only[within];omega
 ·rfl
theorem ZA{k':Int}(l:List TK)(pb po cap k:Nat)(r:Int)(w:World)(h:cG w sb sv ws c k')(hl:ws.length≤1100000)(hA:Alike es ws)(ht:oq w pb po l)(hn:l.length≤cap)(h8:l.length≤8)(hk:k<l.length)(hw:∀t∈l,jl ws t=0)(h0:0≤r)(h1:r≤1000000):
  Calls prog 176 #[ax sb,.slice (some (ai pb po)) l.length cap,ae k,ae r] w fun e w'=>e=.returned (ae (oU (dt ws l) k r))∧Below w.heap.size w w':=by
 obtain⟨ls,hls⟩:=ak (dt ws l);have bj:∀x∈ls,nz x:=by rw[hls];exact EK hA hw
 have hll:ls.length=l.length:=by rw[hls];simp[dt]
 have hco:∀i (hi:i<l.length),(findI ws l[i].word).1.steps=kC ls i∧l[i].bZ=iy ls i:=fun i hi=>by rw[hls];simp[kC,iy,dt,hi]
 rw[←hls]
 have iM:=af (fun (w':World) (hb:Below w.heap.size w w') (i:Nat) (hi:i<l.length)=>(show ∃b1 b2 b3 b5 f,Calls prog 66 #[ax sb,.string l[i].word] w' fun e w2=>e=.returned (.tuple #[.agg #[ae b1,ae b2,ae b3,ae (kC ls i),.bool b5],ae f])∧Below w'.heap.size w' w2 from by
  have:=Jh l[i].word w' (h.aB (aq.bf (S:=fun _=>False) hb) id (fun _ _=>id)) hl;have hc:=(hco i hi).1;obtain⟨⟨⟨b1,b2,b3,b4,b5⟩,f⟩,hF⟩:∃F,F=findI ws l[i].word:=⟨_,rfl⟩;rw[←hF]at this hc;simp only[Inf.val]at this hc;rw[hc]at this;exact⟨b1,b2,b3,b5,f,this⟩))
 have qU:=af (fun (w':World) (hb:Below w.heap.size w w') (i:Nat) (hi:i<l.length)=>(show Calls prog 136 #[.slice (some (ai pb po)) l.length cap,ae i,ae k] w' fun e w2=>e=.returned (.bool (eB ls i k))∧Below w'.heap.size w' w2 from by
  rw[hls,←IX ws l i k hi hk];exact FZ w' pb po cap l i k (ht.below hb ht.1) hn h8 hi hk))
 have rj:=af (fun (w':World) (hb:Below w.heap.size w w') (i:Nat) (hi:i<l.length)=>(show w'.cell? (ai pb (po+i*4))=some (.string l[i].word)∧w'.cell? (ai pb (po+i*4+1))=some (ae (iy ls i))from by
  have q:=(ht.below hb ht.1).cells i hi;rw[(hco i hi).2]at q;exact⟨q.1,q.2.1⟩))
 obtain⟨R,hR⟩:=ak (oU ls k r);rw[←hR];have hR2:R=rf ls k l.length r:=by rw[hR];unfold oU rf;rw[hll]
 have hpb:=ht.1;have eP:=af bj;have oM:=af hll;have HR:=af hR2;have rJ:=h.blk.lt;obtain⟨n,hnn⟩:=ak (l.length);rw[←hnn]at hn h8 hk qU oM HR ⊢;have HN:=af hnn;have fD:(k:Int)<(n:Int):=ag;have hk0:(0:Int)≤(k:Int):=ag;have hkl:k<l.length:=ag;clear h hA ht hw bj hll hco hR hR2 hnn hls;have q:=rj.out w aQ k hkl;obtain⟨q0,q1⟩:=q;obtain⟨b1,b2,b3,b5,f,hfk⟩:=iM.out w aQ k hkl;have HFK:=af hfk;obtain⟨C0,hC0⟩:∃C,C=kC ls k:=⟨_,rfl⟩;rw[←hC0]at HFK;have HC0:=af hC0;obtain⟨s0,hs0⟩:∃s,s=l[k].word:=⟨_,rfl⟩;rw[←hs0]at HFK q0;clear hfk q1 hs0 hC0;go_enter func176,ntmps176;go_wp2_with fail;refine HFK.mono ?_;rintro e w1 ⟨rfl,hb1⟩;obtain⟨Y,hY⟩:=ak (w1.alloc (.cells #[ae b1,ae b2,ae b3,ae C0,.bool b5] 36 (0,0)):World);obtain⟨ib,hib⟩:=ak (w1.heap.size);have dV:Below w.heap.size w Y:=E4;have eW:ay Y ib #[ae b1,ae b2,ae b3,ae C0,.bool b5] 36:=Gw;have z3:Y.cell? (ai ib 3)=some (ae C0):=eW.cell 3 _ rfl;have BD:w.heap.size≤ib:=by rw[hib];exact hb1.size
 have HY:=af hY;have dU:=af hib;have cx:=af dV;have px:=af eW;clear hY hib dV eW hb1 HFK q0;go_upto_region 2 with fail
 rw[←HY.out,←dU.out];go_wp2_with fail;go_loopw[11,12] (fun s i wr=>∃(j:Nat) (v1 v2 v3 v4:Int) (v5:Bool),j≤n∧i=ae j∧s=ae (rf ls k j r)∧Hid (ay wr ib #[ae v1,ae v2,ae v3,ae v4,.bool v5] 36)∧Hid (Below w.heap.size w wr)) (fun _ i _=>n - (intOf i).toNat)
 case atStart=>exact⟨0,b1,b2,b3,C0,b5,bU _,rfl,by unfold rf;simp only[aheadP,within];rw[HC0.out,Int.add_zero],px,cx⟩
 case round=>
  clear px cx z3 HY;obtain⟨j,v1,v2,v3,v4,v5,hj,rfl,rfl,HK,HB⟩:=hrel
  by_cases hlt:j<n
  ·have bV:(j:Int)<(n:Int):=by omega
   have hl0:(0:Int)≤(j:Int):=ag;have hjl:j<l.length:=Gt;have HAJ:=af (qU wr HB j hlt);obtain⟨g,hg⟩:=ak (eB ls j k);rw[←hg]at HAJ;have hsu:=Vy ls k j r;rw[←hg]at hsu;have HSU:=af hsu;clear hsu hg;go_wp2_with fail;refine HAJ.mono ?_;rintro e w2 ⟨rfl,hb2⟩;have hB2:=HB.trans (hb2.mono HB.size);have hK2:=HK.sub hb2 HK.lt;have aW:=af hB2;have eu:=af hK2;clear hb2 hB2 hK2 HAJ HK HB
   cases g with
   |false=>
    go_wp2_with fail
    go_roundw
    case rel=>exact⟨j+1,v1,v2,v3,v4,v5,ag,bO,by rw[HSU.out,az aj],eu,aW⟩
    case measure=>simp[intOf];omega
   |true=>
    obtain⟨d1,d2,d3,d5,f2,hfj⟩:=iM.out w2 aW j hjl;obtain⟨cj,hcj⟩:∃c,c=kC ls j:=⟨_,rfl⟩;obtain⟨pj,hpj⟩:∃p,p=iy ls j:=⟨_,rfl⟩;have q:=rj.out w2 aW j hjl;have Ii:=AY eP (k:=j) yS;rw[←hcj,←hpj]at Ii;have hsu:=HSU.out;rw[aG rfl,←hcj,←hpj]at hsu;rw[←hcj]at hfj;rw[←hpj]at q;obtain⟨q0,q1⟩:=q;obtain⟨sj,hsj⟩:∃s,s=l[j].word:=⟨_,rfl⟩;rw[←hsj]at hfj q0;have fV:=Hm Ii h0 h1;obtain⟨o1,o2,o3,o4⟩:=Ii;simp only at o1 o2 o3 o4 fV;have hrb:=Hg o3 h0 h1
    have hdt:0≤rf ls k j r∧rf ls k j r≤9000000000000000:=by
     have a1:=Ek (yH eP k j yS) h0 h1;have a2:=ym ls k j;obtain⟨a3,a4,_,_⟩:=AY eP (k:=k) yS;simp only at a3 a4;unfold rf;omega
    obtain⟨S,hS⟩:=ak (rf ls k j r);rw[←hS]at hsu hdt ⊢;obtain⟨hS0,hS1⟩:=hdt;obtain⟨qq,hqq⟩:∃q,q=(r+pj - 1) / pj:=⟨_,rfl⟩;rw[←hqq]at fV hrb hsu;obtain⟨M,hM⟩:=ak (cj*qq);rw[←hM]at fV hsu;obtain⟨hM0,hM1⟩:=fV;have hM2:qq*cj=M:=by rw[hM,Int.mul_comm]
    have hp0:pj≠0:=ag;have HPJ:=af hpj.symm;have HFJ:=af hfj;have aaw:=af hsu;have HQE:=af hqq.symm;have HM2:=af hM2;have ad8:=eu.lt;have adC:pb<w2.heap.size:=bF hpb aW.size;clear hfj hsu hqq hM hM2 hsj hcj hpj hS HSU;go_wp2_with fail;refine HFJ.mono ?_;rintro e w3 ⟨rfl,hb3⟩;have hk3:=eu.sub hb3 eu.lt;have oz:=aW.trans (hb3.mono aW.size);have e0:w3.cell? (ai ib 0)=some (ae v1):=hk3.cell 0 _ rfl;have e1:w3.cell? (ai ib 1)=some (ae v2):=hk3.cell 1 _ rfl;have e2:w3.cell? (ai ib 2)=some (ae v3):=hk3.cell 2 _ rfl;have e3:w3.cell? (ai ib 3)=some (ae v4):=hk3.cell 3 _ rfl;have e4:w3.cell? (ai ib 4)=some (.bool v5):=hk3.cell 4 _ rfl;have g0:=hk3.frozen 0;have g1:=hk3.frozen 1;have g2:=hk3.frozen 2;have g3:=hk3.frozen 3;have g4:=hk3.frozen 4;obtain⟨V,hV⟩:=ak (((((w3.setCell (ai ib 0) (ae d1)).setCell (ai ib 1) (ae d2)).setCell (ai ib 2) (ae d3)).setCell (ai ib 3) (ae cj)).setCell (ai ib 4) (.bool d5):World)
    have gQ:ay V ib #[ae d1,ae d2,ae d3,ae cj,.bool d5] 36:=by
     rw[hV];have:=((((hk3.set (o:=0) (ae d1)).set (o:=1) (ae d2)).set (o:=2) (ae d3)).set (o:=3) (ae cj)).set (o:=4) (.bool d5);simpa using this
    have oC:Below w.heap.size w V:=by
     rw[hV];exact((((oz.setCell BD _).setCell BD _).setCell BD _).setCell BD _).setCell BD _
    have q1V:=(rj V oC j hjl).2;have HV:=af hV;have mS:=af gQ;have cS:=af oC;have hi3:=hk3.lt;clear hV gQ oC hk3 oz hb3 HFJ q0 q1;go_upto_region 9 with fail
    rw[←HV.out];clear e0 e1 e2 e3 e4 g0 g1 g2 g3 g4;have r3:V.cell? (ai ib 3)=some (ae cj):=mS.cell 3 _ rfl;rw[HPJ.out]at q1V;go_wp2_with fail;go_quiet (fail);go_wp2_with fail;go_roundw
    case rel=>
     have hbq:Below V.heap.size V (V.drewN nq):=dz;refine⟨j+1,d1,d2,d3,cj,d5,ag,bO,?_,af (mS.sub hbq mS.lt),af (cS.trans (hbq.mono cS.size))⟩;rw[aaw.out,HQE.out,HM2.out,D5 M ag,D5 (S+M) ag]
    case measure=>simp[intOf];omega
  ·have bV:¬(j:Int)<(n:Int):=by omega
   obtain rfl:j=n:=ag;go_wp2_with fail;rw[←HR.out];go_ret;exact⟨rfl,HB⟩
end
end Go.Proofs.YtcphhbofjkenaaaGreatDoor
