import Derived.Test.YtcphhbofjkenaaaGreatDoorMy
import Derived.Test.YtcphhbofjkenaaaGreatDoorM09
namespace Go.Proofs.YtcphhbofjkenaaaGreatDoor
open Go Go.RowKit Proofs.Tryz
set_option linter.unusedVariables false
set_option linter.unusedSimpArgs false
set_option maxRecDepth 100000
set_option maxHeartbeats 16000000
variable{w:World}{sb base:Nat}{sv v:Value}{ws:List RW}{sc sk:Int}{l:List AI}{xs:List (Array Value)}{F:Nat→Prop}{a:AI}{x:Array Value}
theorem IW{p:Prop}(h:p:=by
  go_wp2_with fail
  refine HX.mono ?_;rintro e w1 ⟨rfl,hb1,hc1⟩;have H1:=af hb1;have H2:=af hc1;clear HX hb1 hc1;go_wp2_with fail;go_ret;exact u6 _ H1 H2):p:=h
theorem Rn{p:Prop}(h:p:=by
  rintro b (hb|hb)
  ·have:=cM.fp b hb;exact⟨P5,this.2.1⟩
  ·have:=cR cM.row hb;exact⟨by simpa using this,cJ cM.row hb⟩):p:=h
section
open Go.RowKit
attribute [local go_sem] ui
def pBr(ws:List RW)(ar:List Tk)(fin:Int)(f:Nat)(loops:Int)(I:Nat):(AI×Nat) ⊕ (Int×Int):=
 match pItems ws ar fin f [jm,eC] loops [] I with
 |.inr r=>.inr r
 |.inl (la,ta,I1)=>
  if(ta.toList == [101,108,115,101])=true then
   match pItems ws ar fin f [eC] loops [] I1 with
   |.inr r=>.inr r
   |.inl (lb,_,I2)=>if(bS la).aM=(bS lb).aM then .inl (⟨none,(Inf.plain 1 0).then ((bS la).more.ways (bS lb)),.els (trees la) (trees lb)⟩,I2)else .inr (6,cE ar fin (I2 - 1))
  else if(bS la).aM=0 then .inl (⟨none,(Inf.plain 1 0).then ((bS la).ways Inf.zero),.iff (trees la)⟩,I1)else .inr (6,cE ar fin (I1 - 1))
def Ze(rb sb:Nat)(tv sv:Value)(ws:List RW)(c k:Int)(fin A:Int)(w:World)(r:(AI×Nat) ⊕ (Int×Int))(e:Ending)(w':World):Prop:=
 match r with
 |.inl (x,I)=>∃xs F,e=.returned (.agg xs)∧five xs∧kindOk xs x∧ay w' rb (aO sb tv I fin 0 A) 181∧aq (fun b=>b=rb) w w'∧(∀b,F b→w.heap.size≤b∧b<w'.heap.size)∧uA sb sv ws c k F w' xs x.inf x.tree
 |.inr (E,P)=>∃(xs:Array Value) (I:Nat),e=.returned (.agg xs)∧five xs∧E≠0∧ay w' rb (aO sb tv I fin E P) 181∧aq (fun b=>b=rb) w w'
def sJ:Array Value:= #[ae 4,ae 0,.string ⟨#[]⟩,aI,aI]
theorem ay.sJ{w:World}{b:Nat}{t:TypeId}(h:ay w b sJ t):w.cell? (ai b 0)=some (ae 4)∧w.cell? (ai b 1)=some (ae 0)∧w.cell? (ai b 2)=some (.string ⟨#[]⟩)∧w.cell? (ai b 3)=some aI∧w.cell? (ai b 4)=some aI:=
 ⟨h.cell 0 _ rfl,h.cell 1 _ rfl,h.cell 2 _ rfl,h.cell 3 _ rfl,h.cell 4 _ rfl⟩
theorem all_nil(sb:Nat)(w:World):Calls prog 130 #[ax sb,aI] w fun e w'=>e=.returned (.agg #[ae 0,ae 0,ae 0,ae 0,.bool true])∧Below w.heap.size w w':=
 Hj sb 0 0 none (fun _=>Inf.zero) (fun _=> #[]) w ag ag (fun j hj=>ag) (fun j hj=>by
  have:j=0:=ag;subst this;exact Inf.Wt.zero.ok ag ag) (fun j hj=>ag) (fun j hj=>ag)
theorem Li{w':World}{b:Nat}(h:w'.heap[b]?=w.heap[b]?)(hb:b<w.heap.size):b<w'.heap.size:=by
 rw[Array.getElem?_eq_getElem hb]at h;exact(mD.1 h).1
theorem dS.later{q:Nat}
  (h:dS sb sv ws sc sk w base v l xs F) (hw:fQ l q) (hq:q≤10000000) (hl:l.length≤1100000) (w':World)
  (h1:∀k,(F k∨v.ownBlock=some k)→w'.heap[k]?=w.heap[k]?) (hsz:w.heap.size≤w'.heap.size∨True) (h3:cG w' sb sv ws sc sk) (w2:World) (hb:Below w'.heap.size w' w2):
  Calls prog 130 #[ax sb,v] w2 fun e w''=>e=.returned (bS l).val∧Below w2.heap.size w2 w'':=by
 refine h.JK hw hq hl w2 (fun k hk=>?_) (fun k hk=>?_) (h3.aB (aq.bf (S:=fun _=>False) hb) id (fun _ _=>id))
 ·have e:=h1 k (aC hk)
  exact(hb.block k (Li e (h.fp k hk).2.1)).trans e
 ·have e:=h1 k (aA hk)
  exact(hb.block k (Li e (cJ h.row hk))).trans e
theorem Vx(w:World)(a b:ByteArray)(t:TypeId):∀j (h:j<[a,b].length),(w.alloc (.cells #[.string a,.string b] t)).cell? (ai w.heap.size j)=some (.string [a,b][j]):=by
 intro j h
 match j,h with
 |0,_=>simp
 |1,_=>simp
theorem Uv(n:Nat)(ih:yy n)(rb sb:Nat)(tv sv:Value)(ar:List Tk)(ws:List RW)(c k:Int)(I f:Nat)(fin A loops:Int)(w:World)
  (hR:Rd w rb sb tv sv ar ws c k) (hb:ay w rb (aO sb tv I fin 0 A) 181) (hn:ar.length+1 - I≤n) (hf:ar.length+1 - I≤f) (hI:I≤ar.length)
  (hl:0≤loops) (hl2:loops+(ar.length+1 - I:Nat)≤10000000):
  Calls prog 168 #[ax rb,ae loops] w (Ze rb sb tv sv ws c k fin A w (pBr ws ar fin f loops I)):=by
 obtain⟨R,hr⟩:=ak (pBr ws ar fin f loops I);rw[←hr];have HR:=af hR;have HB:=af hb;have HRR:=af hr;have IH:=af ih;have hlt:=hb.lt;have rM:=hR.few;clear hr hR hb;go_enter func168,ntmps168;go_wp2_with fail;have hW:aq (fun b=>b=rb) w (((w.alloc (.cells dR 249 (0,0))).alloc (.cells sJ 249 (0,0))).alloc (.cells #[.string jm,.string eC] 9 (0,0))):=(((aq.refl (fun b=>b=rb) w).alloc _).alloc _).alloc _
 have hI1:=IH.out rb sb tv sv ar ws c k I f fin A loops [jm,eC] (w.heap.size+1+1) 2 _ (HR.aB hW) (((HB.alloc _).alloc _).alloc _) hn hf hI hl hl2 aj aj ag (by
  have:=Vx ((w.alloc (.cells dR 249 (0,0))).alloc (.cells sJ 249 (0,0))) jm eC 9;simpa using this)
 refine hI1.mono ?_;have HW:=af hW;clear hI1 hW;intro e w1 hP;obtain⟨p,hp⟩:=ak (pItems ws ar fin f [jm,eC] loops [] I);rw[←hp]at hP;rcases p with ⟨la,ta,I1⟩|⟨E,P⟩
 ·obtain⟨v,xs,F,rfl,hB1,nW,cM⟩:=hP
  obtain⟨ad,cap,rfl,hcap,adi⟩:=bo cM.row;have hC:=HW.trans nW;have hz0:ay w1 w.heap.size dR 249:=((bJ w dR 249).alloc _ |>.alloc _).aB nW ag;have hz1:ay w1 (w.heap.size+1) sJ 249:=(ay.alloc Qr _).aB nW ag;have hs1:w.heap.size+1+1+1≤w1.heap.size:=by have:=nW.size;simpa using this
  obtain⟨e0,e1,e2,e3,e4⟩:=hz1.sJ;obtain⟨f0,f1,f2,f3,f4⟩:=hz1.free;obtain⟨r0,r1,r2,r3,r4,r5⟩:=hB1.aO;have Dj:=HR.aB hC
  by_cases hel:(ta.toList == [101,108,115,101])=true
  ·have hp1:=wk ws ar fin HR.wok f [jm,eC] loops [] I _ _ _ hp.symm BF (fQ.nil 0)
   simp only[List.length_nil,Nat.zero_add]at hp1;have H1:=af hp1;have sw:I<I1:=hp1.1;have hq2:I1≤ar.length:=hp1.2.1;clear hp1;obtain⟨W,hWd⟩:=ak ((w1.setCell (ai (w.heap.size+1) 3) (.slice ad la.length cap)).setCell (ai (w.heap.size+1) 0) (ae 5):World);have hCW:aq (fun b=>b=w.heap.size+1) w1 W:=by rw[hWd];exact((aq.refl (fun b=>b=w.heap.size+1) w1).setCell (p:=ai (w.heap.size+1) 3) rfl _).setCell (p:=ai (w.heap.size+1) 0) rfl _
   have hsW:w1.heap.size=W.heap.size:=Jf
   have gm:ay W (w.heap.size+1) #[ae 5,ae 0,.string ⟨#[]⟩,.slice ad la.length cap,aI] 249:=by
    rw[hWd];have:=(hz1.set (o:=3) (.slice ad la.length cap)).set (o:=0) (ae 5);simpa [sJ]using this
   have hbr:ay W rb (aO sb tv I1 fin 0 A) 181:=hB1.aB hCW ag;have hbz:ay W w.heap.size dR 249:=hz0.aB hCW ag;have xi:aq (fun b=>b=rb) w W:=hC.qA (hCW.mono (fun k _ hk=>ag));have hV:aq (fun b=>b=rb) w (W.alloc (.cells #[.string eC] 9 (0,0))):=xi.alloc _
   have hI2:=IH.out rb sb tv sv ar ws c k I1 f fin A loops [eC] W.heap.size 1 _ (HR.aB hV) (hbr.alloc _) ag ag hq2 hl ag aj aj (by have:=xi.size;omega) (by
    intro j hj;have hj0:j=0:=by simp at hj;omega
    subst hj0;simp)
   have HI2:=af hI2;have gU:=af cM;have HP:=af hp;have bT:=af gm;have lf:=af hbz;have dW:=af xi;have EE:=af hCW;have HV:=af hV;have si:=af hWd;have HC:=af hC
   have Al:∀b,(F b∨(Value.slice ad la.length cap).ownBlock=some b)→w.heap.size+1+1+1≤b∧b<w1.heap.size:=by
    exact Rn
   have wu:=af Al;clear cM hp gm hbr hbz xi hCW hV hI2 Al hC nW hz0 hz1 hB1 Dj;go_wp2_with fail;rw[←hWd];clear hWd;go_wp2_with fail;refine HI2.mono ?_;clear e0 e1 e2 e3 e4 f0 f1 f2 f3 f4 r0 r1 r2 r3 r4 r5;intro e w5 pJ;obtain⟨p2,hp2⟩:=ak (pItems ws ar fin f [eC] loops [] I1);rw[←hp2]at pJ;rcases p2 with ⟨lb,tb,I2⟩|⟨E,P⟩
   ·obtain⟨v2,xs2,F2,rfl,cZ,dG,qN⟩:=pJ
    obtain⟨bI,bq,rfl,Td,Vb⟩:=bo qN.row;have oL:=wk ws ar fin HR.wok f [eC] loops [] I1 _ _ _ hp2.symm Cq (fQ.nil 0);simp only[List.length_nil,Nat.zero_add]at oL;have H2:=af oL;have hq3:I1<I2:=oL.1;have hq4:I2≤ar.length:=oL.2.1;have hs5:W.heap.size+1≤w5.heap.size:=Gp;have aeC:w.heap.size+1+1+1≤W.heap.size:=ag;obtain⟨X,oA⟩:=ak (w5.setCell (ai (w.heap.size+1) 4) (.slice bI lb.length bq):World);have gS:aq (fun b=>b=w.heap.size+1) w5 X:=by rw[oA];exact(aq.refl (fun b=>b=w.heap.size+1) w5).setCell (p:=ai (w.heap.size+1) 4) rfl _
    have nO:w5.heap.size=X.heap.size:=F6;have hz1:ay w5 (w.heap.size+1) #[ae 5,ae 0,.string ⟨#[]⟩,.slice ad la.length cap,aI] 249:=(bT.alloc _).aB dG ag;obtain⟨f0,f1,f2,f3,f4⟩:=hz1.free;have x4':w5.cell? (ai (w.heap.size+1) 4)=some aI:=hz1.cell 4 _ rfl
    have gm:ay X (w.heap.size+1) #[ae 5,ae 0,.string ⟨#[]⟩,.slice ad la.length cap,.slice bI lb.length bq] 249:=by
     rw[oA];have:=hz1.set (o:=4) (.slice bI lb.length bq);simpa using this
    have hbr:ay X rb (aO sb tv I2 fin 0 A) 181:=cZ.aB gS ag;have hbz:ay X w.heap.size dR 249:=((lf.alloc _).aB dG ag).aB gS ag;have pd:aq (fun b=>b=rb) w X:=(HV.trans dG).qA (gS.mono (fun k _ hk=>ag))
    have xP:∀b,(F2 b∨(Value.slice bI lb.length bq).ownBlock=some b)→W.heap.size+1≤b∧b<w5.heap.size:=by
     rintro b (hb|hb)
     ·have:=qN.fp b hb;exact⟨P5,this.2.1⟩
     ·have:=cR qN.row hb;exact⟨by simpa using this,cJ qN.row hb⟩
    have eqA:∀b,(F b∨(Value.slice ad la.length cap).ownBlock=some b)→X.heap[b]?=w1.heap[b]?:=fun b hb=>by
     have hq:=wu.out b hb;rw[gS.block b ag ag,dG.block b aK ag,Below.heap_alloc _ _ _ ag,EE.block b ag ag]
    have eqB:∀b,(F2 b∨(Value.slice bI lb.length bq).ownBlock=some b)→X.heap[b]?=w5.heap[b]?:=fun b hb=>by
     have hq:=xP b hb;rw[gS.block b ag ag]
    obtain⟨pa,hpa⟩:∃p,p=bS la:=⟨_,rfl⟩;obtain⟨pb,hpb⟩:∃p,p=bS lb:=⟨_,rfl⟩
    have Mg:∀w',Below X.heap.size X w'→Calls prog 130 #[ax sb,.slice ad la.length cap] w' fun e w''=>e=.returned (.agg #[ae pa.need,ae pa.aM,ae pa.high,ae pa.steps,.bool pa.str])∧Below w'.heap.size w' w'':=by
     rw[hpa];exact fun w' hb'=>gU.later H1.out.2.2.2 ag (by have:=H1.out.2.2.1;omega) X eqA (aA trivial) (HR.aB pd).sys w' hb'
    have A3:∀w',Below X.heap.size X w'→Calls prog 130 #[ax sb,.slice bI lb.length bq] w' fun e w''=>e=.returned (.agg #[ae pb.need,ae pb.aM,ae pb.high,ae pb.steps,.bool pb.str])∧Below w'.heap.size w' w'':=by
     rw[hpb];exact fun w' hb'=>qN.later H2.out.2.2.2 ag (by have:=H2.out.2.2.1;omega) X eqB (aA trivial) (HR.aB pd).sys w' hb'
    have HA:=af Mg;have gI:=af A3;have qu:=af hpa;have HPB:=af hpb;have Av:=af qN;have nA:=af hp2;have KX:=af gm;have KR:=af hbr;have KZ:=af hbz;have KC:=af pd;have EA:=af eqA;have EB:=af eqB;have DD:=af xP;obtain⟨r0,r1,r2,r3,r4,r5⟩:=cZ.aO;clear Mg A3 hpa hpb qN hp2 gm hbr hbz pd eqA eqB xP hz1 gS dG oL cZ;go_wp2_with fail;rw[←oA];clear oA x4' f0 f1 f2 f3 f4 r0 r1 r2 r3 r4 r5;obtain⟨r0,r1,r2,r3,r4,r5⟩:=KR.aO;have x0:X.cell? (ai (w.heap.size+1) 0)=some (ae 5):=KX.cell 0 _ rfl;have x1:X.cell? (ai (w.heap.size+1) 1)=some (ae 0):=KX.cell 1 _ rfl;have x2:X.cell? (ai (w.heap.size+1) 2)=some (.string ⟨#[]⟩):=KX.cell 2 _ rfl;have x3:X.cell? (ai (w.heap.size+1) 3)=some (.slice ad la.length cap):=KX.cell 3 _ rfl;have x4:X.cell? (ai (w.heap.size+1) 4)=some (.slice bI lb.length bq):=KX.cell 4 _ rfl;have hne:=cz.ne X.heap.size X bR 36 aH;have hcr:∀(S:Option Nat) (u:cz X.heap.size X bR 36 S),u.val.cell? (ai rb 0)=some (ax sb):=fun S u=>u.cell r0 (dD X _ r0)
    have oK:∀(S:Option Nat) (u:cz X.heap.size X bR 36 S),u.val.cell? (ai (w.heap.size+1) 3)=some (.slice ad la.length cap):=fun S u=>u.cell x3 (dD X _ x3)
    refine ur bR 36 7 aP aP rfl (fun _=>rfl) (fun a w=>zS) ?_;simp only[List.take_succ_cons,List.take_zero,List.drop_succ_cons,List.drop_zero]
    repeat (refine uB (fun K hK=>?_);go_simp;first|(refine hK _ ?_;clear hK K)|(apply Exists.intro;refine⟨fun S u=>?_,hK _ ?_⟩;(go_at_call 130;exact cz.calls aH u (HA _ u.below));clear hK K))
    refine uU ?_;intro b1 w6 hb1 bL hblk;obtain⟨d0,d1,d2,d3,d4⟩:=hblk.zero;obtain⟨g0,g1,g2,g3,g4⟩:=hblk.free;have adL:=hblk.lt;obtain⟨W2,hW2⟩:∃Z:World,Z=((((w6.setCell (ai b1 0) (ae pa.need)).setCell (ai b1 1) (ae pa.aM)).setCell (ai b1 2) (ae pa.high)).setCell (ai b1 3) (ae pa.steps)).setCell (ai b1 4) (.bool pa.str):=⟨_,rfl⟩;have vV:ay W2 b1 pa.arr 36:=by rw[hW2];exact vR hblk _ _ _ _ _
    have A1:Below X.heap.size X W2:=by rw[hW2];exact((((bL.setCell hb1 _).setCell hb1 _).setCell hb1 _).setCell hb1 _).setCell hb1 _
    have KU:=af vV;have A4:=af A1;clear hcr oK hne hblk bL vV A1 r0 r1 r2 r3 r4 r5 x0 x1 x2 x3 x4;go_simp;go_upto_region 10 with fail
    rw[←hW2];clear hW2 d0 d1 d2 d3 d4 g0 g1 g2 g3 g4;have hs6:=A4.size;obtain⟨r0,r1,r2,r3,r4,r5⟩:=(show ay W2 rb (aO sb tv I2 fin 0 A) 181 from(A4.block _ KR.lt).trans KR).aO;have xT:ay W2 (w.heap.size+1) #[ae 5,ae 0,.string ⟨#[]⟩,.slice ad la.length cap,.slice bI lb.length bq] 249:=(A4.block _ KX.lt).trans KX;have x0:W2.cell? (ai (w.heap.size+1) 0)=some (ae 5):=xT.cell 0 _ rfl;have x1:W2.cell? (ai (w.heap.size+1) 1)=some (ae 0):=xT.cell 1 _ rfl;have x2:W2.cell? (ai (w.heap.size+1) 2)=some (.string ⟨#[]⟩):=xT.cell 2 _ rfl;have x3:W2.cell? (ai (w.heap.size+1) 3)=some (.slice ad la.length cap):=xT.cell 3 _ rfl;have x4:W2.cell? (ai (w.heap.size+1) 4)=some (.slice bI lb.length bq):=xT.cell 4 _ rfl;clear xT;have hne:=cz.ne W2.heap.size W2 bR 36 aH;have hcr:∀(S:Option Nat) (u:cz W2.heap.size W2 bR 36 S),u.val.cell? (ai rb 0)=some (ax sb):=fun S u=>u.cell r0 (dD W2 _ r0)
    have oK:∀(S:Option Nat) (u:cz W2.heap.size W2 bR 36 S),u.val.cell? (ai (w.heap.size+1) 4)=some (.slice bI lb.length bq):=fun S u=>u.cell x4 (dD W2 _ x4)
    refine ur bR 36 7 aP aP rfl (fun _=>rfl) (fun a w=>zS) ?_;simp only[List.take_succ_cons,List.take_zero,List.drop_succ_cons,List.drop_zero]
    repeat (refine uB (fun K hK=>?_);go_simp;first|(refine hK _ ?_;clear hK K)|(apply Exists.intro;refine⟨fun S u=>?_,hK _ ?_⟩;(go_at_call 130;exact cz.calls aH u (gI _ (A4.trans (u.below.mono hs6))));clear hK K))
    refine uU ?_;intro b2 w7 hb2 bL hblk;obtain⟨d0,d1,d2,d3,d4⟩:=hblk.zero;obtain⟨g0,g1,g2,g3,g4⟩:=hblk.free;have aeu:=hblk.lt;obtain⟨W3,hW3⟩:∃Z:World,Z=((((w7.setCell (ai b2 0) (ae pb.need)).setCell (ai b2 1) (ae pb.aM)).setCell (ai b2 2) (ae pb.high)).setCell (ai b2 3) (ae pb.steps)).setCell (ai b2 4) (.bool pb.str):=⟨_,rfl⟩;have vV:ay W3 b2 pb.arr 36:=by rw[hW3];exact vR hblk _ _ _ _ _
    have A1:Below W2.heap.size W2 W3:=by rw[hW3];exact((((bL.setCell hb2 _).setCell hb2 _).setCell hb2 _).setCell hb2 _).setCell hb2 _
    have VV:=af vV;have Nc:=af A1;clear hcr oK hne hblk bL vV A1 r0 r1 r2 r3 r4 r5 x0 x1 x2 x3 x4;go_simp;go_upto_region 11 with fail
    rw[←hW3];clear hW3 d0 d1 d2 d3 d4 g0 g1 g2 g3 g4;have wP:Below X.heap.size X W3:=A4.trans (Nc.mono hs6);have hs7:=wP.size;have hK1:ay W3 b1 pa.arr 36:=(Nc.block _ KU.lt).trans KU;have zy:ay W3 rb (aO sb tv I2 fin 0 A) 181:=(wP.block _ KR.lt).trans KR;have sW:ay W3 (w.heap.size+1) #[ae 5,ae 0,.string ⟨#[]⟩,.slice ad la.length cap,.slice bI lb.length bq] 249:=(wP.block _ KX.lt).trans KX;have xQ:ay W3 w.heap.size dR 249:=(wP.block _ KZ.lt).trans KZ;have hC3:aq (fun b=>b=rb) w W3:=KC.trans (aq.bf wP);obtain⟨m0,m1,m2,m3,m4⟩:=hK1.inf;obtain⟨z0,z1,z2,z3,z4⟩:=VV.inf;obtain⟨r0,r1,r2,r3,r4,r5⟩:=zy.aO;obtain⟨d0,d1,d2,d3,d4⟩:=xQ.dR;obtain⟨g0,g1,g2,g3,g4⟩:=xQ.free;have x0:W3.cell? (ai (w.heap.size+1) 0)=some (ae 5):=sW.cell 0 _ rfl;have x1:W3.cell? (ai (w.heap.size+1) 1)=some (ae 0):=sW.cell 1 _ rfl;have x2:W3.cell? (ai (w.heap.size+1) 2)=some (.string ⟨#[]⟩):=sW.cell 2 _ rfl;have x3:W3.cell? (ai (w.heap.size+1) 3)=some (.slice ad la.length cap):=sW.cell 3 _ rfl;have x4:W3.cell? (ai (w.heap.size+1) 4)=some (.slice bI lb.length bq):=sW.cell 4 _ rfl;have LB:=af wP;have LR:=af zy;have LX:=af sW;have LZ:=af xQ;have LC:=af hC3;clear wP hK1 zy sW xQ hC3
    by_cases ei:pa.aM=pb.aM
    ·have hnb:(pa.aM == pb.aM)=true:=by simpa using ei
     have xE:=af ei;clear ei;go_wp2_with fail
     have hRe:R=.inl (⟨none,(Inf.plain 1 0).then (pa.more.ways pb),.els (trees la) (trees lb)⟩,I2):=by
      rw[HRR.out,pBr,←HP.out];simp only[hel,if_true];rw[←nA.out];simp only;rw[←qu.out,←HPB.out,aG xE.out]
     rw[hRe];refine bodyPost_ret (v:=.agg #[ae 5,ae 0,.string ⟨#[]⟩,.slice ad la.length cap,.slice bI lb.length bq]) yK rfl ⟨_,fun b=>(F b∨(Value.slice ad la.length cap).ownBlock=some b)∨(F2 b∨(Value.slice bI lb.length bq).ownBlock=some b),rfl,⟨5,0,⟨#[]⟩,ad,la.length,cap,bI,lb.length,bq,rfl⟩,⟨5,rfl,aj⟩,?_,?_,?_,?_⟩
     ·exact((((LR.setOther aK _).setOther aK _).setOther aK _).setOther aK _).setOther aK _
     ·exact LC.qA ((((((aq.refl (fun k=>w.heap.size≤k) W3).setCell (p:=ai w.heap.size 0) aF _).setCell (p:=ai w.heap.size 1) aF _).setCell (p:=ai w.heap.size 2) aF _).setCell (p:=ai w.heap.size 3) aF _).setCell (p:=ai w.heap.size 4) aF _)
     ·intro b hb
      have hs:(((((W3.setCell (ai w.heap.size 0) (ae 5)).setCell (ai w.heap.size 1) (ae 0)).setCell (ai w.heap.size 2) (.string ⟨#[]⟩)).setCell (ai w.heap.size 3) (.slice ad la.length cap)).setCell (ai w.heap.size 4) (.slice bI lb.length bq)).heap.size=W3.heap.size:=by simp[World.setCell]
      rw[hs];rcases hb with hb|hb
      ·have hq:=wu.out b hb;exact⟨ag,ag⟩
      ·have hq:=DD.out b hb;exact⟨ag,ag⟩
     ·intro w' hF
      have hback:∀b,w.heap.size+1+1+1≤b→b<X.heap.size→((F b∨(Value.slice ad la.length cap).ownBlock=some b)∨(F2 b∨(Value.slice bI lb.length bq).ownBlock=some b))→w'.heap[b]?=X.heap[b]?:=fun b h1 h2 hb=>by
       rw[hF b hb];rw[Below.heap_setCell _ _ _ _ aK,Below.heap_setCell _ _ _ _ aK,Below.heap_setCell _ _ _ _ aK,Below.heap_setCell _ _ _ _ aK,Below.heap_setCell _ _ _ _ aK];exact LB.block b h2
      obtain⟨t1,t2⟩:=gU.A2 w' (fun b hb=>Q3);obtain⟨t3,t4⟩:=Av.A2 w' (fun b hb=>Ps);refine⟨.els _ _ _ _ _ _ (t1.mono (fun k _ hk _=>⟨aC hk,rfl⟩)) (fun i t ht=>(t2 i t ht).mono (fun k _ hk _=>⟨aC hk,rfl⟩)) (t3.mono (fun k _ hk _=>⟨aA hk,rfl⟩)) (fun i t ht=>(t4 i t ht).mono (fun k _ hk _=>⟨aA hk,rfl⟩)),fun iD=>?_⟩;have hA:=fun w2 hb=>gU.later H1.out.2.2.2 ag (by have:=H1.out.2.2.1;omega) w' (fun b hb=>Q3) (aA trivial) iD w2 hb
      have hB:=fun w2 hb=>Av.later H2.out.2.2.2 ag (by have:=H2.out.2.2.1;omega) w' (fun b hb=>Ps) (aA trivial) iD w2 hb
      rw[←qu.out]at hA;rw[←HPB.out]at hB;have hwa:pa.Ok:=by rw[qu.out];exact(wS H1.out.2.2.2).ok ag ag
      have hwb:pb.Ok:=by rw[HPB.out];exact(wS H2.out.2.2.2).ok ag ag
      exact abQ sb _ _ _ _ rfl rfl rfl rfl pa pb hwa hwb w' hA hB
    ·have hnb:(pa.aM == pb.aM)=false:=by simpa using ei
     have xE:=af ei;have hq5:1≤I2:=ag;have hq6:I2≤1100000:=ag;clear ei;go_wp2_with fail;have JF:(I2:Int) - 1=((I2 - 1:Nat):Int):=ag;rw[JF];have sI:=HR.aB LC;refine(su rb sb tv ar (I2 - 1) I2 fin A 6 W3 ag ag LR sI.tok sI.tr).mono ?_;rintro e w8 ⟨rfl,hb8,rT⟩;have yG:ay w8 (w.heap.size+1) #[ae 5,ae 0,.string ⟨#[]⟩,.slice ad la.length cap,.slice bI lb.length bq] 249:=LX.aB rT ag;have Gk:ay w8 w.heap.size dR 249:=LZ.aB rT ag;have hC8:=LC.trans rT;have HB8:=af hb8;have HC8:=af hC8;clear JF sI hb8 rT hC8 m0 m1 m2 m3 m4 z0 z1 z2 z3 z4 r0 r1 r2 r3 r4 r5 d0 d1 d2 d3 d4 g0 g1 g2 g3 g4 x0 x1 x2 x3 x4;obtain⟨d0,d1,d2,d3,d4⟩:=Gk.dR;obtain⟨g0,g1,g2,g3,g4⟩:=Gk.free;have x0:w8.cell? (ai (w.heap.size+1) 0)=some (ae 5):=yG.cell 0 _ rfl;have x1:w8.cell? (ai (w.heap.size+1) 1)=some (ae 0):=yG.cell 1 _ rfl;have x2:w8.cell? (ai (w.heap.size+1) 2)=some (.string ⟨#[]⟩):=yG.cell 2 _ rfl;have x3:w8.cell? (ai (w.heap.size+1) 3)=some (.slice ad la.length cap):=yG.cell 3 _ rfl;have x4:w8.cell? (ai (w.heap.size+1) 4)=some (.slice bI lb.length bq):=yG.cell 4 _ rfl;clear yG Gk;go_wp2_with fail
     have hRe:R=.inr (6,cE ar fin (I2 - 1)):=by
      rw[HRR.out,pBr,←HP.out];simp only[hel,if_true];rw[←nA.out];simp only;rw[←qu.out,←HPB.out,az xE.out]
     rw[hRe];refine bodyPost_ret (v:=.agg #[ae 5,ae 0,.string ⟨#[]⟩,.slice ad la.length cap,.slice bI lb.length bq]) yK rfl ⟨_,I2,rfl,⟨5,0,⟨#[]⟩,ad,la.length,cap,bI,lb.length,bq,rfl⟩,aj,?_,?_⟩
     ·exact((((HB8.setOther aK _).setOther aK _).setOther aK _).setOther aK _).setOther aK _
     ·exact HC8.qA ((((((aq.refl (fun k=>w.heap.size≤k) w8).setCell (p:=ai w.heap.size 0) aF _).setCell (p:=ai w.heap.size 1) aF _).setCell (p:=ai w.heap.size 2) aF _).setCell (p:=ai w.heap.size 3) aF _).setCell (p:=ai w.heap.size 4) aF _)
   ·obtain⟨bI,m2,bq,I',rfl,hE,cZ,dG⟩:=pJ
    have hRe:R=.inr (E,P):=by rw[HRR.out,pBr,←HP.out];simp only[hel,if_true];rw[←hp2]
    have hCC:=HV.trans dG;have hz0:ay w5 w.heap.size dR 249:=(lf.alloc _).aB dG ag;have hz1:ay w5 (w.heap.size+1) #[ae 5,ae 0,.string ⟨#[]⟩,.slice ad la.length cap,aI] 249:=(bT.alloc _).aB dG ag;obtain⟨d0,d1,d2,d3,d4⟩:=hz0.dR;obtain⟨g0,g1,g2,g3,g4⟩:=hz0.free;obtain⟨f0,f1,f2,f3,f4⟩:=hz1.free;have x0:w5.cell? (ai (w.heap.size+1) 0)=some (ae 5):=hz1.cell 0 _ rfl;have x1:w5.cell? (ai (w.heap.size+1) 1)=some (ae 0):=hz1.cell 1 _ rfl;have x2:w5.cell? (ai (w.heap.size+1) 2)=some (.string ⟨#[]⟩):=hz1.cell 2 _ rfl;have x3:w5.cell? (ai (w.heap.size+1) 3)=some (.slice ad la.length cap):=hz1.cell 3 _ rfl;have x4:w5.cell? (ai (w.heap.size+1) 4)=some aI:=hz1.cell 4 _ rfl;obtain⟨r0,r1,r2,r3,r4,r5⟩:=cZ.aO;have hEb:(E == 0)=false:=wG;have ee:=af hRe;have kG:=af hCC;have dI:=af cZ;have HE:=af hE;clear hp2 hRe hCC hz0 hz1 cZ dG hE;go_wp2_with fail;rw[ee.out];refine bodyPost_ret (v:=.agg #[ae 5,ae 0,.string ⟨#[]⟩,.slice ad la.length cap,.slice bI m2 bq]) yK rfl ⟨_,I',rfl,⟨5,0,⟨#[]⟩,ad,la.length,cap,bI,m2,bq,rfl⟩,HE,?_,?_⟩
    ·exact(((((dI.setOther aK _).setOther aK _).setOther aK _).setOther aK _).setOther aK _).setOther aK _
    ·refine kG.qA ?_
     exact(((((((aq.refl (fun k=>w.heap.size≤k) w5).setCell (p:=ai (w.heap.size+1) 4) aF _).setCell (p:=ai w.heap.size 0) aF _).setCell (p:=ai w.heap.size 1) aF _).setCell (p:=ai w.heap.size 2) aF _).setCell (p:=ai w.heap.size 3) aF _).setCell (p:=ai w.heap.size 4) aF _)
  ·have Cz:(ta.toList == [101,108,115,101])=false:=by simpa using hel
   obtain⟨hp1,hp2,oF,hp4⟩:=wk ws ar fin HR.wok f [jm,eC] loops [] I _ _ _ hp.symm BF (fQ.nil 0);simp only[List.length_nil]at oF;obtain⟨W,hWd⟩:=ak (w1.setCell (ai (w.heap.size+1) 3) (.slice ad la.length cap):World);have hCW:aq (fun b=>b=w.heap.size+1) w1 W:=by rw[hWd];exact(aq.refl (fun b=>b=w.heap.size+1) w1).setCell (p:=ai (w.heap.size+1) 3) rfl _
   have hFn:∀b,F b→b≠w.heap.size+1:=fun b hb=>by have:=(cM.fp b hb).1;simp at this;omega
   have hown:∀b,(Value.slice ad la.length cap).ownBlock=some b→b≠w.heap.size+1:=fun b hb=>by
    have:=cR cM.row hb;simp at this;omega
   have hall:∀w',Below W.heap.size W w'→Calls prog 130 #[ax sb,.slice ad la.length cap] w' fun e w''=>e=.returned (bS la).val∧Below w'.heap.size w' w'':=by
    intro w' hb';refine cM.all hp4 ag ag w' (fun b hb=>?_) (fun b hb=>?_) ?_ ?_
    ·rw[hb'.block b (by have:=(cM.fp b hb).2.1;have:=hCW.size;omega),hCW.block b (cM.fp b hb).2.1 (hFn b hb)]
    ·have hlt2:b<w1.heap.size:=cJ cM.row hb
     rw[hb'.block b (by have:=hCW.size;omega),hCW.block b hlt2 (hown b hb)]
    ·have:=hCW.size;have:=hb'.size;omega
    ·exact(Dj.sys.aB hCW (by have:=HR.sys.blk.lt;omega) (fun b hb=>by have:=cJ HR.sys.row hb;omega)).aB (aq.bf (S:=fun _=>False) hb') id (fun _ _=>id)
   have gm:ay W (w.heap.size+1) #[ae 4,ae 0,.string ⟨#[]⟩,.slice ad la.length cap,aI] 249:=by
    rw[hWd];have:=hz1.set (o:=3) (.slice ad la.length cap);simpa [sJ]using this
   have hbr:ay W rb (aO sb tv I1 fin 0 A) 181:=hB1.aB hCW ag;have hbz:ay W w.heap.size dR 249:=hz0.aB hCW ag;have xi:aq (fun b=>b=rb) w W:=hC.qA (hCW.mono (fun k _ hk=>ag));have hsW:w1.heap.size=W.heap.size:=Jf;obtain⟨pa,hpa⟩:∃p,p=bS la:=⟨_,rfl⟩;have qu:=af hpa
   have yM:∀w',Below W.heap.size W w'→Calls prog 130 #[ax sb,.slice ad la.length cap] w' fun e w''=>e=.returned (.agg #[ae pa.need,ae pa.aM,ae pa.high,ae pa.steps,.bool pa.str])∧Below w'.heap.size w' w'':=by
    rw[hpa];exact hall
   have A3:∀V:World,V=(W.alloc (.cells #[ae 0,ae 0,ae 0,ae 0,.bool false] 36 (0,0))).drew→Calls prog 130 #[ax sb,.slice ad la.length cap] V fun e w''=>e=.returned (.agg #[ae pa.need,ae pa.aM,ae pa.high,ae pa.steps,.bool pa.str])∧Below V.heap.size V w''∧
     w''.cell? (ai W.heap.size 0)=some (ae 0)∧w''.cell? (ai W.heap.size 1)=some (ae 0)∧w''.cell? (ai W.heap.size 2)=some (ae 0)∧w''.cell? (ai W.heap.size 3)=some (ae 0)∧w''.cell? (ai W.heap.size 4)=some (.bool false)∧
     w''.frozen? (ai W.heap.size 0)=false∧w''.frozen? (ai W.heap.size 1)=false∧w''.frozen? (ai W.heap.size 2)=false∧w''.frozen? (ai W.heap.size 3)=false∧w''.frozen? (ai W.heap.size 4)=false:=by
    intro V hV;refine(yM V (by rw[hV];exact(aQ.alloc aH _).drew)).mono ?_;rintro e w'' ⟨he,fK⟩;have h0:ay V W.heap.size bR 36:=by rw[hV];exact(bJ W bR 36).drew
    have h:ay w'' W.heap.size bR 36:=(fK.block _ h0.lt).trans h0;exact⟨he,fK,h.zero.1,h.zero.2.1,h.zero.2.2.1,h.zero.2.2.2.1,h.zero.2.2.2.2,h.frozen 0,h.frozen 1,h.frozen 2,h.frozen 3,h.frozen 4⟩
   have Al:∀b,(F b∨(Value.slice ad la.length cap).ownBlock=some b)→w.heap.size+1+1+1≤b∧b<w1.heap.size:=by
    exact Rn
   have adM:=af A3;have sq:=af yM;have gU:=af cM;have HP:=af hp;have bT:=af gm;have fE:=af hbr;have lf:=af hbz;have dW:=af xi;have EE:=af hCW;have H1:=af (aY hp1 (aY hp2 (aY oF hp4)));have HFN:=af hFn;have uR:=af hown;have aex:=af Dj;have si:=af hWd;clear hall yM A3 hpa cM hp gm hbr hbz xi hCW hp1 hp2 oF hp4 hFn hown Dj hC nW hz0 hz1 hB1 hel;go_wp2_with fail;rw[←hWd];clear hWd e0 e1 e2 e3 e4 f0 f1 f2 f3 f4 r0 r1 r2 r3 r4 r5;obtain⟨r0,r1,r2,r3,r4,r5⟩:=fE.aO;have x3:=bT.cell 3 _ rfl;have x4:=bT.cell 4 _ rfl;simp only[List.getElem_toArray,List.getElem_cons_succ,List.getElem_cons_zero]at x3 x4;have hne:=cz.ne W.heap.size W bR 36 aH;have hcr:∀(S:Option Nat) (u:cz W.heap.size W bR 36 S),u.val.cell? (ai rb 0)=some (ax sb):=fun S u=>u.cell r0 (dD W _ r0)
   have oK:∀(S:Option Nat) (u:cz W.heap.size W bR 36 S),u.val.cell? (ai (w.heap.size+1) 3)=some (.slice ad la.length cap):=fun S u=>u.cell x3 (dD W _ x3)
   refine ur bR 36 7 aP aP rfl (fun _=>rfl) (fun a w=>zS) ?_;simp only[List.take_succ_cons,List.take_zero,List.drop_succ_cons,List.drop_zero]
   repeat (refine uB (fun K hK=>?_);go_simp;first|(refine hK _ ?_;clear hK K)|(apply Exists.intro;refine⟨fun S u=>?_,hK _ ?_⟩;(go_at_call 130;exact cz.calls aH u (sq _ u.below));clear hK K))
   refine uU ?_;intro b1 w2 hb1 qg hblk;obtain⟨d0,d1,d2,d3,d4⟩:=hblk.zero;obtain⟨g0,g1,g2,g3,g4⟩:=hblk.free;have hlt2:=hblk.lt;obtain⟨W2,hW2⟩:=ak (((((w2.setCell (ai b1 0) (ae pa.need)).setCell (ai b1 1) (ae pa.aM)).setCell (ai b1 2) (ae pa.high)).setCell (ai b1 3) (ae pa.steps)).setCell (ai b1 4) (.bool pa.str):World);have vV:ay W2 b1 pa.arr 36:=by rw[hW2];exact vR hblk _ _ _ _ _
   have Pn:Below W.heap.size W W2:=by rw[hW2];exact((((qg.setCell hb1 _).setCell hb1 _).setCell hb1 _).setCell hb1 _).setCell hb1 _
   have eu:=af vV;have HW2:=af Pn;clear hcr oK hne hblk qg vV Pn r0 r1 r2 r3 r4 r5 x3 x4;go_simp;go_wp2_with fail;rw[←hW2];clear hW2 d0 d1 d2 d3 d4 g0 g1 g2 g3 g4;have hs2:=HW2.size;have LP:ay W2 rb (aO sb tv I1 fin 0 A) 181:=(HW2.block _ fE.lt).trans fE;have Lh:ay W2 (w.heap.size+1) #[ae 4,ae 0,.string ⟨#[]⟩,.slice ad la.length cap,aI] 249:=(HW2.block _ bT.lt).trans bT;obtain⟨r0,r1,r2,r3,r4,r5⟩:=LP.aO;have x4:=Lh.cell 4 _ rfl;simp only[List.getElem_toArray,List.getElem_cons_succ,List.getElem_cons_zero]at x4;have Xa:=af (all_nil sb);have hne:=cz.ne W2.heap.size W2 bR 36 aH;have hcr:∀(S:Option Nat) (u:cz W2.heap.size W2 bR 36 S),u.val.cell? (ai rb 0)=some (ax sb):=fun S u=>u.cell r0 (dD W2 _ r0)
   have oK:∀(S:Option Nat) (u:cz W2.heap.size W2 bR 36 S),u.val.cell? (ai (w.heap.size+1) 4)=some aI:=fun S u=>u.cell x4 (dD W2 _ x4)
   clear LP Lh;refine ur bR 36 7 aP aP rfl (fun _=>rfl) (fun a w=>zS) ?_;simp only[List.take_succ_cons,List.take_zero,List.drop_succ_cons,List.drop_zero]
   repeat (refine uB (fun K hK=>?_);go_simp;first|(refine hK _ ?_;clear hK K)|(apply Exists.intro;refine⟨fun S u=>?_,hK _ ?_⟩;(go_at_call 130;exact cz.calls aH u (Xa _));clear hK K))
   refine uU ?_;intro b2 w3 hb2 BL hblk;obtain⟨d0,d1,d2,d3,d4⟩:=hblk.zero;obtain⟨g0,g1,g2,g3,g4⟩:=hblk.free;have hlt3:=hblk.lt;obtain⟨W3,hW3⟩:=ak (((((w3.setCell (ai b2 0) (ae 0)).setCell (ai b2 1) (ae 0)).setCell (ai b2 2) (ae 0)).setCell (ai b2 3) (ae 0)).setCell (ai b2 4) (.bool true):World);have xr:ay W3 b2 Inf.zero.arr 36:=by rw[hW3];exact vR hblk _ _ _ _ _
   have Hc:Below W2.heap.size W2 W3:=by rw[hW3];exact((((BL.setCell hb2 _).setCell hb2 _).setCell hb2 _).setCell hb2 _).setCell hb2 _
   have hK1:ay W3 b1 pa.arr 36:=(Hc.block _ eu.lt).trans eu;have rN:Below W.heap.size W W3:=HW2.trans (Hc.mono hs2);have hs3:=rN.size;have zy:ay W3 rb (aO sb tv I1 fin 0 A) 181:=(rN.block _ fE.lt).trans fE;have sW:ay W3 (w.heap.size+1) #[ae 4,ae 0,.string ⟨#[]⟩,.slice ad la.length cap,aI] 249:=(rN.block _ bT.lt).trans bT;have xQ:ay W3 w.heap.size dR 249:=(rN.block _ lf.lt).trans lf;have hC3:aq (fun b=>b=rb) w W3:=dW.trans (aq.bf rN);have S1:=af rN;have ft:=af hK1;have HK3:=af xr;have FH:=af zy;have yY:=af sW;have EO:=af xQ;have oQ:=af hC3;clear hcr oK hne hblk BL xr Hc hK1 rN zy sW xQ hC3 r0 r1 r2 r3 r4 r5 x4;go_simp;go_upto_region 11 with fail
   rw[←hW3];clear hW3 d0 d1 d2 d3 d4 g0 g1 g2 g3 g4;obtain⟨m0,m1,m2,m3,m4⟩:=ft.inf;obtain⟨z0,z1,z2,z3,z4⟩:=HK3.inf;obtain⟨r0,r1,r2,r3,r4,r5⟩:=FH.aO;obtain⟨d0,d1,d2,d3,d4⟩:=EO.dR;obtain⟨g0,g1,g2,g3,g4⟩:=EO.free;have x0:W3.cell? (ai (w.heap.size+1) 0)=some (ae 4):=yY.cell 0 _ rfl;have x1:W3.cell? (ai (w.heap.size+1) 1)=some (ae 0):=yY.cell 1 _ rfl;have x2:W3.cell? (ai (w.heap.size+1) 2)=some (.string ⟨#[]⟩):=yY.cell 2 _ rfl;have x3:W3.cell? (ai (w.heap.size+1) 3)=some (.slice ad la.length cap):=yY.cell 3 _ rfl;have x4:W3.cell? (ai (w.heap.size+1) 4)=some aI:=yY.cell 4 _ rfl;simp only[Inf.zero]at z0 z1 z2 z3 z4
   by_cases ei:pa.aM=0
   ·have hnb:(pa.aM == 0)=true:=by simpa using ei
    have xE:=af ei;clear ei;go_wp2_with fail
    have hRe:R=.inl (⟨none,(Inf.plain 1 0).then (pa.ways Inf.zero),.iff (trees la)⟩,I1):=by
     rw[HRR.out,pBr,←HP.out];simp only[Cz,Bool.false_eq_true,if_false];rw[←qu.out,aG xE.out]
    rw[hRe];refine bodyPost_ret (v:=.agg #[ae 4,ae 0,.string ⟨#[]⟩,.slice ad la.length cap,aI]) yK rfl ⟨_,fun b=>F b∨(Value.slice ad la.length cap).ownBlock=some b,rfl,⟨4,0,⟨#[]⟩,ad,la.length,cap,none,0,0,rfl⟩,⟨4,rfl,aj⟩,?_,?_,?_,?_⟩
    ·exact((((FH.setOther aK _).setOther aK _).setOther aK _).setOther aK _).setOther aK _
    ·exact oQ.qA ((((((aq.refl (fun k=>w.heap.size≤k) W3).setCell (p:=ai w.heap.size 0) aF _).setCell (p:=ai w.heap.size 1) aF _).setCell (p:=ai w.heap.size 2) aF _).setCell (p:=ai w.heap.size 3) aF _).setCell (p:=ai w.heap.size 4) aF _)
    ·intro b hb
     have hs:(((((W3.setCell (ai w.heap.size 0) (ae 4)).setCell (ai w.heap.size 1) (ae 0)).setCell (ai w.heap.size 2) (.string ⟨#[]⟩)).setCell (ai w.heap.size 3) (.slice ad la.length cap)).setCell (ai w.heap.size 4) aI).heap.size=W3.heap.size:=by simp[World.setCell]
     rw[hs];have hq:=Al b hb;exact⟨ag,ag⟩
    ·intro w' hF
     have sw:=H1.out.2.2.2
     have hfe:∀b,(F b∨(Value.slice ad la.length cap).ownBlock=some b)→w'.heap[b]?=w1.heap[b]?:=fun b hb=>by
      rw[hF b hb];have hq:=Al b hb;rw[Below.heap_setCell _ _ _ _ aK,Below.heap_setCell _ _ _ _ aK,Below.heap_setCell _ _ _ _ aK,Below.heap_setCell _ _ _ _ aK,Below.heap_setCell _ _ _ _ aK];rw[S1.block b ag,EE.block b ag ag]
     obtain⟨t1,t2⟩:=gU.A2 w' hfe;refine⟨.iff _ _ _ t1 t2,fun iD=>?_⟩;have hA:=fun w2 hb=>gU.later sw CA (by have:=H1.out.2.2.1;have:=H1.out.2.1;omega) w' hfe (aA trivial) iD w2 hb
     rw[←qu.out]at hA;have hwt:pa.Ok:=by rw[qu.out];exact(wS sw).ok ag CA
     exact Yb sb _ _ _ _ rfl rfl rfl rfl pa Inf.zero hwt (Inf.Wt.zero.ok ag ag) w' hA (fun w2 _=>all_nil sb w2)
   ·have hnb:(pa.aM == 0)=false:=by simpa using ei
    have xE:=af ei;have lV:1≤I1:=by have:=H1.out.1;omega
    have sw:I1≤1100000:=CA;clear ei;go_wp2_with fail;have hI1:(I1:Int) - 1=((I1 - 1:Nat):Int):=by have:=H1.out.1;omega
    rw[hI1];have sI:=HR.aB oQ;refine(su rb sb tv ar (I1 - 1) I1 fin A 6 W3 CA ag FH sI.tok sI.tr).mono ?_;rintro e w4 ⟨rfl,hb4,hc4⟩;have zx:ay w4 (w.heap.size+1) #[ae 4,ae 0,.string ⟨#[]⟩,.slice ad la.length cap,aI] 249:=yY.aB hc4 ag;have Fa:ay w4 w.heap.size dR 249:=EO.aB hc4 ag;have hC4:=oQ.trans hc4;have HB4:=af hb4;have HC4:=af hC4;clear hI1 sI hb4 hc4 hC4 m0 m1 m2 m3 m4 z0 z1 z2 z3 z4 r0 r1 r2 r3 r4 r5 d0 d1 d2 d3 d4 g0 g1 g2 g3 g4 x0 x1 x2 x3 x4;obtain⟨d0,d1,d2,d3,d4⟩:=Fa.dR;obtain⟨g0,g1,g2,g3,g4⟩:=Fa.free;have x0:w4.cell? (ai (w.heap.size+1) 0)=some (ae 4):=zx.cell 0 _ rfl;have x1:w4.cell? (ai (w.heap.size+1) 1)=some (ae 0):=zx.cell 1 _ rfl;have x2:w4.cell? (ai (w.heap.size+1) 2)=some (.string ⟨#[]⟩):=zx.cell 2 _ rfl;have x3:w4.cell? (ai (w.heap.size+1) 3)=some (.slice ad la.length cap):=zx.cell 3 _ rfl;have x4:w4.cell? (ai (w.heap.size+1) 4)=some aI:=zx.cell 4 _ rfl;clear zx Fa;go_wp2_with fail
    have hRe:R=.inr (6,cE ar fin (I1 - 1)):=by
     rw[HRR.out,pBr,←HP.out];simp only[Cz,Bool.false_eq_true,if_false];rw[←qu.out,az xE.out]
    rw[hRe];refine bodyPost_ret (v:=.agg #[ae 4,ae 0,.string ⟨#[]⟩,.slice ad la.length cap,aI]) yK rfl ⟨_,I1,rfl,⟨4,0,⟨#[]⟩,ad,la.length,cap,none,0,0,rfl⟩,aj,?_,?_⟩
    ·exact((((HB4.setOther aK _).setOther aK _).setOther aK _).setOther aK _).setOther aK _
    ·exact HC4.qA ((((((aq.refl (fun k=>w.heap.size≤k) w4).setCell (p:=ai w.heap.size 0) aF _).setCell (p:=ai w.heap.size 1) aF _).setCell (p:=ai w.heap.size 2) aF _).setCell (p:=ai w.heap.size 3) aF _).setCell (p:=ai w.heap.size 4) aF _)
 ·obtain⟨ad,m,cap,I',rfl,hE,hB1,nW⟩:=hP
  have hRe:R=.inr (E,P):=by rw[HRR.out,pBr,←hp]
  have hC:=HW.trans nW;have hz0:ay w1 w.heap.size dR 249:=((bJ w dR 249).alloc _ |>.alloc _).aB nW ag;have hz1:ay w1 (w.heap.size+1) sJ 249:=(ay.alloc Qr _).aB nW ag;obtain⟨d0,d1,d2,d3,d4⟩:=hz0.dR;obtain⟨g0,g1,g2,g3,g4⟩:=hz0.free;obtain⟨e0,e1,e2,e3,e4⟩:=hz1.sJ;obtain⟨f0,f1,f2,f3,f4⟩:=hz1.free;obtain⟨r0,r1,r2,r3,r4,r5⟩:=hB1.aO;have hEb:(E == 0)=false:=wG;have ee:=af hRe;have HC:=af hC;have HB1:=af hB1;have HE:=af hE;have hsz:=hz1.lt;clear hp hRe hC hz0 hz1 hB1 nW hE;go_wp2_with fail;rw[ee.out];refine bodyPost_ret (v:=.agg #[ae 4,ae 0,.string ⟨#[]⟩,.slice ad m cap,aI]) yK rfl ⟨_,I',rfl,⟨4,0,⟨#[]⟩,ad,m,cap,none,0,0,rfl⟩,HE,?_,?_⟩
  ·exact(((((HB1.setOther aK _).setOther aK _).setOther aK _).setOther aK _).setOther aK _).setOther aK _
  ·refine HC.qA ?_
   exact((((((aq.refl (fun k=>w.heap.size≤k) w1).setCell (p:=ai (w.heap.size+1) 3) aF _).setCell (p:=ai w.heap.size 0) aF _).setCell (p:=ai w.heap.size 1) aF _).setCell (p:=ai w.heap.size 2) aF _).setCell (p:=ai w.heap.size 3) aF _).setCell (p:=ai w.heap.size 4) aF _
end
section
open Go.RowKit
def pLp(ws:List RW)(ar:List Tk)(fin:Int)(f:Nat)(loops:Int)(acc:List AI)(I:Nat):(AI×Nat) ⊕ (Int×Int):=
 match lastTwo acc with
 |none=>.inr (5,cE ar fin I)
 |some (a,b)=>
  if 1000<a - b then .inr (7,cE ar fin I)else
   match pItems ws ar fin f [jV] (loops+1) [] (I+1)with
   |.inr r=>.inr r
   |.inl (la,_,I1)=>if(bS la).aM=0 then .inl (⟨none,(Inf.plain 2 0).then ((bS la).times (max 0 (a - b))),.kY (trees la)⟩,I1)else .inr (6,cE ar fin (I1 - 1))
theorem abT{a b:Int}(h:lastTwo l=some (a,b)):2≤l.length∧(∃i t,l[l.length - 2]?=some ⟨some a,i,t⟩)∧∃i t,l[l.length - 1]?=some ⟨some b,i,t⟩:=by
 unfold lastTwo at h
 split at h
 ·rename_i b' ib tb a' ia ta r hr
  simp at h;obtain⟨rfl,rfl⟩:=h
  have e:l=r.reverse++[⟨some a',ia,ta⟩,⟨some b',ib,tb⟩]:=by
   have:=congrArg List.reverse hr;simpa using this
  subst e;refine⟨aF,⟨ia,ta,?_⟩,⟨ib,tb,?_⟩⟩
  ·simp
  ·simp
 ·cases h
def yR(rb sb:Nat)(tv sv:Value)(ws:List RW)(c k:Int)(fin A:Int)(base:Nat)(v:Value)(acc:List AI)(w:World)(r:(AI×Nat) ⊕ (Int×Int))(e:Ending)(w':World):Prop:=
 match r with
 |.inl (x,I)=>∃v' xs' F',e=.returned v'∧ay w' rb (aO sb tv I fin 0 A) 181∧aq (fun b=>b=rb∨v.ownBlock=some b) w w'∧dS sb sv ws c k w' base v' (acc++[x]) xs' F'
 |.inr (E,P)=>∃(ad:Option Addr) (n cap I:Nat),e=.returned (.slice ad n cap)∧E≠0∧ay w' rb (aO sb tv I fin E P) 181∧aq (fun b=>b=rb∨v.ownBlock=some b) w w'
theorem dS.look
  (h:dS sb sv ws sc sk w base v l xs F) {g cap:Nat} (hv:v=aD g l.length cap) (i:Nat) (hi:i<l.length):
  ∃x:Array Value,xs[i]?=some x∧five x∧kindOk x l[i]∧∀(o:Nat) (u:Value),x[o]?=some u→w.cell? (ai g (i*5+o))=some u:=by
 have hxj:xs[i]?=some (xs[i]' sZ):=bE _;obtain⟨x,hx⟩:∃x,xs[i]?=some x:=⟨_,hxj⟩;obtain⟨g',cap',nZ,_,hg,_,_,hcell⟩:=cd h.row ag;rw[hv]at nZ;obtain⟨e1,_⟩:g=g'∧cap=cap':=by simpa using nZ
 subst e1;exact⟨x,hx,h.shape x (mF hx),h.kind i x _ hx (bE hi),fun o u hu=>hcell _ _ (Dy xs h.shape i o x u hx hu)⟩
theorem RT(h:kindOk x a)(ha:a.num=none):∃k:Int,x[0]?=some (ae k)∧k≠1:=by
 unfold kindOk at h;rw[ha]at h;exact h
theorem zT{n:Int}(h:kindOk x a)(ha:a.num=some n):x= #[ae 1,ae n,.string ⟨#[]⟩,aI,aI]∧ -2147483648≤n∧n≤2147483647:=by
 unfold kindOk at h;rw[ha]at h;exact h
theorem ac8(h:lastTwo l=none):l.length<2∨(∃m,∃h2:l.length=m+2,(l[m+1]' ag).num=none)∨(∃m,∃h2:l.length=m+2,∃n,(l[m+1]' ag).num=some n∧(l[m]' ag).num=none):=by
 rcases kh l.length 2 with h1|h1
 ·exact aC h1
 ·right
  obtain⟨m,hm⟩:∃m,l.length=m+2:=⟨l.length - 2,ag⟩
  have e:l.reverse=l[m+1] :: l[m] :: (l.take m).reverse:=by
   have:l=l.take m++[l[m],l[m+1]]:=by
    conv=>lhs;rw[←List.take_append_drop m l]
    congr 1
    rw[qh ag,qh ag,List.drop_eq_nil_of_le ag]
   conv=>lhs;rw[this]
   simp
  unfold lastTwo at h;rw[e]at h;generalize hy:l[m+1]=y at h;generalize hz:l[m]=z at h;obtain⟨yn,yi⟩:=y;obtain⟨zn,zi⟩:=z
  cases yn with
  |none=>exact aC ⟨m,hm,by rw[hy]⟩
  |some n=>
   cases zn with
   |none=>exact aA ⟨m,hm,n,by rw[hy],by rw[hz]⟩
   |some n2=>simp at h
theorem Zi(rb sb:Nat)(tv sv:Value)(ar:List Tk)(ws:List RW)(c k:Int)(I f:Nat)(fin A loops:Int)(base:Nat)(v:Value)(acc:List AI)(xs:List (Array Value))(F:Nat→Prop)(w:World)
  (hR:Rd w rb sb tv sv ar ws c k) (hb:ay w rb (aO sb tv I fin 0 A) 181) (hI:I<ar.length) (cM:dS sb sv ws c k w base v acc xs F) (hal:acc.length≤1100000) (h2:lastTwo acc=none):
  Calls prog 169 #[ax rb,v,ae loops] w (yR rb sb tv sv ws c k fin A base v acc w (pLp ws ar fin f loops acc I)):=by
 have hr:pLp ws ar fin f loops acc I=.inr (5,cE ar fin I):=by unfold pLp;rw[h2]
 rw[hr];obtain⟨ad,cap,hv,hcap,hmax⟩:=bo cM.row;obtain⟨r0,r1,r2,r3,r4,r5⟩:=hb.aO;have rM:=hR.few;have HX:=af (su rb sb tv ar I I fin A 5 w ag ag hb hR.tok hR.tr)
 have Ap:∀(w1:World),ay w1 rb (aO sb tv I fin 5 (cE ar fin I)) 181→aq (fun k=>k=rb) w w1→yR rb sb tv sv ws c k fin A base v acc w (.inr (5,cE ar fin I)) (.returned v) w1:=fun w1 h1 h2=>
  ⟨ad,acc.length,cap,I,by rw[hv],aj,h1,h2.mono (fun k _ e=>aC e)⟩
 have u6:=af Ap;clear Ap;rcases ac8 h2 with h3|⟨m,hm,h3⟩|⟨m,hm,n,h3,h4⟩
 ·have hlt:(acc.length:Int)<2:=by omega
  subst hv;clear hr h2 cM hR hb h3;go_enter func169,ntmps169;exact IW
 ·obtain⟨g,cap',hv',_,hg,_,_,hcell⟩:=cd cM.row ag
  rw[hv]at hv';obtain⟨rfl,rfl⟩:ad=some (ai g 0)∧cap=cap':=vA;obtain⟨x,hx,_,hk,hcc⟩:=cM.look hv (m+1) ag;obtain⟨kk,hk0,bA⟩:=RT hk h3;have c0:=hcc 0 _ hk0;obtain⟨p,hp⟩:=ak (m+1);rw[←hp]at c0;rw[Nat.add_zero]at c0;have hkb:(kk != 1)=true:=by simpa using bA
  have hge:¬(acc.length:Int)<2:=ag;have e1:(acc.length:Int) - 1=(p:Int):=ag;have e2:(p:Int)<(acc.length:Int):=ag;have e3:(0:Int)≤(p:Int):=ag;subst hv;clear hr h2 cM hR hb h3 hm hp hk hcc hcell bA hk0 hx hv';go_enter func169,ntmps169;exact IW
 ·obtain⟨g,cap',hv',_,hg,_,_,hcell⟩:=cd cM.row ag
  rw[hv]at hv';obtain⟨rfl,rfl⟩:ad=some (ai g 0)∧cap=cap':=vA;obtain⟨x,hx,_,hk,hcc⟩:=cM.look hv m ag;obtain⟨kk,hk0,bA⟩:=RT hk h4;have c0:=hcc 0 _ hk0;rw[Nat.add_zero]at c0;obtain⟨y,hy,_,hky,rO⟩:=cM.look hv (m+1) ag;have d0:=rO 0 (ae 1) (by rw[(zT hky h3).1];rfl);obtain⟨p,hp⟩:=ak (m+1);rw[←hp]at d0;rw[Nat.add_zero]at d0;have c0n:w.cell? (ai g ((acc.length - 2)*5))=some (ae kk):=Fw;have hkb:(kk != 1)=true:=by simpa using bA
  have hge:¬(acc.length:Int)<2:=ag;have e1:(acc.length:Int) - 1=(p:Int):=ag;have e2:(p:Int)<(acc.length:Int):=ag;have e3:(0:Int)≤(p:Int):=ag;have e4:(acc.length:Int) - 2=(m:Int):=ag;have e5:(m:Int)<(acc.length:Int):=ag;have e6:(0:Int)≤(m:Int):=ag;subst hv;clear hr h2 cM hR hb h3 hm hp hk hcc hcell bA hk0 hx hv' hy hky rO h4;go_enter func169,ntmps169;exact IW
end
end Go.Proofs.YtcphhbofjkenaaaGreatDoor
