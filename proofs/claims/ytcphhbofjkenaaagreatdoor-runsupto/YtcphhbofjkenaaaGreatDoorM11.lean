import Derived.Deep.DeepCutAuto
import Derived.Test.YtcphhbofjkenaaaGreatDoorM09
import Derived.Test.YtcphhbofjkenaaaGreatDoorM10
namespace Go.Proofs.YtcphhbofjkenaaaGreatDoor
open Go Go.RowKit
set_option linter.unusedVariables false
set_option linter.unusedSimpArgs false
set_option maxRecDepth 100000
set_option maxHeartbeats 16000000
section
open Go.RowKit
attribute [local go_sem] oK
def OY(ws:List RW)(ae:List Tk)(fin:Int)(f:Nat)(loops:Int)(I:Nat):(AI×Nat) ⊕ (Int×Int):=
 match aJ ws ae fin f [iQ,dO] loops [] I with
 |.inr r=>.inr r
 |.inl (la,ta,I1)=>
  if(ta.toList == [101,108,115,101])=true then
   match aJ ws ae fin f [dO] loops [] I1 with
   |.inr r=>.inr r
   |.inl (lb,_,I2)=>if(dw la).bu=(dw lb).bu then .inl (⟨none,(Inf.plain 1 0).then ((dw la).more.ways (dw lb)),.els (trees la) (trees lb)⟩,I2)else .inr (6,kz ae fin (I2 - 1))
  else if(dw la).bu=0 then .inl (⟨none,(Inf.plain 1 0).then ((dw la).ways Inf.zero),.iff (trees la)⟩,I1)else .inr (6,kz ae fin (I1 - 1))
def J6(rb sb:Nat)(tv sv:Value)(ws:List RW)(c k:Int)(fin A:Int)(w:World)(r:(AI×Nat) ⊕ (Int×Int))(e:Ending)(w':World):Prop:=
 match r with
 |.inl (x,I)=>∃xs F,e=.returned (.agg xs)∧five xs∧kindOk xs x∧az w' rb (bK sb tv I fin 0 A) 181∧aj (fun b=>b=rb) w w'∧(∀b,F b→w.heap.size≤b∧b<w'.heap.size)∧oI sb sv ws c k F w' xs x.inf x.tree
 |.inr (E,P)=>∃(xs:Array Value) (I:Nat),e=.returned (.agg xs)∧five xs∧E≠0∧az w' rb (bK sb tv I fin E P) 181∧aj (fun b=>b=rb) w w'
def pO:Array Value:= #[.int .i64 4,.int .i64 0,.string ⟨#[]⟩,.slice none 0 0,.slice none 0 0]
theorem az.pO{w:World}{b:Nat}{t:TypeId}(h:az w b pO t):w.cell? ⟨b,0,none⟩=some (.int .i64 4)∧w.cell? ⟨b,1,none⟩=some (.int .i64 0)∧w.cell? ⟨b,2,none⟩=some (.string ⟨#[]⟩)∧w.cell? ⟨b,3,none⟩=some (.slice none 0 0)∧w.cell? ⟨b,4,none⟩=some (.slice none 0 0):=
 ⟨h.cell 0 _ rfl,h.cell 1 _ rfl,h.cell 2 _ rfl,h.cell 3 _ rfl,h.cell 4 _ rfl⟩
theorem all_nil(sb:Nat)(w:World):Calls Tryz.prog 130 #[.pointer (some ⟨sb,0,none⟩),.slice none 0 0] w fun e w'=>e=.returned (.agg #[.int .i64 0,.int .i64 0,.int .i64 0,.int .i64 0,.bool true])∧Below w.heap.size w w':=
 EC sb 0 0 none (fun _=>Inf.zero) (fun _=> #[]) w (by omega) (by omega) (fun j hj=>by omega) (fun j hj=>by
  have:j=0:=by omega
  subst this;exact Inf.Wt.zero.ok (by omega) (by omega)) (fun j hj=>by omega) (fun j hj=>by omega)
theorem NV{w w':World}{b:Nat}(h:w'.heap[b]?=w.heap[b]?)(hb:b<w.heap.size):b<w'.heap.size:=by
 rw[Array.getElem?_eq_getElem hb]at h;exact(Array.getElem?_eq_some_iff.1 h).1
theorem aW.later{sb:Nat}{sv:Value}{ws:List RW}{sc sk:Int}{w:World}{base:Nat}{v:Value}{l:List AI}{xs:List (Array Value)}{F:Nat→Prop}{q:Nat}
  (h:aW sb sv ws sc sk w base v l xs F) (hw:uo l q) (hq:q≤10000000) (hl:l.length≤1100000) (w':World)
  (h1:∀k,(F k∨v.ownBlock=some k)→w'.heap[k]?=w.heap[k]?) (hsz:w.heap.size≤w'.heap.size∨True) (h3:aK w' sb sv ws sc sk) (w2:World) (hb:Below w'.heap.size w' w2):
  Calls Tryz.prog 130 #[.pointer (some ⟨sb,0,none⟩),v] w2 fun e w''=>e=.returned (dw l).val∧Below w2.heap.size w2 w'':=by
 refine h.aek hw hq hl w2 (fun k hk=>?_) (fun k hk=>?_) (h3.aA (aj.au (S:=fun _=>False) hb) id (fun _ _=>id))
 ·have e:=h1 k (Or.inl hk)
  exact(hb.block k (NV e (h.fp k hk).2.1)).trans e
 ·have e:=h1 k (Or.inr hk)
  exact(hb.block k (NV e (bg h.row hk))).trans e
theorem OZ(w:World)(a b:ByteArray)(t:TypeId):∀j (h:j<[a,b].length),(w.alloc (.cells #[.string a,.string b] t)).cell? ⟨w.heap.size,j,none⟩=some (.string [a,b][j]):=by
 intro j h
 match j,h with
 |0,_=>simp
 |1,_=>simp
theorem J7(n:Nat)(ih:lJ n)(rb sb:Nat)(tv sv:Value)(ae:List Tk)(ws:List RW)(c k:Int)(I f:Nat)(fin A loops:Int)(w:World)
  (hR:Rd w rb sb tv sv ae ws c k) (hb:az w rb (bK sb tv I fin 0 A) 181) (hn:ae.length+1 - I≤n) (hf:ae.length+1 - I≤f) (hI:I≤ae.length)
  (hl:0≤loops) (hl2:loops+(ae.length+1 - I:Nat)≤10000000):
  Calls Tryz.prog 168 #[.pointer (some ⟨rb,0,none⟩),.int .i64 loops] w (J6 rb sb tv sv ws c k fin A w (OY ws ae fin f loops I)):=by
 obtain⟨R,hr⟩:=exq (OY ws ae fin f loops I);rw[←hr];have HR:=ast hR;have HB:=ast hb;have HRR:=ast hr;have IH:=ast ih;have hlt:=hb.lt;have Ad:=hR.few;clear hr hR hb;go_enter Tryz.func168,Tryz.ntmps168
 go_wp2_with fail
 have hW:aj (fun b=>b=rb) w (((w.alloc (.cells cZ 249 (0,0))).alloc (.cells pO 249 (0,0))).alloc (.cells #[.string iQ,.string dO] 9 (0,0))):=(((aj.refl (fun b=>b=rb) w).alloc _).alloc _).alloc _
 have hI1:=IH.out rb sb tv sv ae ws c k I f fin A loops [iQ,dO] (w.heap.size+1+1) 2 _ (HR.out.aA hW) (((HB.out.alloc _).alloc _).alloc _) hn hf hI hl hl2 (by decide) (by decide) (by omega) (by
  have:=OZ ((w.alloc (.cells cZ 249 (0,0))).alloc (.cells pO 249 (0,0))) iQ dO 9;simpa using this)
 refine hI1.mono ?_;have HW:=ast hW;clear hI1 hW;intro e w1 hP;obtain⟨p,hp⟩:=exq (aJ ws ae fin f [iQ,dO] loops [] I);rw[←hp]at hP;rcases p with ⟨la,ta,I1⟩|⟨E,P⟩
 ·obtain⟨v,xs,F,rfl,hB1,Ae,jI⟩:=hP
  obtain⟨ad,cap,rfl,hcap,aeo⟩:=ag jI.row;have hC:=HW.out.trans Ae;have hz0:az w1 w.heap.size cZ 249:=((ay w cZ 249).alloc _ |>.alloc _).aA Ae (by omega);have hz1:az w1 (w.heap.size+1) pO 249:=(az.alloc (by have:=ay (w.alloc (.cells cZ 249 (0,0))) pO 249;simpa using this) _).aA Ae (by omega);have hs1:w.heap.size+1+1+1≤w1.heap.size:=by have:=Ae.size;simpa using this
  obtain⟨e0,e1,e2,e3,e4⟩:=hz1.pO;obtain⟨f0,f1,f2,f3,f4⟩:=hz1.free;obtain⟨r0,r1,r2,r3,r4,r5⟩:=hB1.bK;have Xz:=HR.out.aA hC
  by_cases hel:(ta.toList == [101,108,115,101])=true
  ·have O0:=jC ws ae fin HR.out.WS f [iQ,dO] loops [] I _ _ _ hp.symm Ha (uo.nil 0)
   simp only[List.length_nil,Nat.zero_add]at O0;have H1:=ast O0;have Zj:I<I1:=O0.1;have hq2:I1≤ae.length:=O0.2.1;clear O0;obtain⟨W,hWd⟩:=exq ((w1.setCell ⟨w.heap.size+1,3,none⟩ (.slice ad la.length cap)).setCell ⟨w.heap.size+1,0,none⟩ (.int .i64 5):World);have hCW:aj (fun b=>b=w.heap.size+1) w1 W:=by rw[hWd];exact((aj.refl (fun b=>b=w.heap.size+1) w1).setCell (p:=⟨w.heap.size+1,3,none⟩) rfl _).setCell (p:=⟨w.heap.size+1,0,none⟩) rfl _
   have hsW:w1.heap.size=W.heap.size:=by rw[hWd];simp[World.setCell]
   have uT:az W (w.heap.size+1) #[.int .i64 5,.int .i64 0,.string ⟨#[]⟩,.slice ad la.length cap,.slice none 0 0] 249:=by
    rw[hWd];have:=(hz1.set (o:=3) (.slice ad la.length cap)).set (o:=0) (.int .i64 5);simpa [pO]using this
   have hbr:az W rb (bK sb tv I1 fin 0 A) 181:=hB1.aA hCW (by omega);have Zk:az W w.heap.size cZ 249:=hz0.aA hCW (by omega);have J8:aj (fun b=>b=rb) w W:=hC.iw (hCW.mono (fun k _ hk=>by omega));have hV:aj (fun b=>b=rb) w (W.alloc (.cells #[.string dO] 9 (0,0))):=J8.alloc _
   have hI2:=IH.out rb sb tv sv ae ws c k I1 f fin A loops [dO] W.heap.size 1 _ (HR.out.aA hV) (hbr.alloc _) (by omega) (by omega) hq2 hl (by omega) (by decide) (by decide) (by have:=J8.size;omega) (by
    intro j hj;have hj0:j=0:=by simp at hj;omega
    subst hj0;simp)
   have HI2:=ast hI2;have vw:=ast jI;have HP:=ast hp;have lV:=ast uT;have BK:=ast Zk;have pR:=ast J8;have aaK:=ast hCW;have HV:=ast hV;have JC:=ast hWd;have HC:=ast hC
   have Af:∀b,(F b∨(Value.slice ad la.length cap).ownBlock=some b)→w.heap.size+1+1+1≤b∧b<w1.heap.size:=by
    rintro b (hb|hb)
    ·have:=jI.fp b hb;exact⟨by have:=this.1;simpa using this,this.2.1⟩
    ·have:=aF jI.row hb;exact⟨by simpa using this,bg jI.row hb⟩
   have Rf:=ast Af;clear jI hp uT hbr Zk J8 hCW hV hI2 Af hC Ae hz0 hz1 hB1 Xz;go_wp2_with fail
   rw[←hWd];clear hWd;go_wp2_with fail
   refine HI2.out.mono ?_;clear e0 e1 e2 e3 e4 f0 f1 f2 f3 f4 r0 r1 r2 r3 r4 r5;intro e w5 hP2;obtain⟨p2,XA⟩:=exq (aJ ws ae fin f [dO] loops [] I1);rw[←XA]at hP2;rcases p2 with ⟨lb,tb,I2⟩|⟨E,P⟩
   ·obtain⟨v2,xs2,F2,rfl,mf,mY,yI⟩:=hP2
    obtain⟨iI,bf,rfl,aep,aeq⟩:=ag yI.row;have NW:=jC ws ae fin HR.out.WS f [dO] loops [] I1 _ _ _ XA.symm NT (uo.nil 0);simp only[List.length_nil,Nat.zero_add]at NW;have H2:=ast NW;have hq3:I1<I2:=NW.1;have hq4:I2≤ae.length:=NW.2.1;have hs5:W.heap.size+1≤w5.heap.size:=by have:=mY.size;simpa using this
    have ao0:w.heap.size+1+1+1≤W.heap.size:=by omega
    obtain⟨X,Hm⟩:=exq (w5.setCell ⟨w.heap.size+1,4,none⟩ (.slice iI lb.length bf):World);have xZ:aj (fun b=>b=w.heap.size+1) w5 X:=by rw[Hm];exact(aj.refl (fun b=>b=w.heap.size+1) w5).setCell (p:=⟨w.heap.size+1,4,none⟩) rfl _
    have Rh:w5.heap.size=X.heap.size:=by rw[Hm];simp[World.setCell]
    have hz1:az w5 (w.heap.size+1) #[.int .i64 5,.int .i64 0,.string ⟨#[]⟩,.slice ad la.length cap,.slice none 0 0] 249:=(lV.out.alloc _).aA mY (by omega);obtain⟨f0,f1,f2,f3,f4⟩:=hz1.free;have x4':w5.cell? ⟨w.heap.size+1,4,none⟩=some (.slice none 0 0):=hz1.cell 4 _ rfl
    have uT:az X (w.heap.size+1) #[.int .i64 5,.int .i64 0,.string ⟨#[]⟩,.slice ad la.length cap,.slice iI lb.length bf] 249:=by
     rw[Hm];have:=hz1.set (o:=4) (.slice iI lb.length bf);simpa using this
    have hbr:az X rb (bK sb tv I2 fin 0 A) 181:=mf.aA xZ (by omega);have Zk:az X w.heap.size cZ 249:=((BK.out.alloc _).aA mY (by omega)).aA xZ (by omega);have wS:aj (fun b=>b=rb) w X:=(HV.out.trans mY).iw (xZ.mono (fun k _ hk=>by omega))
    have J9:∀b,(F2 b∨(Value.slice iI lb.length bf).ownBlock=some b)→W.heap.size+1≤b∧b<w5.heap.size:=by
     rintro b (hb|hb)
     ·have:=yI.fp b hb;exact⟨by have:=this.1;simpa using this,this.2.1⟩
     ·have:=aF yI.row hb;exact⟨by simpa using this,bg yI.row hb⟩
    have eqA:∀b,(F b∨(Value.slice ad la.length cap).ownBlock=some b)→X.heap[b]?=w1.heap[b]?:=fun b hb=>by
     have hq:=Rf.out b hb;rw[xZ.block b (by omega) (by omega),mY.block b (by simp;omega) (by omega),Below.heap_alloc _ _ _ (by omega),aaK.out.block b (by omega) (by omega)]
    have eqB:∀b,(F2 b∨(Value.slice iI lb.length bf).ownBlock=some b)→X.heap[b]?=w5.heap[b]?:=fun b hb=>by
     have hq:=J9 b hb;rw[xZ.block b (by omega) (by omega)]
    obtain⟨pa,hpa⟩:∃p,p=dw la:=⟨_,rfl⟩;obtain⟨pb,hpb⟩:∃p,p=dw lb:=⟨_,rfl⟩
    have Zl:∀w',Below X.heap.size X w'→Calls Tryz.prog 130 #[.pointer (some ⟨sb,0,none⟩),.slice ad la.length cap] w' fun e w''=>e=.returned (.agg #[.int .i64 pa.need,.int .i64 pa.bu,.int .i64 pa.high,.int .i64 pa.steps,.bool pa.str])∧Below w'.heap.size w' w'':=by
     rw[hpa];exact fun w' hb'=>vw.out.later H1.out.2.2.2 (by omega) (by have:=H1.out.2.2.1;omega) X eqA (Or.inr trivial) (HR.out.aA wS).sys w' hb'
    have Ho:∀w',Below X.heap.size X w'→Calls Tryz.prog 130 #[.pointer (some ⟨sb,0,none⟩),.slice iI lb.length bf] w' fun e w''=>e=.returned (.agg #[.int .i64 pb.need,.int .i64 pb.bu,.int .i64 pb.high,.int .i64 pb.steps,.bool pb.str])∧Below w'.heap.size w' w'':=by
     rw[hpb];exact fun w' hb'=>yI.later H2.out.2.2.2 (by omega) (by have:=H2.out.2.2.1;omega) X eqB (Or.inr trivial) (HR.out.aA wS).sys w' hb'
    have HA:=ast Zl;have yJ:=ast Ho;have Ri:=ast hpa;have XB:=ast hpb;have TB:=ast yI;have HP2:=ast XA;have KX:=ast uT;have KR:=ast hbr;have KZ:=ast Zk;have KC:=ast wS;have EA:=ast eqA;have EB:=ast eqB;have TC:=ast J9;obtain⟨r0,r1,r2,r3,r4,r5⟩:=mf.bK;clear Zl Ho hpa hpb yI XA uT hbr Zk wS eqA eqB J9 hz1 xZ mY NW mf;go_wp2_with fail
    rw[←Hm];clear Hm x4' f0 f1 f2 f3 f4 r0 r1 r2 r3 r4 r5;obtain⟨r0,r1,r2,r3,r4,r5⟩:=KR.out.bK;have x0:X.cell? ⟨w.heap.size+1,0,none⟩=some (.int .i64 5):=KX.out.cell 0 _ rfl;have x1:X.cell? ⟨w.heap.size+1,1,none⟩=some (.int .i64 0):=KX.out.cell 1 _ rfl;have x2:X.cell? ⟨w.heap.size+1,2,none⟩=some (.string ⟨#[]⟩):=KX.out.cell 2 _ rfl;have x3:X.cell? ⟨w.heap.size+1,3,none⟩=some (.slice ad la.length cap):=KX.out.cell 3 _ rfl;have x4:X.cell? ⟨w.heap.size+1,4,none⟩=some (.slice iI lb.length bf):=KX.out.cell 4 _ rfl;have hne:=dH.ne X.heap.size X aV 36 nrq;have hcr:∀(S:Option Nat) (u:dH X.heap.size X aV 36 S),u.val.cell? ⟨rb,0,none⟩=some (.pointer (some ⟨sb,0,none⟩)):=fun S u=>u.cell r0 (World.block_lt_of_cell? X _ r0)
    have NP:∀(S:Option Nat) (u:dH X.heap.size X aV 36 S),u.val.cell? ⟨w.heap.size+1,3,none⟩=some (.slice ad la.length cap):=fun S u=>u.cell x3 (World.block_lt_of_cell? X _ x3)
    refine dR aV 36 7 (by kernel_rfl) (by kernel_rfl) rfl (fun _=>rfl) (fun a w=>by simp[go_sem,aV]) ?_;simp only[List.take_succ_cons,List.take_zero,List.drop_succ_cons,List.drop_zero]
    repeat (refine dQ (fun K hK=>?_);go_simp;first|(refine hK _ ?_;clear hK K)|(apply Exists.intro;refine⟨fun S u=>?_,hK _ ?_⟩;(go_at_call 130;exact dH.calls nrq u (HA.out _ u.below));clear hK K))
    refine eQ ?_;intro b1 w6 hb1 bT hblk;obtain⟨d0,d1,d2,d3,d4⟩:=hblk.zero;obtain⟨g0,g1,g2,g3,g4⟩:=hblk.free;have aml:=hblk.lt;obtain⟨W2,hW2⟩:∃Z:World,Z=((((w6.setCell ⟨b1,0,none⟩ (.int .i64 pa.need)).setCell ⟨b1,1,none⟩ (.int .i64 pa.bu)).setCell ⟨b1,2,none⟩ (.int .i64 pa.high)).setCell ⟨b1,3,none⟩ (.int .i64 pa.steps)).setCell ⟨b1,4,none⟩ (.bool pa.str):=⟨_,rfl⟩;have yg:az W2 b1 pa.arr 36:=by rw[hW2];exact kM hblk _ _ _ _ _
    have Hq:Below X.heap.size X W2:=by rw[hW2];exact((((bT.setCell hb1 _).setCell hb1 _).setCell hb1 _).setCell hb1 _).setCell hb1 _
    have aes:=ast yg;have TD:=ast Hq;clear hcr NP hne hblk bT yg Hq r0 r1 r2 r3 r4 r5 x0 x1 x2 x3 x4;go_simp
    go_upto_region 10 with fail
    rw[←hW2];clear hW2 d0 d1 d2 d3 d4 g0 g1 g2 g3 g4;have Zm:=TD.out.size;obtain⟨r0,r1,r2,r3,r4,r5⟩:=(show az W2 rb (bK sb tv I2 fin 0 A) 181 from(TD.out.block _ KR.out.lt).trans KR.out).bK;have O1:az W2 (w.heap.size+1) #[.int .i64 5,.int .i64 0,.string ⟨#[]⟩,.slice ad la.length cap,.slice iI lb.length bf] 249:=(TD.out.block _ KX.out.lt).trans KX.out;have x0:W2.cell? ⟨w.heap.size+1,0,none⟩=some (.int .i64 5):=O1.cell 0 _ rfl;have x1:W2.cell? ⟨w.heap.size+1,1,none⟩=some (.int .i64 0):=O1.cell 1 _ rfl;have x2:W2.cell? ⟨w.heap.size+1,2,none⟩=some (.string ⟨#[]⟩):=O1.cell 2 _ rfl;have x3:W2.cell? ⟨w.heap.size+1,3,none⟩=some (.slice ad la.length cap):=O1.cell 3 _ rfl;have x4:W2.cell? ⟨w.heap.size+1,4,none⟩=some (.slice iI lb.length bf):=O1.cell 4 _ rfl;clear O1;have hne:=dH.ne W2.heap.size W2 aV 36 nrq;have hcr:∀(S:Option Nat) (u:dH W2.heap.size W2 aV 36 S),u.val.cell? ⟨rb,0,none⟩=some (.pointer (some ⟨sb,0,none⟩)):=fun S u=>u.cell r0 (World.block_lt_of_cell? W2 _ r0)
    have NP:∀(S:Option Nat) (u:dH W2.heap.size W2 aV 36 S),u.val.cell? ⟨w.heap.size+1,4,none⟩=some (.slice iI lb.length bf):=fun S u=>u.cell x4 (World.block_lt_of_cell? W2 _ x4)
    refine dR aV 36 7 (by kernel_rfl) (by kernel_rfl) rfl (fun _=>rfl) (fun a w=>by simp[go_sem,aV]) ?_;simp only[List.take_succ_cons,List.take_zero,List.drop_succ_cons,List.drop_zero]
    repeat (refine dQ (fun K hK=>?_);go_simp;first|(refine hK _ ?_;clear hK K)|(apply Exists.intro;refine⟨fun S u=>?_,hK _ ?_⟩;(go_at_call 130;exact dH.calls nrq u (yJ.out _ (TD.out.trans (u.below.mono Zm))));clear hK K))
    refine eQ ?_;intro b2 w7 hb2 bT hblk;obtain⟨d0,d1,d2,d3,d4⟩:=hblk.zero;obtain⟨g0,g1,g2,g3,g4⟩:=hblk.free;have amm:=hblk.lt;obtain⟨W3,hW3⟩:∃Z:World,Z=((((w7.setCell ⟨b2,0,none⟩ (.int .i64 pb.need)).setCell ⟨b2,1,none⟩ (.int .i64 pb.bu)).setCell ⟨b2,2,none⟩ (.int .i64 pb.high)).setCell ⟨b2,3,none⟩ (.int .i64 pb.steps)).setCell ⟨b2,4,none⟩ (.bool pb.str):=⟨_,rfl⟩;have yg:az W3 b2 pb.arr 36:=by rw[hW3];exact kM hblk _ _ _ _ _
    have Hq:Below W2.heap.size W2 W3:=by rw[hW3];exact((((bT.setCell hb2 _).setCell hb2 _).setCell hb2 _).setCell hb2 _).setCell hb2 _
    have ajv:=ast yg;have aet:=ast Hq;clear hcr NP hne hblk bT yg Hq r0 r1 r2 r3 r4 r5 x0 x1 x2 x3 x4;go_simp
    go_upto_region 11 with fail
    rw[←hW3];clear hW3 d0 d1 d2 d3 d4 g0 g1 g2 g3 g4;have sU:Below X.heap.size X W3:=TD.out.trans (aet.out.mono Zm);have hs7:=sU.size;have hK1:az W3 b1 pa.arr 36:=(aet.out.block _ aes.out.lt).trans aes.out;have O3:az W3 rb (bK sb tv I2 fin 0 A) 181:=(sU.block _ KR.out.lt).trans KR.out;have Cc:az W3 (w.heap.size+1) #[.int .i64 5,.int .i64 0,.string ⟨#[]⟩,.slice ad la.length cap,.slice iI lb.length bf] 249:=(sU.block _ KX.out.lt).trans KX.out;have Ko:az W3 w.heap.size cZ 249:=(sU.block _ KZ.out.lt).trans KZ.out;have hC3:aj (fun b=>b=rb) w W3:=KC.out.trans (aj.au sU);obtain⟨m0,m1,m2,m3,m4⟩:=hK1.inf;obtain⟨z0,z1,z2,z3,z4⟩:=ajv.out.inf;obtain⟨r0,r1,r2,r3,r4,r5⟩:=O3.bK;obtain⟨d0,d1,d2,d3,d4⟩:=Ko.cZ;obtain⟨g0,g1,g2,g3,g4⟩:=Ko.free;have x0:W3.cell? ⟨w.heap.size+1,0,none⟩=some (.int .i64 5):=Cc.cell 0 _ rfl;have x1:W3.cell? ⟨w.heap.size+1,1,none⟩=some (.int .i64 0):=Cc.cell 1 _ rfl;have x2:W3.cell? ⟨w.heap.size+1,2,none⟩=some (.string ⟨#[]⟩):=Cc.cell 2 _ rfl;have x3:W3.cell? ⟨w.heap.size+1,3,none⟩=some (.slice ad la.length cap):=Cc.cell 3 _ rfl;have x4:W3.cell? ⟨w.heap.size+1,4,none⟩=some (.slice iI lb.length bf):=Cc.cell 4 _ rfl;have LB:=ast sU;have LR:=ast O3;have LX:=ast Cc;have LZ:=ast Ko;have LC:=ast hC3;clear sU hK1 O3 Cc Ko hC3
    by_cases iJ:pa.bu=pb.bu
    ·have hnb:(pa.bu == pb.bu)=true:=by simpa using iJ
     have Kq:=ast iJ;clear iJ;go_wp2_with fail
     have hRe:R=.inl (⟨none,(Inf.plain 1 0).then (pa.more.ways pb),.els (trees la) (trees lb)⟩,I2):=by
      rw[HRR.out,OY,←HP.out];simp only[hel,if_true];rw[←HP2.out];simp only;rw[←Ri.out,←XB.out,if_pos Kq.out]
     rw[hRe];refine bodyPost_ret (v:=.agg #[.int .i64 5,.int .i64 0,.string ⟨#[]⟩,.slice ad la.length cap,.slice iI lb.length bf]) (by simp[results,Tryz.results168,go_sem,d0,d1,d2,d3,d4]) rfl ⟨_,fun b=>(F b∨(Value.slice ad la.length cap).ownBlock=some b)∨(F2 b∨(Value.slice iI lb.length bf).ownBlock=some b),rfl,⟨5,0,⟨#[]⟩,ad,la.length,cap,iI,lb.length,bf,rfl⟩,⟨5,rfl,by decide⟩,?_,?_,?_,?_⟩
     ·exact((((LR.out.setOther (by simp;omega) _).setOther (by simp;omega) _).setOther (by simp;omega) _).setOther (by simp;omega) _).setOther (by simp;omega) _
     ·exact LC.out.iw ((((((aj.refl (fun k=>w.heap.size≤k) W3).setCell (p:=⟨w.heap.size,0,none⟩) (by simp) _).setCell (p:=⟨w.heap.size,1,none⟩) (by simp) _).setCell (p:=⟨w.heap.size,2,none⟩) (by simp) _).setCell (p:=⟨w.heap.size,3,none⟩) (by simp) _).setCell (p:=⟨w.heap.size,4,none⟩) (by simp) _)
     ·intro b hb
      have hs:(((((W3.setCell ⟨w.heap.size,0,none⟩ (.int .i64 5)).setCell ⟨w.heap.size,1,none⟩ (.int .i64 0)).setCell ⟨w.heap.size,2,none⟩ (.string ⟨#[]⟩)).setCell ⟨w.heap.size,3,none⟩ (.slice ad la.length cap)).setCell ⟨w.heap.size,4,none⟩ (.slice iI lb.length bf)).heap.size=W3.heap.size:=by simp[World.setCell]
      rw[hs];rcases hb with hb|hb
      ·have hq:=Rf.out b hb;exact⟨by omega,by omega⟩
      ·have hq:=TC.out b hb;exact⟨by omega,by omega⟩
     ·intro w' hF
      have hback:∀b,w.heap.size+1+1+1≤b→b<X.heap.size→((F b∨(Value.slice ad la.length cap).ownBlock=some b)∨(F2 b∨(Value.slice iI lb.length bf).ownBlock=some b))→w'.heap[b]?=X.heap[b]?:=fun b h1 h2 hb=>by
       rw[hF b hb];rw[Below.heap_setCell _ _ _ _ (by simp;omega),Below.heap_setCell _ _ _ _ (by simp;omega),Below.heap_setCell _ _ _ _ (by simp;omega),Below.heap_setCell _ _ _ _ (by simp;omega),Below.heap_setCell _ _ _ _ (by simp;omega)];exact LB.out.block b h2
      obtain⟨t1,t2⟩:=vw.out.uZ w' (fun b hb=>by have hq:=Rf.out b hb;rw[hback b (by omega) (by omega) (Or.inl hb)];exact EA.out b hb);obtain⟨t3,t4⟩:=TB.out.uZ w' (fun b hb=>by have hq:=TC.out b hb;rw[hback b (by omega) (by omega) (Or.inr hb)];exact EB.out b hb);refine⟨.els _ _ _ _ _ _ (t1.mono (fun k _ hk _=>⟨Or.inl hk,rfl⟩)) (fun i t ht=>(t2 i t ht).mono (fun k _ hk _=>⟨Or.inl hk,rfl⟩)) (t3.mono (fun k _ hk _=>⟨Or.inr hk,rfl⟩)) (fun i t ht=>(t4 i t ht).mono (fun k _ hk _=>⟨Or.inr hk,rfl⟩)),fun gQ=>?_⟩;have hA:=fun w2 hb=>vw.out.later H1.out.2.2.2 (by omega) (by have:=H1.out.2.2.1;omega) w' (fun b hb=>by have hq:=Rf.out b hb;rw[hback b (by omega) (by omega) (Or.inl hb)];exact EA.out b hb) (Or.inr trivial) gQ w2 hb
      have hB:=fun w2 hb=>TB.out.later H2.out.2.2.2 (by omega) (by have:=H2.out.2.2.1;omega) w' (fun b hb=>by have hq:=TC.out b hb;rw[hback b (by omega) (by omega) (Or.inr hb)];exact EB.out b hb) (Or.inr trivial) gQ w2 hb
      rw[←Ri.out]at hA;rw[←XB.out]at hB;have hwa:pa.Ok:=by rw[Ri.out];exact(oJ H1.out.2.2.2).ok (by omega) (by omega)
      have hwb:pb.Ok:=by rw[XB.out];exact(oJ H2.out.2.2.2).ok (by omega) (by omega)
      exact G5 sb _ _ _ _ rfl rfl rfl rfl pa pb hwa hwb w' hA hB
    ·have hnb:(pa.bu == pb.bu)=false:=by simpa using iJ
     have Kq:=ast iJ;have hq5:1≤I2:=by omega
     have hq6:I2≤1100000:=by omega
     clear iJ;go_wp2_with fail
     have aew:(I2:Int) - 1=((I2 - 1:Nat):Int):=by omega
     rw[aew];have Ag:=HR.out.aA LC.out;refine(gz rb sb tv ae (I2 - 1) I2 fin A 6 W3 (by omega) (by omega) LR.out Ag.tok Ag.tr).mono ?_;rintro e w8 ⟨rfl,Hr,TE⟩;have O4:az w8 (w.heap.size+1) #[.int .i64 5,.int .i64 0,.string ⟨#[]⟩,.slice ad la.length cap,.slice iI lb.length bf] 249:=LX.out.aA TE (by omega);have aaL:az w8 w.heap.size cZ 249:=LZ.out.aA TE (by omega);have hC8:=LC.out.trans TE;have HB8:=ast Hr;have HC8:=ast hC8;clear aew Ag Hr TE hC8 m0 m1 m2 m3 m4 z0 z1 z2 z3 z4 r0 r1 r2 r3 r4 r5 d0 d1 d2 d3 d4 g0 g1 g2 g3 g4 x0 x1 x2 x3 x4;obtain⟨d0,d1,d2,d3,d4⟩:=aaL.cZ;obtain⟨g0,g1,g2,g3,g4⟩:=aaL.free;have x0:w8.cell? ⟨w.heap.size+1,0,none⟩=some (.int .i64 5):=O4.cell 0 _ rfl;have x1:w8.cell? ⟨w.heap.size+1,1,none⟩=some (.int .i64 0):=O4.cell 1 _ rfl;have x2:w8.cell? ⟨w.heap.size+1,2,none⟩=some (.string ⟨#[]⟩):=O4.cell 2 _ rfl;have x3:w8.cell? ⟨w.heap.size+1,3,none⟩=some (.slice ad la.length cap):=O4.cell 3 _ rfl;have x4:w8.cell? ⟨w.heap.size+1,4,none⟩=some (.slice iI lb.length bf):=O4.cell 4 _ rfl;clear O4 aaL;go_wp2_with fail
     have hRe:R=.inr (6,kz ae fin (I2 - 1)):=by
      rw[HRR.out,OY,←HP.out];simp only[hel,if_true];rw[←HP2.out];simp only;rw[←Ri.out,←XB.out,if_neg Kq.out]
     rw[hRe];refine bodyPost_ret (v:=.agg #[.int .i64 5,.int .i64 0,.string ⟨#[]⟩,.slice ad la.length cap,.slice iI lb.length bf]) (by simp[results,Tryz.results168,go_sem,d0,d1,d2,d3,d4]) rfl ⟨_,I2,rfl,⟨5,0,⟨#[]⟩,ad,la.length,cap,iI,lb.length,bf,rfl⟩,by decide,?_,?_⟩
     ·exact((((HB8.out.setOther (by simp;omega) _).setOther (by simp;omega) _).setOther (by simp;omega) _).setOther (by simp;omega) _).setOther (by simp;omega) _
     ·exact HC8.out.iw ((((((aj.refl (fun k=>w.heap.size≤k) w8).setCell (p:=⟨w.heap.size,0,none⟩) (by simp) _).setCell (p:=⟨w.heap.size,1,none⟩) (by simp) _).setCell (p:=⟨w.heap.size,2,none⟩) (by simp) _).setCell (p:=⟨w.heap.size,3,none⟩) (by simp) _).setCell (p:=⟨w.heap.size,4,none⟩) (by simp) _)
   ·obtain⟨iI,m2,bf,I',rfl,hE,mf,mY⟩:=hP2
    have hRe:R=.inr (E,P):=by rw[HRR.out,OY,←HP.out];simp only[hel,if_true];rw[←XA]
    have hCC:=HV.out.trans mY;have hz0:az w5 w.heap.size cZ 249:=(BK.out.alloc _).aA mY (by omega);have hz1:az w5 (w.heap.size+1) #[.int .i64 5,.int .i64 0,.string ⟨#[]⟩,.slice ad la.length cap,.slice none 0 0] 249:=(lV.out.alloc _).aA mY (by omega);obtain⟨d0,d1,d2,d3,d4⟩:=hz0.cZ;obtain⟨g0,g1,g2,g3,g4⟩:=hz0.free;obtain⟨f0,f1,f2,f3,f4⟩:=hz1.free;have x0:w5.cell? ⟨w.heap.size+1,0,none⟩=some (.int .i64 5):=hz1.cell 0 _ rfl;have x1:w5.cell? ⟨w.heap.size+1,1,none⟩=some (.int .i64 0):=hz1.cell 1 _ rfl;have x2:w5.cell? ⟨w.heap.size+1,2,none⟩=some (.string ⟨#[]⟩):=hz1.cell 2 _ rfl;have x3:w5.cell? ⟨w.heap.size+1,3,none⟩=some (.slice ad la.length cap):=hz1.cell 3 _ rfl;have x4:w5.cell? ⟨w.heap.size+1,4,none⟩=some (.slice none 0 0):=hz1.cell 4 _ rfl;obtain⟨r0,r1,r2,r3,r4,r5⟩:=mf.bK;have hEb:(E == 0)=false:=by simpa using hE
    have qw:=ast hRe;have Dz:=ast hCC;have nJ:=ast mf;have HE:=ast hE;clear XA hRe hCC hz0 hz1 mf mY hE;go_wp2_with fail
    rw[qw.out];refine bodyPost_ret (v:=.agg #[.int .i64 5,.int .i64 0,.string ⟨#[]⟩,.slice ad la.length cap,.slice iI m2 bf]) (by simp[results,Tryz.results168,go_sem,d0,d1,d2,d3,d4]) rfl ⟨_,I',rfl,⟨5,0,⟨#[]⟩,ad,la.length,cap,iI,m2,bf,rfl⟩,HE.out,?_,?_⟩
    ·exact(((((nJ.out.setOther (by simp;omega) _).setOther (by simp;omega) _).setOther (by simp;omega) _).setOther (by simp;omega) _).setOther (by simp;omega) _).setOther (by simp;omega) _
    ·refine Dz.out.iw ?_
     exact(((((((aj.refl (fun k=>w.heap.size≤k) w5).setCell (p:=⟨w.heap.size+1,4,none⟩) (by simp) _).setCell (p:=⟨w.heap.size,0,none⟩) (by simp) _).setCell (p:=⟨w.heap.size,1,none⟩) (by simp) _).setCell (p:=⟨w.heap.size,2,none⟩) (by simp) _).setCell (p:=⟨w.heap.size,3,none⟩) (by simp) _).setCell (p:=⟨w.heap.size,4,none⟩) (by simp) _)
  ·have XC:(ta.toList == [101,108,115,101])=false:=by simpa using hel
   obtain⟨O0,XA,NY,hp4⟩:=jC ws ae fin HR.out.WS f [iQ,dO] loops [] I _ _ _ hp.symm Ha (uo.nil 0);simp only[List.length_nil]at NY;obtain⟨W,hWd⟩:=exq (w1.setCell ⟨w.heap.size+1,3,none⟩ (.slice ad la.length cap):World);have hCW:aj (fun b=>b=w.heap.size+1) w1 W:=by rw[hWd];exact(aj.refl (fun b=>b=w.heap.size+1) w1).setCell (p:=⟨w.heap.size+1,3,none⟩) rfl _
   have hFn:∀b,F b→b≠w.heap.size+1:=fun b hb=>by have:=(jI.fp b hb).1;simp at this;omega
   have hown:∀b,(Value.slice ad la.length cap).ownBlock=some b→b≠w.heap.size+1:=fun b hb=>by
    have:=aF jI.row hb;simp at this;omega
   have hall:∀w',Below W.heap.size W w'→Calls Tryz.prog 130 #[.pointer (some ⟨sb,0,none⟩),.slice ad la.length cap] w' fun e w''=>e=.returned (dw la).val∧Below w'.heap.size w' w'':=by
    intro w' hb';refine jI.all hp4 (by omega) (by omega) w' (fun b hb=>?_) (fun b hb=>?_) ?_ ?_
    ·rw[hb'.block b (by have:=(jI.fp b hb).2.1;have:=hCW.size;omega),hCW.block b (jI.fp b hb).2.1 (hFn b hb)]
    ·have hlt2:b<w1.heap.size:=bg jI.row hb
     rw[hb'.block b (by have:=hCW.size;omega),hCW.block b hlt2 (hown b hb)]
    ·have:=hCW.size;have:=hb'.size;omega
    ·exact(Xz.sys.aA hCW (by have:=HR.out.sys.blk.lt;omega) (fun b hb=>by have:=bg HR.out.sys.row hb;omega)).aA (aj.au (S:=fun _=>False) hb') id (fun _ _=>id)
   have uT:az W (w.heap.size+1) #[.int .i64 4,.int .i64 0,.string ⟨#[]⟩,.slice ad la.length cap,.slice none 0 0] 249:=by
    rw[hWd];have:=hz1.set (o:=3) (.slice ad la.length cap);simpa [pO]using this
   have hbr:az W rb (bK sb tv I1 fin 0 A) 181:=hB1.aA hCW (by omega);have Zk:az W w.heap.size cZ 249:=hz0.aA hCW (by omega);have J8:aj (fun b=>b=rb) w W:=hC.iw (hCW.mono (fun k _ hk=>by omega));have hsW:w1.heap.size=W.heap.size:=by rw[hWd];simp[World.setCell]
   obtain⟨pa,hpa⟩:∃p,p=dw la:=⟨_,rfl⟩;have Ri:=ast hpa
   have DC:∀w',Below W.heap.size W w'→Calls Tryz.prog 130 #[.pointer (some ⟨sb,0,none⟩),.slice ad la.length cap] w' fun e w''=>e=.returned (.agg #[.int .i64 pa.need,.int .i64 pa.bu,.int .i64 pa.high,.int .i64 pa.steps,.bool pa.str])∧Below w'.heap.size w' w'':=by
    rw[hpa];exact hall
   have Ho:∀V:World,V=(W.alloc (.cells #[.int .i64 0,.int .i64 0,.int .i64 0,.int .i64 0,.bool false] 36 (0,0))).drew→Calls Tryz.prog 130 #[.pointer (some ⟨sb,0,none⟩),.slice ad la.length cap] V fun e w''=>e=.returned (.agg #[.int .i64 pa.need,.int .i64 pa.bu,.int .i64 pa.high,.int .i64 pa.steps,.bool pa.str])∧Below V.heap.size V w''∧
     w''.cell? ⟨W.heap.size,0,none⟩=some (.int .i64 0)∧w''.cell? ⟨W.heap.size,1,none⟩=some (.int .i64 0)∧w''.cell? ⟨W.heap.size,2,none⟩=some (.int .i64 0)∧w''.cell? ⟨W.heap.size,3,none⟩=some (.int .i64 0)∧w''.cell? ⟨W.heap.size,4,none⟩=some (.bool false)∧
     w''.frozen? ⟨W.heap.size,0,none⟩=false∧w''.frozen? ⟨W.heap.size,1,none⟩=false∧w''.frozen? ⟨W.heap.size,2,none⟩=false∧w''.frozen? ⟨W.heap.size,3,none⟩=false∧w''.frozen? ⟨W.heap.size,4,none⟩=false:=by
    intro V hV;refine(DC V (by rw[hV];exact(brq.alloc nrq _).drew)).mono ?_;rintro e w'' ⟨he,hbb⟩;have h0:az V W.heap.size aV 36:=by rw[hV];exact(ay W aV 36).drew
    have h:az w'' W.heap.size aV 36:=(hbb.block _ h0.lt).trans h0;exact⟨he,hbb,h.zero.1,h.zero.2.1,h.zero.2.2.1,h.zero.2.2.2.1,h.zero.2.2.2.2,h.frozen 0,h.frozen 1,h.frozen 2,h.frozen 3,h.frozen 4⟩
   have Af:∀b,(F b∨(Value.slice ad la.length cap).ownBlock=some b)→w.heap.size+1+1+1≤b∧b<w1.heap.size:=by
    rintro b (hb|hb)
    ·have:=jI.fp b hb;exact⟨by have:=this.1;simpa using this,this.2.1⟩
    ·have:=aF jI.row hb;exact⟨by simpa using this,bg jI.row hb⟩
   have amo:=ast Ho;have sV:=ast DC;have vw:=ast jI;have HP:=ast hp;have lV:=ast uT;have uV:=ast hbr;have BK:=ast Zk;have pR:=ast J8;have aaK:=ast hCW;have H1:=ast (And.intro O0 (And.intro XA (And.intro NY hp4)));have HFN:=ast hFn;have EI:=ast hown;have ao4:=ast Xz;have JC:=ast hWd;clear hall DC Ho hpa jI hp uT hbr Zk J8 hCW O0 XA NY hp4 hFn hown Xz hC Ae hz0 hz1 hB1 hel;go_wp2_with fail
   rw[←hWd];clear hWd e0 e1 e2 e3 e4 f0 f1 f2 f3 f4 r0 r1 r2 r3 r4 r5;obtain⟨r0,r1,r2,r3,r4,r5⟩:=uV.out.bK;have x3:=lV.out.cell 3 _ rfl;have x4:=lV.out.cell 4 _ rfl;simp only[List.getElem_toArray,List.getElem_cons_succ,List.getElem_cons_zero]at x3 x4;have hne:=dH.ne W.heap.size W aV 36 nrq;have hcr:∀(S:Option Nat) (u:dH W.heap.size W aV 36 S),u.val.cell? ⟨rb,0,none⟩=some (.pointer (some ⟨sb,0,none⟩)):=fun S u=>u.cell r0 (World.block_lt_of_cell? W _ r0)
   have NP:∀(S:Option Nat) (u:dH W.heap.size W aV 36 S),u.val.cell? ⟨w.heap.size+1,3,none⟩=some (.slice ad la.length cap):=fun S u=>u.cell x3 (World.block_lt_of_cell? W _ x3)
   refine dR aV 36 7 (by kernel_rfl) (by kernel_rfl) rfl (fun _=>rfl) (fun a w=>by simp[go_sem,aV]) ?_;simp only[List.take_succ_cons,List.take_zero,List.drop_succ_cons,List.drop_zero]
   repeat (refine dQ (fun K hK=>?_);go_simp;first|(refine hK _ ?_;clear hK K)|(apply Exists.intro;refine⟨fun S u=>?_,hK _ ?_⟩;(go_at_call 130;exact dH.calls nrq u (sV.out _ u.below));clear hK K))
   refine eQ ?_;intro b1 w2 hb1 pM hblk;obtain⟨d0,d1,d2,d3,d4⟩:=hblk.zero;obtain⟨g0,g1,g2,g3,g4⟩:=hblk.free;have hlt2:=hblk.lt;obtain⟨W2,hW2⟩:=exq (((((w2.setCell ⟨b1,0,none⟩ (.int .i64 pa.need)).setCell ⟨b1,1,none⟩ (.int .i64 pa.bu)).setCell ⟨b1,2,none⟩ (.int .i64 pa.high)).setCell ⟨b1,3,none⟩ (.int .i64 pa.steps)).setCell ⟨b1,4,none⟩ (.bool pa.str):World);have yg:az W2 b1 pa.arr 36:=by rw[hW2];exact kM hblk _ _ _ _ _
   have TF:Below W.heap.size W W2:=by rw[hW2];exact((((pM.setCell hb1 _).setCell hb1 _).setCell hb1 _).setCell hb1 _).setCell hb1 _
   have sW:=ast yg;have HW2:=ast TF;clear hcr NP hne hblk pM yg TF r0 r1 r2 r3 r4 r5 x3 x4;go_simp
   go_wp2_with fail
   rw[←hW2];clear hW2 d0 d1 d2 d3 d4 g0 g1 g2 g3 g4;have hs2:=HW2.out.size;have aez:az W2 rb (bK sb tv I1 fin 0 A) 181:=(HW2.out.block _ uV.out.lt).trans uV.out;have aeA:az W2 (w.heap.size+1) #[.int .i64 4,.int .i64 0,.string ⟨#[]⟩,.slice ad la.length cap,.slice none 0 0] 249:=(HW2.out.block _ lV.out.lt).trans lV.out;obtain⟨r0,r1,r2,r3,r4,r5⟩:=aez.bK;have x4:=aeA.cell 4 _ rfl;simp only[List.getElem_toArray,List.getElem_cons_succ,List.getElem_cons_zero]at x4;have ajx:=ast (all_nil sb);have hne:=dH.ne W2.heap.size W2 aV 36 nrq;have hcr:∀(S:Option Nat) (u:dH W2.heap.size W2 aV 36 S),u.val.cell? ⟨rb,0,none⟩=some (.pointer (some ⟨sb,0,none⟩)):=fun S u=>u.cell r0 (World.block_lt_of_cell? W2 _ r0)
   have NP:∀(S:Option Nat) (u:dH W2.heap.size W2 aV 36 S),u.val.cell? ⟨w.heap.size+1,4,none⟩=some (.slice none 0 0):=fun S u=>u.cell x4 (World.block_lt_of_cell? W2 _ x4)
   clear aez aeA;refine dR aV 36 7 (by kernel_rfl) (by kernel_rfl) rfl (fun _=>rfl) (fun a w=>by simp[go_sem,aV]) ?_;simp only[List.take_succ_cons,List.take_zero,List.drop_succ_cons,List.drop_zero]
   repeat (refine dQ (fun K hK=>?_);go_simp;first|(refine hK _ ?_;clear hK K)|(apply Exists.intro;refine⟨fun S u=>?_,hK _ ?_⟩;(go_at_call 130;exact dH.calls nrq u (ajx.out _));clear hK K))
   refine eQ ?_;intro b2 w3 hb2 Ht hblk;obtain⟨d0,d1,d2,d3,d4⟩:=hblk.zero;obtain⟨g0,g1,g2,g3,g4⟩:=hblk.free;have hlt3:=hblk.lt;obtain⟨W3,hW3⟩:=exq (((((w3.setCell ⟨b2,0,none⟩ (.int .i64 0)).setCell ⟨b2,1,none⟩ (.int .i64 0)).setCell ⟨b2,2,none⟩ (.int .i64 0)).setCell ⟨b2,3,none⟩ (.int .i64 0)).setCell ⟨b2,4,none⟩ (.bool true):World);have Ah:az W3 b2 Inf.zero.arr 36:=by rw[hW3];exact kM hblk _ _ _ _ _
   have Kr:Below W2.heap.size W2 W3:=by rw[hW3];exact((((Ht.setCell hb2 _).setCell hb2 _).setCell hb2 _).setCell hb2 _).setCell hb2 _
   have hK1:az W3 b1 pa.arr 36:=(Kr.block _ sW.out.lt).trans sW.out;have qG:Below W.heap.size W W3:=HW2.out.trans (Kr.mono hs2);have hs3:=qG.size;have O3:az W3 rb (bK sb tv I1 fin 0 A) 181:=(qG.block _ uV.out.lt).trans uV.out;have Cc:az W3 (w.heap.size+1) #[.int .i64 4,.int .i64 0,.string ⟨#[]⟩,.slice ad la.length cap,.slice none 0 0] 249:=(qG.block _ lV.out.lt).trans lV.out;have Ko:az W3 w.heap.size cZ 249:=(qG.block _ BK.out.lt).trans BK.out;have hC3:aj (fun b=>b=rb) w W3:=pR.out.trans (aj.au qG);have ajy:=ast qG;have pU:=ast hK1;have HK3:=ast Ah;have aaN:=ast O3;have O5:=ast Cc;have aaO:=ast Ko;have NZ:=ast hC3;clear hcr NP hne hblk Ht Ah Kr hK1 qG O3 Cc Ko hC3 r0 r1 r2 r3 r4 r5 x4;go_simp
   go_upto_region 11 with fail
   rw[←hW3];clear hW3 d0 d1 d2 d3 d4 g0 g1 g2 g3 g4;obtain⟨m0,m1,m2,m3,m4⟩:=pU.out.inf;obtain⟨z0,z1,z2,z3,z4⟩:=HK3.out.inf;obtain⟨r0,r1,r2,r3,r4,r5⟩:=aaN.out.bK;obtain⟨d0,d1,d2,d3,d4⟩:=aaO.out.cZ;obtain⟨g0,g1,g2,g3,g4⟩:=aaO.out.free;have x0:W3.cell? ⟨w.heap.size+1,0,none⟩=some (.int .i64 4):=O5.out.cell 0 _ rfl;have x1:W3.cell? ⟨w.heap.size+1,1,none⟩=some (.int .i64 0):=O5.out.cell 1 _ rfl;have x2:W3.cell? ⟨w.heap.size+1,2,none⟩=some (.string ⟨#[]⟩):=O5.out.cell 2 _ rfl;have x3:W3.cell? ⟨w.heap.size+1,3,none⟩=some (.slice ad la.length cap):=O5.out.cell 3 _ rfl;have x4:W3.cell? ⟨w.heap.size+1,4,none⟩=some (.slice none 0 0):=O5.out.cell 4 _ rfl;simp only[Inf.zero]at z0 z1 z2 z3 z4
   by_cases iJ:pa.bu=0
   ·have hnb:(pa.bu == 0)=true:=by simpa using iJ
    have Kq:=ast iJ;clear iJ;go_wp2_with fail
    have hRe:R=.inl (⟨none,(Inf.plain 1 0).then (pa.ways Inf.zero),.iff (trees la)⟩,I1):=by
     rw[HRR.out,OY,←HP.out];simp only[XC,Bool.false_eq_true,if_false];rw[←Ri.out,if_pos Kq.out]
    rw[hRe];refine bodyPost_ret (v:=.agg #[.int .i64 4,.int .i64 0,.string ⟨#[]⟩,.slice ad la.length cap,.slice none 0 0]) (by simp[results,Tryz.results168,go_sem,d0,d1,d2,d3,d4]) rfl ⟨_,fun b=>F b∨(Value.slice ad la.length cap).ownBlock=some b,rfl,⟨4,0,⟨#[]⟩,ad,la.length,cap,none,0,0,rfl⟩,⟨4,rfl,by decide⟩,?_,?_,?_,?_⟩
    ·exact((((aaN.out.setOther (by simp;omega) _).setOther (by simp;omega) _).setOther (by simp;omega) _).setOther (by simp;omega) _).setOther (by simp;omega) _
    ·exact NZ.out.iw ((((((aj.refl (fun k=>w.heap.size≤k) W3).setCell (p:=⟨w.heap.size,0,none⟩) (by simp) _).setCell (p:=⟨w.heap.size,1,none⟩) (by simp) _).setCell (p:=⟨w.heap.size,2,none⟩) (by simp) _).setCell (p:=⟨w.heap.size,3,none⟩) (by simp) _).setCell (p:=⟨w.heap.size,4,none⟩) (by simp) _)
    ·intro b hb
     have hs:(((((W3.setCell ⟨w.heap.size,0,none⟩ (.int .i64 4)).setCell ⟨w.heap.size,1,none⟩ (.int .i64 0)).setCell ⟨w.heap.size,2,none⟩ (.string ⟨#[]⟩)).setCell ⟨w.heap.size,3,none⟩ (.slice ad la.length cap)).setCell ⟨w.heap.size,4,none⟩ (.slice none 0 0)).heap.size=W3.heap.size:=by simp[World.setCell]
     rw[hs];have hq:=Af b hb;exact⟨by omega,by omega⟩
    ·intro w' hF
     have Zj:=H1.out.2.2.2
     have hfe:∀b,(F b∨(Value.slice ad la.length cap).ownBlock=some b)→w'.heap[b]?=w1.heap[b]?:=fun b hb=>by
      rw[hF b hb];have hq:=Af b hb;rw[Below.heap_setCell _ _ _ _ (by simp;omega),Below.heap_setCell _ _ _ _ (by simp;omega),Below.heap_setCell _ _ _ _ (by simp;omega),Below.heap_setCell _ _ _ _ (by simp;omega),Below.heap_setCell _ _ _ _ (by simp;omega)];rw[ajy.out.block b (by omega),aaK.out.block b (by omega) (by omega)]
     obtain⟨t1,t2⟩:=vw.out.uZ w' hfe;refine⟨.iff _ _ _ t1 t2,fun gQ=>?_⟩;have hA:=fun w2 hb=>vw.out.later Zj (by have:=H1.out.2.1;omega) (by have:=H1.out.2.2.1;have:=H1.out.2.1;omega) w' hfe (Or.inr trivial) gQ w2 hb
     rw[←Ri.out]at hA;have hwt:pa.Ok:=by rw[Ri.out];exact(oJ Zj).ok (by omega) (by have:=H1.out.2.1;omega)
     exact OO sb _ _ _ _ rfl rfl rfl rfl pa Inf.zero hwt (Inf.Wt.zero.ok (by omega) (by omega)) w' hA (fun w2 _=>all_nil sb w2)
   ·have hnb:(pa.bu == 0)=false:=by simpa using iJ
    have Kq:=ast iJ;have EJ:1≤I1:=by have:=H1.out.1;omega
    have Zj:I1≤1100000:=by have:=H1.out.2.1;omega
    clear iJ;go_wp2_with fail
    have hI1:(I1:Int) - 1=((I1 - 1:Nat):Int):=by have:=H1.out.1;omega
    rw[hI1];have Ag:=HR.out.aA NZ.out;refine(gz rb sb tv ae (I1 - 1) I1 fin A 6 W3 (by have:=H1.out.2.1;omega) (by omega) aaN.out Ag.tok Ag.tr).mono ?_;rintro e w4 ⟨rfl,hb4,hc4⟩;have O6:az w4 (w.heap.size+1) #[.int .i64 4,.int .i64 0,.string ⟨#[]⟩,.slice ad la.length cap,.slice none 0 0] 249:=O5.out.aA hc4 (by omega);have aaP:az w4 w.heap.size cZ 249:=aaO.out.aA hc4 (by omega);have hC4:=NZ.out.trans hc4;have DF:=ast hb4;have HC4:=ast hC4;clear hI1 Ag hb4 hc4 hC4 m0 m1 m2 m3 m4 z0 z1 z2 z3 z4 r0 r1 r2 r3 r4 r5 d0 d1 d2 d3 d4 g0 g1 g2 g3 g4 x0 x1 x2 x3 x4;obtain⟨d0,d1,d2,d3,d4⟩:=aaP.cZ;obtain⟨g0,g1,g2,g3,g4⟩:=aaP.free;have x0:w4.cell? ⟨w.heap.size+1,0,none⟩=some (.int .i64 4):=O6.cell 0 _ rfl;have x1:w4.cell? ⟨w.heap.size+1,1,none⟩=some (.int .i64 0):=O6.cell 1 _ rfl;have x2:w4.cell? ⟨w.heap.size+1,2,none⟩=some (.string ⟨#[]⟩):=O6.cell 2 _ rfl;have x3:w4.cell? ⟨w.heap.size+1,3,none⟩=some (.slice ad la.length cap):=O6.cell 3 _ rfl;have x4:w4.cell? ⟨w.heap.size+1,4,none⟩=some (.slice none 0 0):=O6.cell 4 _ rfl;clear O6 aaP;go_wp2_with fail
    have hRe:R=.inr (6,kz ae fin (I1 - 1)):=by
     rw[HRR.out,OY,←HP.out];simp only[XC,Bool.false_eq_true,if_false];rw[←Ri.out,if_neg Kq.out]
    rw[hRe];refine bodyPost_ret (v:=.agg #[.int .i64 4,.int .i64 0,.string ⟨#[]⟩,.slice ad la.length cap,.slice none 0 0]) (by simp[results,Tryz.results168,go_sem,d0,d1,d2,d3,d4]) rfl ⟨_,I1,rfl,⟨4,0,⟨#[]⟩,ad,la.length,cap,none,0,0,rfl⟩,by decide,?_,?_⟩
    ·exact((((DF.out.setOther (by simp;omega) _).setOther (by simp;omega) _).setOther (by simp;omega) _).setOther (by simp;omega) _).setOther (by simp;omega) _
    ·exact HC4.out.iw ((((((aj.refl (fun k=>w.heap.size≤k) w4).setCell (p:=⟨w.heap.size,0,none⟩) (by simp) _).setCell (p:=⟨w.heap.size,1,none⟩) (by simp) _).setCell (p:=⟨w.heap.size,2,none⟩) (by simp) _).setCell (p:=⟨w.heap.size,3,none⟩) (by simp) _).setCell (p:=⟨w.heap.size,4,none⟩) (by simp) _)
 ·obtain⟨ad,m,cap,I',rfl,hE,hB1,Ae⟩:=hP
  have hRe:R=.inr (E,P):=by rw[HRR.out,OY,←hp]
  have hC:=HW.out.trans Ae;have hz0:az w1 w.heap.size cZ 249:=((ay w cZ 249).alloc _ |>.alloc _).aA Ae (by omega);have hz1:az w1 (w.heap.size+1) pO 249:=(az.alloc (by have:=ay (w.alloc (.cells cZ 249 (0,0))) pO 249;simpa using this) _).aA Ae (by omega);obtain⟨d0,d1,d2,d3,d4⟩:=hz0.cZ;obtain⟨g0,g1,g2,g3,g4⟩:=hz0.free;obtain⟨e0,e1,e2,e3,e4⟩:=hz1.pO;obtain⟨f0,f1,f2,f3,f4⟩:=hz1.free;obtain⟨r0,r1,r2,r3,r4,r5⟩:=hB1.bK;have hEb:(E == 0)=false:=by simpa using hE
  have qw:=ast hRe;have HC:=ast hC;have HB1:=ast hB1;have HE:=ast hE;have hsz:=hz1.lt;clear hp hRe hC hz0 hz1 hB1 Ae hE;go_wp2_with fail
  rw[qw.out];refine bodyPost_ret (v:=.agg #[.int .i64 4,.int .i64 0,.string ⟨#[]⟩,.slice ad m cap,.slice none 0 0]) (by simp[results,Tryz.results168,go_sem,d0,d1,d2,d3,d4]) rfl ⟨_,I',rfl,⟨4,0,⟨#[]⟩,ad,m,cap,none,0,0,rfl⟩,HE.out,?_,?_⟩
  ·exact(((((HB1.out.setOther (by simp;omega) _).setOther (by simp;omega) _).setOther (by simp;omega) _).setOther (by simp;omega) _).setOther (by simp;omega) _).setOther (by simp;omega) _
  ·refine HC.out.iw ?_
   exact((((((aj.refl (fun k=>w.heap.size≤k) w1).setCell (p:=⟨w.heap.size+1,3,none⟩) (by simp) _).setCell (p:=⟨w.heap.size,0,none⟩) (by simp) _).setCell (p:=⟨w.heap.size,1,none⟩) (by simp) _).setCell (p:=⟨w.heap.size,2,none⟩) (by simp) _).setCell (p:=⟨w.heap.size,3,none⟩) (by simp) _).setCell (p:=⟨w.heap.size,4,none⟩) (by simp) _
end
section
open Go.RowKit
def Kt(ws:List RW)(ae:List Tk)(fin:Int)(f:Nat)(loops:Int)(acc:List AI)(I:Nat):(AI×Nat) ⊕ (Int×Int):=
 match gp acc with
 |none=>.inr (5,kz ae fin I)
 |some (a,b)=>
  if 1000<a - b then .inr (7,kz ae fin I)else
   match aJ ws ae fin f [jg] (loops+1) [] (I+1)with
   |.inr r=>.inr r
   |.inl (la,_,I1)=>if(dw la).bu=0 then .inl (⟨none,(Inf.plain 2 0).then ((dw la).times (max 0 (a - b))),.Et (trees la)⟩,I1)else .inr (6,kz ae fin (I1 - 1))
theorem EK{l:List AI}{a b:Int}(h:gp l=some (a,b)):2≤l.length∧(∃i t,l[l.length - 2]?=some ⟨some a,i,t⟩)∧∃i t,l[l.length - 1]?=some ⟨some b,i,t⟩:=by
 unfold gp at h
 split at h
 ·rename_i b' ib tb a' ia ta r hr
  simp at h;obtain⟨rfl,rfl⟩:=h
  have e:l=r.reverse++[⟨some a',ia,ta⟩,⟨some b',ib,tb⟩]:=by
   have:=congrArg List.reverse hr;simpa using this
  subst e;refine⟨by simp,⟨ia,ta,?_⟩,⟨ib,tb,?_⟩⟩
  ·simp
  ·simp
 ·cases h
def nM(rb sb:Nat)(tv sv:Value)(ws:List RW)(c k:Int)(fin A:Int)(base:Nat)(v:Value)(acc:List AI)(w:World)(r:(AI×Nat) ⊕ (Int×Int))(e:Ending)(w':World):Prop:=
 match r with
 |.inl (x,I)=>∃v' xs' F',e=.returned v'∧az w' rb (bK sb tv I fin 0 A) 181∧aj (fun b=>b=rb∨v.ownBlock=some b) w w'∧aW sb sv ws c k w' base v' (acc++[x]) xs' F'
 |.inr (E,P)=>∃(ad:Option Addr) (n cap I:Nat),e=.returned (.slice ad n cap)∧E≠0∧az w' rb (bK sb tv I fin E P) 181∧aj (fun b=>b=rb∨v.ownBlock=some b) w w'
theorem aW.look{sb:Nat}{sv:Value}{ws:List RW}{sc sk:Int}{w:World}{base:Nat}{v:Value}{l:List AI}{xs:List (Array Value)}{F:Nat→Prop}
  (h:aW sb sv ws sc sk w base v l xs F) {g cap:Nat} (hv:v=.slice (some ⟨g,0,none⟩) l.length cap) (i:Nat) (hi:i<l.length):
  ∃x:Array Value,xs[i]?=some x∧five x∧kindOk x l[i]∧∀(o:Nat) (u:Value),x[o]?=some u→w.cell? ⟨g,i*5+o,none⟩=some u:=by
 have hxj:xs[i]?=some (xs[i]'(by rw[h.len];exact hi)):=List.getElem?_eq_getElem _;obtain⟨x,hx⟩:∃x,xs[i]?=some x:=⟨_,hxj⟩;obtain⟨g',cap',JB,_,hg,_,_,hcell⟩:=aB h.row (by omega);rw[hv]at JB;obtain⟨e1,_⟩:g=g'∧cap=cap':=by simpa using JB
 subst e1;exact⟨x,hx,h.shape x (List.mem_of_getElem? hx),h.kind i x _ hx (List.getElem?_eq_getElem hi),fun o u hu=>hcell _ _ (G9 xs h.shape i o x u hx hu)⟩
theorem DI{x:Array Value}{a:AI}(h:kindOk x a)(ha:a.num=none):∃k:Int,x[0]?=some (.int .i64 k)∧k≠1:=by
 unfold kindOk at h;rw[ha]at h;exact h
theorem nN{x:Array Value}{a:AI}{n:Int}(h:kindOk x a)(ha:a.num=some n):x= #[.int .i64 1,.int .i64 n,.string ⟨#[]⟩,.slice none 0 0,.slice none 0 0]∧ -2147483648≤n∧n≤2147483647:=by
 unfold kindOk at h;rw[ha]at h;exact h
theorem EL{l:List AI}(h:gp l=none):l.length<2∨(∃m,∃h2:l.length=m+2,(l[m+1]'(by omega)).num=none)∨(∃m,∃h2:l.length=m+2,∃n,(l[m+1]'(by omega)).num=some n∧(l[m]'(by omega)).num=none):=by
 rcases Nat.lt_or_ge l.length 2 with h1|h1
 ·exact Or.inl h1
 ·right
  obtain⟨m,hm⟩:∃m,l.length=m+2:=⟨l.length - 2,by omega⟩
  have e:l.reverse=l[m+1] :: l[m] :: (l.take m).reverse:=by
   have:l=l.take m++[l[m],l[m+1]]:=by
    conv=>lhs;rw[←List.take_append_drop m l]
    congr 1
    rw[List.drop_eq_getElem_cons (by omega),List.drop_eq_getElem_cons (by omega),List.drop_eq_nil_of_le (by omega)]
   conv=>lhs;rw[this]
   simp
  unfold gp at h;rw[e]at h;generalize hy:l[m+1]=y at h;generalize hz:l[m]=z at h;obtain⟨yn,yi⟩:=y;obtain⟨zn,zi⟩:=z
  cases yn with
  |none=>exact Or.inl ⟨m,hm,by rw[hy]⟩
  |some n=>
   cases zn with
   |none=>exact Or.inr ⟨m,hm,n,by rw[hy],by rw[hz]⟩
   |some n2=>simp at h
theorem EM(rb sb:Nat)(tv sv:Value)(ae:List Tk)(ws:List RW)(c k:Int)(I f:Nat)(fin A loops:Int)(base:Nat)(v:Value)(acc:List AI)(xs:List (Array Value))(F:Nat→Prop)(w:World)
  (hR:Rd w rb sb tv sv ae ws c k) (hb:az w rb (bK sb tv I fin 0 A) 181) (hI:I<ae.length) (jI:aW sb sv ws c k w base v acc xs F) (hal:acc.length≤1100000) (h2:gp acc=none):
  Calls Tryz.prog 169 #[.pointer (some ⟨rb,0,none⟩),v,.int .i64 loops] w (nM rb sb tv sv ws c k fin A base v acc w (Kt ws ae fin f loops acc I)):=by
 have hr:Kt ws ae fin f loops acc I=.inr (5,kz ae fin I):=by unfold Kt;rw[h2]
 rw[hr];obtain⟨ad,cap,hv,hcap,hmax⟩:=ag jI.row;obtain⟨r0,r1,r2,r3,r4,r5⟩:=hb.bK;have Ad:=hR.few;have HX:=ast (gz rb sb tv ae I I fin A 5 w (by omega) (by omega) hb hR.tok hR.tr)
 have TG:∀(w1:World),az w1 rb (bK sb tv I fin 5 (kz ae fin I)) 181→aj (fun k=>k=rb) w w1→nM rb sb tv sv ws c k fin A base v acc w (.inr (5,kz ae fin I)) (.returned v) w1:=fun w1 h1 h2=>
  ⟨ad,acc.length,cap,I,by rw[hv],by decide,h1,h2.mono (fun k _ e=>Or.inl e)⟩
 have Ce:=ast TG;clear TG;rcases EL h2 with h3|⟨m,hm,h3⟩|⟨m,hm,n,h3,h4⟩
 ·have hlt:(acc.length:Int)<2:=by omega
  subst hv;clear hr h2 jI hR hb h3;go_enter Tryz.func169,Tryz.ntmps169
  go_wp2_with fail
  refine HX.out.mono ?_;rintro e w1 ⟨rfl,hb1,hc1⟩;have H1:=ast hb1;have H2:=ast hc1;clear HX hb1 hc1;go_wp2_with fail
  go_ret
  exact Ce.out _ H1.out H2.out
 ·obtain⟨g,cap',hv',_,hg,_,_,hcell⟩:=aB jI.row (by omega)
  rw[hv]at hv';obtain⟨rfl,rfl⟩:ad=some ⟨g,0,none⟩∧cap=cap':=by simpa using hv'
  obtain⟨x,hx,_,hk,hcc⟩:=jI.look hv (m+1) (by omega);obtain⟨kk,hk0,dM⟩:=DI hk h3;have c0:=hcc 0 _ hk0;obtain⟨p,hp⟩:=exq (m+1);rw[←hp]at c0;rw[Nat.add_zero]at c0;have hkb:(kk != 1)=true:=by simpa using dM
  have hge:¬(acc.length:Int)<2:=by omega
  have e1:(acc.length:Int) - 1=(p:Int):=by omega
  have e2:(p:Int)<(acc.length:Int):=by omega
  have e3:(0:Int)≤(p:Int):=by omega
  subst hv;clear hr h2 jI hR hb h3 hm hp hk hcc hcell dM hk0 hx hv';go_enter Tryz.func169,Tryz.ntmps169
  go_wp2_with fail
  refine HX.out.mono ?_;rintro e w1 ⟨rfl,hb1,hc1⟩;have H1:=ast hb1;have H2:=ast hc1;clear HX hb1 hc1;go_wp2_with fail
  go_ret
  exact Ce.out _ H1.out H2.out
 ·obtain⟨g,cap',hv',_,hg,_,_,hcell⟩:=aB jI.row (by omega)
  rw[hv]at hv';obtain⟨rfl,rfl⟩:ad=some ⟨g,0,none⟩∧cap=cap':=by simpa using hv'
  obtain⟨x,hx,_,hk,hcc⟩:=jI.look hv m (by omega);obtain⟨kk,hk0,dM⟩:=DI hk h4;have c0:=hcc 0 _ hk0;rw[Nat.add_zero]at c0;obtain⟨y,hy,_,Zn,TI⟩:=jI.look hv (m+1) (by omega);have d0:=TI 0 (.int .i64 1) (by rw[(nN Zn h3).1];rfl);obtain⟨p,hp⟩:=exq (m+1);rw[←hp]at d0;rw[Nat.add_zero]at d0;have c0n:w.cell? ⟨g,(acc.length - 2)*5,none⟩=some (.int .i64 kk):=by rw[show acc.length - 2=m by omega];exact c0
  have hkb:(kk != 1)=true:=by simpa using dM
  have hge:¬(acc.length:Int)<2:=by omega
  have e1:(acc.length:Int) - 1=(p:Int):=by omega
  have e2:(p:Int)<(acc.length:Int):=by omega
  have e3:(0:Int)≤(p:Int):=by omega
  have e4:(acc.length:Int) - 2=(m:Int):=by omega
  have e5:(m:Int)<(acc.length:Int):=by omega
  have e6:(0:Int)≤(m:Int):=by omega
  subst hv;clear hr h2 jI hR hb h3 hm hp hk hcc hcell dM hk0 hx hv' hy Zn TI h4;go_enter Tryz.func169,Tryz.ntmps169
  go_wp2_with fail
  refine HX.out.mono ?_;rintro e w1 ⟨rfl,hb1,hc1⟩;have H1:=ast hb1;have H2:=ast hc1;clear HX hb1 hc1;go_wp2_with fail
  go_ret
  exact Ce.out _ H1.out H2.out
end
end Go.Proofs.YtcphhbofjkenaaaGreatDoor
