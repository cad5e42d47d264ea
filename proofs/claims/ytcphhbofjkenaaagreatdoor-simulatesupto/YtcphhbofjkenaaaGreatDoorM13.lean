import Derived.Test.YtcphhbofjkenaaaGreatDoorM12
namespace Go.Proofs.YtcphhbofjkenaaaGreatDoor
open Go Go.RowKit Proofs.Tryz
set_option linter.unusedVariables false
set_option linter.unusedSimpArgs false
set_option maxRecDepth 100000
set_option maxHeartbeats 16000000
variable{n rb sb J f I I':Nat}{tv:Value}{fin A loops:Int}{wr:World}{ws:List RW}{ar:List Tk}{x:AI}
theorem Cp{p:Prop}(h:p:=by
  rcases hat with h|h
  ·exact aC h.symm
  ·exact aA abq):p:=h
section
def Nw(rb sb:Nat)(tv sv:Value)(ar:List Tk)(ws:List RW)(c k:Int)(I:Nat)(fin A loops:Int)(ends:List ByteArray)(w:World)(R:PR)(v:Value)(wr:World):Prop:=
 (∃(J f:Nat) (acc:List AI) (xs:List (Array Value)) (F:Nat→Prop),I≤J∧J≤ar.length∧ar.length+1 - J≤f∧acc.length≤J - I∧R=pItems ws ar fin f ends loops acc J∧ay wr rb (aO sb tv J fin 0 A) 181∧aq (fun b=>b=rb) w wr∧dS sb sv ws c k wr w.heap.size v acc xs F)∨
 (∃(E P:Int) (J:Nat) (ad:Option Addr) (m cap:Nat),E≠0∧v=.slice ad m cap∧R=.inr (E,P)∧ay wr rb (aO sb tv J fin E P) 181∧aq (fun b=>b=rb) w wr)
def itM(n rb:Nat)(wr:World):Nat:=
 match wr.cell? (ai rb 4),wr.cell? (ai rb 2)with
 |some (.int _ E),some (.int _ J)=>if E=0 then n+2 - J.toNat else 0
 |_,_=>0
theorem wB(h:ay wr rb (aO sb tv J fin 0 A) 181):itM n rb wr=n+2 - J:=by
 unfold itM;rw[h.aO.2.2.1,h.aO.2.2.2.2.1];simp
theorem wj{E:Int}(h:ay wr rb (aO sb tv J fin E A) 181)(hE:E≠0):itM n rb wr=0:=by
 unfold itM;rw[h.aO.2.2.1,h.aO.2.2.2.2.1];simp[hE]
theorem abV(w:World)(t:TypeId):∀j (h:j<gw.length),(w.alloc (.cells #[.string ⟨#[]⟩,.string jm,.string eC,.string jV,.string iw,.string Bv,.string Bj] t)).cell? (ai w.heap.size j)=some (.string gw[j]):=by
 intro j h;have h7:j<7:=h
 match j,h7 with
 |0,_=>simp[gw]
 |1,_=>simp[gw]
 |2,_=>simp[gw]
 |3,_=>simp[gw]
 |4,_=>simp[gw]
 |5,_=>simp[gw]
 |6,_=>simp[gw]
theorem aq.zN{S:Nat→Prop}{w w1 w2:World}(h:aq S w w1)(h2:aq (fun k=>S k∨w.heap.size≤k) w1 w2):aq S w w2:=
 ⟨h2.os.trans h.os,h2.tape.trans h.tape,h2.output.trans h.output,bB h.size h2.size,fun k hk hn=>(h2.block k (bF hk h.size) (fun e=>e.elim hn ag)).trans (h.block k hk hn)⟩
theorem Xn(n:Nat)(ih:yy n)(rb sb:Nat)(tv sv:Value)(ar:List Tk)(ws:List RW)(c k:Int)(I f:Nat)(fin A loops:Int)(base:Nat)(v:Value)(acc:List AI)(xs:List (Array Value))(F:Nat→Prop)(w:World)
  (hR:Rd w rb sb tv sv ar ws c k) (hb:ay w rb (aO sb tv I fin 0 A) 181) (hn:ar.length+1 - (I+1)≤n) (hf:ar.length+1 - (I+1)≤f) (hI:I<ar.length) (hl:0≤loops) (hl2:loops+1+(ar.length+1 - (I+1):Nat)≤10000000)
  (cM:dS sb sv ws c k w base v acc xs F) (hrb:rb<base) (fU:base≤w.heap.size) (hal:acc.length≤1100000):
  Calls prog 169 #[ax rb,v,ae loops] w (yR rb sb tv sv ws c k fin A base v acc w (pLp ws ar fin f loops acc I)):=by
 cases h2:lastTwo acc with
 |none=>exact Zi rb sb tv sv ar ws c k I f fin A loops base v acc xs F w hR hb hI cM hal h2
 |some q=>
  obtain⟨a,b⟩:=q
  by_cases hab:1000<a - b
  ·exact Wu rb sb tv sv ar ws c k I f fin A loops base v acc xs F w hR hb hI cM hal a b h2 hab
  ·exact ref_loop_go n ih rb sb tv sv ar ws c k I f fin A loops base v acc xs F w hR hb hn hf hI hl hl2 cM hrb fU hal a b h2 hab
theorem ZB(hw:∀x∈ws,x.inf.Wt 1∧∃a n c,x.items=.slice a n c)(h:pBr ws ar fin f loops I=.inl (x,I')):I<I'∧I'≤ar.length:=by
 unfold pBr at h
 cases hA:pItems ws ar fin f [jm,eC] loops [] I with
 |inr r=>rw[hA]at h;cases h
 |inl q=>
  obtain⟨la,ta,I1⟩:=q;rw[hA]at h;obtain⟨a1,a2,_,_⟩:=wk ws ar fin hw _ _ _ _ _ _ _ _ hA BF (fQ.nil 0);simp only at h
  split at h
  ·cases hB:pItems ws ar fin f [eC] loops [] I1 with
   |inr r=>rw[hB]at h;cases h
   |inl q2=>
    obtain⟨lb,tb,I2⟩:=q2;rw[hB]at h;obtain⟨b1,b2,_,_⟩:=wk ws ar fin hw _ _ _ _ _ _ _ _ hB Cq (fQ.nil 0);simp only at h
    split at h
    ·cases h;exact⟨ag,b2⟩
    ·cases h
  ·split at h
   ·cases h;exact⟨a1,a2⟩
   ·cases h
theorem YG(hw:∀x∈ws,x.inf.Wt 1∧∃a n c,x.items=.slice a n c){acc:List AI}(h:pLp ws ar fin f loops acc I=.inl (x,I')):I<I'∧I'≤ar.length:=by
 unfold pLp at h
 cases h2:lastTwo acc with
 |none=>rw[h2]at h;cases h
 |some q=>
  obtain⟨a,b⟩:=q;rw[h2]at h;simp only at h
  split at h
  ·cases h
  ·cases hA:pItems ws ar fin f [jV] (loops+1) [] (I+1)with
   |inr r=>rw[hA]at h;cases h
   |inl q=>
    obtain⟨la,ta,I1⟩:=q;rw[hA]at h;obtain⟨a1,a2,_,_⟩:=wk ws ar fin hw _ _ _ _ _ _ _ _ hA CR (fQ.nil 0);simp only at h
    split at h
    ·cases h;exact⟨ag,a2⟩
    ·cases h
def OV(ws:List RW)(ar:List Tk)(fin:Int)(f:Nat)(ends:List ByteArray)(loops:Int)(acc:List AI)(pp:(AI×Nat) ⊕ (Int×Int)):PR:=
 match pp with
 |.inr r=>.inr r
 |.inl (x,I')=>pItems ws ar fin f ends loops (acc++[x]) I'
theorem WI(n:Nat)(ih:yy n):yy (n+1):=by
 intro rb sb tv sv ar ws c k I f fin A loops ends eb BM w hR hb hn hf hI hl hl2 vX FK Vl hcells;obtain⟨R,hr⟩:=ak (pItems ws ar fin f ends loops [] I);rw[←hr];obtain⟨i0,hi,hz0,hz1,hz2⟩:=info_parts Tryz.E8;have hlt:=hb.lt;have rM:=hR.few;have NT:∀j,j<ends.length→eb<w.heap.size:=fun j hj=>dD w _ (hcells j hj)
 have ME:Hid (Nw rb sb tv sv ar ws c k I fin A loops ends w R aI w):=aC ⟨I,f,[],[],fun _=>False,aH,hI,hf,aF,hr,hb,aq.refl _ w,dS.nil _ _ _ _ _ _ _⟩;have HR:=af hR;have IH:=af ih;have Wi:=af hcells;have abX:=af NT;have HN:=af hn;have HL2:=af hl2;have HEC:=af FK;have hl3:loops≤10000000:=ag;clear hr hR hb ih hcells NT hn hf hI hl2 FK;go_enter func129,ntmps129;go_wp2_with fail;go_loopw[8] (fun v8 wr=>Hid (Nw rb sb tv sv ar ws c k I fin A loops ends w R v8 wr)) (fun _ wr=>itM ar.length rb wr)
 case atStart=>exact ME
 case round=>
  clear ME;rcases hrel.out with ⟨J,f',acc,xs,F,hIJ,hJ,hf',Hx,hr,hB,hC,cM⟩|⟨E,P,J,ad,m,cap,hE,rfl,hr,hB,hC⟩
  ·clear hrel
   obtain⟨my,rfl⟩:∃my,f'=my+1:=⟨f' - 1,ag⟩;obtain⟨ad,cap,rfl,hcap,aeB⟩:=bo cM.row;have hM:=wB (n:=ar.length) hB;obtain⟨t,ht⟩:=ak (aS ar J);have hsz:t.size≤1000000000:=by rw[ht];exact HR.tsz J
   have hRw:=HR.aB hC;have dQ:=af (Ca rb sb tv ar J fin 0 A wr ag ag hB hRw.tok);rw[←ht]at dQ;obtain⟨r0,r1,r2,r3,r4,r5⟩:=hB.aO;have fR:=hC.size;have HT:=af ht;have HB:=af hB;have HC:=af hC;have gU:=af cM;have HRR:=af hr;have HM:=af hM;have jF:=af hsz;have HF:=af hf';have py:=af Hx;have HJ:=af hJ;have rZ:=af hIJ;have j1:(J:Int)≤1100000:=ag;have j0:(0:Int)≤(J:Int):=ag;clear ht hB hC cM hr hM hsz hf' Hx hJ hIJ hRw;go_wp2_with fail;refine dQ.mono ?_;rintro e w1 ⟨rfl,uG⟩;have nW:aq (fun b=>b=rb) w w1:=HC.trans (aq.bf uG);have hB1:ay w1 rb (aO sb tv J fin 0 A) 181:=(uG.block _ HB.lt).trans HB;have KG:=gU.mH (aq.bf (S:=fun _=>False) uG) (fun _ _=>id);have hs1:=uG.size;clear r0 r1 r2 r3 r4 r5 dQ;obtain⟨r0,r1,r2,r3,r4,r5⟩:=hB1.aO;have kB:=hB1.frozen 2;have xo:=af (Gf t ends eb BM w1 ag (fun j hj=>(nW.cell (p:=ai eb j) (abX j hj) Vl).trans (Wi j hj)));obtain⟨bi,eJ⟩:=ak (ck t ends);rw[←eJ]at xo;have HBI:=af eJ;have HB1:=af hB1;have iI:=af nW;have QO:=af KG;clear eJ hB1 nW KG uG HB HC gU;go_wp2_with fail;refine xo.mono ?_;rintro e w2 ⟨rfl,rfl⟩;clear xo
   cases bi with
   |true=>
    have hfin:Hid (R=.inl (acc,t,J+1)):=by
     show R=_
     rw[HRR.out,HT.out];exact Vu (by rw[←HT.out];exact HBI.symm)
    go_wp2_with fail
    rw[hfin.out];refine bodyPost_ret (v:=.tuple #[.slice ad acc.length cap,.string t]) (by simp[results,results129,go_sem]) rfl ?_;have hcc:aq (fun b=>b=rb) w2 (w2.setCell (ai rb 2) (ae ((J:Int)+1))):=(aq.refl (fun b=>b=rb) w2).setCell (p:=ai rb 2) rfl _;refine⟨_,xs,F,rfl,?_,iI.trans hcc,QO.move hcc (fun k hk e=>ag)⟩;have:=HB1.set (o:=2) (ae ((J:Int)+1));simpa [aO]using this
   |false=>
    have FM:=af (RI t w2 jF);obtain⟨nn,bn,hnn⟩:∃a b,dC t=(a,b):=⟨_,_,rfl⟩;rw[hnn]at FM;obtain⟨V,hV⟩:=ak (w2.alloc (.cells #[.string ⟨#[]⟩,.string jm,.string eC,.string jV,.string iw,.string Bv,.string Bj] 9):World);have HST:=af (Gf t gw w2.heap.size 7 V aj (by rw[hV];exact abV w2 9));have hCV:aq (fun b=>b=rb) w V:=by rw[hV];exact iI.alloc _
    have oC:ay V rb (aO sb tv J fin 0 A) 181:=by rw[hV];exact HB1.alloc _
    have K8:dS sb sv ws c k V w.heap.size (.slice ad acc.length cap) acc xs F:=by rw[hV];exact QO.mH ((aq.refl (fun _=>False) w2).alloc _) (fun _ _=>id)
    obtain⟨bs,fU⟩:=ak (ck t gw);rw[←fU]at HST;have mQ:=af hnn;have kI:=af fU;have gB:=af hCV;have cS:=af oC;have Aq:=af K8;have HV:=af hV;clear hnn fU hCV oC K8 hV;go_wp2_with fail;refine FM.mono ?_;rintro e w3 ⟨rfl,rfl⟩;clear FM;go_wp2_with fail;have hV':=HV.out;rw[show Obj.cells #[Value.string ⟨#[]⟩,.string jm,.string eC,.string jV,.string iw,.string Bv,.string Bj] 9=Obj.cells #[Value.string ⟨#[]⟩,.string ⟨#[101,108,115,101]⟩,.string ⟨#[116,104,101,110]⟩,.string ⟨#[108,111,111,112]⟩,.string ⟨#[59]⟩,.string ⟨#[58]⟩,.string ⟨#[118,97,114,105,97,98,108,101]⟩] 9 from rfl]at hV';rw[←hV'];clear hV';refine HST.mono ?_;rintro e w4 ⟨rfl,rfl⟩;clear HST r0 r1 r2 r3 r4 r5 kB;obtain⟨r0,r1,r2,r3,r4,r5⟩:=cS.aO;have kB:=cS.frozen 2;have he0:Hid (ck (aS ar J) ends=false):=by show _=_;rw[←HT.out];exact HBI.symm
    cases bs with
    |true=>
     have hfin:Hid (R=.inr (5,cE ar fin J)):=by
      show R=_
      rw[HRR.out];exact adg he0 (by rw[←HT.out];exact kI.symm)
     have nU:=HR.aB gB;have HX:=af (su rb sb tv ar J J fin A 5 w4 ag ag cS nU.tok nU.tr);clear nU;go_wp2_with fail;refine HX.mono ?_;rintro e w5 ⟨rfl,hb5,hc5⟩;have H1:=af hb5;have H2:=af (gB.trans hc5);clear HX hb5 hc5;go_wp2_with fail;go_roundw
     case rel=>exact aA ⟨5,_,J,ad,acc.length,cap,aj,rfl,hfin,H1,H2⟩
     case measure=>rw[wj H1.out aj,HM.out];have:=HJ.out;omega
    |false=>
     have hs0:Hid (ck (aS ar J) gw=false):=by show _=_;rw[←HT.out];exact kI.symm
     have hJl:J<ar.length:=ado HJ hs0;have hHN:ar.length+1 - (J+1)≤n:=by have:=HN.out;have:=rZ.out;omega
     have hHF:ar.length+1 - (J+1)≤my:=by have:=HF.out;omega
     have HHN:=af hHN;have HHF:=af hHF;clear hHN hHF
     cases bn with
     |true=>
      have hfin:Hid (R=pItems ws ar fin my ends loops (acc++[⟨some nn,Inf.plain 0 1,.num nn⟩]) (J+1)):=by
       show R=_
       have e:=mQ.out;rw[HRR.out,aaG he0.out hs0.out (by rw[←HT.out,e]),←HT.out,e]
      have Mz: -2147483648≤nn∧nn≤2147483647:=by
       have:=Me t (by rw[mQ.out]);rw[mQ.out]at this;exact this
      have dW:=af gB;have bu:=af cS;have qz:=af Aq;have lX:=af (qz.mH ((aq.refl (fun _=>False) w4).alloc (.cells (sQ nn) 249 (0,0))) (fun _ _=>id));have mq:=af (qd w4 (sQ nn) 249);have pY:=af (vz (x:=(sQ nn)) ⟨1,nn,⟨#[]⟩,none,0,0,none,0,0,rfl⟩);have pL:=af (show acc.length+1≤maxLen by have:=py.out;have:=HJ.out;unfold maxLen;omega);have o7:=af (show(acc.length+1)*80≤140737488355328 by have:=py.out;have:=HJ.out;omega);have pC:=af (show w.heap.size≤(w4.alloc (.cells (sQ nn) 249 (0,0))).heap.size by have:=dW.size;simp;omega);have ou:=af (show(w4.alloc (.cells (sQ nn) 249 (0,0))).heap.size=w4.heap.size+1 by simp);go_wp2_with (at_builtin;refine wpList_append_lies _ rfl _ _ 184 rfl w.heap.size 249 i0 (.agg dR) 5 80 underlying184 hi hz0 hz1 hz2 rfl aj _ acc.length (xs.flatMap Array.toList) rfl lX.row (ai w4.heap.size 0) 1 1 ((sQ nn)).toList rfl rfl mq pY aj pL o7 pC (w4.heap.size+1) ou ?_);intro g2 lH w6 hown hgrow hat zA;have xK:(w4.alloc (.cells (sQ nn) 249 (0,0))).grownBy w6 (Value.slice ad acc.length cap).ownBlock:=hgrow;have uR:=af hown;have lT:=af hgrow;have Bg:=af hat;have kX:∀k,(Value.slice ad acc.length cap).ownBlock=some k→w.heap.size≤k:=fun k hk=>cR qz.row hk
      have rB:aq (fun b=>b=rb) w w6:=(dW.alloc _).zN ((aq.dP hgrow).mono (fun k _ e=>aA (kX k e.symm)));have jZ:=(bu.alloc (.cells (sQ nn) 249 (0,0))).aB (aq.dP hgrow) (fun e=>Cw)
      have sf:(aD g2 (acc.length+1) lH).ownBlock=(Value.slice ad acc.length cap).ownBlock∨(aD g2 (acc.length+1) lH).ownBlock=some (w4.alloc (.cells (sQ nn) 249 (0,0))).heap.size:=by
       exact Cp
      have HC6:=af rB;have gD:=af jZ;have yg:=af sf;clear hown hgrow hat xK kX rB jZ sf;clear r0 r1 r2 r3 r4 r5 kB;obtain⟨r0,r1,r2,r3,r4,r5⟩:=gD.aO;have kB:=gD.frozen 2;go_wp2_with fail
      have iU:ay (w6.setCell (ai rb 2) (ae ((J:Int)+1))) rb (aO sb tv ((J+1:Nat):Int) fin 0 A) 181:=by
       have:=gD.set (o:=2) (ae ((J:Int)+1));simpa [aO]using this
      have gP:aq (fun b=>b=rb) w6 (w6.setCell (ai rb 2) (ae ((J:Int)+1))):=(aq.refl (fun b=>b=rb) w6).setCell (p:=ai rb 2) rfl _;have mO:=af iU;have HC7:=af gP;clear iU gP;go_roundw
      case rel=>
       refine aC ⟨J+1,my,acc++[⟨some nn,Inf.plain 0 1,.num nn⟩],xs++[sQ nn],fun k=>F k∨False,by have:=rZ.out;omega,ag,HHF,by have:=py.out;have:=rZ.out;simp;omega,hfin.out,mO,HC6.trans HC7,?_⟩;refine dS.move (lX.snoc (G:=fun _=>False) ⟨1,nn,⟨#[]⟩,none,0,0,none,0,0,rfl⟩ ⟨rfl,Mz⟩ (fun _ h=>h.elim) (YK sb sv ws c k _ nn Mz) uR lT yg) HC7 (fun k hk e=>ag)
      case measure=>rw[wB mO.out,HM.out];omega
     |false=>
      have eF:Hid ((dC (aS ar J)).2=false):=by show _=_;rw[←HT.out,mQ.out]
      obtain⟨b1,hb1⟩:=ak ((t.toList == [105,102]))
      cases b1 with
      |true=>
       have hif:Hid (((aS ar J).toList == [105,102])=true):=by show _=_;rw[←HT.out];exact hb1.symm
       have lK:=hb1.symm;obtain⟨X,hX⟩:=ak (w4.setCell (ai rb 2) (ae ((J:Int)+1)):World)
       have hbX:ay X rb (aO sb tv ((J+1:Nat):Int) fin 0 A) 181:=by
        rw[hX];have:=cS.set (o:=2) (ae ((J:Int)+1));simpa [aO]using this
       have fo:aq (fun b=>b=rb) w4 X:=by rw[hX];exact(aq.refl (fun b=>b=rb) w4).setCell (p:=ai rb 2) rfl _
       have gS:aq (fun b=>b=rb) w X:=gB.trans fo;have wH:=Aq.move fo (fun k hk e=>ag);have fE:=af (Uv n IH rb sb tv sv ar ws c k (J+1) my fin A loops X (HR.aB gS) hbX HHN HHF hJl hl (by have:=HL2.out;have:=rZ.out;omega));obtain⟨pp,p8⟩:=ak (pBr ws ar fin my loops (J+1));rw[←p8]at fE
       have hfin:Hid (R=OV ws ar fin my ends loops acc pp):=by
        show R=_
        rw[HRR.out,p_if he0.out hs0.out eF.out hif.out,p8];rfl
       have jY:=af p8;have eN:=af gS;have wQ:=af wH;have bT:=af hbX;clear p8 gS wH hbX fo hb1;go_upto_region 21 with fail
       rw[←hX];clear hX r0 r1 r2 r3 r4 r5 kB;go_wp2_with fail;refine fE.mono ?_;clear fE;intro e w5 hP;rcases pp with ⟨x,I'⟩|⟨E,P⟩
       ·obtain⟨x0,G,rfl,G5,Lg,cZ,dG,hG,bj⟩:=hP
        have hI':J+1<I'∧I'≤ar.length:=ZB HR.wok jY.symm;obtain⟨kk,kn,ks,a1,n1,c1,a2,n2,c2,rfl⟩:=G5;have dW:Hid (aq (fun b=>b=rb) w (w5.alloc (.cells #[ae kk,ae kn,.string ks,.slice a1 n1 c1,.slice a2 n2 c2] 249 (0,0)))):=(eN.trans dG).alloc _;have bu:Hid (ay (w5.alloc (.cells #[ae kk,ae kn,.string ks,.slice a1 n1 c1,.slice a2 n2 c2] 249 (0,0))) rb (aO sb tv I' fin 0 A) 181):=cZ.alloc _;have qz:=af ((wQ.move dG (fun k hk e=>ag)).mH ((aq.refl (fun _=>False) w5).alloc (.cells #[ae kk,ae kn,.string ks,.slice a1 n1 c1,.slice a2 n2 c2] 249 (0,0))) (fun _ _=>id));obtain⟨Y,hY⟩:=ak (w5.alloc (.cells #[ae kk,ae kn,.string ks,.slice a1 n1 c1,.slice a2 n2 c2] 249 (0,0)):World);have dV:ay Y w5.heap.size #[ae kk,ae kn,.string ks,.slice a1 n1 c1,.slice a2 n2 c2] 249:=EH
        have eP:Hid (uA sb sv ws c k G Y #[ae kk,ae kn,.string ks,.slice a1 n1 c1,.slice a2 n2 c2] x.inf x.tree):=by
         rw[hY];exact bj.mono (fun _=>id) (fun k hk=>Below.heap_alloc w5 _ k (hG k hk).2)
        have HGG:Hid (∀k,G k→w.heap.size≤k∧k<Y.heap.size∧(Value.slice ad acc.length cap).ownBlock≠some k):=fun k hk=>by
         have h1:=hG k hk;have h2:=eN.size;refine⟨ag,by rw[hY];simp;omega,fun e=>?_⟩;have:=cJ wQ.row e;omega
        rw[←hY]at dW bu qz;have HKI:=af Lg;have rI:=af hI';have cx:=af dV;clear Lg hI' cZ dG hG bj dV;go_upto_region 22 with fail
        rw[←hY];clear hY;have z0:=cx.cell 0 _ rfl;have z1:=cx.cell 1 _ rfl;have z2:=cx.cell 2 _ rfl;have z3:=cx.cell 3 _ rfl;have z4:=cx.cell 4 _ rfl;simp only[List.getElem_toArray,List.getElem_cons_succ,List.getElem_cons_zero]at z0 z1 z2 z3 z4;have lX:=af (qz.mH ((aq.refl (fun _=>False) Y).alloc (.cells #[ae kk,ae kn,.string ks,.slice a1 n1 c1,.slice a2 n2 c2] 249 (0,0))) (fun _ _=>id));have mq:=af (qd Y #[ae kk,ae kn,.string ks,.slice a1 n1 c1,.slice a2 n2 c2] 249);have pY:=af (vz (x:= #[ae kk,ae kn,.string ks,.slice a1 n1 c1,.slice a2 n2 c2]) ⟨kk,kn,ks,a1,n1,c1,a2,n2,c2,rfl⟩);have pL:=af (show acc.length+1≤maxLen by have:=py.out;have:=HJ.out;unfold maxLen;omega);have o7:=af (show(acc.length+1)*80≤140737488355328 by have:=py.out;have:=HJ.out;omega);have pC:=af (show w.heap.size≤(Y.alloc (.cells #[ae kk,ae kn,.string ks,.slice a1 n1 c1,.slice a2 n2 c2] 249 (0,0))).heap.size by have:=dW.size;simp;omega);have ou:=af (show(Y.alloc (.cells #[ae kk,ae kn,.string ks,.slice a1 n1 c1,.slice a2 n2 c2] 249 (0,0))).heap.size=Y.heap.size+1 by simp);go_wp2_with (at_builtin;refine wpList_append_lies _ rfl _ _ 184 rfl w.heap.size 249 i0 (.agg dR) 5 80 underlying184 hi hz0 hz1 hz2 rfl aj _ acc.length (xs.flatMap Array.toList) rfl lX.row (ai Y.heap.size 0) 1 1 (#[ae kk,ae kn,.string ks,.slice a1 n1 c1,.slice a2 n2 c2]).toList rfl rfl mq pY aj pL o7 pC (Y.heap.size+1) ou ?_);intro g2 lH w6 hown hgrow hat zA;have xK:(Y.alloc (.cells #[ae kk,ae kn,.string ks,.slice a1 n1 c1,.slice a2 n2 c2] 249 (0,0))).grownBy w6 (Value.slice ad acc.length cap).ownBlock:=hgrow;have uR:=af hown;have lT:=af hgrow;have Bg:=af hat;have kX:∀k,(Value.slice ad acc.length cap).ownBlock=some k→w.heap.size≤k:=fun k hk=>cR qz.row hk
        have rB:aq (fun b=>b=rb) w w6:=(dW.alloc _).zN ((aq.dP hgrow).mono (fun k _ e=>aA (kX k e.symm)));have jZ:=(bu.alloc (.cells #[ae kk,ae kn,.string ks,.slice a1 n1 c1,.slice a2 n2 c2] 249 (0,0))).aB (aq.dP hgrow) (fun e=>Cw)
        have sf:(aD g2 (acc.length+1) lH).ownBlock=(Value.slice ad acc.length cap).ownBlock∨(aD g2 (acc.length+1) lH).ownBlock=some (Y.alloc (.cells #[ae kk,ae kn,.string ks,.slice a1 n1 c1,.slice a2 n2 c2] 249 (0,0))).heap.size:=by
         exact Cp
        have HC6:=af rB;have gD:=af jZ;have yg:=af sf;clear hown hgrow hat xK kX rB jZ sf;clear z0 z1 z2 z3 z4;go_wp2_with fail;go_roundw
        case rel=>
         refine aC ⟨I',my,acc++[x],xs++[#[ae kk,ae kn,.string ks,.slice a1 n1 c1,.slice a2 n2 c2]],fun k=>F k∨G k,by have:=rZ.out;have:=rI.out;omega,rI.out.2,by have:=HHF.out;have:=rI.out;omega,aeQ,hfin,gD,HC6,?_⟩;exact lX.snoc (G:=G) ⟨kk,kn,ks,a1,n1,c1,a2,n2,c2,rfl⟩ HKI (fun k hk=>by have:=HGG.out k hk;exact⟨this.1,aK,this.2.2⟩) (eP.mono (fun _=>id) (fun k hk=>Below.heap_alloc Y _ k (HGG k hk).2.1)) uR lT yg
        case measure=>rw[wB gD.out,HM.out];have:=rI.out;omega
       ·obtain⟨x0,I',rfl,G5,hE,cZ,dG⟩:=hP
        obtain⟨kk,kn,ks,a1,n1,c1,a2,n2,c2,rfl⟩:=G5;obtain⟨Y,hY⟩:=ak (w5.alloc (.cells #[ae kk,ae kn,.string ks,.slice a1 n1 c1,.slice a2 n2 c2] 249 (0,0)):World);have dW:Hid (aq (fun b=>b=rb) w Y):=by rw[hY];exact(eN.trans dG).alloc _
        have bu:Hid (ay Y rb (aO sb tv I' fin E P) 181):=by rw[hY];exact cZ.alloc _
        have qz:Hid (dS sb sv ws c k Y w.heap.size (.slice ad acc.length cap) acc xs F):=by rw[hY];exact((wQ.move dG (fun k hk e=>ag)).mH ((aq.refl (fun _=>False) w5).alloc _) (fun _ _=>id))
        have dV:ay Y w5.heap.size #[ae kk,ae kn,.string ks,.slice a1 n1 c1,.slice a2 n2 c2] 249:=EH;have HE:=af hE;have cx:=af dV;clear cZ dG dV hE;go_upto_region 22 with fail
        rw[←hY];clear hY;have z0:=cx.cell 0 _ rfl;have z1:=cx.cell 1 _ rfl;have z2:=cx.cell 2 _ rfl;have z3:=cx.cell 3 _ rfl;have z4:=cx.cell 4 _ rfl;simp only[List.getElem_toArray,List.getElem_cons_succ,List.getElem_cons_zero]at z0 z1 z2 z3 z4;have lX:=af (qz.mH ((aq.refl (fun _=>False) Y).alloc (.cells #[ae kk,ae kn,.string ks,.slice a1 n1 c1,.slice a2 n2 c2] 249 (0,0))) (fun _ _=>id));have mq:=af (qd Y #[ae kk,ae kn,.string ks,.slice a1 n1 c1,.slice a2 n2 c2] 249);have pY:=af (vz (x:= #[ae kk,ae kn,.string ks,.slice a1 n1 c1,.slice a2 n2 c2]) ⟨kk,kn,ks,a1,n1,c1,a2,n2,c2,rfl⟩);have pL:=af (show acc.length+1≤maxLen by have:=py.out;have:=HJ.out;unfold maxLen;omega);have o7:=af (show(acc.length+1)*80≤140737488355328 by have:=py.out;have:=HJ.out;omega);have pC:=af (show w.heap.size≤(Y.alloc (.cells #[ae kk,ae kn,.string ks,.slice a1 n1 c1,.slice a2 n2 c2] 249 (0,0))).heap.size by have:=dW.size;simp;omega);have ou:=af (show(Y.alloc (.cells #[ae kk,ae kn,.string ks,.slice a1 n1 c1,.slice a2 n2 c2] 249 (0,0))).heap.size=Y.heap.size+1 by simp);go_wp2_with (at_builtin;refine wpList_append_lies _ rfl _ _ 184 rfl w.heap.size 249 i0 (.agg dR) 5 80 underlying184 hi hz0 hz1 hz2 rfl aj _ acc.length (xs.flatMap Array.toList) rfl lX.row (ai Y.heap.size 0) 1 1 (#[ae kk,ae kn,.string ks,.slice a1 n1 c1,.slice a2 n2 c2]).toList rfl rfl mq pY aj pL o7 pC (Y.heap.size+1) ou ?_);intro g2 lH w6 hown hgrow hat zA;have xK:(Y.alloc (.cells #[ae kk,ae kn,.string ks,.slice a1 n1 c1,.slice a2 n2 c2] 249 (0,0))).grownBy w6 (Value.slice ad acc.length cap).ownBlock:=hgrow;have uR:=af hown;have lT:=af hgrow;have Bg:=af hat;have kX:∀k,(Value.slice ad acc.length cap).ownBlock=some k→w.heap.size≤k:=fun k hk=>cR qz.row hk
        have rB:aq (fun b=>b=rb) w w6:=(dW.alloc _).zN ((aq.dP hgrow).mono (fun k _ e=>aA (kX k e.symm)));have jZ:=(bu.alloc (.cells #[ae kk,ae kn,.string ks,.slice a1 n1 c1,.slice a2 n2 c2] 249 (0,0))).aB (aq.dP hgrow) (fun e=>Cw)
        have sf:(aD g2 (acc.length+1) lH).ownBlock=(Value.slice ad acc.length cap).ownBlock∨(aD g2 (acc.length+1) lH).ownBlock=some (Y.alloc (.cells #[ae kk,ae kn,.string ks,.slice a1 n1 c1,.slice a2 n2 c2] 249 (0,0))).heap.size:=by
         exact Cp
        have HC6:=af rB;have gD:=af jZ;have yg:=af sf;clear hown hgrow hat xK kX rB jZ sf;clear z0 z1 z2 z3 z4;go_wp2_with fail;go_roundw
        case rel=>exact aA ⟨E,P,I',_,_,_,HE,rfl,hfin,gD,HC6⟩
        case measure=>rw[wj gD.out HE.out,HM.out];omega
      |false=>
       have hif:Hid (((aS ar J).toList == [105,102])=false):=by show _=_;rw[←HT.out];exact hb1.symm
       have lK:=hb1.symm;clear hb1;obtain⟨b2,hb2⟩:=ak ((t.toList == [100,111]))
       cases b2 with
       |true=>
        have hdo:Hid (((aS ar J).toList == [100,111])=true):=by show _=_;rw[←HT.out];exact hb2.symm
        have mN:=hb2.symm;clear hb2;have HLP:=af (Xn n IH rb sb tv sv ar ws c k J my fin A loops w.heap.size (.slice ad acc.length cap) acc xs F w4 (HR.aB gB) cS HHN HHF hJl hl (by have:=HL2.out;have:=rZ.out;omega) Aq hlt gB.size (by have:=py.out;omega));obtain⟨pp,p8⟩:=ak (pLp ws ar fin my loops acc J);rw[←p8]at HLP
        have hfin:Hid (R=OV ws ar fin my ends loops acc pp):=by
         show R=_
         rw[HRR.out,Z8 he0.out hs0.out eF.out hif.out hdo.out,p8];rfl
        have jY:=af p8;have kX:∀k,(Value.slice ad acc.length cap).ownBlock=some k→w.heap.size≤k:=fun k hk=>cR Aq.row hk
        have HNR:=af kX;clear p8 kX;go_wp2_with fail;refine HLP.mono ?_;clear HLP;intro e w5 hP;rcases pp with ⟨x,I'⟩|⟨E,P⟩
        ·obtain⟨v',xs',F',rfl,cZ,dG,NI⟩:=hP
         have hI':J<I'∧I'≤ar.length:=YG HR.wok jY.symm;have jK:Hid (aq (fun b=>b=rb) w w5):=gB.zN (dG.mono (fun k _ e=>e.imp id (HNR k)));have dI:=af cZ;have adk:=af NI;have rI:=af hI';clear cZ dG NI hI';go_wp2_with fail;go_roundw
         case rel=>exact aC ⟨I',my,acc++[x],xs',F',by have:=rZ.out;have:=rI.out;omega,rI.out.2,by have:=HHF.out;have:=rI.out;omega,aeQ,hfin,dI,jK,adk⟩
         case measure=>rw[wB dI.out,HM.out];have:=rI.out;omega
        ·obtain⟨ad',n',cap',I',rfl,hE,cZ,dG⟩:=hP
         have jK:Hid (aq (fun b=>b=rb) w w5):=gB.zN (dG.mono (fun k _ e=>e.imp id (HNR k)));have dI:=af cZ;have HE:=af hE;clear cZ dG hE;go_wp2_with fail;go_roundw
         case rel=>exact aA ⟨E,P,I',_,_,_,HE,rfl,hfin,dI,jK⟩
         case measure=>rw[wj dI.out HE.out,HM.out];omega
       |false=>
        have hdo:Hid (((aS ar J).toList == [100,111])=false):=by show _=_;rw[←HT.out];exact hb2.symm
        have mN:=hb2.symm;clear hb2
        have hfin:Hid (R=if lp ws t loops=0 then pItems ws ar fin my ends loops (acc++[⟨none,wordI ws t,tF ws t⟩]) (J+1)else .inr (lp ws t loops,cE ar fin J)):=by
         show R=_
         rw[HRR.out,UA he0.out hs0.out eF.out hif.out hdo.out,HT.out]
        by_cases hw0:lp ws t loops=0
        ·have nU:=HR.aB gB
         have HWO:=af (abp rb sb tv ar J fin A loops sv ws c k t w4 HR.uD cS nU.sys hw0);have FV:Hid (R=pItems ws ar fin my ends loops (acc++[⟨none,wordI ws t,tF ws t⟩]) (J+1)):=by show R=_;rw[hfin.out,aG hw0]
         obtain⟨kk,kn,ks,hwv,bA⟩:=XQ ws t;have HWI:=af (fun W:World=>XV (sb:=sb) (sv:=sv) (c:=c) (k:=k) (w:=W) HR.uD HR.wok t);rw[hwv]at HWO HWI;have ft:=af bA;clear hfin hw0 nU hwv bA;go_wp2_with fail;refine HWO.mono ?_;rintro e w5 ⟨rfl,Dq⟩;obtain⟨Y,hY⟩:=ak (w5.alloc (.cells #[ae kk,ae kn,.string ks,aI,aI] 249 (0,0)):World);have dW:Hid (aq (fun b=>b=rb) w Y):=by rw[hY];exact(gB.trans (aq.bf Dq)).alloc _
         have bu:Hid (ay Y rb (aO sb tv J fin 0 A) 181):=by rw[hY];exact ay.alloc ((Dq.block _ cS.lt).trans cS) _
         have qz:Hid (dS sb sv ws c k Y w.heap.size (.slice ad acc.length cap) acc xs F):=by rw[hY];exact((Aq.mH (aq.bf (S:=fun _=>False) Dq) (fun _ _=>id)).mH ((aq.refl (fun _=>False) w5).alloc _) (fun _ _=>id))
         have dV:ay Y w5.heap.size #[ae kk,ae kn,.string ks,aI,aI] 249:=EH;have cx:=af dV;clear Dq dV HWO r0 r1 r2 r3 r4 r5 kB;go_upto_region 11 with fail
         rw[←hY];clear hY;have z0:=cx.cell 0 _ rfl;have z1:=cx.cell 1 _ rfl;have z2:=cx.cell 2 _ rfl;have z3:=cx.cell 3 _ rfl;have z4:=cx.cell 4 _ rfl;simp only[List.getElem_toArray,List.getElem_cons_succ,List.getElem_cons_zero]at z0 z1 z2 z3 z4;have lX:=af (qz.mH ((aq.refl (fun _=>False) Y).alloc (.cells #[ae kk,ae kn,.string ks,aI,aI] 249 (0,0))) (fun _ _=>id));have mq:=af (qd Y #[ae kk,ae kn,.string ks,aI,aI] 249);have pY:=af (vz (x:= #[ae kk,ae kn,.string ks,aI,aI]) ⟨kk,kn,ks,none,0,0,none,0,0,rfl⟩);have pL:=af (show acc.length+1≤maxLen by have:=py.out;have:=HJ.out;unfold maxLen;omega);have o7:=af (show(acc.length+1)*80≤140737488355328 by have:=py.out;have:=HJ.out;omega);have pC:=af (show w.heap.size≤(Y.alloc (.cells #[ae kk,ae kn,.string ks,aI,aI] 249 (0,0))).heap.size by have:=dW.size;simp;omega);have ou:=af (show(Y.alloc (.cells #[ae kk,ae kn,.string ks,aI,aI] 249 (0,0))).heap.size=Y.heap.size+1 by simp);go_wp2_with (at_builtin;refine wpList_append_lies _ rfl _ _ 184 rfl w.heap.size 249 i0 (.agg dR) 5 80 underlying184 hi hz0 hz1 hz2 rfl aj _ acc.length (xs.flatMap Array.toList) rfl lX.row (ai Y.heap.size 0) 1 1 (#[ae kk,ae kn,.string ks,aI,aI]).toList rfl rfl mq pY aj pL o7 pC (Y.heap.size+1) ou ?_);intro g2 lH w6 hown hgrow hat zA;have xK:(Y.alloc (.cells #[ae kk,ae kn,.string ks,aI,aI] 249 (0,0))).grownBy w6 (Value.slice ad acc.length cap).ownBlock:=hgrow;have uR:=af hown;have lT:=af hgrow;have Bg:=af hat;have kX:∀k,(Value.slice ad acc.length cap).ownBlock=some k→w.heap.size≤k:=fun k hk=>cR qz.row hk
         have rB:aq (fun b=>b=rb) w w6:=(dW.alloc _).zN ((aq.dP hgrow).mono (fun k _ e=>aA (kX k e.symm)));have jZ:=(bu.alloc (.cells #[ae kk,ae kn,.string ks,aI,aI] 249 (0,0))).aB (aq.dP hgrow) (fun e=>Cw)
         have sf:(aD g2 (acc.length+1) lH).ownBlock=(Value.slice ad acc.length cap).ownBlock∨(aD g2 (acc.length+1) lH).ownBlock=some (Y.alloc (.cells #[ae kk,ae kn,.string ks,aI,aI] 249 (0,0))).heap.size:=by
          exact Cp
         have HC6:=af rB;have gD:=af jZ;have yg:=af sf;clear hown hgrow hat xK kX rB jZ sf;clear z0 z1 z2 z3 z4;obtain⟨r0,r1,r2,r3,r4,r5⟩:=gD.aO;have kB:=gD.frozen 2;go_wp2_with fail
         have iU:ay (w6.setCell (ai rb 2) (ae ((J:Int)+1))) rb (aO sb tv ((J+1:Nat):Int) fin 0 A) 181:=by
          have:=gD.set (o:=2) (ae ((J:Int)+1));simpa [aO]using this
         have gP:aq (fun b=>b=rb) w6 (w6.setCell (ai rb 2) (ae ((J:Int)+1))):=(aq.refl (fun b=>b=rb) w6).setCell (p:=ai rb 2) rfl _;have mO:=af iU;have HC7:=af gP;clear iU gP;go_roundw
         case rel=>
          refine aC ⟨J+1,my,acc++[⟨none,wordI ws t,tF ws t⟩],xs++[#[ae kk,ae kn,.string ks,aI,aI]],fun k=>F k∨False,by have:=rZ.out;omega,ag,HHF,by have:=py.out;have:=rZ.out;simp;omega,FV.out,mO,HC6.trans HC7,?_⟩;exact dS.move (lX.snoc (G:=fun _=>False) ⟨kk,kn,ks,none,0,0,none,0,0,rfl⟩ ⟨kk,rfl,ft⟩ (fun _ h=>h.elim) (HWI _) uR lT yg) HC7 (fun k hk e=>ag)
         case measure=>rw[wB mO.out,HM.out];omega
        ·have nU:=HR.aB gB
         have HWE:=af (acO rb sb tv ar J fin A loops sv ws c k t w4 HR.uD ag ag cS nU.tok nU.tr nU.sys hw0);have FV:Hid (R=.inr (lp ws t loops,cE ar fin J)):=by show R=_;rw[hfin.out,az hw0]
         have HW0:=af hw0;simp only[dR]at HWE;clear hfin hw0 nU;go_wp2_with fail;refine HWE.mono ?_;rintro e w5 ⟨rfl,hb5,hc5⟩;have dI:=af hb5;have jK:=af (gB.trans hc5);have adQ:=hb5.lt;clear HWE hb5 hc5 r0 r1 r2 r3 r4 r5 kB;go_wp2_with fail;go_roundw
         case rel=>exact aA ⟨_,_,J,ad,acc.length,cap,HW0,rfl,FV,dI.alloc _,jK.alloc _⟩
         case measure=>rw[wj (dI.alloc _) HW0.out,HM.out];omega
  ·have hM:=wj (n:=ar.length) hB hE
   have hEb:(E == 0)=false:=wG;obtain⟨r0,r1,r2,r3,r4,r5⟩:=hB.aO;have HB:=af hB;have HC:=af hC;have HE:=af hE;have HRR:=af hr;clear hB hC hE hr hrel hM;go_wp2_with fail;rw[HRR.out];exact bodyPost_ret (v:=.tuple #[.slice ad m cap,.string ⟨#[]⟩]) (by simp[results,results129,go_sem]) rfl ⟨ad,m,cap,J,rfl,HE,HB,HC⟩
theorem NF:∀n,yy n
 |0=>fun rb sb tv sv ar ws c k I f fin A loops ends eb BM w hR hb hn hf hI=>ag
 |n+1=>WI n (NF n)
end
end Go.Proofs.YtcphhbofjkenaaaGreatDoor
