import Derived.Test.YtcphhbofjkenaaaGreatDoorM13
namespace Go.Proofs.YtcphhbofjkenaaaGreatDoor
open Go Go.RowKit
set_option linter.unusedVariables false
set_option linter.unusedSimpArgs false
set_option maxRecDepth 100000
set_option maxHeartbeats 16000000
section
def Zt(rb sb:Nat)(tv sv:Value)(ae:List Tk)(ws:List RW)(c k:Int)(I:Nat)(fin A loops:Int)(ends:List ByteArray)(w:World)(R:PR)(v:Value)(wr:World):Prop:=
 (∃(J f:Nat) (acc:List AI) (xs:List (Array Value)) (F:Nat→Prop),I≤J∧J≤ae.length∧ae.length+1 - J≤f∧acc.length≤J - I∧R=aJ ws ae fin f ends loops acc J∧az wr rb (bK sb tv J fin 0 A) 181∧aj (fun b=>b=rb) w wr∧aW sb sv ws c k wr w.heap.size v acc xs F)∨
 (∃(E P:Int) (J:Nat) (ad:Option Addr) (m cap:Nat),E≠0∧v=.slice ad m cap∧R=.inr (E,P)∧az wr rb (bK sb tv J fin E P) 181∧aj (fun b=>b=rb) w wr)
def itM(n rb:Nat)(wr:World):Nat:=
 match wr.cell? ⟨rb,4,none⟩,wr.cell? ⟨rb,2,none⟩with
 |some (.int _ E),some (.int _ J)=>if E=0 then n+2 - J.toNat else 0
 |_,_=>0
theorem qK{n rb sb:Nat}{tv:Value}{J:Nat}{fin A:Int}{wr:World}(h:az wr rb (bK sb tv J fin 0 A) 181):itM n rb wr=n+2 - J:=by
 unfold itM;rw[h.bK.2.2.1,h.bK.2.2.2.2.1];simp
theorem mO{n rb sb:Nat}{tv:Value}{J:Nat}{fin E A:Int}{wr:World}(h:az wr rb (bK sb tv J fin E A) 181)(hE:E≠0):itM n rb wr=0:=by
 unfold itM;rw[h.bK.2.2.1,h.bK.2.2.2.2.1];simp[hE]
theorem Hz(w:World)(t:TypeId):∀j (h:j<fQ.length),(w.alloc (.cells #[.string ⟨#[]⟩,.string iQ,.string dO,.string jg,.string ik,.string zT,.string Tj] t)).cell? ⟨w.heap.size,j,none⟩=some (.string fQ[j]):=by
 intro j h;have h7:j<7:=h
 match j,h7 with
 |0,_=>simp[fQ]
 |1,_=>simp[fQ]
 |2,_=>simp[fQ]
 |3,_=>simp[fQ]
 |4,_=>simp[fQ]
 |5,_=>simp[fQ]
 |6,_=>simp[fQ]
theorem aj.nR{S:Nat→Prop}{w w1 w2:World}(h:aj S w w1)(h2:aj (fun k=>S k∨w.heap.size≤k) w1 w2):aj S w w2:=
 ⟨h2.os.trans h.os,h2.tape.trans h.tape,h2.output.trans h.output,Nat.le_trans h.size h2.size,fun k hk hn=>(h2.block k (Nat.lt_of_lt_of_le hk h.size) (fun e=>e.elim hn (by omega))).trans (h.block k hk hn)⟩
theorem TP(n:Nat)(ih:lJ n)(rb sb:Nat)(tv sv:Value)(ae:List Tk)(ws:List RW)(c k:Int)(I f:Nat)(fin A loops:Int)(base:Nat)(v:Value)(acc:List AI)(xs:List (Array Value))(F:Nat→Prop)(w:World)
  (hR:Rd w rb sb tv sv ae ws c k) (hb:az w rb (bK sb tv I fin 0 A) 181) (hn:ae.length+1 - (I+1)≤n) (hf:ae.length+1 - (I+1)≤f) (hI:I<ae.length) (hl:0≤loops) (hl2:loops+1+(ae.length+1 - (I+1):Nat)≤10000000)
  (jI:aW sb sv ws c k w base v acc xs F) (hrb:rb<base) (wU:base≤w.heap.size) (hal:acc.length≤1100000):
  Calls Tryz.prog 169 #[.pointer (some ⟨rb,0,none⟩),v,.int .i64 loops] w (nM rb sb tv sv ws c k fin A base v acc w (Kt ws ae fin f loops acc I)):=by
 cases h2:gp acc with
 |none=>exact EM rb sb tv sv ae ws c k I f fin A loops base v acc xs F w hR hb hI jI hal h2
 |some q=>
  obtain⟨a,b⟩:=q
  by_cases hab:1000<a - b
  ·exact EN rb sb tv sv ae ws c k I f fin A loops base v acc xs F w hR hb hI jI hal a b h2 hab
  ·exact Hu n ih rb sb tv sv ae ws c k I f fin A loops base v acc xs F w hR hb hn hf hI hl hl2 jI hrb wU hal a b h2 hab
theorem aaU{ws:List RW}{ae:List Tk}{fin:Int}(hw:∀x∈ws,x.inf.Wt 1∧∃a n c,x.items=.slice a n c){f:Nat}{loops:Int}{I:Nat}{x:AI}{I':Nat}(h:OY ws ae fin f loops I=.inl (x,I')):I<I'∧I'≤ae.length:=by
 unfold OY at h
 cases hA:aJ ws ae fin f [iQ,dO] loops [] I with
 |inr r=>rw[hA]at h;cases h
 |inl q=>
  obtain⟨la,ta,I1⟩:=q;rw[hA]at h;obtain⟨a1,a2,_,_⟩:=jC ws ae fin hw _ _ _ _ _ _ _ _ hA Ha (uo.nil 0);simp only at h
  split at h
  ·cases hB:aJ ws ae fin f [dO] loops [] I1 with
   |inr r=>rw[hB]at h;cases h
   |inl q2=>
    obtain⟨lb,tb,I2⟩:=q2;rw[hB]at h;obtain⟨b1,b2,_,_⟩:=jC ws ae fin hw _ _ _ _ _ _ _ _ hB NT (uo.nil 0);simp only at h
    split at h
    ·cases h;exact⟨by omega,b2⟩
    ·cases h
  ·split at h
   ·cases h;exact⟨a1,a2⟩
   ·cases h
theorem aaV{ws:List RW}{ae:List Tk}{fin:Int}(hw:∀x∈ws,x.inf.Wt 1∧∃a n c,x.items=.slice a n c){f:Nat}{loops:Int}{acc:List AI}{I:Nat}{x:AI}{I':Nat}(h:Kt ws ae fin f loops acc I=.inl (x,I')):I<I'∧I'≤ae.length:=by
 unfold Kt at h
 cases h2:gp acc with
 |none=>rw[h2]at h;cases h
 |some q=>
  obtain⟨a,b⟩:=q;rw[h2]at h;simp only at h
  split at h
  ·cases h
  ·cases hA:aJ ws ae fin f [jg] (loops+1) [] (I+1)with
   |inr r=>rw[hA]at h;cases h
   |inl q=>
    obtain⟨la,ta,I1⟩:=q;rw[hA]at h;obtain⟨a1,a2,_,_⟩:=jC ws ae fin hw _ _ _ _ _ _ _ _ hA NU (uo.nil 0);simp only at h
    split at h
    ·cases h;exact⟨by omega,a2⟩
    ·cases h
def aeR(ws:List RW)(ae:List Tk)(fin:Int)(f:Nat)(ends:List ByteArray)(loops:Int)(acc:List AI)(pp:(AI×Nat) ⊕ (Int×Int)):PR:=
 match pp with
 |.inr r=>.inr r
 |.inl (x,I')=>aJ ws ae fin f ends loops (acc++[x]) I'
theorem Kz(n:Nat)(ih:lJ n):lJ (n+1):=by
 intro rb sb tv sv ae ws c k I f fin A loops ends eb Tm w hR hb hn hf hI hl hl2 yh TQ ajG hcells;obtain⟨R,hr⟩:=exq (aJ ws ae fin f ends loops [] I);rw[←hr];obtain⟨i0,hi,hz0,hz1,hz2⟩:=info_parts Tryz.Ku;have hlt:=hb.lt;have Ad:=hR.few;have aeS:∀j,j<ends.length→eb<w.heap.size:=fun j hj=>World.block_lt_of_cell? w _ (hcells j hj)
 have aeT:Hid (Zt rb sb tv sv ae ws c k I fin A loops ends w R (.slice none 0 0) w):=Or.inl ⟨I,f,[],[],fun _=>False,nrq,hI,hf,by simp,hr,hb,aj.refl _ w,aW.nil _ _ _ _ _ _ _⟩;have HR:=ast hR;have IH:=ast ih;have aaW:=ast hcells;have ajH:=ast aeS;have HN:=ast hn;have HL2:=ast hl2;have HEC:=ast TQ;have hl3:loops≤10000000:=by omega
 clear hr hR hb ih hcells aeS hn hf hI hl2 TQ;go_enter Tryz.func129,Tryz.ntmps129
 go_wp2_with fail
 go_loopw[8] (fun v8 wr=>Hid (Zt rb sb tv sv ae ws c k I fin A loops ends w R v8 wr)) (fun _ wr=>itM ae.length rb wr)
 case atStart=>exact aeT
 case round=>
  clear aeT;rcases hrel.out with ⟨J,f',acc,xs,F,hIJ,hJ,hf',aaA,hr,hB,hC,jI⟩|⟨E,P,J,ad,m,cap,hE,rfl,hr,hB,hC⟩
  ·clear hrel
   obtain⟨JE,rfl⟩:∃JE,f'=JE+1:=⟨f' - 1,by omega⟩;obtain⟨ad,cap,rfl,hcap,amz⟩:=ag jI.row;have hM:=qK (n:=ae.length) hB;obtain⟨t,ht⟩:=exq (aC ae J);have hsz:t.size≤1000000000:=by rw[ht];exact HR.out.tsz J
   have hRw:=HR.out.aA hC;have mg:=ast (uX rb sb tv ae J fin 0 A wr (by omega) (by omega) hB hRw.tok);rw[←ht]at mg;obtain⟨r0,r1,r2,r3,r4,r5⟩:=hB.bK;have sS:=hC.size;have HT:=ast ht;have HB:=ast hB;have HC:=ast hC;have vw:=ast jI;have HRR:=ast hr;have HM:=ast hM;have N8:=ast hsz;have HF:=ast hf';have wX:=ast aaA;have HJ:=ast hJ;have TR:=ast hIJ;have j1:(J:Int)≤1100000:=by omega
   have j0:(0:Int)≤(J:Int):=by omega
   clear ht hB hC jI hr hM hsz hf' aaA hJ hIJ hRw;go_wp2_with fail
   refine mg.out.mono ?_;rintro e w1 ⟨rfl,vC⟩;have Ae:aj (fun b=>b=rb) w w1:=HC.out.trans (aj.au vC);have hB1:az w1 rb (bK sb tv J fin 0 A) 181:=(vC.block _ HB.out.lt).trans HB.out;have aeU:=vw.out.kZ (aj.au (S:=fun _=>False) vC) (fun _ _=>id);have hs1:=vC.size;clear r0 r1 r2 r3 r4 r5 mg;obtain⟨r0,r1,r2,r3,r4,r5⟩:=hB1.bK;have DJ:=hB1.frozen 2;have TS:=ast (wQ t ends eb Tm w1 (by omega) (fun j hj=>(Ae.cell (p:=⟨eb,j,none⟩) (ajH.out j hj) ajG).trans (aaW.out j hj)));obtain⟨bi,pV⟩:=exq (jH t ends);rw[←pV]at TS;have Zu:=ast pV;have HB1:=ast hB1;have BI:=ast Ae;have aeV:=ast aeU;clear pV hB1 Ae aeU vC HB HC vw;go_wp2_with fail
   refine TS.out.mono ?_;rintro e w2 ⟨rfl,rfl⟩;clear TS
   cases bi with
   |true=>
    have hfin:Hid (R=.inl (acc,t,J+1)):=by
     show R=_
     rw[HRR.out,HT.out];exact aeP (by rw[←HT.out];exact Zu.out.symm)
    go_wp2_with fail
    rw[hfin.out];refine bodyPost_ret (v:=.tuple #[.slice ad acc.length cap,.string t]) (by simp[results,Tryz.results129,go_sem]) rfl ?_;have hcc:aj (fun b=>b=rb) w2 (w2.setCell ⟨rb,2,none⟩ (.int .i64 ((J:Int)+1))):=(aj.refl (fun b=>b=rb) w2).setCell (p:=⟨rb,2,none⟩) rfl _;refine⟨_,xs,F,rfl,?_,BI.out.trans hcc,aeV.out.move hcc (fun k hk e=>by omega)⟩;have:=HB1.out.set (o:=2) (.int .i64 ((J:Int)+1));simpa [bK]using this
   |false=>
    have aaY:=ast (zO t w2 N8.out);obtain⟨nn,bn,hnn⟩:∃a b,fZ t=(a,b):=⟨_,_,rfl⟩;rw[hnn]at aaY;obtain⟨V,hV⟩:=exq (w2.alloc (.cells #[.string ⟨#[]⟩,.string iQ,.string dO,.string jg,.string ik,.string zT,.string Tj] 9):World);have HST:=ast (wQ t fQ w2.heap.size 7 V (by decide) (by rw[hV];exact Hz w2 9));have hCV:aj (fun b=>b=rb) w V:=by rw[hV];exact BI.out.alloc _
    have hBV:az V rb (bK sb tv J fin 0 A) 181:=by rw[hV];exact HB1.out.alloc _
    have aeX:aW sb sv ws c k V w.heap.size (.slice ad acc.length cap) acc xs F:=by rw[hV];exact aeV.out.kZ ((aj.refl (fun _=>False) w2).alloc _) (fun _ _=>id)
    obtain⟨bs,wU⟩:=exq (jH t fQ);rw[←wU]at HST;have HNN:=ast hnn;have DK:=ast wU;have yj:=ast hCV;have rC:=ast hBV;have TT:=ast aeX;have HV:=ast hV;clear hnn wU hCV hBV aeX hV;go_wp2_with fail
    refine aaY.out.mono ?_;rintro e w3 ⟨rfl,rfl⟩;clear aaY;go_wp2_with fail
    have hV':=HV.out;rw[show Obj.cells #[Value.string ⟨#[]⟩,.string iQ,.string dO,.string jg,.string ik,.string zT,.string Tj] 9=Obj.cells #[Value.string ⟨#[]⟩,.string ⟨#[101,108,115,101]⟩,.string ⟨#[116,104,101,110]⟩,.string ⟨#[108,111,111,112]⟩,.string ⟨#[59]⟩,.string ⟨#[58]⟩,.string ⟨#[118,97,114,105,97,98,108,101]⟩] 9 from rfl]at hV';rw[←hV'];clear hV';refine HST.out.mono ?_;rintro e w4 ⟨rfl,rfl⟩;clear HST r0 r1 r2 r3 r4 r5 DJ;obtain⟨r0,r1,r2,r3,r4,r5⟩:=rC.out.bK;have DJ:=rC.out.frozen 2;have he0:Hid (jH (aC ae J) ends=false):=by show _=_;rw[←HT.out];exact Zu.out.symm
    cases bs with
    |true=>
     have hfin:Hid (R=.inr (5,kz ae fin J)):=by
      show R=_
      rw[HRR.out];exact XE he0.out (by rw[←HT.out];exact DK.out.symm)
     have KD:=HR.out.aA yj.out;have HX:=ast (gz rb sb tv ae J J fin A 5 w4 (by omega) (by omega) rC.out KD.tok KD.tr);clear KD;go_wp2_with fail
     refine HX.out.mono ?_;rintro e w5 ⟨rfl,hb5,hc5⟩;have H1:=ast hb5;have H2:=ast (yj.out.trans hc5);clear HX hb5 hc5;go_wp2_with fail
     go_roundw
     case rel=>exact Or.inr ⟨5,_,J,ad,acc.length,cap,by decide,rfl,hfin.out,H1.out,H2.out⟩
     case measure=>rw[mO H1.out (by decide),HM.out];have:=HJ.out;omega
    |false=>
     have hs0:Hid (jH (aC ae J) fQ=false):=by show _=_;rw[←HT.out];exact DK.out.symm
     have hJl:J<ae.length:=Pn HJ.out hs0.out;have hHN:ae.length+1 - (J+1)≤n:=by have:=HN.out;have:=TR.out;omega
     have hHF:ae.length+1 - (J+1)≤JE:=by have:=HF.out;omega
     have HHN:=ast hHN;have HHF:=ast hHF;clear hHN hHF
     cases bn with
     |true=>
      have hfin:Hid (R=aJ ws ae fin JE ends loops (acc++[⟨some nn,Inf.plain 0 1,.num nn⟩]) (J+1)):=by
       show R=_
       have e:=HNN.out;rw[HRR.out,aeQ he0.out hs0.out (by rw[←HT.out,e]),←HT.out,e]
      have aeZ: -2147483648≤nn∧nn≤2147483647:=by
       have:=RU t (by rw[HNN.out]);rw[HNN.out]at this;exact this
      have pR:=ast yj.out;have dX:=ast rC.out;have yK:=ast TT.out;have qJ:=ast (yK.out.kZ ((aj.refl (fun _=>False) w4).alloc (.cells (Aj nn) 249 (0,0))) (fun _ _=>id));have wV:=ast (qH w4 (Aj nn) 249);have wW:=ast (kP (x:=(Aj nn)) ⟨1,nn,⟨#[]⟩,none,0,0,none,0,0,rfl⟩);have Pg:=ast (show acc.length+1≤maxLen by have:=wX.out;have:=HJ.out;unfold maxLen;omega);have Ph:=ast (show(acc.length+1)*80≤140737488355328 by have:=wX.out;have:=HJ.out;omega);have nP:=ast (show w.heap.size≤(w4.alloc (.cells (Aj nn) 249 (0,0))).heap.size by have:=pR.out.size;simp;omega);have Hy:=ast (show(w4.alloc (.cells (Aj nn) 249 (0,0))).heap.size=w4.heap.size+1 by simp);go_wp2_with (at_builtin;refine wpList_append_lies _ rfl _ _ 184 rfl w.heap.size 249 i0 (.agg cZ) 5 80 Tryz.underlying184 hi hz0 hz1 hz2 rfl (by decide) _ acc.length (xs.flatMap Array.toList) rfl qJ.out.row ⟨w4.heap.size,0,none⟩ 1 1 ((Aj nn)).toList rfl rfl wV.out wW.out (by decide) Pg.out Ph.out nP.out (w4.heap.size+1) Hy.out ?_)
      intro g2 qj w6 hown hgrow hat Pj;have KE:(w4.alloc (.cells (Aj nn) 249 (0,0))).grownBy w6 (Value.slice ad acc.length cap).ownBlock:=hgrow;have EI:=ast hown;have kQ:=ast hgrow;have TM:=ast hat;have BL:∀k,(Value.slice ad acc.length cap).ownBlock=some k→w.heap.size≤k:=fun k hk=>aF yK.out.row hk
      have TU:aj (fun b=>b=rb) w w6:=(pR.out.alloc _).nR ((aj.bD hgrow).mono (fun k _ e=>Or.inr (BL k e.symm)));have Gs:=(dX.out.alloc (.cells (Aj nn) 249 (0,0))).aA (aj.bD hgrow) (fun e=>by have:=BL rb e.symm;omega)
      have Ak:(Value.slice (some ⟨g2,0,none⟩) (acc.length+1) qj).ownBlock=(Value.slice ad acc.length cap).ownBlock∨(Value.slice (some ⟨g2,0,none⟩) (acc.length+1) qj).ownBlock=some (w4.alloc (.cells (Aj nn) 249 (0,0))).heap.size:=by
       rcases hat with h|h
       ·exact Or.inl h.symm
       ·exact Or.inr (by rw[h,Hy.out];rfl)
      have HC6:=ast TU;have tq:=ast Gs;have Pq:=ast Ak;clear hown hgrow hat KE BL TU Gs Ak;clear r0 r1 r2 r3 r4 r5 DJ;obtain⟨r0,r1,r2,r3,r4,r5⟩:=tq.out.bK;have DJ:=tq.out.frozen 2;go_wp2_with fail
      have zk:az (w6.setCell ⟨rb,2,none⟩ (.int .i64 ((J:Int)+1))) rb (bK sb tv ((J+1:Nat):Int) fin 0 A) 181:=by
       have:=tq.out.set (o:=2) (.int .i64 ((J:Int)+1));simpa [bK]using this
      have sZ:aj (fun b=>b=rb) w6 (w6.setCell ⟨rb,2,none⟩ (.int .i64 ((J:Int)+1))):=(aj.refl (fun b=>b=rb) w6).setCell (p:=⟨rb,2,none⟩) rfl _;have Rk:=ast zk;have Zr:=ast sZ;clear zk sZ;go_roundw
      case rel=>
       refine Or.inl ⟨J+1,JE,acc++[⟨some nn,Inf.plain 0 1,.num nn⟩],xs++[Aj nn],fun k=>F k∨False,by have:=TR.out;omega,by omega,HHF.out,by have:=wX.out;have:=TR.out;simp;omega,hfin.out,Rk.out,HC6.out.trans Zr.out,?_⟩;refine aW.move (qJ.out.snoc (G:=fun _=>False) ⟨1,nn,⟨#[]⟩,none,0,0,none,0,0,rfl⟩ ⟨rfl,aeZ⟩ (fun _ h=>h.elim) (TN sb sv ws c k _ nn aeZ) EI.out kQ.out Pq.out) Zr.out (fun k hk e=>by omega)
      case measure=>rw[qK Rk.out,HM.out];omega
     |false=>
      have wK:Hid ((fZ (aC ae J)).2=false):=by show _=_;rw[←HT.out,HNN.out]
      obtain⟨b1,hb1⟩:=exq ((t.toList == [105,102]))
      cases b1 with
      |true=>
       have Zv:Hid (((aC ae J).toList == [105,102])=true):=by show _=_;rw[←HT.out];exact hb1.symm
       have l9:=hb1.symm;obtain⟨X,hX⟩:=exq (w4.setCell ⟨rb,2,none⟩ (.int .i64 ((J:Int)+1)):World)
       have hbX:az X rb (bK sb tv ((J+1:Nat):Int) fin 0 A) 181:=by
        rw[hX];have:=rC.out.set (o:=2) (.int .i64 ((J:Int)+1));simpa [bK]using this
       have vF:aj (fun b=>b=rb) w4 X:=by rw[hX];exact(aj.refl (fun b=>b=rb) w4).setCell (p:=⟨rb,2,none⟩) rfl _
       have xZ:aj (fun b=>b=rb) w X:=yj.out.trans vF;have Hw:=TT.out.move vF (fun k hk e=>by omega);have uV:=ast (J7 n IH.out rb sb tv sv ae ws c k (J+1) JE fin A loops X (HR.out.aA xZ) hbX HHN.out HHF.out hJl hl (by have:=HL2.out;have:=TR.out;omega));obtain⟨pp,O8⟩:=exq (OY ws ae fin JE loops (J+1));rw[←O8]at uV
       have hfin:Hid (R=aeR ws ae fin JE ends loops acc pp):=by
        show R=_
        rw[HRR.out,ajE he0.out hs0.out wK.out Zv.out,O8];rfl
       have qI:=ast O8;have vz:=ast xZ;have Kv:=ast Hw;have lV:=ast hbX;clear O8 xZ Hw hbX vF hb1;go_upto_region 21 with fail
       rw[←hX];clear hX r0 r1 r2 r3 r4 r5 DJ;go_wp2_with fail
       refine uV.out.mono ?_;clear uV;intro e w5 hP;rcases pp with ⟨x,I'⟩|⟨E,P⟩
       ·obtain⟨x0,G,rfl,TV,Zw,mf,mY,hG,gG⟩:=hP
        have hI':J+1<I'∧I'≤ae.length:=aaU HR.out.WS qI.out.symm;obtain⟨kk,kn,ks,a1,n1,c1,a2,n2,c2,rfl⟩:=TV;have pR:Hid (aj (fun b=>b=rb) w (w5.alloc (.cells #[.int .i64 kk,.int .i64 kn,.string ks,.slice a1 n1 c1,.slice a2 n2 c2] 249 (0,0)))):=(vz.out.trans mY).alloc _;have dX:Hid (az (w5.alloc (.cells #[.int .i64 kk,.int .i64 kn,.string ks,.slice a1 n1 c1,.slice a2 n2 c2] 249 (0,0))) rb (bK sb tv I' fin 0 A) 181):=mf.alloc _;have yK:=ast ((Kv.out.move mY (fun k hk e=>by omega)).kZ ((aj.refl (fun _=>False) w5).alloc (.cells #[.int .i64 kk,.int .i64 kn,.string ks,.slice a1 n1 c1,.slice a2 n2 c2] 249 (0,0))) (fun _ _=>id));obtain⟨Y,hY⟩:=exq (w5.alloc (.cells #[.int .i64 kk,.int .i64 kn,.string ks,.slice a1 n1 c1,.slice a2 n2 c2] 249 (0,0)):World);have Am:az Y w5.heap.size #[.int .i64 kk,.int .i64 kn,.string ks,.slice a1 n1 c1,.slice a2 n2 c2] 249:=by rw[hY];exact ay _ _ _
        have JF:Hid (oI sb sv ws c k G Y #[.int .i64 kk,.int .i64 kn,.string ks,.slice a1 n1 c1,.slice a2 n2 c2] x.inf x.tree):=by
         rw[hY];exact gG.mono (fun _=>id) (fun k hk=>Below.heap_alloc w5 _ k (hG k hk).2)
        have HGG:Hid (∀k,G k→w.heap.size≤k∧k<Y.heap.size∧(Value.slice ad acc.length cap).ownBlock≠some k):=fun k hk=>by
         have h1:=hG k hk;have h2:=vz.out.size;refine⟨by omega,by rw[hY];simp;omega,fun e=>?_⟩;have:=bg Kv.out.row e;omega
        rw[←hY]at pR dX yK;have HKI:=ast Zw;have TW:=ast hI';have nO:=ast Am;clear Zw hI' mf mY hG gG Am;go_upto_region 22 with fail
        rw[←hY];clear hY;have z0:=nO.out.cell 0 _ rfl;have z1:=nO.out.cell 1 _ rfl;have z2:=nO.out.cell 2 _ rfl;have z3:=nO.out.cell 3 _ rfl;have z4:=nO.out.cell 4 _ rfl;simp only[List.getElem_toArray,List.getElem_cons_succ,List.getElem_cons_zero]at z0 z1 z2 z3 z4;have qJ:=ast (yK.out.kZ ((aj.refl (fun _=>False) Y).alloc (.cells #[.int .i64 kk,.int .i64 kn,.string ks,.slice a1 n1 c1,.slice a2 n2 c2] 249 (0,0))) (fun _ _=>id));have wV:=ast (qH Y #[.int .i64 kk,.int .i64 kn,.string ks,.slice a1 n1 c1,.slice a2 n2 c2] 249);have wW:=ast (kP (x:= #[.int .i64 kk,.int .i64 kn,.string ks,.slice a1 n1 c1,.slice a2 n2 c2]) ⟨kk,kn,ks,a1,n1,c1,a2,n2,c2,rfl⟩);have Pg:=ast (show acc.length+1≤maxLen by have:=wX.out;have:=HJ.out;unfold maxLen;omega);have Ph:=ast (show(acc.length+1)*80≤140737488355328 by have:=wX.out;have:=HJ.out;omega);have nP:=ast (show w.heap.size≤(Y.alloc (.cells #[.int .i64 kk,.int .i64 kn,.string ks,.slice a1 n1 c1,.slice a2 n2 c2] 249 (0,0))).heap.size by have:=pR.out.size;simp;omega);have Hy:=ast (show(Y.alloc (.cells #[.int .i64 kk,.int .i64 kn,.string ks,.slice a1 n1 c1,.slice a2 n2 c2] 249 (0,0))).heap.size=Y.heap.size+1 by simp);go_wp2_with (at_builtin;refine wpList_append_lies _ rfl _ _ 184 rfl w.heap.size 249 i0 (.agg cZ) 5 80 Tryz.underlying184 hi hz0 hz1 hz2 rfl (by decide) _ acc.length (xs.flatMap Array.toList) rfl qJ.out.row ⟨Y.heap.size,0,none⟩ 1 1 (#[.int .i64 kk,.int .i64 kn,.string ks,.slice a1 n1 c1,.slice a2 n2 c2]).toList rfl rfl wV.out wW.out (by decide) Pg.out Ph.out nP.out (Y.heap.size+1) Hy.out ?_)
        intro g2 qj w6 hown hgrow hat Pj;have KE:(Y.alloc (.cells #[.int .i64 kk,.int .i64 kn,.string ks,.slice a1 n1 c1,.slice a2 n2 c2] 249 (0,0))).grownBy w6 (Value.slice ad acc.length cap).ownBlock:=hgrow;have EI:=ast hown;have kQ:=ast hgrow;have TM:=ast hat;have BL:∀k,(Value.slice ad acc.length cap).ownBlock=some k→w.heap.size≤k:=fun k hk=>aF yK.out.row hk
        have TU:aj (fun b=>b=rb) w w6:=(pR.out.alloc _).nR ((aj.bD hgrow).mono (fun k _ e=>Or.inr (BL k e.symm)));have Gs:=(dX.out.alloc (.cells #[.int .i64 kk,.int .i64 kn,.string ks,.slice a1 n1 c1,.slice a2 n2 c2] 249 (0,0))).aA (aj.bD hgrow) (fun e=>by have:=BL rb e.symm;omega)
        have Ak:(Value.slice (some ⟨g2,0,none⟩) (acc.length+1) qj).ownBlock=(Value.slice ad acc.length cap).ownBlock∨(Value.slice (some ⟨g2,0,none⟩) (acc.length+1) qj).ownBlock=some (Y.alloc (.cells #[.int .i64 kk,.int .i64 kn,.string ks,.slice a1 n1 c1,.slice a2 n2 c2] 249 (0,0))).heap.size:=by
         rcases hat with h|h
         ·exact Or.inl h.symm
         ·exact Or.inr (by rw[h,Hy.out];rfl)
        have HC6:=ast TU;have tq:=ast Gs;have Pq:=ast Ak;clear hown hgrow hat KE BL TU Gs Ak;clear z0 z1 z2 z3 z4;go_wp2_with fail
        go_roundw
        case rel=>
         refine Or.inl ⟨I',JE,acc++[x],xs++[#[.int .i64 kk,.int .i64 kn,.string ks,.slice a1 n1 c1,.slice a2 n2 c2]],fun k=>F k∨G k,by have:=TR.out;have:=TW.out;omega,TW.out.2,by have:=HHF.out;have:=TW.out;omega,by have:=wX.out;have:=TR.out;have:=TW.out;simp;omega,hfin.out,tq.out,HC6.out,?_⟩;exact qJ.out.snoc (G:=G) ⟨kk,kn,ks,a1,n1,c1,a2,n2,c2,rfl⟩ HKI.out (fun k hk=>by have:=HGG.out k hk;exact⟨this.1,by simp;omega,this.2.2⟩) (JF.out.mono (fun _=>id) (fun k hk=>Below.heap_alloc Y _ k (HGG.out k hk).2.1)) EI.out kQ.out Pq.out
        case measure=>rw[qK tq.out,HM.out];have:=TW.out;omega
       ·obtain⟨x0,I',rfl,TV,hE,mf,mY⟩:=hP
        obtain⟨kk,kn,ks,a1,n1,c1,a2,n2,c2,rfl⟩:=TV;obtain⟨Y,hY⟩:=exq (w5.alloc (.cells #[.int .i64 kk,.int .i64 kn,.string ks,.slice a1 n1 c1,.slice a2 n2 c2] 249 (0,0)):World);have pR:Hid (aj (fun b=>b=rb) w Y):=by rw[hY];exact(vz.out.trans mY).alloc _
        have dX:Hid (az Y rb (bK sb tv I' fin E P) 181):=by rw[hY];exact mf.alloc _
        have yK:Hid (aW sb sv ws c k Y w.heap.size (.slice ad acc.length cap) acc xs F):=by rw[hY];exact((Kv.out.move mY (fun k hk e=>by omega)).kZ ((aj.refl (fun _=>False) w5).alloc _) (fun _ _=>id))
        have Am:az Y w5.heap.size #[.int .i64 kk,.int .i64 kn,.string ks,.slice a1 n1 c1,.slice a2 n2 c2] 249:=by rw[hY];exact ay _ _ _
        have HE:=ast hE;have nO:=ast Am;clear mf mY Am hE;go_upto_region 22 with fail
        rw[←hY];clear hY;have z0:=nO.out.cell 0 _ rfl;have z1:=nO.out.cell 1 _ rfl;have z2:=nO.out.cell 2 _ rfl;have z3:=nO.out.cell 3 _ rfl;have z4:=nO.out.cell 4 _ rfl;simp only[List.getElem_toArray,List.getElem_cons_succ,List.getElem_cons_zero]at z0 z1 z2 z3 z4;have qJ:=ast (yK.out.kZ ((aj.refl (fun _=>False) Y).alloc (.cells #[.int .i64 kk,.int .i64 kn,.string ks,.slice a1 n1 c1,.slice a2 n2 c2] 249 (0,0))) (fun _ _=>id));have wV:=ast (qH Y #[.int .i64 kk,.int .i64 kn,.string ks,.slice a1 n1 c1,.slice a2 n2 c2] 249);have wW:=ast (kP (x:= #[.int .i64 kk,.int .i64 kn,.string ks,.slice a1 n1 c1,.slice a2 n2 c2]) ⟨kk,kn,ks,a1,n1,c1,a2,n2,c2,rfl⟩);have Pg:=ast (show acc.length+1≤maxLen by have:=wX.out;have:=HJ.out;unfold maxLen;omega);have Ph:=ast (show(acc.length+1)*80≤140737488355328 by have:=wX.out;have:=HJ.out;omega);have nP:=ast (show w.heap.size≤(Y.alloc (.cells #[.int .i64 kk,.int .i64 kn,.string ks,.slice a1 n1 c1,.slice a2 n2 c2] 249 (0,0))).heap.size by have:=pR.out.size;simp;omega);have Hy:=ast (show(Y.alloc (.cells #[.int .i64 kk,.int .i64 kn,.string ks,.slice a1 n1 c1,.slice a2 n2 c2] 249 (0,0))).heap.size=Y.heap.size+1 by simp);go_wp2_with (at_builtin;refine wpList_append_lies _ rfl _ _ 184 rfl w.heap.size 249 i0 (.agg cZ) 5 80 Tryz.underlying184 hi hz0 hz1 hz2 rfl (by decide) _ acc.length (xs.flatMap Array.toList) rfl qJ.out.row ⟨Y.heap.size,0,none⟩ 1 1 (#[.int .i64 kk,.int .i64 kn,.string ks,.slice a1 n1 c1,.slice a2 n2 c2]).toList rfl rfl wV.out wW.out (by decide) Pg.out Ph.out nP.out (Y.heap.size+1) Hy.out ?_)
        intro g2 qj w6 hown hgrow hat Pj;have KE:(Y.alloc (.cells #[.int .i64 kk,.int .i64 kn,.string ks,.slice a1 n1 c1,.slice a2 n2 c2] 249 (0,0))).grownBy w6 (Value.slice ad acc.length cap).ownBlock:=hgrow;have EI:=ast hown;have kQ:=ast hgrow;have TM:=ast hat;have BL:∀k,(Value.slice ad acc.length cap).ownBlock=some k→w.heap.size≤k:=fun k hk=>aF yK.out.row hk
        have TU:aj (fun b=>b=rb) w w6:=(pR.out.alloc _).nR ((aj.bD hgrow).mono (fun k _ e=>Or.inr (BL k e.symm)));have Gs:=(dX.out.alloc (.cells #[.int .i64 kk,.int .i64 kn,.string ks,.slice a1 n1 c1,.slice a2 n2 c2] 249 (0,0))).aA (aj.bD hgrow) (fun e=>by have:=BL rb e.symm;omega)
        have Ak:(Value.slice (some ⟨g2,0,none⟩) (acc.length+1) qj).ownBlock=(Value.slice ad acc.length cap).ownBlock∨(Value.slice (some ⟨g2,0,none⟩) (acc.length+1) qj).ownBlock=some (Y.alloc (.cells #[.int .i64 kk,.int .i64 kn,.string ks,.slice a1 n1 c1,.slice a2 n2 c2] 249 (0,0))).heap.size:=by
         rcases hat with h|h
         ·exact Or.inl h.symm
         ·exact Or.inr (by rw[h,Hy.out];rfl)
        have HC6:=ast TU;have tq:=ast Gs;have Pq:=ast Ak;clear hown hgrow hat KE BL TU Gs Ak;clear z0 z1 z2 z3 z4;go_wp2_with fail
        go_roundw
        case rel=>exact Or.inr ⟨E,P,I',_,_,_,HE.out,rfl,hfin.out,tq.out,HC6.out⟩
        case measure=>rw[mO tq.out HE.out,HM.out];omega
      |false=>
       have Zv:Hid (((aC ae J).toList == [105,102])=false):=by show _=_;rw[←HT.out];exact hb1.symm
       have l9:=hb1.symm;clear hb1;obtain⟨b2,hb2⟩:=exq ((t.toList == [100,111]))
       cases b2 with
       |true=>
        have hdo:Hid (((aC ae J).toList == [100,111])=true):=by show _=_;rw[←HT.out];exact hb2.symm
        have qC:=hb2.symm;clear hb2;have HLP:=ast (TP n IH.out rb sb tv sv ae ws c k J JE fin A loops w.heap.size (.slice ad acc.length cap) acc xs F w4 (HR.out.aA yj.out) rC.out HHN.out HHF.out hJl hl (by have:=HL2.out;have:=TR.out;omega) TT.out hlt yj.out.size (by have:=wX.out;omega));obtain⟨pp,O8⟩:=exq (Kt ws ae fin JE loops acc J);rw[←O8]at HLP
        have hfin:Hid (R=aeR ws ae fin JE ends loops acc pp):=by
         show R=_
         rw[HRR.out,ajF he0.out hs0.out wK.out Zv.out hdo.out,O8];rfl
        have qI:=ast O8;have BL:∀k,(Value.slice ad acc.length cap).ownBlock=some k→w.heap.size≤k:=fun k hk=>aF TT.out.row hk
        have HNR:=ast BL;clear O8 BL;go_wp2_with fail
        refine HLP.out.mono ?_;clear HLP;intro e w5 hP;rcases pp with ⟨x,I'⟩|⟨E,P⟩
        ·obtain⟨v',xs',F',rfl,mf,mY,ae1⟩:=hP
         have hI':J<I'∧I'≤ae.length:=aaV HR.out.WS qI.out.symm;have BM:Hid (aj (fun b=>b=rb) w w5):=yj.out.nR (mY.mono (fun k _ e=>e.imp id (HNR.out k)));have nJ:=ast mf;have ajK:=ast ae1;have TW:=ast hI';clear mf mY ae1 hI';go_wp2_with fail
         go_roundw
         case rel=>exact Or.inl ⟨I',JE,acc++[x],xs',F',by have:=TR.out;have:=TW.out;omega,TW.out.2,by have:=HHF.out;have:=TW.out;omega,by have:=wX.out;have:=TR.out;have:=TW.out;simp;omega,hfin.out,nJ.out,BM.out,ajK.out⟩
         case measure=>rw[qK nJ.out,HM.out];have:=TW.out;omega
        ·obtain⟨ad',n',cap',I',rfl,hE,mf,mY⟩:=hP
         have BM:Hid (aj (fun b=>b=rb) w w5):=yj.out.nR (mY.mono (fun k _ e=>e.imp id (HNR.out k)));have nJ:=ast mf;have HE:=ast hE;clear mf mY hE;go_wp2_with fail
         go_roundw
         case rel=>exact Or.inr ⟨E,P,I',_,_,_,HE.out,rfl,hfin.out,nJ.out,BM.out⟩
         case measure=>rw[mO nJ.out HE.out,HM.out];omega
       |false=>
        have hdo:Hid (((aC ae J).toList == [100,111])=false):=by show _=_;rw[←HT.out];exact hb2.symm
        have qC:=hb2.symm;clear hb2
        have hfin:Hid (R=if kC ws t loops=0 then aJ ws ae fin JE ends loops (acc++[⟨none,mJ ws t,sD ws t⟩]) (J+1)else .inr (kC ws t loops,kz ae fin J)):=by
         show R=_
         rw[HRR.out,aaT he0.out hs0.out wK.out Zv.out hdo.out,HT.out]
        by_cases hw0:kC ws t loops=0
        ·have KD:=HR.out.aA yj.out
         have HWO:=ast (G7 rb sb tv ae J fin A loops sv ws c k t w4 HR.out.EG rC.out KD.sys hw0);have TY:Hid (R=aJ ws ae fin JE ends loops (acc++[⟨none,mJ ws t,sD ws t⟩]) (J+1)):=by show R=_;rw[hfin.out,if_pos hw0]
         obtain⟨kk,kn,ks,hwv,dM⟩:=Ky ws t;have HWI:=ast (fun W:World=>Po (sb:=sb) (sv:=sv) (c:=c) (k:=k) (w:=W) HR.out.EG HR.out.WS t);rw[hwv]at HWO HWI;have pU:=ast dM;clear hfin hw0 KD hwv dM;go_wp2_with fail
         refine HWO.out.mono ?_;rintro e w5 ⟨rfl,N9⟩;obtain⟨Y,hY⟩:=exq (w5.alloc (.cells #[.int .i64 kk,.int .i64 kn,.string ks,.slice none 0 0,.slice none 0 0] 249 (0,0)):World);have pR:Hid (aj (fun b=>b=rb) w Y):=by rw[hY];exact(yj.out.trans (aj.au N9)).alloc _
         have dX:Hid (az Y rb (bK sb tv J fin 0 A) 181):=by rw[hY];exact az.alloc ((N9.block _ rC.out.lt).trans rC.out) _
         have yK:Hid (aW sb sv ws c k Y w.heap.size (.slice ad acc.length cap) acc xs F):=by rw[hY];exact((TT.out.kZ (aj.au (S:=fun _=>False) N9) (fun _ _=>id)).kZ ((aj.refl (fun _=>False) w5).alloc _) (fun _ _=>id))
         have Am:az Y w5.heap.size #[.int .i64 kk,.int .i64 kn,.string ks,.slice none 0 0,.slice none 0 0] 249:=by rw[hY];exact ay _ _ _
         have nO:=ast Am;clear N9 Am HWO r0 r1 r2 r3 r4 r5 DJ;go_upto_region 11 with fail
         rw[←hY];clear hY;have z0:=nO.out.cell 0 _ rfl;have z1:=nO.out.cell 1 _ rfl;have z2:=nO.out.cell 2 _ rfl;have z3:=nO.out.cell 3 _ rfl;have z4:=nO.out.cell 4 _ rfl;simp only[List.getElem_toArray,List.getElem_cons_succ,List.getElem_cons_zero]at z0 z1 z2 z3 z4;have qJ:=ast (yK.out.kZ ((aj.refl (fun _=>False) Y).alloc (.cells #[.int .i64 kk,.int .i64 kn,.string ks,.slice none 0 0,.slice none 0 0] 249 (0,0))) (fun _ _=>id));have wV:=ast (qH Y #[.int .i64 kk,.int .i64 kn,.string ks,.slice none 0 0,.slice none 0 0] 249);have wW:=ast (kP (x:= #[.int .i64 kk,.int .i64 kn,.string ks,.slice none 0 0,.slice none 0 0]) ⟨kk,kn,ks,none,0,0,none,0,0,rfl⟩);have Pg:=ast (show acc.length+1≤maxLen by have:=wX.out;have:=HJ.out;unfold maxLen;omega);have Ph:=ast (show(acc.length+1)*80≤140737488355328 by have:=wX.out;have:=HJ.out;omega);have nP:=ast (show w.heap.size≤(Y.alloc (.cells #[.int .i64 kk,.int .i64 kn,.string ks,.slice none 0 0,.slice none 0 0] 249 (0,0))).heap.size by have:=pR.out.size;simp;omega);have Hy:=ast (show(Y.alloc (.cells #[.int .i64 kk,.int .i64 kn,.string ks,.slice none 0 0,.slice none 0 0] 249 (0,0))).heap.size=Y.heap.size+1 by simp);go_wp2_with (at_builtin;refine wpList_append_lies _ rfl _ _ 184 rfl w.heap.size 249 i0 (.agg cZ) 5 80 Tryz.underlying184 hi hz0 hz1 hz2 rfl (by decide) _ acc.length (xs.flatMap Array.toList) rfl qJ.out.row ⟨Y.heap.size,0,none⟩ 1 1 (#[.int .i64 kk,.int .i64 kn,.string ks,.slice none 0 0,.slice none 0 0]).toList rfl rfl wV.out wW.out (by decide) Pg.out Ph.out nP.out (Y.heap.size+1) Hy.out ?_)
         intro g2 qj w6 hown hgrow hat Pj;have KE:(Y.alloc (.cells #[.int .i64 kk,.int .i64 kn,.string ks,.slice none 0 0,.slice none 0 0] 249 (0,0))).grownBy w6 (Value.slice ad acc.length cap).ownBlock:=hgrow;have EI:=ast hown;have kQ:=ast hgrow;have TM:=ast hat;have BL:∀k,(Value.slice ad acc.length cap).ownBlock=some k→w.heap.size≤k:=fun k hk=>aF yK.out.row hk
         have TU:aj (fun b=>b=rb) w w6:=(pR.out.alloc _).nR ((aj.bD hgrow).mono (fun k _ e=>Or.inr (BL k e.symm)));have Gs:=(dX.out.alloc (.cells #[.int .i64 kk,.int .i64 kn,.string ks,.slice none 0 0,.slice none 0 0] 249 (0,0))).aA (aj.bD hgrow) (fun e=>by have:=BL rb e.symm;omega)
         have Ak:(Value.slice (some ⟨g2,0,none⟩) (acc.length+1) qj).ownBlock=(Value.slice ad acc.length cap).ownBlock∨(Value.slice (some ⟨g2,0,none⟩) (acc.length+1) qj).ownBlock=some (Y.alloc (.cells #[.int .i64 kk,.int .i64 kn,.string ks,.slice none 0 0,.slice none 0 0] 249 (0,0))).heap.size:=by
          rcases hat with h|h
          ·exact Or.inl h.symm
          ·exact Or.inr (by rw[h,Hy.out];rfl)
         have HC6:=ast TU;have tq:=ast Gs;have Pq:=ast Ak;clear hown hgrow hat KE BL TU Gs Ak;clear z0 z1 z2 z3 z4;obtain⟨r0,r1,r2,r3,r4,r5⟩:=tq.out.bK;have DJ:=tq.out.frozen 2;go_wp2_with fail
         have zk:az (w6.setCell ⟨rb,2,none⟩ (.int .i64 ((J:Int)+1))) rb (bK sb tv ((J+1:Nat):Int) fin 0 A) 181:=by
          have:=tq.out.set (o:=2) (.int .i64 ((J:Int)+1));simpa [bK]using this
         have sZ:aj (fun b=>b=rb) w6 (w6.setCell ⟨rb,2,none⟩ (.int .i64 ((J:Int)+1))):=(aj.refl (fun b=>b=rb) w6).setCell (p:=⟨rb,2,none⟩) rfl _;have Rk:=ast zk;have Zr:=ast sZ;clear zk sZ;go_roundw
         case rel=>
          refine Or.inl ⟨J+1,JE,acc++[⟨none,mJ ws t,sD ws t⟩],xs++[#[.int .i64 kk,.int .i64 kn,.string ks,.slice none 0 0,.slice none 0 0]],fun k=>F k∨False,by have:=TR.out;omega,by omega,HHF.out,by have:=wX.out;have:=TR.out;simp;omega,TY.out,Rk.out,HC6.out.trans Zr.out,?_⟩;exact aW.move (qJ.out.snoc (G:=fun _=>False) ⟨kk,kn,ks,none,0,0,none,0,0,rfl⟩ ⟨kk,rfl,pU.out⟩ (fun _ h=>h.elim) (HWI.out _) EI.out kQ.out Pq.out) Zr.out (fun k hk e=>by omega)
         case measure=>rw[qK Rk.out,HM.out];omega
        ·have KD:=HR.out.aA yj.out
         have HWE:=ast (EF rb sb tv ae J fin A loops sv ws c k t w4 HR.out.EG (by omega) (by omega) rC.out KD.tok KD.tr KD.sys hw0);have TY:Hid (R=.inr (kC ws t loops,kz ae fin J)):=by show R=_;rw[hfin.out,if_neg hw0]
         have HW0:=ast hw0;simp only[cZ]at HWE;clear hfin hw0 KD;go_wp2_with fail
         refine HWE.out.mono ?_;rintro e w5 ⟨rfl,hb5,hc5⟩;have nJ:=ast hb5;have BM:=ast (yj.out.trans hc5);have aph:=hb5.lt;clear HWE hb5 hc5 r0 r1 r2 r3 r4 r5 DJ;go_wp2_with fail
         go_roundw
         case rel=>exact Or.inr ⟨_,_,J,ad,acc.length,cap,HW0.out,rfl,TY.out,nJ.out.alloc _,BM.out.alloc _⟩
         case measure=>rw[mO (nJ.out.alloc _) HW0.out,HM.out];omega
  ·have hM:=mO (n:=ae.length) hB hE
   have hEb:(E == 0)=false:=by simpa using hE
   obtain⟨r0,r1,r2,r3,r4,r5⟩:=hB.bK;have HB:=ast hB;have HC:=ast hC;have HE:=ast hE;have HRR:=ast hr;clear hB hC hE hr hrel hM;go_wp2_with fail
   rw[HRR.out];exact bodyPost_ret (v:=.tuple #[.slice ad m cap,.string ⟨#[]⟩]) (by simp[results,Tryz.results129,go_sem]) rfl ⟨ad,m,cap,J,rfl,HE.out,HB.out,HC.out⟩
theorem Ap:∀n,lJ n
 |0=>fun rb sb tv sv ae ws c k I f fin A loops ends eb Tm w hR hb hn hf hI=>by omega
 |n+1=>Kz n (Ap n)
end
end Go.Proofs.YtcphhbofjkenaaaGreatDoor
