import Derived.Test.YtcphhbofjkenaaaGreatDoorMy
import Derived.Test.YtcphhbofjkenaaaGreatDoorM13
import Derived.Test.YtcphhbofjkenaaaGreatDoorM22
import Derived.Test.YtcphhbofjkenaaaGreatDoorM24
namespace Go.Proofs.YtcphhbofjkenaaaGreatDoor
open Go Go.RowKit Proofs.Tryz
set_option linter.unusedVariables false
set_option linter.unusedSimpArgs false
set_option maxRecDepth 100000
set_option maxHeartbeats 16000000
variable{x:RX}{w w2 w':World}{sb rb B C wp b i jb mb:Nat}{sv eG v ev rv oh tv':Value}{ws:List RW}{c k nv nt n:Int}{ar:List Tk}{cs:Array Value}{es:List PE}{code l:List Int}{F SQ:Nat→Prop}{busy:Bool}{u2:MW}
theorem NCq{p:Prop}(h:p:=by
  go_wp2_with fail
  go_quiet (fail)
  go_wp2_with fail
  go_quiet (fail)
  go_wp2_with fail
  obtain⟨hRR,hsy,hal,bj,hlc,hch,F',hF1,hF2⟩:=iM.out;rw[hRR];refine bodyPost_ret (v:=.tuple #[ae E,ae P]) Jt rfl ⟨rfl,⟨eG,fS,?_,hal,bj,hlc,F',hF1,hF2.below (show Below wr.heap.size wr _ from⟨rfl,rfl,rfl,aH,fun _ _=>rfl⟩)⟩,?_⟩
  ·exact hsy.aB (aq.bf (S:=fun _=>False) (show Below wr.heap.size wr _ from⟨rfl,rfl,rfl,aH,fun _ _=>rfl⟩)) id (fun _ _=>id)
  ·exact hch.trans (aq.bf (show Below wr.heap.size wr _ from⟨rfl,rfl,rfl,aH,fun _ _=>rfl⟩))):p:=h
theorem Mh{p:Prop}(h:p:=by
  go_enter func198,ntmps198
  go_wp2_with fail
  refine HS.mono ?_;rintro e w' ⟨rfl,hd⟩;have HD:=af hd;clear hd HS;go_wp2_with fail;go_ret;exact⟨rfl,HD⟩):p:=h
theorem Kv{p:Prop}(h:p:=by
  go_wp2_with fail
  go_quiet (fail)
  go_wp2_with fail
  go_ret
  exact⟨by rw[HE.out];rfl,⟨rfl,rfl,rfl,aH,fun _ _=>rfl⟩⟩):p:=h
theorem Rb{p:Prop}(h:p:=by
  rw[hfin.out];exact bodyPost_ret (results_none rfl _ _ _) rfl ⟨rfl,aj,I',H7,H8⟩):p:=h
section
attribute [local go_sem] fH
def RW.flat(x:RW):Prop:=∃a n c,x.items=.slice a n c
theorem RW.one{x:RW}(h:x.flat):∀u∈x.cells,u.oneCell'=true:=by
 obtain⟨a,n,c,h⟩:=h;intro u hu;simp only[RW.cells,h,er,List.not_mem_nil,or_false]at hu;rcases hu with rfl|rfl|rfl|rfl|rfl|rfl|rfl|rfl<;>rfl
def rwz:Value:=.agg #[.string ⟨#[]⟩,ae 0,aI,ae 0,ae 0,ae 0,ae 0,.bool false]
theorem Tryz.P8:(prog.info? 186).map (fun i=>(i.zero,i.size,i.bytes))=some (some rwz,8,88):=aP
theorem cG.push{v2:Value}{x:RW}(h:cG w sb sv ws c k)
  (hr:w2.ownsRow 0 186 8 v2 (ws.length+1) (xj ws++x.cells)) (hc:aq (fun b=>sv.ownBlock=some b) w w2):cG (w2.setCell (ai sb 0) v2) sb v2 (ws++[x]) c k:=by
 have hb2:ay w2 sb #[sv,ae c,ae k] 176:=h.blk.aB hc h.apart;have hne:v2.ownBlock≠some sb:=aZ hr hb2 aj;refine⟨?_,?_,hne⟩
 ·have:=hb2.set (o:=0) v2
  simpa using this
 ·have:=aR hr ((aq.refl (fun b=>b=sb) w2).setCell (p:=ai sb 0) rfl v2) (fun k hk e=>hne jr)
  simpa [xj]using this
theorem cG.aao(h:cG w sb sv ws c k)(x:Int):cG (w.setCell (ai sb 1) (ae x)) sb sv ws x k:=by
 refine⟨?_,aR h.row ((aq.refl (fun b=>b=sb) w).setCell (p:=ai sb 1) rfl _) (fun k hk e=>h.apart jr),h.apart⟩;have:=h.blk.set (o:=1) (ae x);simpa using this
theorem cG.Vm(h:cG w sb sv ws c k)(x:Int):cG (w.setCell (ai sb 2) (ae x)) sb sv ws c x:=by
 refine⟨?_,aR h.row ((aq.refl (fun b=>b=sb) w).setCell (p:=ai sb 2) rfl _) (fun k hk e=>h.apart jr),h.apart⟩;have:=h.blk.set (o:=2) (ae x);simpa using this
theorem Rd.next{tv:Value}{fS:List RW}{c' k':Int}{cs':Array Value}(h:Rd w rb sb tv sv ar ws c k)(hb:ay w rb cs 181)(hb':ay w' rb cs' 181)
  (hc:aq (fun b=>b=rb∨b=sb∨sv.ownBlock=some b) w w') (hs:cG w' sb eG fS c' k') (hl:fS.length≤1100000) (hw:∀x∈fS,x.inf.Wt 1∧∃a n c,x.items=.slice a n c):Rd w' rb sb tv eG ar fS c' k':=by
 refine⟨h.tok.aB hc (fun b hk e=>?_),hs,h.tr,aZ hs.row hb' aj,h.ne,h.few,hl,hw,h.tsz⟩;rcases e with e|e|e
 ·exact h.tr jr
 ·exact aZ h.tok h.sys.blk aj jr
 ·exact fw h.tok h.sys.row aj hk e
theorem aat(rb sb:Nat)(tv sv:Value)(ar:List Tk)(ws:List RW)(c k:Int)(I:Nat)(fin A:Int)(w:World)
  (hR:Rd w rb sb tv sv ar ws c k) (hb:ay w rb (aO sb tv I fin 0 A) 181) (hI:I≤ar.length) (h0:lU ws c (aS ar I)≠0):
  Calls prog 89 #[ax rb] w fun e w'=>e=.returned (.tuple #[])∧ay w' rb (aO sb tv I fin (lU ws c (aS ar I)) (cE ar fin I)) 181∧aq (fun b=>b=rb) w w':=by
 have rM:=hR.few
 by_cases hn:iG ws (aS ar I)=0
 ·have O3:16≤c:=by
   unfold lU at h0;rw[aG hn]at h0;rcases Int.lt_or_le c 16 with h|h
   ·rw[az ag]at h0;exact absurd rfl h0
   ·exact h
  have hE:lU ws c (aS ar I)=8:=by unfold lU;rw[aG hn,aG O3]
  rw[hE];have HN:=af (Hf rb sb tv sv ar ws c k I fin A w hR hb hI hn);have HX:=af (fun (w':World) (bL:Below w.heap.size w w')=>su rb sb tv ar I I fin A 8 w' ag ag ((bL.block _ hb.lt).trans hb) (hR.aB (aq.bf bL)).tok hR.tr);have HR:=af hR;have HB:=af hb;obtain⟨t,ht⟩:=ak (aS ar I);rw[←ht]at HN;clear hR hb h0 hn hE ht;go_enter func89,ntmps89;go_wp2_with fail;refine HN.mono ?_;rintro e w1 ⟨rfl,h1⟩;have hb1:ay w1 rb (aO sb tv I fin 0 A) 181:=(h1.block _ HB.lt).trans HB;have hR1:=HR.aB (aq.bf h1);obtain⟨r0,r1,r2,r3,r4,r5⟩:=hb1.aO;obtain⟨s0,s1,s2⟩:=hR1.sys.cells;have H1:=af h1;clear h1 HN hb1 hR1;go_wp2_with fail;refine(HX _ H1).mono ?_;rintro e w2 ⟨rfl,hb2,hc2⟩;have H3:=af hb2;have H4:=af ((aq.bf H1).trans hc2);clear hb2 hc2 HX r0 r1 r2 r3 r4 r5 s0 s1 s2;go_wp2_with fail;exact bodyPost_ret (results_none rfl _ _ _) rfl ⟨rfl,H3,H4⟩
 ·have hE:lU ws c (aS ar I)=iG ws (aS ar I):=by unfold lU;rw[az hn]
  rw[hE];have HN:=af (Mq rb sb tv sv ar ws c k I fin A w hR hb hI hn);clear hR hb h0 hn hE;go_enter func89,ntmps89;go_wp2_with fail;refine HN.mono ?_;rintro e w1 ⟨rfl,h1,h2⟩;have H1:=af h1;have H2:=af h2;clear h1 h2 HN;go_wp2_with fail;exact bodyPost_ret (results_none rfl _ _ _) rfl ⟨rfl,H1,H2⟩
theorem Tj(rb sb:Nat)(tv sv:Value)(ar:List Tk)(ws:List RW)(c k:Int)(I:Nat)(fin A:Int)(w:World)
  (hR:Rd w rb sb tv sv ar ws c k) (hb:ay w rb (aO sb tv I fin 0 A) 181) (hI:I≤ar.length) (hc0:0≤c) (h0:lU ws c (aS ar I)=0):
  Calls prog 89 #[ax rb] w fun e w'=>e=.returned (.tuple #[])∧ay w' rb (aO sb tv ((I+1:Nat):Int) fin 0 A) 181∧(∃eG,cG w' sb eG (ws++[⟨aS ar I,c,aI,⟨0,0,0,0,false⟩,[]⟩]) (c+1) k∧Lc w sv eG)∧aq (fun b=>b=rb∨b=sb∨sv.ownBlock=some b) w w':=by
 have rM:=hR.few;have hwf:=hR.uD
 have hn:iG ws (aS ar I)=0:=by
  unfold lU at h0;rcases Classical.em (iG ws (aS ar I)=0)with h|h
  ·exact h
  ·rw[az h]at h0;exact absurd h0 h
 have O3:c<16:=by
  unfold lU at h0;rw[aG hn]at h0;rcases Int.lt_or_le c 16 with h|h
  ·exact h
  ·rw[aG h]at h0;cases h0
 have ad0:ws.length<40:=by
  unfold iG at hn;rcases kh ws.length 40 with h|h
  ·exact h
  ·rw[aG h]at hn;split at hn<;>cases hn
 have HN:=af (Hf rb sb tv sv ar ws c k I fin A w hR hb hI hn);obtain⟨t,ht⟩:=ak (aS ar I);rw[←ht]at HN ⊢;obtain⟨ad,cap,hv,hcap,_⟩:=bo hR.sys.row;have rY:rb≠sb:=hR.ne;have hsr:sb≠rb:=hR.ne.symm;have HR:=af hR;have HB:=af hb;subst hv;clear hR hb h0 hn ht;go_enter func89,ntmps89;go_wp2_with fail;refine HN.mono ?_;rintro e w1 ⟨rfl,h1⟩;have hb1:ay w1 rb (aO sb tv I fin 0 A) 181:=(h1.block _ HB.lt).trans HB;have hR1:=HR.aB (aq.bf h1);obtain⟨r0,r1,r2,r3,r4,r5⟩:=hb1.aO;obtain⟨s0,s1,s2⟩:=hR1.sys.cells;have kB:=hb1.frozen 2;obtain⟨W,hW⟩:=ak (w1.setCell (ai rb 2) (ae ((I:Int)+1)):World)
 have hbW:ay W rb (aO sb tv ((I+1:Nat):Int) fin 0 A) 181:=by
  rw[hW];have:=hb1.set (o:=2) (ae ((I:Int)+1));simpa [aO]using this
 have jx:aq (fun b=>b=rb) w W:=RM;have bu:=af hbW;have dW:=af jx;clear h1 HN hb1 hR1 hbW jx;go_upto_region 5 with fail
 rw[←hW];clear hW r0 r1 r2 r3 r4 r5 s0 s1 s2 kB;obtain⟨r0,r1,r2,r3,r4,r5⟩:=bu.aO;have hRW:=HR.aB dW;obtain⟨s0,s1,s2⟩:=hRW.sys.cells;have q0:=hRW.sys.blk.frozen 0;have hrl:=bu.lt;have hsl:=hRW.sys.blk.lt;have HN:=af hRW.sys.apart;have HNR:=af hRW.sr;have hown:=af hRW.sys.row;have fc:=af hRW;obtain⟨i0,hi,hz0,hz1,hz2⟩:=info_parts Tryz.P8;have HI:=af (aY hi (aY hz0 (aY hz1 hz2)));have H1:=af (RW.one (x:=⟨t,c,aI,⟨0,0,0,0,false⟩,[]⟩) ⟨_,_,_,rfl⟩);have HC:=af (show ws.length+1≤maxLen by unfold maxLen;omega);have eO:=af (show(ws.length+1)*88≤140737488355328 by omega);have hne:Nonempty {w':World // aq (fun b=>(Value.slice ad ws.length cap).ownBlock=some b) W w'}:=⟨⟨W,aq.refl _ _⟩⟩;have k0:∀u:{w':World // aq (fun b=>(Value.slice ad ws.length cap).ownBlock=some b) W w'},u.val.cell? (ai rb 0)=some (ax sb):=fun u=>(u.property.cell (p:=ai rb 0) hrl HNR).trans r0
 have k1:∀u:{w':World // aq (fun b=>(Value.slice ad ws.length cap).ownBlock=some b) W w'},u.val.cell? (ai sb 0)=some (.slice ad ws.length cap):=fun u=>(u.property.cell (p:=ai sb 0) hsl HN).trans s0
 have k2:∀u:{w':World // aq (fun b=>(Value.slice ad ws.length cap).ownBlock=some b) W w'},u.val.cell? (ai sb 1)=some (ae c):=fun u=>(u.property.cell (p:=ai sb 1) hsl HN).trans s1
 clear r0 r1 r2 r3 r4 r5 s0 s1 s2 hRW hi hz0 hz1 hz2;refine ly (C:=eM fun w'=>aq (fun b=>(Value.slice ad ws.length cap).ownBlock=some b) W w') 24 [20,21] ⟨W.drew,(aq.refl _ W).drew⟩ aP aP rfl ?_;rw[show List.range 24=[0,1,2,3,4,5,6,7,8,9,10,11,12,13,14,15,16,17,18,19,20,21,22,23]from rfl]
 repeat (refine eV rfl rfl (fun K hK=>?_);go_simp;refine hK _ ?_;clear hK K)
 have hKW:=af (show ∀j u,([.string t,ae c,aI,ae 0,ae 0,ae 0,ae 0,.bool false]:List Value)[j]?=some u→(W.drew.alloc (.cells #[.string t,ae c,aI,ae 0,ae 0,ae 0,ae 0,.bool false] 186 (0,0))).cell? ((Addr.mk W.heap.size 0 none).add j)=some u from World.news_of_block (fr:=(0,0)) (heap_alloc_new W.drew _));refine oG rfl rfl (aD W.heap.size 1 1) (W.drew.alloc (.cells #[.string t,ae c,aI,ae 0,ae 0,ae 0,ae 0,.bool false] 186 (0,0))) ((aq.refl _ W).drew.alloc _) (aC dB) ?_;obtain⟨hi,hz0,hz1,hz2⟩:=HI.out;refine CG rfl rfl (W.drew.alloc (.cells #[.string t,ae c,aI,ae 0,ae 0,ae 0,ae 0,.bool false] 186 (0,0))) rfl _ _ _ rfl 0 186 i0 rwz 8 88 underlying174 hi hz0 hz1 hz2 rfl aj (.slice ad ws.length cap) ws.length (xj ws) rfl (hown.drew.alloc _) (Addr.mk W.heap.size 0 none) 1 1 [.string t,ae c,aI,ae 0,ae 0,ae 0,ae 0,.bool false] rfl rfl hKW H1 aj HC eO (bU _) (W.heap.size+1) aF (fun w' hg=>((aq.refl _ W).drew.alloc _).trans ((aq.dP hg).mono (fun k _ e=>e.symm))) ?_;intro gg gX w1 bP hown1 hgrow hat j9;go_simp
 repeat (refine eV rfl rfl (fun K hK=>?_);go_simp;refine hK _ ?_;clear hK K)
 have k9:=fc.sys.push (x:=⟨t,c,aI,⟨0,0,0,0,false⟩,[]⟩) hown1 bP;have mY:=(bu.aB bP HNR).setOther (a:=ai sb 0) hsr (aD gg (ws.length+1) gX)
 have iQ:aq (fun b=>b=rb∨b=sb∨(Value.slice ad ws.length cap).ownBlock=some b) w (w1.setCell (ai sb 0) (aD gg (ws.length+1) gX)):=by
  have h1:aq (fun b=>b=rb∨b=sb∨(Value.slice ad ws.length cap).ownBlock=some b) w w1:=(dW.mono (fun k _ e=>aC e)).trans (bP.mono (fun k _ e=>aA (aA e)));exact h1.setCell (p:=ai sb 0) (aA (aC rfl)) _
 have iR:Hid (Lc w (Value.slice ad ws.length cap) (aD gg (ws.length+1) gX)):=fun k hk=>by simp only[Value.ownBlock,Option.some.injEq]at hk;subst hk;exact hat.imp id (fun e=>by rw[e];have:=dW.size;omega)
 have d0:=k1 ⟨w1,bP⟩;have d1:w1.frozen? (ai sb 0)=false:=(fc.sys.blk.aB bP HN).frozen 0;have d2:=k0 ⟨w1,bP⟩;have d3:=k2 ⟨w1,bP⟩;have d4:w1.frozen? (ai sb 1)=false:=(fc.sys.blk.aB bP HN).frozen 1;simp only at d0 d2 d3;have HPS:=af (k9.aao (c+1));have lf:=af (mY.setOther (a:=ai sb 1) hsr (ae (c+1)));have HCZ:=af (iQ.setCell (p:=ai sb 1) (aA (aC rfl)) (ae (c+1)));refine iV ?_;simp only[List.drop_succ_cons,List.drop_zero];clear k9 mY iQ hgrow hown1 hat j9 k0 k1 k2 hne;go_wp2_with fail;go_end0;exact⟨rfl,lf,⟨_,HPS,iR⟩,HCZ⟩
end
section
attribute [local go_sem] fH
def G8(rb sb:Nat)(tv sv:Value)(ws:List RW)(c k:Int)(I:Nat)(fin A:Int)(w:World)(R:(ByteArray×List AI×Nat) ⊕ (Int×Int))(e:Ending)(w':World):Prop:=
 e=.returned (.tuple #[])∧
 match R with
 |.inr (E,P)=>E≠0∧∃J:Nat,ay w' rb (aO sb tv J fin E P) 181∧aq (fun b=>b=rb) w w'
 |.inl (t,l,I')=>ay w' rb (aO sb tv I' fin 0 A) 181∧aq (fun b=>b=rb∨b=sb∨sv.ownBlock=some b) w w'∧
   ∃eG v,(∃a n c,v=.slice a n c)∧cG w' sb eG (ws++[⟨t, -1,v,oP l,trees l⟩]) c (k+I' - ((I:Int) - 1))∧Lc w sv eG∧∃F:Nat→Prop,(∀b,F b→w.heap.size≤b)∧fk F w' v (trees l)
theorem Yy(w:World)(t:TypeId):∀j (h:j<[iw].length),(w.alloc (.cells #[.string iw] t)).cell? (ai w.heap.size j)=some (.string [iw][j]):=by
 intro j h;have h1:j<1:=h
 match j,h1 with
 |0,_=>simp
theorem aaX{t:ByteArray}(h:iG ws t=0):gK t=true∧ws.length<40:=by
 unfold iG at h
 cases hh:gK t with
 |false=>rw[hh]at h;simp at h
 |true=>
  rw[hh]at h;refine⟨rfl,?_⟩;rcases kh ws.length 40 with h2|h2
  ·exact h2
  ·simp[h2]at h
theorem acD{I:Nat}(h:gK (aS ar I)=true):I<ar.length:=by
 rcases kh I ar.length with h2|h2
 ·exact h2
 ·have:aS ar I=⟨#[]⟩:=by simp[aS,List.getD,jh h2]
  rw[this]at h;exact absurd (lZ []) (GH h)
theorem Z9(rb sb:Nat)(tv sv:Value)(ar:List Tk)(ws:List RW)(c k:Int)(I f:Nat)(fin A:Int)(w:World)
  (hR:Rd w rb sb tv sv ar ws c k) (hb:ay w rb (aO sb tv I fin 0 A) 181) (hI:I≤ar.length) (hn:iG ws (aS ar I)≠0):
  Calls prog 90 #[ax rb] w (G8 rb sb tv sv ws c k I fin A w (pColon ws k ar fin f I)):=by
 have rM:=hR.few
 have hE:pColon ws k ar fin f I=.inr (iG ws (aS ar I),cE ar fin I):=by
  unfold pColon iG;unfold iG at hn
  cases hnm:gK (aS ar I)with
  |false=>simp
  |true=>
   rw[hnm]at hn;simp only[Bool.true_eq_false,if_false]at hn ⊢;rcases kh ws.length 40 with h|h
   ·rw[az (show ¬40≤ws.length by omega)]at hn;exact absurd rfl hn
   ·rw[aG h,aG h]
 rw[hE];obtain⟨r0,r1,r2,r3,r4,r5⟩:=hb.aO;have HN:=af (Mq rb sb tv sv ar ws c k I fin A w hR hb hI hn);have HE:=af hn;have hI2:(I:Int)≤1100000:=ag;have hI3:(0:Int)≤(I:Int):=ag;clear hR hb hn hE;go_enter func90,ntmps90;go_wp2_with fail;refine HN.mono ?_;rintro e w1 ⟨rfl,h1,h2⟩;have H1:=af h1;have H2:=af h2;clear h1 h2 HN;go_wp2_with fail;exact bodyPost_ret (results_none rfl _ _ _) rfl ⟨rfl,HE,I,H1,H2⟩
theorem U5(rb sb:Nat)(tv sv:Value)(ar:List Tk)(ws:List RW)(c k:Int)(I f:Nat)(fin A:Int)(w:World)
  (hR:Rd w rb sb tv sv ar ws c k) (hb:ay w rb (aO sb tv I fin 0 A) 181) (hf:ar.length+1≤f) (hI1:1≤I) (hk0:0≤k) (bA:k≤400) (hn:iG ws (aS ar I)=0):
  Calls prog 90 #[ax rb] w (G8 rb sb tv sv ws c k I fin A w (pColon ws k ar fin f I)):=by
 have rM:=hR.few;have hwf:=hR.uD;obtain⟨hnm,pQ⟩:=aaX hn;have hIl:=acD hnm;obtain⟨R,hRR⟩:=ak (pColon ws k ar fin f I);rw[←hRR];unfold pColon at hRR;rw[az (by rw[hnm];simp),az ag]at hRR;have HN:=af (Hf rb sb tv sv ar ws c k I fin A w hR hb ag hn);have Mi:=af hR.tsz;obtain⟨t,ht⟩:=ak (aS ar I);rw[←ht]at HN hRR;obtain⟨r0,r1,r2,r3,r4,r5⟩:=hb.aO;have hI2:(I:Int)≤1100000:=ag;have hI3:(1:Int)≤(I:Int):=ag;have Dg:=hR.wok;have HR:=af hR;have HB:=af hb;have HRR:=af hRR;have TH:=af Dg;clear hR hb hn ht hnm hRR Dg;go_enter func90,ntmps90;go_wp2_with fail;refine HN.mono ?_;rintro e w1 ⟨rfl,h1⟩;have hb1:ay w1 rb (aO sb tv I fin 0 A) 181:=(h1.block _ HB.lt).trans HB;clear r0 r1 r2 r3 r4 r5;obtain⟨r0,r1,r2,r3,r4,r5⟩:=hb1.aO;have kB:=hb1.frozen 2;obtain⟨W,hW⟩:=ak (w1.setCell (ai rb 2) (ae ((I:Int)+1)):World)
 have hbW:ay W rb (aO sb tv ((I+1:Nat):Int) fin 0 A) 181:=by
  rw[hW];have:=hb1.set (o:=2) (ae ((I:Int)+1));simpa [aO]using this
 have jx:aq (fun b=>b=rb) w W:=RM;have bu:=af hbW;have dW:=af jx;clear h1 HN hb1 hbW jx;go_upto_region 4 with fail
 rw[←hW];clear hW r0 r1 r2 r3 r4 r5 kB;have hW4:Rd (W.alloc (.cells #[.string iw] 9 (0,0))) rb sb tv sv ar ws c k:=(HR.aB dW).aB ((aq.refl _ W).alloc _);have qK:=af (NF (ar.length+1) rb sb tv sv ar ws c k (I+1) f fin A 0 [iw] W.heap.size 1 (W.alloc (.cells #[.string iw] 9 (0,0))) hW4 (bu.alloc _) ag ag ag ag ag aj aj (by have:=bu.lt;omega) (Yy W 9));have GQ:(W.alloc (.cells #[.string iw] 9 (0,0))).heap.size=W.heap.size+1:=aF;obtain⟨W4,B5⟩:=ak (W.alloc (.cells #[.string iw] 9 (0,0)):World);rw[←B5]at qK hW4 GQ;have N4:aq (fun b=>b=rb) w W4:=by rw[B5];exact dW.alloc _
 have HR4:=af hW4;have HC4:=af N4;have ael:=af GQ;have H4E:=af B5;clear hW4 N4 GQ B5 bu dW;go_wp2_with fail;rw[show Obj.cells #[Value.string ⟨#[59]⟩] 9=Obj.cells #[Value.string iw] 9 from rfl,←H4E.out];refine qK.mono ?_;intro e w5 hP
 cases hp:pItems ws ar fin f [iw] 0 [] (I+1)with
 |inr q=>
  obtain⟨E,P⟩:=q;rw[hp]at hP;obtain⟨ad,m,cap,J,rfl,hE,cZ,dG⟩:=hP;have hfin:Hid (R=.inr (E,P)):=by show R=_;rw[HRR.out,hp]
  have hEb:(E == 0)=false:=wG;have hEn:(E != 0)=true:=wG;obtain⟨r0,r1,r2,r3,r4,r5⟩:=cZ.aO;have dI:=af cZ;have jK:=af (HC4.trans dG);have HE:=af hE;clear cZ dG hE qK HRR hp;go_wp2_with fail;rw[hfin.out];exact bodyPost_ret (results_none rfl _ _ _) rfl ⟨rfl,HE,J,dI,jK⟩
 |inl q=>
  obtain⟨l,t',I'⟩:=q;rw[hp]at hP;obtain⟨v,xs,F,rfl,cZ,dG,cM⟩:=hP;obtain⟨o1,o2,o3,o4⟩:=wk ws ar fin TH f [iw] 0 [] (I+1) l t' I' hp PZ (fQ.nil 0);have hrr:=HRR.out;rw[hp]at hrr;simp only at hrr;obtain⟨ad,cap,hv,hcap,_⟩:=bo cM.row;subst hv
  obtain⟨G,hlo,QT⟩:∃G:Nat→Prop,(∀b,G b→w.heap.size≤b)∧fM G w5 [⟨t, -1,.slice ad l.length cap,oP l,trees l⟩]:=by
   refine⟨_,fun b hb=>?_,fun x hx _=>by rw[p6.1 hx];exact⟨_,cM.A2 w5 (fun _ _=>rfl)⟩⟩;rcases hb with hb|hb
   ·exact bB HC4.size (cM.fp b hb).1
   ·exact bB HC4.size (cR cM.row hb)
  have wu:=af hlo;have HT5:=af QT;clear hlo QT;have hwt:∃r:Nat,r≤0+(I' - (I+1))∧(bS l).Wt r:=o4.upTo l.length aH;have hR5:=HR4.aB dG;have HAL:=af (cM.JK o4 ag (by simp at o3;omega) w5 (fun _ _=>rfl) (fun _ _=>rfl) hR5.sys);have hw:oP l={bS l with steps:=(bS l).steps+1}:=rfl;obtain⟨i,hi⟩:=ak (bS l);rw[←hi]at hrr HAL hwt hw;obtain⟨rr,_,hwt⟩:=hwt;have hs0:=hwt.s0;have hs1:=hwt.s1;obtain⟨r0,r1,r2,r3,r4,r5⟩:=cZ.aO;have dI:=af cZ;have jK:=af (HC4.trans dG);have mz:=af hR5;have HF:=af hrr;have HWI:=af hw;have hI4:(I:Int)+1<(I':Int):=ag;have hI5:(I':Int)≤1100000:=ag;obtain⟨p,hp1⟩:∃p:Nat,I'=p+1:=⟨I' - 1,ag⟩;have e1:(I':Int) - 1=(p:Int):=ag;have hpt:p≤ar.length:=ag;have HP1:=af hp1;simp only[Inf.val]at HAL;clear cZ dG hR5 hrr hw hi qK HRR hp cM o1 o2 o3 o4 hwt hp1;go_wp2_with fail;refine HAL.mono ?_;rintro e w6 ⟨rfl,kL⟩;have jZ:ay w6 rb (aO sb tv I' fin 0 A) 181:=(kL.block _ dI.lt).trans dI;have hR6:=mz.aB (aq.bf kL);have hT6:=HT5.below kL;obtain⟨b1,hb1⟩:=ak (w6.heap.size);obtain⟨X,hX⟩:=ak (w6.alloc (.cells #[ae i.need,ae i.aM,ae i.high,ae i.steps,.bool i.str] 36 (0,0)):World);have aN:ay X b1 #[ae i.need,ae i.aM,ae i.high,ae i.steps,.bool i.str] 36:=by rw[hX,hb1];exact bJ w6 _ _
  have hBX:ay X rb (aO sb tv I' fin 0 A) 181:=by rw[hX];exact jZ.alloc _
  have p5:Rd X rb sb tv sv ar ws c k:=by rw[hX];exact hR6.aB ((aq.refl _ w6).alloc _)
  have gS:aq (fun b=>b=rb) w X:=by rw[hX];exact(jK.trans (aq.bf kL)).alloc _
  have hTX:=hT6.below (show Below w6.heap.size w6 X by rw[hX];exact aQ.alloc aH _);have hnb:b1≠rb:=by have:=jZ.lt;omega
  have abC:rb≠b1:=hnb.symm;have hwb:w.heap.size≤b1:=by rw[hb1];exact bB jK.size kL.size
  obtain⟨Y,hY⟩:=ak (X.setCell (ai b1 3) (ae (i.steps+1)):World);have jX:aq (fun b=>b=b1) X Y:=by rw[hY];exact(aq.refl (fun b=>b=b1) X).setCell (p:=ai b1 3) rfl _
  have eW:ay Y b1 #[ae i.need,ae i.aM,ae i.high,ae (i.steps+1),.bool i.str] 36:=by rw[hY];have:=aN.set (o:=3) (ae (i.steps+1));simpa using this
  have hBY:=hBX.aB jX abC;have mm:tv.ownBlock≠some b1:=aZ p5.tok aN aj;have hns:sv.ownBlock≠some b1:=aZ p5.sys.row aN aj;have Kp:sb≠b1:=pK p5.sys.blk aN aj;have hRY:Rd Y rb sb tv sv ar ws c k:=⟨p5.tok.aB jX (fun b hb e=>mm uH),p5.sys.aB jX Kp (fun b hb e=>hns uH),p5.tr,p5.sr,p5.ne,p5.few,p5.uD,p5.wok,p5.tsz⟩;have hCY:aq (fun b=>b=rb) w Y:=gS.fz jX (fun k hk e=>ag);have c3:X.cell? (ai b1 3)=some (ae i.steps):=aN.cell 3 _ rfl;have f3:=aN.frozen 3;have HTY:=af (hTX.one jX aN aj);clear hTX hT6 HT5;have px:=af eW;have cx:=af hBY;have HRY:=af hRY;have kN:=af hCY;have HX:=af hX;have HB1:=af hb1;clear kL jZ hR6 aN hBX p5 gS jX eW hBY mm hns hRY hCY HAL dI jK mz r0 r1 r2 r3 r4 r5 hX hb1;go_upto_region 7 with fail
  rw[←HX.out,←HB1.out];go_upto_region 8 with fail
  rw[←hY];obtain⟨r0,r1,r2,r3,r4,r5⟩:=cx.aO;obtain⟨s0,s1,s2⟩:=HRY.sys.cells;have y3:Y.cell? (ai b1 3)=some (ae (i.steps+1)):=px.cell 3 _ rfl;have HXF:=af (fun (w':World) (E:Int) (bL:Below Y.heap.size Y w')=>su rb sb tv ar p I' fin A E w' ag ag ((bL.block _ cx.lt).trans cx) (HRY.aB (aq.bf bL)).tok HRY.tr);clear c3 f3 hY
  by_cases h7:1000000000<i.steps+1
  ·have hfin:Hid (R=.inr (7,cE ar fin p)):=by
    show R=_;rw[HF.out,aG h7,show I' - 1=p by have:=HP1.out;omega]
   clear HF;go_wp2_with fail;refine(HXF _ _ aQ).mono ?_;rintro e w7 ⟨rfl,iU,gP⟩;have H7:=af iU;have H8:=af (kN.trans gP);clear iU gP r0 r1 r2 r3 r4 r5 s0 s1 s2 y3;go_wp2_with fail;exact Rb
  ·have hrr:=HF.out
   rw[az h7]at hrr;have h7':¬1000000000<i.steps+1:=h7
   by_cases h8:400<k+I' - ((I:Int) - 1)
   ·have hfin:Hid (R=.inr (8,cE ar fin p)):=by
     show R=_;rw[hrr,aG h8,show I' - 1=p by have:=HP1.out;omega]
    clear HF hrr h7;go_wp2_with fail;go_quiet (fail);go_wp2_with fail;refine(HXF (Y.drewN nq) 8 ⟨rfl,rfl,rfl,aH,fun _ _=>rfl⟩).mono ?_;rintro e w7 ⟨rfl,iU,gP⟩;have H7:=af iU;have H8:=af ((kN.trans (aq.bf (show Below Y.heap.size Y (Y.drewN nq)from⟨rfl,rfl,rfl,aH,fun _ _=>rfl⟩))).trans gP);clear iU gP r0 r1 r2 r3 r4 r5 s0 s1 s2 y3;go_wp2_with fail;exact Rb
   ·have hfin:Hid (R=.inl (t,l,I')):=by
     show R=_;rw[hrr,az h8]
    clear HF hrr h7 HXF;go_wp2_with fail;go_quiet (fail);have hbq:Below Y.heap.size Y (Y.drewN nq):=dz;obtain⟨V,hV⟩:=ak (Y.drewN nq:World);rw[←hV]at hbq;go_wp2_with fail;rw[←hV];have oC:ay V rb (aO sb tv I' fin 0 A) 181:=(hbq.block _ cx.lt).trans cx;have hRV:=HRY.aB (aq.bf hbq);have hKV:ay V b1 #[ae i.need,ae i.aM,ae i.high,ae (i.steps+1),.bool i.str] 36:=(hbq.block _ px.lt).trans px;have hCV:aq (fun b=>b=rb) w V:=kN.trans (aq.bf hbq);have hTV:=HTY.below hbq;clear r0 r1 r2 r3 r4 r5 s0 s1 s2 y3 hV hbq;obtain⟨r0,r1,r2,r3,r4,r5⟩:=oC.aO;obtain⟨s0,s1,s2⟩:=hRV.sys.cells;have s3:=hRV.sys.blk.frozen 2;obtain⟨Z,hZ⟩:=ak ((V.setCell (ai sb 2) (ae (k+I' - ((I:Int) - 1)))).drew:World);have iQ:aq (fun b=>b=sb) V Z:=by rw[hZ];exact((aq.refl (fun b=>b=sb) V).setCell (p:=ai sb 2) rfl _).drew
    have hsZ:cG Z sb sv ws c (k+I' - ((I:Int) - 1)):=by
     rw[hZ];exact(cG.Vm hRV.sys _).aB (aq.refl (fun _=>False) _).drew id (fun _ _=>id)
    have hBZ:=oC.aB iQ hRV.ne;have hKZ:=hKV.aB iQ Kp.symm;have hCZ:aq (fun b=>b=rb∨b=sb∨sv.ownBlock=some b) w Z:=(hCV.mono (fun k _ e=>aC e)).trans (iQ.mono (fun k _ e=>aA (aC e)));have hsr:=hRV.sr;have rY:rb≠sb:=hRV.ne;have UB:sb≠rb:=hRV.ne.symm;have HTZ:=af (hTV.one iQ hRV.sys.blk aj);clear hTV HTY;have lf:=af hBZ;have lL:=af hKZ;have HCZ:=af hCZ;have jF:=af hsZ;have HSR:=af hsr;clear iQ hsZ hBZ hKZ hCZ oC hRV hKV hCV cx HRY kN px;go_still_tail 20,aP;go_wp2_with fail;rw[←hZ];clear r0 r1 r2 r3 r4 r5 s0 s1 s2 s3 hZ;obtain⟨sad,xd,hsv,_,_⟩:=bo jF.row;obtain⟨i0,hi,hz0,hz1,hz2⟩:=info_parts Tryz.P8;have hwI:=HWI.out;have HI:=af (aY hi (aY hz0 (aY hz1 hz2)));have H1:=af (RW.one (x:=⟨t, -1,.slice ad l.length cap,oP l,trees l⟩) ⟨_,_,_,rfl⟩);have HLM:=af (show ws.length+1≤maxLen by unfold maxLen;omega);have eO:=af (show(ws.length+1)*88≤140737488355328 by omega);have hne:Nonempty {w':World // aq (fun b=>sv.ownBlock=some b) Z w'}:=⟨⟨Z,aq.refl _ _⟩⟩;have YB:sv.ownBlock≠some b1:=aZ jF.row lL aj;have k0:∀u:{w':World // aq (fun b=>sv.ownBlock=some b) Z w'},u.val.cell? (ai rb 0)=some (ax sb):=fun u=>(u.property.cell (p:=ai rb 0) lf.lt HSR).trans lf.aO.1
    have k1:∀u:{w':World // aq (fun b=>sv.ownBlock=some b) Z w'},u.val.cell? (ai sb 0)=some (.slice sad ws.length xd):=fun u=>((u.property.cell (p:=ai sb 0) jF.blk.lt jF.apart).trans jF.cells.1).trans (by rw[hsv])
    have kc:∀(j:Nat) (x:Value),#[ae i.need,ae i.aM,ae i.high,ae (i.steps+1),.bool i.str][j]?=some x→∀u:{w':World // aq (fun b=>sv.ownBlock=some b) Z w'},u.val.cell? (ai b1 j)=some x:=fun j x hx u=>(u.property.cell (p:=ai b1 j) lL.lt YB).trans (lL.cell j x hx)
    have m0:=kc 0 _ rfl;have m1:=kc 1 _ rfl;have m2:=kc 2 _ rfl;have m3:=kc 3 _ rfl;have m4:=kc 4 _ rfl;have HSV:=af hsv;have HWW:=af hwI;clear kc hi hz0 hz1 hz2 hsv hwI;refine ly (C:=eM fun w'=>aq (fun b=>sv.ownBlock=some b) Z w') 19 [15,16] ⟨Z.drew,(aq.refl _ Z).drew⟩ aP aP rfl ?_;rw[show List.range 19=[0,1,2,3,4,5,6,7,8,9,10,11,12,13,14,15,16,17,18]from rfl]
    repeat (refine eV rfl rfl (fun K hK=>?_);go_simp;refine hK _ ?_;clear hK K)
    obtain⟨cs,hcs⟩:=ak (#[.string t,ae (-1),.slice ad l.length cap,ae i.need,ae i.aM,ae i.high,ae (i.steps+1),.bool i.str]:Array Value);have hcl:cs.toList=(⟨t, -1,.slice ad l.length cap,oP l,trees l⟩:RW).cells:=by rw[hcs,HWW.out];rfl
    have hKW:=af (show ∀j u,cs.toList[j]?=some u→(Z.drew.alloc (.cells cs 186 (0,0))).cell? ((Addr.mk Z.heap.size 0 none).add j)=some u from World.news_of_block (fr:=(0,0)) (heap_alloc_new Z.drew _));refine oG rfl rfl (aD Z.heap.size 1 1) (Z.drew.alloc (.cells cs 186 (0,0))) ((aq.refl _ Z).drew.alloc _) (aC (by rw[hcs];go_simp)) ?_;obtain⟨hi,hz0,hz1,hz2⟩:=HI.out;refine CG rfl rfl (Z.drew.alloc (.cells cs 186 (0,0))) rfl _ _ _ rfl 0 186 i0 rwz 8 88 underlying174 hi hz0 hz1 hz2 rfl aj (.slice sad ws.length xd) ws.length (xj ws) rfl (by have h:=jF.row;rw[HSV.out]at h;exact h.drew.alloc _) (Addr.mk Z.heap.size 0 none) 1 1 cs.toList rfl (by rw[hcl];rfl) hKW (by rw[hcl];exact H1) aj HLM eO (bU _) (Z.heap.size+1) aF (fun w' hg=>((aq.refl _ Z).drew.alloc _).trans ((aq.dP hg).mono (fun k _ e=>by rw[HSV.out];exact e.symm))) ?_;intro gg gX w1 bP hown1 hgrow hat j9;rw[hcl]at hown1;go_simp
    repeat (refine eV rfl rfl (fun K hK=>?_);go_simp;refine hK _ ?_;clear hK K)
    have k9:=jF.push (x:=⟨t, -1,.slice ad l.length cap,oP l,trees l⟩) hown1 bP;have mY:=(lf.aB bP HSR).setOther (a:=ai sb 0) UB (aD gg (ws.length+1) gX)
    have iQ:aq (fun b=>b=rb∨b=sb∨sv.ownBlock=some b) w (w1.setCell (ai sb 0) (aD gg (ws.length+1) gX)):=by
     have h1:aq (fun b=>b=rb∨b=sb∨sv.ownBlock=some b) w w1:=HCZ.trans (bP.mono (fun k _ e=>aA (aA e)));exact h1.setCell (p:=ai sb 0) (aA (aC rfl)) _
    have iR:Hid (Lc w sv (aD gg (ws.length+1) gX)):=fun k hk=>by simp only[Value.ownBlock,Option.some.injEq]at hk;subst hk;rw[HSV.out];exact hat.imp id (fun e=>by rw[e];have:=HCZ.size;omega)
    have d0:=k1 ⟨w1,bP⟩;have d1:w1.frozen? (ai sb 0)=false:=(jF.blk.aB bP jF.apart).frozen 0;simp only at d0;have HTF:=af ((HTZ.aB bP (fun k cs _ hb e=>aZ jF.row hb aj e)).one ((aq.refl (fun b=>b=sb) w1).setCell (p:=ai sb 0) rfl (aD gg (ws.length+1) gX)) (jF.blk.aB bP jF.apart) aj);have HPS:=af k9;have gI:=af mY;have kG:=af iQ;refine iV ?_;simp only[List.drop_succ_cons,List.drop_zero];clear k9 mY iQ hgrow hown1 hat j9 k0 k1 m0 m1 m2 m3 m4 hne;go_wp2_with fail;rw[hfin.out];go_end0;exact⟨rfl,gI,kG,_,_,⟨_,_,_,rfl⟩,HPS,iR,G,wu,HTF _ (p6.2 rfl) aF⟩
theorem Wp(rb sb:Nat)(tv sv:Value)(ar:List Tk)(ws:List RW)(c k:Int)(I f:Nat)(fin A:Int)(w:World)
  (hR:Rd w rb sb tv sv ar ws c k) (hb:ay w rb (aO sb tv I fin 0 A) 181) (hf:ar.length+1≤f) (hI:I≤ar.length) (hI1:1≤I) (hk0:0≤k) (bA:k≤400):
  Calls prog 90 #[ax rb] w (G8 rb sb tv sv ws c k I fin A w (pColon ws k ar fin f I)):=by
 by_cases hn:iG ws (aS ar I)=0
 ·exact U5 rb sb tv sv ar ws c k I f fin A w hR hb hf hI1 hk0 bA hn
 ·exact Z9 rb sb tv sv ar ws c k I f fin A w hR hb hI hn
end
section
abbrev LR:=(Int×Int)×List PE×Int×Int×List Int
abbrev wA(ws:List RW):Prop:=∀x∈ws,x.inf.Wt 1∧∃a n c,x.items=.slice a n c
def TrI(w:World)(F:Nat→Prop)(w':World)(ws:List RW):Prop:=∃F':Nat→Prop,(∀k,F' k→F k∨w.heap.size≤k)∧fM F' w' ws
def ada(w:World)(sb:Nat)(sv:Value)(F:Nat→Prop)(R:LR)(e:Ending)(w':World):Prop:=
 e=.returned (.tuple #[ae R.1.1,ae R.1.2])∧(∃eG fS,cG w' sb eG fS R.2.2.1 R.2.2.2.1∧rH R.2.1 R.2.2.2.2 fS∧wA fS∧Lc w sv eG∧TrI w F w' fS)∧aq (fun b=>b=sb∨sv.ownBlock=some b) w w'
def abA(F:Nat→Prop)(rb sb:Nat)(tv sv:Value)(s:ByteArray)(ar:List Tk)(w:World)(R:LR)(wr:World):Prop:=
 (∃(I a f:Nat) (es:List PE) (nv nt:Int) (code:List Int) (ws:List RW) (eG:Value),LD s ar R I a f es nv nt code ws∧Rd wr rb sb tv eG ar ws nv nt∧ay wr rb (aO sb tv I s.size 0 0) 181∧Lc w sv eG∧aq (fun b=>b=sb∨sv.ownBlock=some b) w wr∧TrI w F wr ws)∨
 (∃(E P:Int) (J:Nat) (es:List PE) (nv nt:Int) (code:List Int) (ws:List RW) (eG:Value),E≠0∧R=((E,P),es,nv,nt,code)∧ay wr rb (aO sb tv J s.size E P) 181∧cG wr sb eG ws nv nt∧rH es code ws∧wA ws∧Lc w sv eG∧aq (fun b=>b=sb∨sv.ownBlock=some b) w wr∧TrI w F wr ws)
theorem DI(h:jP es nv nt code)(hA:Alike es ws):ws.length≤1100000:=by have:=h.l;have:=hA.len;omega
theorem aq.doc{wr:World}(h:aq (fun b=>b=sb∨sv.ownBlock=some b) w wr)(hl:Lc w sv eG)(hrb:w.heap.size≤rb)(h2:aq (fun b=>b=rb∨b=sb∨eG.ownBlock=some b) wr w2):aq (fun b=>b=sb∨sv.ownBlock=some b) w w2:=
 h.fz h2 (fun k hk e=>e.elim (fun e=>ag) (fun e=>e.imp id (fun e=>(hl k e).elim id (fun e=>ag))))
theorem fM.three{wr:List RW}(h:fM F w ws)(hc:aq (fun b=>b=rb∨b=sb∨sv.ownBlock=some b) w w')(hb:ay w rb cs 181)(hs:cG w sb sv wr c k):fM F w' ws:=h.aB hc (fun j c _ hj e=>by
 rcases e with e|e|e
 ·subst e;exact absurd (kE hb hj) aj
 ·subst e;exact absurd (kE hs.blk hj) aj
 ·exact aZ hs.row hj aj e)
theorem aci(s:ByteArray)(sb:Nat)(sv:Value)(w:World)(hS:cG w sb sv ws nv nt)(hA:rH es code ws)(hF:fM F w ws)(hL:jP es nv nt code)(hw:wA ws)(hs:s.size≤1100000):
  Calls prog 64 #[ax sb,.string s] w (ada w sb sv F (ug s es nv nt code)):=by
 obtain⟨R,hR⟩:=ak (ug s es nv nt code);rw[←hR];unfold ug at hR;have hch:=MK s w ag;rw[Hq]at hch
 cases hbad:badF s s.size 0 with
 |some k=>
  rw[hbad]at hR hch;simp only at hR hch;have nJ:=af hch;have u6:=af (show ∃eG fS,cG w sb eG fS nv nt∧rH es code fS∧wA fS∧Lc w sv eG∧TrI w F w fS from⟨_,_,hS,hA,hw,Lc.refl _ _,F,fun _=>aC,hF⟩);subst hR;clear hch hbad hS hA hw hL;go_enter func64,ntmps64;go_wp2_with fail;refine nJ.mono ?_;rintro e w1 ⟨rfl,rfl⟩;clear nJ;go_wp2_with fail;exact bodyPost_ret (v:=.tuple #[ae 2,ae k]) Jt rfl ⟨rfl,u6,aq.refl _ _⟩
 |none=>
  rw[hbad]at hR hch;simp only at hR hch;obtain⟨q,hq⟩:=ak (0+Lib.runeCountFrom s s.size 0:Nat);rw[←hq]at hch;obtain⟨ar,htk⟩:=ak (cU s 0);have hfl:ar.length≤s.size:=by rw[htk];unfold cU;have:=Aj s (s.size - 0) 0;omega
  have sS:LD s ar R 0 0 (s.size+1) es nv nt code ws:=⟨⟨bU _,by rw[htk];rfl,hbad⟩,bU _,hA,hL,hR,ag,hw⟩;have M8:∀i,(aS ar i).size≤1000000000:=fun i=>by rw[htk];exact bB (Y2 s _ _ i) ag
  have lV:(0:Int)≤(q:Int):=ag;have nJ:=af hch;have HS:=af hS;have gi:=af sS;have Mi:=af M8;have qF:=af htk;have rJ:=hS.blk.lt;have hwf:=af (DI hL hA.toAlike);have HF0:=af hF;have hwk:=af hw;clear hch hbad hS hA hL hw sS M8 hR hq htk hF;go_enter func64,ntmps64;go_wp2_with fail;refine nJ.mono ?_;rintro e w1 ⟨rfl,rfl⟩;clear nJ;have kr:=af (fun w':World=>X8 s w' ag);go_wp2_with fail;refine(kr _).mono ?_;rintro e w2 ⟨tv,rfl,hown,bL⟩;rw[←qF.out]at hown;obtain⟨rb,hrb⟩:=ak (w1.heap.size);have hbR:ay w2 rb (aO sb aI 0 s.size 0 0) 181:=by rw[hrb];exact(bJ w1 (aO sb aI 0 s.size 0 0) 181).sub bL aF
  have hcR:Below w1.heap.size w1 w2:=(aQ.alloc aH _).trans (bL.mono aF);have hS2:cG w2 sb sv ws nv nt:=HS.aB (aq.bf (S:=fun _=>False) hcR) id (fun _ _=>id);have oV:tv.ownBlock≠some rb:=aZ hown hbR aj;have bl:qW w2 tv ar:=ownsRow_base hown (fun _ _=>bU _);obtain⟨tad,aed,Im,_,_⟩:=bo bl;have r1:w2.cell? (ai rb 1)=some aI:=hbR.cell 1 _ rfl;have f1:=hbR.frozen 1;obtain⟨W,hW⟩:=ak (w2.setCell (ai rb 1) tv:World);have jx:aq (fun b=>b=rb) w2 W:=by rw[hW];exact(aq.refl (fun b=>b=rb) w2).setCell (p:=ai rb 1) rfl _
  have hbW:ay W rb (aO sb tv ((0:Nat):Int) s.size 0 0) 181:=by rw[hW];have:=hbR.set (o:=1) tv;simpa [aO]using this
  have sF:w1.heap.size≤rb:=by rw[hrb];exact aH
  have hne:rb≠sb:=ag;have hsr:sv.ownBlock≠some rb:=aZ hS2.row hbR aj;have nU:Rd W rb sb tv sv ar ws nv nt:=⟨bl.aB jx (fun b hb e=>oV uH),hS2.aB jx (fun e=>hne e.symm) (fun b hb e=>hsr uH),oV,hsr,hne,ag,hwf,hwk,Mi⟩;have hCW:aq (fun b=>b=sb∨sv.ownBlock=some b) w1 W:=(aq.bf hcR).fz jx (fun k hk e=>ag);have HTI:Hid (TrI w1 F W ws):=af ⟨F,fun _=>aC,(HF0.below hcR).one jx hbR aj⟩;have HRD:=af nU;have bu:=af hbW;have dW:=af hCW;have HTV:=af Im;have rM:=nU.few;clear hown bL hbR hcR hS2 oV bl jx hbW nU hCW hsr HS hwf hwk kr;rw[Im]at hW;clear Im;rw[HTV.out];rw[←hrb];clear hrb;go_upto_region 6 with fail
  rw[←hW];clear hW r1 f1;go_loopw[45] (fun _ wr=>abA F rb sb tv sv s ar w1 R wr) (fun _ wr=>itM ar.length rb wr)
  case atStart=>exact aC ⟨0,0,s.size+1,es,nv,nt,code,ws,sv,gi,HRD,bu,Lc.refl _ _,dW,HTI⟩
  case round=>
   clear gi HRD bu dW HTI;have hrel':=af hrel;clear hrel;rcases hrel'.out with ⟨I,a,f,es',dZ,iL,code',fS,eG,sS,hrd,hb,hlc,hch,F',hF1,hF2⟩|⟨E,P,J,es',dZ,iL,code',fS,eG,hE,hRR,hb,hsy,hal,bj,hlc,hch,hti⟩
   ·clear hrel'
    have HF1:=af hF1;have HF2:=af hF2;clear hF1 hF2;have hM:=wB (n:=ar.length) hb;obtain⟨r0,r1,r2,r3,r4,r5⟩:=hb.aO;rw[HTV.out]at r1;have aet:=sS.le;have gi:=af sS;have HRD:=af hrd;have HB:=af hb;have iR:=af hlc;have nJ:=af hch;have HM:=af hM
    by_cases hI:I<ar.length
    ·have bV:(I:Int)<(ar.length:Int):=by omega
     have hd:decide ((I:Int)<(ar.length:Int))=true:=by simpa using hI
     clear sS hrd hb hlc hch hM;go_wp2_with fail;go_quiet (fail);have hbq:Below wr.heap.size wr (wr.drewN nq):=dz;obtain⟨V,hV⟩:=ak (wr.drewN nq:World);rw[←hV]at hbq;have Hp:=HRD.aB (aq.bf hbq);have fe:ay V rb (aO sb tv I s.size 0 0) 181:=(hbq.block _ HB.lt).trans HB;have dQ:=af (Ca rb sb tv ar I s.size 0 0 V ag ag fe Hp.tok);obtain⟨t,ht⟩:=ak (aS ar I);rw[←ht]at dQ;have aaR:=af (HF2.below hbq);have gB:=af (nJ.trans (aq.bf hbq));have lr:=af Hp;have cS:=af fe;have HT:=af ht;clear r0 r1 r2 r3 r4 r5 hbq Hp fe HRD HB nJ ht;go_wp2_with fail;rw[←hV];clear hV;refine dQ.mono ?_;rintro e w3 ⟨rfl,hb3⟩;have zL:=lr.aB (aq.bf hb3);have vp:ay w3 rb (aO sb tv I s.size 0 0) 181:=(hb3.block _ cS.lt).trans cS;obtain⟨r0,r1,r2,r3,r4,r5⟩:=vp.aO;have kB:=vp.frozen 2;have jk:=af (aaR.below hb3);have oQ:=af (gB.trans (aq.bf hb3));have HR3:=af zL;have eR:=af vp;obtain⟨X,hX⟩:=ak (w3.setCell (ai rb 2) (ae ((I:Int)+1)):World)
     have hbX:ay X rb (aO sb tv ((I+1:Nat):Int) s.size 0 0) 181:=by
      rw[hX];have:=vp.set (o:=2) (ae ((I:Int)+1));simpa [aO]using this
     have fo:aq (fun b=>b=rb) w3 X:=by rw[hX];exact(aq.refl (fun b=>b=rb) w3).setCell (p:=ai rb 2) rfl _
     have gS:aq (fun b=>b=sb∨sv.ownBlock=some b) w1 X:=oQ.fz fo (fun k hk e=>ag);have HTX:=af (jk.one fo vp aj);have bT:=af hbX;have eZ:=af (zL.aB fo);have eN:=af gS;clear dQ hb3 zL vp hbX fo gS gB lr cS
     by_cases g1:(t.toList == [118,97,114,105,97,98,108,101])=true
     ·have hg:((aS ar I).toList == [118,97,114,105,97,98,108,101])=true:=by rw[←HT.out];exact g1
      by_cases hE:lU fS dZ (aS ar (I+1))=0
      ·have rp:=af (Tj rb sb tv eG ar fS dZ iL (I+1) s.size 0 X eZ bT ag gi.inv.v0 hE)
       obtain⟨a2,f2,es2,AR⟩:=gi.VN qF hI hg hE;have HL2:=af AR;clear AR hE hg;go_upto_region 11 with fail
       rw[←hX];clear hX r0 r1 r2 r3 r4 r5 kB;go_wp2_with fail;refine rp.mono ?_;rintro e w4 ⟨rfl,hb4,⟨sv4,nR,hl4⟩,hc4⟩;have H4:=af (aY hb4 (aY nR (aY hl4 hc4)));clear hb4 nR hl4 hc4 rp;go_wp2_with fail;go_roundw
       case rel=>
        obtain⟨hb4,nR,hl4,hc4⟩:=H4.out
        exact aC ⟨I+2,a2,f2,es2,dZ+1,iL,code',_,sv4,HL2,eZ.next bT hb4 hc4 nR (DI HL2.inv HL2.alike.toAlike) HL2.ok,hb4,iR.trans (hl4.mono eN.size),eN.doc iR sF hc4,F',HF1,fun x hx hv=>by
         rcases List.mem_append.1 hx with hx|hx
         ·exact(HTX.three hc4 bT eZ.sys) x hx hv
         ·rw[p6.1 hx]at hv;have:=gi.inv.v0;simp only at hv;omega⟩
       case measure=>rw[wB H4.out.1,HM.out];have:=HL2.le;omega
      ·have rp:=af (aat rb sb tv eG ar fS dZ iL (I+1) s.size 0 X eZ bT ag hE)
       have ee:=af (gi.aak qF hI hg hE);obtain⟨E,hEE⟩:=ak (lU fS dZ (aS ar (I+1)));rw[←hEE]at rp ee hE;have HE:=af hE;clear hg hEE hE;go_upto_region 11 with fail
       rw[←hX];clear hX r0 r1 r2 r3 r4 r5 kB;go_wp2_with fail;refine rp.mono ?_;rintro e w4 ⟨rfl,hb4,hc4⟩;have H4:=af (aY hb4 hc4);clear hb4 hc4 rp;go_wp2_with fail;go_roundw
       case rel=>
        obtain⟨hb4,hc4⟩:=H4.out;exact aA ⟨E,_,I+1,es',dZ,iL,code',fS,eG,HE,ee,hb4,(eZ.aB hc4).sys,gi.alike,gi.ok,iR,eN.fz hc4 (fun k hk e=>ag),F',HF1,HTX.one hc4 bT aj⟩
       case measure=>rw[wj H4.out.1 HE.out,HM.out];omega
     ·have g1':(t.toList == [118,97,114,105,97,98,108,101])=false:=by simpa using g1
      have hg:((aS ar I).toList == [118,97,114,105,97,98,108,101])=false:=by rw[←HT.out];exact g1'
      have HG:=af hg;clear g1 hg
      by_cases g2:(t.toList == [58])=true
      ·have hg2:((aS ar I).toList == [58])=true:=by rw[←HT.out];exact g2
       have zg:=Wp rb sb tv eG ar fS dZ iL (I+1) (ar.length+1) s.size 0 X eZ bT aH ag ag gi.inv.t0 gi.inv.t1
       cases hp:pColon fS iL ar s.size (ar.length+1) (I+1)with
       |inr q=>
        obtain⟨E,P⟩:=q;rw[hp]at zg;have rp:=af zg;have ee:=af (gi.abm qF hI HG hg2 (ar.length+1) aH hp);clear zg hp hg2;go_upto_region 14 with fail
        rw[←hX];clear hX r0 r1 r2 r3 r4 r5 kB;go_wp2_with fail;refine rp.mono ?_;rintro e w4 ⟨rfl,hE,J,hb4,hc4⟩;have H4:=af (aY hE (aY hb4 hc4));clear hb4 hc4 rp hE;go_wp2_with fail;go_roundw
        case rel=>
         obtain⟨hE,hb4,hc4⟩:=H4.out;exact aA ⟨E,P,J,es',dZ,iL,code',fS,eG,hE,ee,hb4,(eZ.aB hc4).sys,gi.alike,gi.ok,iR,eN.fz hc4 (fun k hk e=>ag),F',HF1,HTX.one hc4 bT aj⟩
        case measure=>rw[wj H4.out.2.1 H4.out.1,HM.out];omega
       |inl q=>
        obtain⟨t',l,I'⟩:=q;rw[hp]at zg;have rp:=af zg;have HWO:=af (fun (v:Value) (hv:∃a n c,v=.slice a n c)=>gi.aa8 qF hI HG hg2 (ar.length+1) aH hp hv);clear zg hp hg2;go_upto_region 14 with fail
        rw[←hX];clear hX r0 r1 r2 r3 r4 r5 kB;go_wp2_with fail;refine rp.mono ?_;rintro e w4 ⟨rfl,hb4,hc4,sv4,v4,hv4,nR,hl4,F4,hf4,ht4⟩;obtain⟨hlt,a2,f2,es2,SI,AR⟩:=HWO.out v4 hv4;have H4:=af (aY hb4 (aY nR (aY hl4 hc4)));have HL2:=af AR;have rQ:=af hlt;have HT4:=af ht4;have HF4:=af hf4;clear ht4 hf4;clear hb4 nR hl4 hc4 rp HWO AR hlt;go_wp2_with fail;go_roundw
        case rel=>
         obtain⟨hb4,nR,hl4,hc4⟩:=H4.out
         exact aC ⟨I',a2,f2,es2,dZ,_,SI,_,sv4,HL2,eZ.next bT hb4 hc4 nR (DI HL2.inv HL2.alike.toAlike) HL2.ok,hb4,iR.trans (hl4.mono eN.size),eN.doc iR sF hc4,fun k=>F' k∨F4 k,fun k hk=>hk.elim (HF1 k) (fun e=>aA (bB eN.size (HF4 k e))),fun x hx hv=>by
          rcases List.mem_append.1 hx with hx|hx
          ·exact((HTX.three hc4 bT eZ.sys) x hx hv).mono (fun k _ hk _=>⟨aC hk,rfl⟩)
          ·rw[p6.1 hx];exact HT4.mono (fun k _ hk _=>⟨aA hk,rfl⟩)⟩
        case measure=>rw[wB H4.out.1,HM.out];have:=HL2.le;have:=rQ.out;omega
      ·have g2':(t.toList == [58])=false:=by simpa using g2
       have hg2:((aS ar I).toList == [58])=false:=by rw[←HT.out];exact g2'
       have ee:=af (gi.bad qF hI HG hg2);have HFA:=af (su rb sb tv ar I I s.size 0 3 w3 ag ag eR HR3.tok HR3.tr);clear g2 hg2 hX;go_wp2_with fail;refine HFA.mono ?_;rintro e w4 ⟨rfl,hb4,hc4⟩;have H4:=af (aY hb4 hc4);clear hb4 hc4 HFA r0 r1 r2 r3 r4 r5 kB;go_wp2_with fail;go_roundw
       case rel=>
        obtain⟨hb4,hc4⟩:=H4.out;exact aA ⟨3,_,I,es',dZ,iL,code',fS,eG,aj,ee,hb4,(HR3.aB hc4).sys,gi.alike,gi.ok,iR,oQ.fz hc4 (fun k hk e=>ag),F',HF1,jk.one hc4 eR aj⟩
       case measure=>rw[wj H4.out.1 aj,HM.out];omega
    ·have bV:¬(I:Int)<(ar.length:Int):=by omega
     have hd:decide ((I:Int)<(ar.length:Int))=false:=by simpa using hI
     have hRe:=af (sS.done hI);clear sS hrd hb hlc hch hM;go_wp2_with fail;go_quiet (fail);go_wp2_with fail;go_quiet (fail);go_wp2_with fail;rw[hRe.out];refine bodyPost_ret (v:=.tuple #[ae 0,ae 0]) Jt rfl ⟨rfl,⟨eG,fS,?_,gi.alike,gi.ok,iR,F',HF1,HF2.below (show Below wr.heap.size wr _ from⟨rfl,rfl,rfl,aH,fun _ _=>rfl⟩)⟩,?_⟩
     ·exact HRD.sys.aB (aq.bf (S:=fun _=>False) (show Below wr.heap.size wr _ from⟨rfl,rfl,rfl,aH,fun _ _=>rfl⟩)) id (fun _ _=>id)
     ·exact nJ.trans (aq.bf (show Below wr.heap.size wr _ from⟨rfl,rfl,rfl,aH,fun _ _=>rfl⟩))
   ·clear hrel'
    obtain⟨r0,r1,r2,r3,r4,r5⟩:=hb.aO;rw[HTV.out]at r1;have hEb:(E == 0)=false:=wG;have hEd:decide (E=0)=false:=wG;have iM:=af (aY hRR (aY hsy (aY hal (aY bj (aY hlc (aY hch hti))))));clear hE hRR hb hsy hal bj hlc hch hti
    by_cases hJ:J<ar.length
    ·have bV:(J:Int)<(ar.length:Int):=by omega
     have hd:decide ((J:Int)<(ar.length:Int))=true:=by simpa using hJ
     exact NCq
    ·have bV:¬(J:Int)<(ar.length:Int):=by omega
     have hd:decide ((J:Int)<(ar.length:Int))=false:=by simpa using hJ
     exact NCq
end
section
def startOf:Option PE→Option Int
 |some e=>if e.var=true then none else some e.place
 |none=>none
end
section
attribute [local go_sem] fH
theorem Jq(h:bX B w v l):∃a n c,v=.slice a n c:=by
 rcases h.2 with ⟨h,_⟩|⟨g',c',_,h,_⟩
 ·exact⟨_,_,_,h⟩
 ·exact⟨_,_,_,h⟩
theorem Tf{bb:Nat}{cv:Value}(h:dF w bb ev cv es nv nt code)(hc:0<code.length):wV w.heap.size w cv code:=by
 obtain⟨g,cap,hv,h1,h2,h3,h4,h5⟩:=cd h.bG hc;exact⟨g,cap,hv,ag,ag,fun i x hx=>h5 i _ (by rw[iH,hx];rfl)⟩
theorem cN.mono{iv:Value}(h:cN B w iv l)(hb:B≤C):cN C w iv l:=by
 rcases h with h|⟨pb,po,c,h1,h2,h3,h4⟩
 ·exact aC h
 ·exact aA ⟨pb,po,c,h1,h2,ag,h4⟩
theorem Fs(h:bX B w v l)(hb:C≤B):bX C w v l:=by
 refine⟨h.1,?_⟩;rcases h.2 with h|⟨g,cap,cur,h1,h2,h3⟩
 ·exact aC h
 ·exact aA ⟨g,cap,cur,h1,bB hb h2,h3⟩
end
section
structure JX where
 mb:Nat
 st:Int
 lv:Value
 cv:Value
structure SX where
 wp:Nat
 rv:Value
 vv:Value
 ov:Value
 iv:Value
def JX.rx(j:JX)(s:SX):RX:=⟨j.mb,s.wp,s.rv,j.st,j.lv,j.cv,s.vv,s.ov,s.iv⟩
def JX.J(j:JX)(b:Nat):Prop:=b=j.mb∨j.lv.ownBlock=some b∨j.cv.ownBlock=some b
def SX.W(s:SX)(b:Nat):Prop:=b=s.wp∨s.vv.ownBlock=some b∨s.ov.ownBlock=some b
theorem L6(j:JX)(s:SX)(b:Nat):(j.rx s).S b↔j.J b∨s.W b:=by
 unfold RX.S JX.J SX.W JX.rx
 constructor
 ·rintro (e|e|e|e|e|e)
  ·exact aC (aC e)
  ·exact aA (aC e)
  ·exact aC (aA (aC e))
  ·exact aC (aA (aA e))
  ·exact aA (aA (aC e))
  ·exact aA (aA (aA e))
 ·rintro ((e|e|e)|(e|e|e))
  ·exact aC e
  ·exact aA (aA (aC e))
  ·exact aA (aA (aA (aC e)))
  ·exact aA (aC e)
  ·exact aA (aA (aA (aA (aC e))))
  ·exact aA (aA (aA (aA (aA e))))
structure rC (B:Nat) (w:World) (j:JX) (wp:Nat) (rv:Value) (code:List Int) (m:MS):Prop where
 gy:∃cs,ay w j.mb cs 116∧tR (j.rx ⟨wp,rv,aI,aI,aI⟩) m cs
 fx:oy B w j.lv m.loops
 cD:bX B w j.cv m.calls
 bm:B≤j.mb
 len:m.loops.length≤2000000∧m.calls.length≤2000000∧m.at_≤code.length
structure sK (B:Nat) (w:World) (s:SX) (code:List Int) (u:MW):Prop where
 bK:ay w s.wp #[s.vv,s.ov,s.iv] 118
 gN:bX B w s.vv u.vars
 cY:bX B w s.ov u.outs
 ins:cN B w s.iv u.ins
 bG:wV B w s.rv code
 tY:∀k,s.vv.ownBlock=some k→s.ov.ownBlock≠some k
 bw:B≤s.wp
 len:u.outs.length≤2000000∧u.ins.length≤2000000∧u.vars.length≤1000∧code.length≤1000
section
variable{B:Nat}{w w':World}{j:JX}{s:SX}{code:List Int}{m m':MS}{u u':MW}
theorem KT{y:RX}(h:tR x m cs)(h1:y.lv=x.lv)(h2:y.cv=x.cv)(h3:y.wp=x.wp)(h4:y.rv=x.rv)(h5:y.st=x.st):tR y m cs:=
 ⟨h.mc,by rw[h1];exact h.qG,by rw[h2];exact h.sR,by rw[h3];exact h.fq,by rw[h4];exact h.eH,by rw[h5];exact h.c37,h.bh⟩
theorem acW(hj:rC B w j s.wp s.rv code m)(hw:sK B w s code u)(hs:∀b,j.J b→¬s.W b):aV B w (j.rx s) code m u:=by
 obtain⟨cs,k1,k2⟩:=hj.gy;obtain⟨l1,l2,l3⟩:=hj.len;obtain⟨o1,o2,o3,o4⟩:=hw.len;refine⟨⟨cs,k1,KT k2 rfl rfl rfl rfl rfl⟩,hj.fx,hj.cD,hw.bK,hw.gN,hw.cY,hw.ins,hw.bG,fun k hk=>?_,hw.tY,hj.bm,hw.bw,l1,l2,o1,o2,o3,o4,l3⟩;have:=hs k (aA (aA hk));exact⟨fun e=>this (aA (aC e)),fun e=>this (aA (aA e))⟩
theorem aV.job(h:aV B w x code m u):rC B w ⟨x.mb,x.st,x.lv,x.cv⟩ x.wp x.rv code m:=by
 obtain⟨cs,k1,k2⟩:=h.gy;obtain⟨l1,l2,_,_,_,_,l3⟩:=h.len;exact⟨⟨cs,k1,KT k2 rfl rfl rfl rfl rfl⟩,h.fx,h.cD,h.bm,l1,l2,l3⟩
theorem aV.ij(h:aV B w x code m u):sK B w ⟨x.wp,x.rv,x.vv,x.ov,x.iv⟩ code u:=by
 obtain⟨_,_,o1,o2,o3,o4,_⟩:=h.len;exact⟨h.bK,h.gN,h.cY,h.ins,h.bG,h.tY,h.bw,o1,o2,o3,o4⟩
theorem aV.acX(h:aV B w x code m u):∀b,(JX.mk x.mb x.st x.lv x.cv).J b→¬(SX.mk x.wp x.rv x.vv x.ov x.iv).W b:=by
 obtain⟨cs,k1,_⟩:=h.gy;rintro b (e|e|e) (e'|e'|e')
 ·have e1:x.mb=x.wp:=e.symm.trans e'
  rw[e1]at k1;exact absurd (kE k1 h.bK) aj
 ·subst e;exact aZ h.gN k1 aj e'
 ·subst e;exact aZ h.cY k1 aj e'
 ·subst e';exact aZ h.fx h.bK aj e
 ·exact fw h.fx h.gN aj e e'
 ·exact fw h.fx h.cY aj e e'
 ·subst e';exact aZ h.cD h.bK aj e
 ·exact(h.kH b e).1 e'
 ·exact(h.kH b e).2 e'
theorem rC.aB(h:rC B w j wp rv code m)(hc:aq SQ w w')(hn:∀b,j.J b→¬SQ b):rC B w' j wp rv code m:=by
 obtain⟨cs,k1,k2⟩:=h.gy;exact⟨⟨cs,k1.aB hc (hn _ (aC rfl)),k2⟩,aR h.fx hc (fun b hb=>hn b (aA (aC hb))),aR h.cD hc (fun b hb=>hn b (aA (aA hb))),h.bm,h.len⟩
theorem rC.lt(h:rC B w j wp rv code m)(hb:j.J b):b<w.heap.size:=by
 obtain⟨cs,k1,k2⟩:=h.gy;rcases hb with e|e|e
 ·subst e;exact k1.lt
 ·exact cJ h.fx e
 ·exact cJ h.cD e
theorem rC.base(h:rC B w j wp rv code m)(hb:j.J b):B≤b:=by
 rcases hb with e|e|e
 ·subst e;exact h.bm
 ·exact cR h.fx e
 ·exact cR h.cD e
theorem sK.lt(h:sK B w s code u)(hb:s.W b):b<w.heap.size:=by
 rcases hb with e|e|e
 ·subst e;exact h.bK.lt
 ·exact cJ h.gN e
 ·exact cJ h.cY e
theorem sK.base(h:sK B w s code u)(hb:s.W b):B≤b:=by
 rcases hb with e|e|e
 ·subst e;exact h.bw
 ·exact cR h.gN e
 ·exact cR h.cY e
theorem sK.aB(h:sK B w s code u)(hc:aq SQ w w')(hn:∀b,s.W b→¬SQ b)(hB:∀b,SQ b→B≤b):sK B w' s code u:=by
 have hb:Below B w w':=hc.toBelow Fo (fun b hb e=>by have:=hB b e;omega);exact⟨h.bK.aB hc (hn _ (aC rfl)),aR h.gN hc (fun b hb=>hn b (aA (aC hb))),aR h.cY hc (fun b hb=>hn b (aA (aA hb))),h.ins.below hb,h.bG.below hb,h.tY,h.bw,h.len⟩
structure kx (B:Nat) (w:World) (s:SX) (code:List Int) (u:MW) (js:List (JX×MS)):Prop where
 ij:sK B w s code u
 each:∀(i:Nat) (a:JX×MS),js[i]?=some a→rC B w a.1 s.wp s.rv code a.2
 apart:∀(i k:Nat) (a b:JX×MS),js[i]?=some a→js[k]?=some b→i≠k→∀n,a.1.J n→¬b.1.J n
 sep:∀(i:Nat) (a:JX×MS),js[i]?=some a→∀n,a.1.J n→¬s.W n
def pF(s:SX)(js:List (JX×MS))(b:Nat):Prop:=s.W b∨∃(i:Nat) (a:JX×MS),js[i]?=some a∧a.1.J b
theorem kx.rAt{js:List (JX×MS)}(h:kx B w s code u js){a:JX×MS}(hi:js[i]?=some a):aV B w (a.1.rx s) code a.2 u:=
 acW (h.each i a hi) h.ij (h.sep i a hi)
theorem kx.aB{js:List (JX×MS)}(h:kx B w s code u js)(hc:aq SQ w w')(hn:∀b,pF s js b→¬SQ b)(hB:∀b,SQ b→B≤b):kx B w' s code u js:=
 ⟨h.ij.aB hc (fun b hb=>hn b (aC hb)) hB,fun i a hi=>(h.each i a hi).aB hc (fun b hb=>hn b (aA ⟨i,a,hi,hb⟩)),h.apart,h.sep⟩
theorem kx.base{js:List (JX×MS)}(h:kx B w s code u js)(hb:pF s js b):B≤b:=by
 rcases hb with e|⟨i,a,hi,e⟩
 ·exact h.ij.base e
 ·exact(h.each i a hi).base e
theorem kx.step{js:List (JX×MS)}{y:RX}(h:kx B w s code u js){a:JX×MS}(hi:js[i]?=some a)(hn:RN B w (a.1.rx s) code m' u' w' y):
  kx B w' ⟨s.wp,s.rv,s.vv,y.ov,y.iv⟩ code u' (js.set i (⟨a.1.mb,a.1.st,y.lv,y.cv⟩,m'))∧(∀b,pF ⟨s.wp,s.rv,s.vv,y.ov,y.iv⟩ (js.set i (⟨a.1.mb,a.1.st,y.lv,y.cv⟩,m')) b→pF s js b∨w.heap.size≤b)∧aq (pF s js) w w':=by
 have e1:y.mb=a.1.mb:=hn.mb;have e2:y.wp=s.wp:=hn.wp;have e3:y.rv=s.rv:=hn.rv;have e4:y.st=a.1.st:=hn.st;have e5:y.vv=s.vv:=hn.vv;have hR:=hn.at_;have hlt:i<js.length:=(cI.1 hi).1;have hJ:rC B w' ⟨a.1.mb,a.1.st,y.lv,y.cv⟩ s.wp s.rv code m':=by have:=hR.job;rw[e1,e2,e3,e4]at this;exact this
 have hW:sK B w' ⟨s.wp,s.rv,s.vv,y.ov,y.iv⟩ code u':=by have:=hR.ij;rw[e2,e3,e5]at this;exact this
 have hs:∀b,(JX.mk a.1.mb a.1.st y.lv y.cv).J b→¬(SX.mk s.wp s.rv s.vv y.ov y.iv).W b:=by have:=hR.acX;rw[e1,e2,e3,e4,e5]at this;exact this
 have jn:∀b,(JX.mk a.1.mb a.1.st y.lv y.cv).J b→a.1.J b∨w.heap.size≤b:=by
  rintro b (e|e|e)
  ·exact aC (aC e)
  ·exact(hn.lv b e).imp (fun e=>aA (aC e)) id
  ·exact(hn.cv b e).imp (fun e=>aA (aA e)) id
 have wn:∀b,(SX.mk s.wp s.rv s.vv y.ov y.iv).W b→s.W b∨w.heap.size≤b:=by
  rintro b (e|e|e)
  ·exact aC (aC e)
  ·exact aC (aA (aC e))
  ·exact(hn.ov b e).imp (fun e=>aA (aA e)) id
 have hget:∀(k:Nat) (c:JX×MS),(js.set i (⟨a.1.mb,a.1.st,y.lv,y.cv⟩,m'))[k]?=some c→(k=i∧c=(⟨a.1.mb,a.1.st,y.lv,y.cv⟩,m'))∨(k≠i∧js[k]?=some c):=fun k c hk=>by
  by_cases fD:k=i
  ·subst fD
   rw[eL hlt]at hk;exact aC ⟨rfl,(fy hk).symm⟩
  ·rw[dr (fun e=>fD e.symm)]at hk
   exact aA ⟨fD,hk⟩
 have jU:∀(k:Nat) (c:JX×MS),k≠i→js[k]?=some c→∀b,c.1.J b→¬(a.1.rx s).S b:=fun k c hk hc b hb e=>by
  rcases(L6 a.1 s b).1 e with e|e
  ·exact h.apart k i c a hc hi hk b hb e
  ·exact h.sep k c hc b hb e
 refine⟨⟨hW,fun k c hk=>?_,fun k l c d hk hl hne b hb hd=>?_,fun k c hk b hb e=>?_⟩,fun b hb=>?_,hn.aB.mono (fun b _ e=>?_)⟩
 ·rcases hget k c hk with ⟨_,rfl⟩|⟨fD,hk⟩
  ·exact hJ
  ·exact(h.each k c hk).aB hn.aB (jU k c fD hk)
 ·rcases hget k c hk with ⟨e,rfl⟩|⟨fD,hk⟩
  ·rcases hget l d hl with ⟨e',rfl⟩|⟨bV,hl⟩
   ·exact hne (e.trans e'.symm)
   ·rcases jn b hb with e2|e2
    ·exact h.apart i l a d hi hl (fun e=>bV e.symm) b e2 hd
    ·have:=(h.each l d hl).lt hd;omega
  ·rcases hget l d hl with ⟨e',rfl⟩|⟨bV,hl⟩
   ·rcases jn b hd with e2|e2
    ·exact h.apart k i c a hk hi fD b hb e2
    ·have:=(h.each k c hk).lt hb;omega
   ·exact h.apart k l c d hk hl hne b hb hd
 ·rcases hget k c hk with ⟨_,rfl⟩|⟨fD,hk⟩
  ·exact hs b hb e
  ·rcases wn b e with e2|e2
   ·exact h.sep k c hk b hb e2
   ·have:=(h.each k c hk).lt hb;omega
 ·rcases hb with e|⟨k,c,hk,e⟩
  ·exact(wn b e).imp aC id
  ·rcases hget k c hk with ⟨_,rfl⟩|⟨fD,hk⟩
   ·exact(jn b e).imp (fun e=>aA ⟨i,a,hi,e⟩) id
   ·exact aC (aA ⟨k,c,hk,e⟩)
 ·rcases(L6 a.1 s b).1 e with e|e
  ·exact aA ⟨i,a,hi,e⟩
  ·exact aC e
end
end
section
structure EV where
 kind:Int
 task:Int
 tick:Int
 val:Int
def EV.cells(e:EV):List Value:=[ae e.kind,ae e.task,ae e.tick,ae e.val]
theorem EV.one(e:EV):∀u∈e.cells,u.oneCell'=true:=by
 intro u hu;simp only[EV.cells,er,List.not_mem_nil,or_false]at hu;rcases hu with rfl|rfl|rfl|rfl<;>rfl
def ev0:Value:=.agg #[ae 0,ae 0,ae 0,ae 0]
theorem Tryz.PH:(prog.info? 69).map (fun i=>(i.zero,i.size,i.bytes))=some (some ev0,4,32):=aP
abbrev lx(B:Nat)(w:World)(v:Value)(l:List EV):Prop:=w.ownsRow B 69 4 v l.length (l.flatMap EV.cells)
structure JT where
 word:ByteArray
 bZ:Int
 dl:Int
 off:Int
 st:Nat
def xR(mb:Nat)(t:JT)(n:Int)(busy:Bool):Array Value:= #[ax mb,.string t.word,ae t.bZ,ae t.dl,ae t.off,ae n,.bool busy]
def vC(t:JT)(tick:Int):Bool:=decide (t.off≤tick)&&((tick - t.off) % t.bZ == 0)
section
attribute [local go_sem] fH
theorem aac{t:JT}(tick:Int)(hb:ay w jb (xR mb t n busy) 170)(p1:1≤t.bZ)(p2:t.bZ≤1000000)(o1:0≤t.off)(o2:t.off≤1000000)(k1:0≤tick)(k2:tick≤1000000):
  Calls prog 83 #[ax jb,ae tick] w fun e w'=>e=.returned (.bool (vC t tick))∧Below w.heap.size w w':=by
 obtain⟨wd,bZ,dl,off,st⟩:=t;simp only at p1 p2 o1 o2;have c2:w.cell? (ai jb 2)=some (ae bZ):=hb.cell 2 _ rfl;have c4:w.cell? (ai jb 4)=some (ae off):=hb.cell 4 _ rfl;have hlt:=hb.lt;obtain⟨D,hD⟩:=ak (vC ⟨wd,bZ,dl,off,st⟩ tick);rw[←hD];have HD:Hid (D=(decide (off≤tick)&&((tick - off) % bZ == 0))):=af hD;clear hD hb
 by_cases h:off≤tick
 ·have hd:decide (off≤tick)=true:=jW h
  have hm:(tick - off).tmod bZ=(tick - off) % bZ:=Int.tmod_eq_emod_of_nonneg ag;obtain⟨q,hq⟩:=ak ((tick - off) % bZ);have hm0:0≤q:=by rw[hq];exact Int.emod_nonneg _ ag
  have hm1:q<bZ:=by rw[hq];exact Eb _ ag
  rw[←hq]at hm;have HE:Hid (D=(q == 0)):=af (by rw[HD.out,hd,hq];simp);clear hq HD;go_enter func83,ntmps83;exact Kv
 ·have hd:decide (off≤tick)=false:=gO h
  have HE:Hid (D=false):=af (by rw[HD.out,hd];rfl);clear HD;go_enter func83,ntmps83;exact Kv
end
theorem WZ{tb:Nat}{wv bn br:Value}{es:List EV}{t:JT}(kind tick val:Int)(hb:ay w tb #[wv,bn,br,ev] 139)(hr:lx B w ev es)(hj:ay w jb (xR mb t n busy) 170)(hl:es.length≤90000000)(hB:B≤w.heap.size):
  Calls prog 84 #[ax tb,ae kind,ax jb,ae tick,ae val] w fun e w'=>e=.returned (.tuple #[])∧(∃cT,ay w' tb #[wv,bn,br,cT] 139∧lx B w' cT (es++[⟨kind,n,tick,val⟩])∧Lc w ev cT)∧aq (fun b=>b=tb∨ev.ownBlock=some b) w w':=by
 obtain⟨ad,cap,hev,hcap,_⟩:=bo hr;subst hev;have c3:w.cell? (ai tb 3)=some (.slice ad es.length cap):=hb.cell 3 _ rfl;have q3:=hb.frozen 3;have j5:w.cell? (ai jb 5)=some (ae n):=hj.cell 5 _ rfl;have hlt:=hb.lt;have hjl:=hj.lt;have hne:=aZ hr hb aj;obtain⟨i0,hi,hz0,hz1,hz2⟩:=info_parts Tryz.PH;have HN:=af hne;have HBT:=af hb;have fc:=af hr;have HA:=af (fun o=>(hr.alloc o).drew);have H1:=af (EV.one ⟨kind,n,tick,val⟩);have HC:=af (show es.length+1≤maxLen by unfold maxLen;omega);have eO:=af (show(es.length+1)*32≤140737488355328 by omega);have l8:=af (fun o=>show B≤(w.alloc o).drew.heap.size by simp;omega);have HH:=af (fun o=>show(w.alloc o).drew.heap.size=w.heap.size+1 by simp);have jL:=af (show ∀j u,([ae kind,ae n,ae tick,ae val]:List Value)[j]?=some u→(w.alloc (.cells #[ae kind,ae n,ae tick,ae val] 69 (0,0))).drew.cell? ((Addr.mk w.heap.size 0 none).add j)=some u from World.news_of_block (fr:=(0,0)) (heap_alloc_new w _));have HF:=af (fun (o:Obj) (w1:World) (hg:(w.alloc o).drew.grownBy w1 (Value.slice ad es.length cap).ownBlock)=>(show w1.frozen? (ai tb 3)=false∧w1.cell? (ai tb 3)=some (.slice ad es.length cap)from⟨(hg.frozen_far (ai tb 3) aK (fun e=>HN e.symm)).trans ((((Below.refl _ w).alloc aH o).drew.frozen (p:=ai tb 3) hlt).trans q3),(hg.cell_far (ai tb 3) aK (fun e=>HN e.symm)).trans ((((Below.refl _ w).alloc aH o).drew.cell (p:=ai tb 3) hlt).trans c3)⟩));clear hb hr hj hne;go_enter func84,ntmps84;go_region_law (refine step_append_lies _ kt _ _ _ kt B 69 i0 ev0 4 32 underlying60 hi hz0 hz1 hz2 rfl aj _ es.length (es.flatMap EV.cells) kt (HA _) (Addr.mk w.heap.size 0 none) 1 1 [ae kind,ae n,ae tick,ae val] kt kt jL H1 aj HC eO (l8 _) (w.heap.size+1) (HH _) ?_;intro gg gX w1 hown1 hgrow hat j9;obtain⟨q4,c4⟩:=HF.out _ _ hgrow)
 all_goals
  go_wp2_with fail
  go_end0
  have bP:aq (fun k=>(Value.slice ad es.length cap).ownBlock=some k) w w1:=((aq.refl _ w).alloc _).drew.trans ((aq.dP hgrow).mono (fun k _ e=>e.symm));have hb2:=HBT.aB bP HN;have oZ:(aD gg (es.length+1) gX).ownBlock≠some tb:=aZ hown1 hb2 aj;have cO:aq (fun b=>b=tb) w1 (w1.setCell (ai tb 3) (aD gg (es.length+1) gX)):=(aq.refl (fun b=>b=tb) w1).setCell (p:=ai tb 3) rfl _;refine⟨rfl,⟨aD gg (es.length+1) gX,?_,?_,?_⟩,(bP.mono (fun k _ e=>aA e)).trans (cO.mono (fun b _ e=>aC e))⟩
  ·have:=hb2.set (o:=3) (aD gg (es.length+1) gX);simpa using this
  ·show World.ownsRow _ _ _ _ _ _ _
   rw[cF,gJ,kS];exact aR hown1 cO (fun b hb e=>oZ uH)
  ·intro k hk
   simp only[Value.ownBlock,Option.some.injEq]at hk;subst hk;exact hat.imp id (fun e=>ag)
end
section
structure Fr where
 its:List IT
 i:Nat
 dX:Nat
 n:Int
 e:Int
def Fr.cells(p:Value×Fr):List Value:=[p.1,ae p.2.i,ae p.2.dX,ae p.2.n,ae p.2.e]
structure DM where
 fs:List (Value×Fr)
 au:List Int
 done:Bool
 ed:Int
structure DX where
 mb:Nat
 wp:Nat
 fv:Value
 tv:Value
 cv:Value
 iv:Value
 ov:Value
 full:List Int
 tk:Nat
def DX.S(x:DX)(b:Nat):Prop:=b=x.mb∨b=x.wp∨x.fv.ownBlock=some b∨x.cv.ownBlock=some b∨x.ov.ownBlock=some b
abbrev uu(B:Nat)(w:World)(v:Value)(fs:List (Value×Fr)):Prop:=w.ownsRow B 257 5 v fs.length (fs.reverse.flatMap Fr.cells)
def uS(sb:Nat)(x:DX)(m:DM):Array Value:= #[ax sb,x.fv,x.tv,.bool m.done,ae m.ed]
def B9(x:DX):Array Value:= #[x.cv,x.iv,ae x.tk,x.ov]
structure bC (B:Nat) (w:World) (sb:Nat) (F:Nat→Prop) (x:DX) (m:DM) (u:MW):Prop where
 dA:ay w x.mb (uS sb x m) 226
 fg:uu B w x.fv m.fs
 cH:bX B w x.tv m.au.reverse
 bK:ay w x.wp (B9 x) 221
 cD:bX B w x.cv u.vars
 cY:bX B w x.ov u.outs
 ins:cN B w x.iv x.full
 rest:u.ins=x.full.drop x.tk
 pS:∀k,x.tv.ownBlock=some k→x.cv.ownBlock≠some k∧x.ov.ownBlock≠some k
 kH:∀k,x.cv.ownBlock=some k→x.ov.ownBlock≠some k
 bm:B≤x.mb
 bw:B≤x.wp
 oD:∀p∈m.fs,fk F w p.1 p.2.its
 fb:∀k,F k→k<B
 len:m.fs.length≤2000000∧m.au.length≤32∧u.outs.length≤2000000∧x.full.length≤2000000∧u.vars.length≤1000∧x.tk≤2000000
section
variable{B:Nat}{w w':World}{sb:Nat}{F:Nat→Prop}{x:DX}{m m':DM}{u u':MW}
theorem bC.le(h:bC B w sb F x m u):B≤w.heap.size:=Fo
theorem bC.GX(h:bC B w sb F x m u)(hb:x.S b):B≤b:=by
 rcases hb with e|e|e|e|e
 ·rw[e];exact h.bm
 ·rw[e];exact h.bw
 ·exact cR h.fg e
 ·exact cR h.cD e
 ·exact cR h.cY e
theorem bC.toBelow(h:bC B w sb F x m u)(hc:aq SQ w w')(hs:∀b,SQ b→x.S b):Below B w w':=hc.toBelow h.le (fun b hb e=>by have:=h.GX (hs b e);omega)
theorem fk.below{its:List IT}(h:fk F w v its)(fb:∀k,F k→k<B)(hb:Below B w w'):fk F w' v its:=h.mono (fun k cs hk _=>⟨hk,hb.block k (fb k hk)⟩)
structure DN (B:Nat) (w:World) (sb:Nat) (F:Nat→Prop) (x:DX) (m':DM) (u':MW) (w':World) (y:DX):Prop where
 at_:bC B w' sb F y m' u'
 mb:y.mb=x.mb
 wp:y.wp=x.wp
 cv:y.cv=x.cv
 full:y.full=x.full
 fv:Lc w x.fv y.fv
 ov:Lc w x.ov y.ov
 aB:aq x.S w w'
 tk:y.tk=x.tk
def dp(B:Nat)(w:World)(sb:Nat)(F:Nat→Prop)(x:DX)(m':DM)(u':MW)(w':World):Prop:=∃y,DN B w sb F x m' u' w' y
theorem DN.sub{y:DX}(h:DN B w sb F x m' u' w' y):∀b,y.S b→x.S b∨w.heap.size≤b:=by
 rintro b (e|e|e|e|e)
 ·rw[h.mb]at e;exact aC (aC e)
 ·rw[h.wp]at e;exact aC (aA (aC e))
 ·exact(h.fv b e).imp (fun e=>aA (aA (aC e))) id
 ·rw[h.cv]at e;exact aC (aA (aA (aA (aC e))))
 ·exact(h.ov b e).imp (fun e=>aA (aA (aA (aA e)))) id
theorem DN.trans{y z:DX}{m2:DM}(h:DN B w sb F x m' u' w' y)(h2:DN B w' sb F y m2 u2 w2 z):DN B w sb F x m2 u2 w2 z:=
 ⟨h2.at_,h2.mb.trans h.mb,h2.wp.trans h.wp,h2.cv.trans h.cv,h2.full.trans h.full,
  fun k hk=>(h2.fv k hk).elim (h.fv k) (fun e=>aA (bB h.aB.size e)),fun k hk=>(h2.ov k hk).elim (h.ov k) (fun e=>aA (bB h.aB.size e)),
  h.aB.fz h2.aB (fun b hb e=>(h.sub b e).elim id (fun e=>ag)),h2.tk.trans h.tk⟩
theorem DN.abF{y z:DX}{m2:DM}(h:DN B w sb F x m' u' w' y)(h2:DN B w' sb F {y with tk:=y.tk+1} m2 u2 w2 z):DN B w sb F {x with tk:=x.tk+1} m2 u2 w2 z:=
 ⟨h2.at_,h2.mb.trans h.mb,h2.wp.trans h.wp,h2.cv.trans h.cv,h2.full.trans h.full,
  fun k hk=>(h2.fv k hk).elim (h.fv k) (fun e=>aA (bB h.aB.size e)),fun k hk=>(h2.ov k hk).elim (h.ov k) (fun e=>aA (bB h.aB.size e)),
  h.aB.fz h2.aB (fun b hb e=>(h.sub b e).elim id (fun e=>ag)),by rw[h2.tk];simp only;rw[h.tk]⟩
theorem bC.machine(h:bC B w sb F x m u)(hc:aq (fun b=>b=x.mb∨x.fv.ownBlock=some b) w w')(hb:ay w' x.mb (uS sb {x with fv:=oh,tv:=tv'} m') 226)
  (hf:uu B w' oh m'.fs) (ht:bX B w' tv' m'.au.reverse) (h1:Lc w x.fv oh) (h2:Lc w x.tv tv') (oV:∀p∈m'.fs,fk F w' p.1 p.2.its) (hn:m'.fs.length≤2000000∧m'.au.length≤32):DN B w sb F x m' u w' {x with fv:=oh,tv:=tv'}:=by
 have sO:∀b,(b=x.mb∨x.fv.ownBlock=some b)→x.S b:=fun b e=>e.elim aC (fun e=>aA (aA (aC e)))
 have hB:=h.toBelow hc sO
 have hw:¬(x.wp=x.mb∨x.fv.ownBlock=some x.wp):=by
  rintro (e|e)
  ·have:=h.dA;rw[←e]at this;exact absurd (kE this h.bK) aj
  ·exact aZ h.fg h.bK aj e
 have hv:∀{v:Value} {l:List Int},bX B w v l→bX B w' v l:=fun {v l} hr=>aR hr hc (fun b hb e=>by
  rcases e with e|e
  ·subst e;exact aZ hr h.dA aj hb
  ·exact fw h.fg hr aj e hb)
 obtain⟨_,_,n3,n4,n5,n6⟩:=h.len;refine⟨⟨hb,hf,ht,h.bK.aB hc hw,hv h.cD,hv h.cY,h.ins.below hB,h.rest,fun k hk=>?_,h.kH,h.bm,h.bw,oV,h.fb,hn.1,hn.2,n3,n4,n5,n6⟩,rfl,rfl,rfl,rfl,h1,Lc.refl _ _,hc.mono (fun b _ e=>sO b e),rfl⟩;rcases h2 k hk with e|e
 ·exact h.pS k e
 ·exact⟨fun e'=>by have:=cJ h.cD e';omega,fun e'=>by have:=cJ h.cY e';omega⟩
theorem bC.world{ik:Value}{jN:Nat}(h:bC B w sb F x m u)(hc:aq (fun b=>b=x.wp∨x.cv.ownBlock=some b∨x.ov.ownBlock=some b) w w')(hb:ay w' x.wp (B9 {x with ov:=ik,tk:=jN}) 221)
  (hv:bX B w' x.cv u'.vars) (ho:bX B w' ik u'.outs) (h1:Lc w x.ov ik) (hi:u'.ins=x.full.drop jN) (hn:u'.outs.length≤2000000∧u'.vars.length≤1000∧jN≤2000000):DN B w sb F {x with tk:=jN} m u' w' {x with ov:=ik,tk:=jN}:=by
 have sO:∀b,(b=x.wp∨x.cv.ownBlock=some b∨x.ov.ownBlock=some b)→x.S b:=fun b e=>by
  rcases e with e|e|e
  ·exact aA (aC e)
  ·exact aA (aA (aA (aC e)))
  ·exact aA (aA (aA (aA e)))
 have hB:=h.toBelow hc sO
 have hm:¬(x.mb=x.wp∨x.cv.ownBlock=some x.mb∨x.ov.ownBlock=some x.mb):=by
  rintro (e|e|e)
  ·have:=h.dA;rw[e]at this;exact absurd (kE this h.bK) aj
  ·exact aZ h.cD h.dA aj e
  ·exact aZ h.cY h.dA aj e
 have hl:uu B w' x.fv m.fs:=aR h.fg hc (fun b hb e=>by
  rcases e with e|e|e
  ·subst e;exact aZ h.fg h.bK aj hb
  ·exact fw h.fg h.cD aj hb e
  ·exact fw h.fg h.cY aj hb e)
 have hr:bX B w' x.tv m.au.reverse:=aR h.cH hc (fun b hb e=>by
  rcases e with e|e|e
  ·subst e;exact aZ h.cH h.bK aj hb
  ·exact(h.pS b hb).1 e
  ·exact(h.pS b hb).2 e)
 obtain⟨n1,n2,n3⟩:=hn;obtain⟨m1,m2,_,m4,_,_⟩:=h.len;refine⟨⟨h.dA.aB hc hm,hl,hr,hb,hv,ho,h.ins.below hB,hi,fun k hk=>⟨(h.pS k hk).1,fun e=>?_⟩,fun k hk e=>?_,h.bm,h.bw,fun p hp=>(h.oD p hp).below h.fb hB,h.fb,m1,m2,n1,m4,n2,n3⟩,rfl,rfl,rfl,rfl,Lc.refl _ _,h1,hc.mono (fun b _ e=>sO b e),rfl⟩
 ·rcases h1 k e with e'|e'
  ·exact(h.pS k hk).2 e'
  ·have:=cJ h.cH hk;omega
 ·rcases h1 k e with e'|e'
  ·exact h.kH k hk e'
  ·have:=cJ h.cD hk;omega
theorem bC.below(h:bC B w sb F x m u)(hb:Below w.heap.size w w'):DN B w sb F x m u w' x:=by
 have hc:aq (fun _=>False) w w':=aq.bf hb;have hB:=hb.mono h.le;exact⟨⟨h.dA.sub hb h.dA.lt,aR h.fg hc (fun _ _=>id),aR h.cH hc (fun _ _=>id),h.bK.sub hb h.bK.lt,aR h.cD hc (fun _ _=>id),aR h.cY hc (fun _ _=>id),h.ins.below hB,h.rest,h.pS,h.kH,h.bm,h.bw,fun p hp=>(h.oD p hp).below h.fb hB,h.fb,h.len⟩,rfl,rfl,rfl,rfl,Lc.refl _ _,Lc.refl _ _,hc.mono (fun b _ e=>e.elim),rfl⟩
theorem bC.cells(h:bC B w sb F x m u):w.cell? (ai x.mb 0)=some (ax sb)∧w.cell? (ai x.mb 1)=some x.fv∧w.cell? (ai x.mb 2)=some x.tv∧w.cell? (ai x.mb 3)=some (.bool m.done)∧w.cell? (ai x.mb 4)=some (ae m.ed)∧x.mb<w.heap.size:=
 ⟨h.dA.cell 0 _ rfl,h.dA.cell 1 _ rfl,h.dA.cell 2 _ rfl,h.dA.cell 3 _ rfl,h.dA.cell 4 _ rfl,h.dA.lt⟩
theorem bC.shared(h:bC B w sb F x m u):w.cell? (ai x.wp 0)=some x.cv∧w.cell? (ai x.wp 1)=some x.iv∧w.cell? (ai x.wp 2)=some (ae x.tk)∧w.cell? (ai x.wp 3)=some x.ov∧x.wp<w.heap.size:=
 ⟨h.bK.cell 0 _ rfl,h.bK.cell 1 _ rfl,h.bK.cell 2 _ rfl,h.bK.cell 3 _ rfl,h.bK.lt⟩
theorem bC.flags{done':Bool}{ed':Int}(h:bC B w sb F x m u)(hc:aq (fun b=>b=x.mb) w w')(hb:ay w' x.mb (uS sb x {m with done:=done',ed:=ed'}) 226):DN B w sb F x {m with done:=done',ed:=ed'} u w' x:=by
 have hB:=h.toBelow hc (fun b e=>aC e);exact h.machine (oh:=x.fv) (tv':=x.tv) (hc.mono (fun b _ e=>aC e)) hb (aR h.fg hc (fun b hb e=>JI)) (aR h.cH hc (fun b hb e=>by subst e;exact aZ h.cH h.dA aj hb)) (Lc.refl _ _) (Lc.refl _ _) (fun p hp=>(h.oD p hp).below h.fb hB) ⟨h.len.1,h.len.2.1⟩
theorem zo(e:Int)(h:bC B w sb F x m u):
  Calls prog 175 #[ax x.mb,ae e] w fun r w'=>r=.returned (.tuple #[])∧DN B w sb F x {m with done:=true,ed:=e} u w' x:=by
 obtain⟨c0,c1,c2,c3,c4,hlt⟩:=h.cells;have f3:=h.dA.frozen 3;have f4:=h.dA.frozen 4;have H:=af h;clear h;go_enter func175,ntmps175;go_wp2_with fail;go_end0;refine⟨rfl,H.flags (((aq.refl (fun b=>b=x.mb) w).setCell (p:=ai x.mb 3) rfl _).setCell (p:=ai x.mb 4) rfl _) ?_⟩;have:=(H.dA.set (o:=3) (.bool true)).set (o:=4) (ae e);simpa [uS]using this
theorem bC.Sb(h:bC B w sb F x m u)(k:Nat){a:Int}(hk:m.au[k]?=some a):∃g cap,x.tv=aD g m.au.length cap∧m.au.length≤cap∧g<w.heap.size∧w.cell? (ai g (m.au.length - 1 - k))=some (ae a):=by
 have hkl:=(cI.1 hk).1;have hr:=h.cH;rw[show bX B w x.tv m.au.reverse=w.ownsRow B 3 1 x.tv m.au.reverse.length (ints m.au.reverse)from rfl,dm]at hr;obtain⟨g,cap,h1,_,h3,h4,_,h6⟩:=cd hr ag;refine⟨g,cap,h1,h4,h3,h6 _ _ ?_⟩;unfold ints;rw[iH,List.getElem?_reverse ag,show m.au.length - 1 - (m.au.length - 1 - k)=k by omega,hk];rfl
theorem dy(k:Nat){a:Int}(h:bC B w sb F x m u)(hk:m.au[k]?=some a)(hk3:k≤3):
  Calls prog 201 #[ax x.mb,ae k] w fun r w'=>r=.returned (ae a)∧Below w.heap.size w w':=by
 obtain⟨c0,c1,c2,c3,c4,hlt⟩:=h.cells;obtain⟨g,cap,h1,h2,h3,h4⟩:=h.Sb k hk;have hkl:=(cI.1 hk).1;have hl:=h.len.2.1;rw[h1]at c2;clear h c0 c1 c3 c4 h1 hk;obtain⟨n,hn⟩:=ak (m.au.length);rw[←hn]at c2 h2 h4 hkl hl;obtain⟨p,hp⟩:=ak (n - 1 - k:Nat);have hpi:(n:Int) - 1 - (k:Int)=(p:Int):=ag;rw[←hp]at h4;have hp0:(0:Int)≤(p:Int):=ag;have hp1:(p:Int)<(n:Int):=ag;clear hn hp;go_enter func201,ntmps201;go_wp2_with fail;go_quiet (fail);go_wp2_with fail;go_ret;exact⟨rfl,⟨rfl,rfl,rfl,aH,fun _ _=>rfl⟩⟩
end
end
section
section
variable{B:Nat}{w w':World}{sb:Nat}{F:Nat→Prop}{x:DX}{m m':DM}{u u':MW}
theorem bC.stack{s:List Int}(h:bC B w sb F x m u)(hc:aq (fun b=>b=x.mb) w w')(hb:ay w' x.mb (uS sb {x with tv:=tv'} {m with au:=s}) 226)(ht:bX B w' tv' s.reverse)(h2:Lc w x.tv tv')(hs:s.length≤32):DN B w sb F x {m with au:=s} u w' {x with tv:=tv'}:=by
 have hB:=h.toBelow hc (fun b e=>aC e);exact h.machine (oh:=x.fv) (tv':=tv') (hc.mono (fun b _ e=>aC e)) hb (aR h.fg hc (fun b hb e=>JI)) ht (Lc.refl _ _) h2 (fun p hp=>(h.oD p hp).below h.fb hB) ⟨h.len.1,hs⟩
theorem aep(t:Nat){a:Option Addr}{n c:Nat}(h:bC B w sb F x m u)(ht:m.au.length<t)(ht3:t≤3):
  Calls prog 198 #[ax x.mb,ae t,.slice a n c] w fun r w'=>r=.returned (.bool false)∧DN B w sb F x {m with done:=true,ed:=1} u w' x:=by
 obtain⟨c0,c1,c2,c3,c4,hlt⟩:=h.cells;obtain⟨ad,cap,bl,_,_⟩:=bo h.cH;rw[bl,dm]at c2;have hl:=h.len.2.1;have HS:=af (zo 1 h);clear h bl c0 c1 c3 c4;generalize m.au.length=k at *;have fD:(k:Int) - (t:Int)<0:=ag;exact Mh
theorem yU(t:Nat){a:Option Addr}{n c:Nat}(h:bC B w sb F x m u)(ht:t≤m.au.length)(ho:32<m.au.length - t+n)(hn:n≤10):
  Calls prog 198 #[ax x.mb,ae t,.slice a n c] w fun r w'=>r=.returned (.bool false)∧DN B w sb F x {m with done:=true,ed:=2} u w' x:=by
 obtain⟨c0,c1,c2,c3,c4,hlt⟩:=h.cells;obtain⟨ad,cap,bl,_,_⟩:=bo h.cH;rw[bl,dm]at c2;have hl:=h.len.2.1;have HS:=af (zo 2 h);clear h bl c0 c1 c3 c4;generalize m.au.length=k at *;have fD:¬(k:Int) - (t:Int)<0:=ag;have hko:32<(k:Int) - (t:Int)+(n:Int):=ag;exact Mh
theorem Rq(l:List Int)(y:Int):ints (l++[y])=ints l++[ae y]:=by simp[ints]
theorem acM{W:World}{ops:Array Oper}{rest:List Oper}{o:Oper}{a:Act}{Q:Exit→Act→World→Prop}(hgd:o.guard=none)(s y:Operand)(ho:o.op=.call {callee:=.builtin .append,args:= #[s,y],argTypes:= #[24,24]})
  {ad:Option Addr} {k d cap:Nat}  (hs:a.eval s=aI) (hy:a.eval y=.slice ad d cap) (hr:W.ownsRow B 3 1 (.slice ad k cap) k (ints l)) (hd:d≤k) (hk:k≤1100000)
  (h:∀v' w',bX W.heap.size w' v' (l.take d)→Below W.heap.size W w'→wpList prog ops Q rest (a.put o.dst v') w'):wpList prog ops Q (o :: rest) a W:=by
 have hlen:l.length=k:=by have:=hr.1;simpa [ints]using this
 have htd:(l.take d).length=d:=yN;obtain⟨i,hi,hz,hsz,hb⟩:=info_parts Tryz.vo;rcases hr.2 with ⟨hv,h0⟩|⟨g,cap',cur,hv,_,_,_,_,_,_⟩
 ·obtain⟨rfl,rfl,rfl⟩:ad=none∧k=0∧cap=0:=by simpa using hv
  obtain rfl:d=0:=ag;refine wpList_plain hgd fun K hK=>?_
  have hrun:=run_append_owned_none (P:=prog) W W.heap.size 24 o.type 3 i 1 underlying24 hi aI 0 [] (qQ _ _ _ _);unfold Oper.wp execOp;simp only[ho,resolve,invoke,builtin,Sem.run_bind,Sem.run_pure,Result.andThen_ok,List.map_toArray,List.map_cons,List.map_nil,hs,hy,hrun];exact hK _ _ (h _ _ (by rw[List.take_zero];exact qQ _ _ _ _) aQ)
 ·obtain⟨rfl,rfl⟩:ad=some (ai g 0)∧cap=cap':=by simpa using hv
  refine wpList_append_own W hgd s y 24 ho W.heap.size 3 i (ae 0) 1 8 underlying24 hi hz hsz hb rfl aj aI 0 [] hs (qQ _ _ _ _) (ai g 0) d cap (ints (l.take d)) hy (by unfold ints;rw[List.length_map,htd,Nat.mul_one]) (fun j v hv'=>?_) (fun v hv'=>Qb) lu ag aH (fun v' w' h1 h2 _=>?_)
  ·rw[Addr.add_lit,Nat.zero_add]
   have hj:(ints l)[j]?=some v:=by
    unfold ints at hv' ⊢;rw[List.map_take,List.getElem?_take]at hv'
    split at hv'
    ·exact hv'
    ·cases hv'
   exact hr.cells (g:=g) rfl j v hj |>.symm ▸ (by rw[Addr.add_lit,Nat.zero_add])
  ·refine h v' w' ?_ ((aq.dP h2).toBelow aH (fun b hb e=>by cases e))
   rw[Nat.zero_add,List.nil_append]at h1
   show w'.ownsRow _ _ 1 v' (l.take d).length (ints (l.take d))
   rw[htd];exact h1
theorem iZ(t:Nat)(ys:List Int){av:Value}(h:bC B w sb F x m u)(ht:t≤m.au.length)(ho:m.au.length - t+ys.length≤32)(hav:cN w.heap.size w av ys)(hy:∀y∈ys, -9000000000000000000≤y∧y≤9000000000000000000):
  Calls prog 198 #[ax x.mb,ae t,av] w fun r w'=>r=.returned (.bool true)∧dp B w sb F x {m with au:=(ys.map w32).reverse++m.au.drop t} u w':=by
 obtain⟨c0,c1,c2,c3,c4,hlt⟩:=h.cells;obtain⟨ad,cap,bl,hcap,hmax⟩:=bo h.cH;rw[dm]at bl hcap;obtain⟨pa,pc,hpv,hpc⟩:=BA hav;have hrow:=h.cH;rw[bl]at c2 hrow;have hl:=h.len.2.1;have H:=af h;have HTV:=af bl;have s7:=af hav;have hB:=h.le;obtain⟨k,hk⟩:=ak (m.au.length);rw[←hk]at ht ho c2 hl hrow hcap;obtain⟨n,hn⟩:=ak (ys.length);rw[←hn]at ho hpv;have HN:=af hn;have HK:=af hk;subst hpv;have fD:¬(k:Int) - (t:Int)<0:=ag;have hko:¬32<(k:Int) - (t:Int)+(n:Int):=ag;obtain⟨d,hd⟩:=ak (k - t:Nat);have hdi:(k:Int) - (t:Int)=(d:Int):=ag;have HD:=af hd;have hd0:(0:Int)≤(d:Int):=ag;have hdc:(d:Int)≤(cap:Int):=ag;have nN:d≤k:=ag;obtain⟨l,hl0⟩:=ak (m.au.reverse);have hlen:l.length=k:=by rw[hl0,dm,hk]
 have hrow2:w.ownsRow B 3 1 (.slice ad k cap) k (ints l):=by
  have:=hrow;rw[←hl0]at this;rw[←hlen];rw[←hlen]at this;exact this
 have HRO:=af hrow2;have HL:=af hl0;have rD:=af hy;have HPC:=af hpc;obtain⟨i0,lS,hz0,pP,hb0⟩:=info_parts Tryz.vo;have HI:=af (aY lS (aY hz0 (aY pP hb0)));clear h hav hrow hrow2 hl0 hy hpc bl hn hk hd lS hz0 pP hb0 hlen c0 c1 c3 c4;go_enter func198,ntmps198;go_wp2_with (at_builtin;refine acM rfl _ _ rfl rfl rfl HRO nN ag ?_);intro v1 w1 hr1 hb1;obtain⟨va,vn,vc,rfl⟩:=Jq hr1;have H1:Hid (bX w.heap.size w1 (.slice va vn vc) (l.take d++(ys.take 0).map w32)∧Below w.heap.size w w1):=af ⟨by simpa using hr1,hb1⟩;clear hr1 hb1;go_wp2_with fail;go_loopw[8,9] (fun s i wr=>∃(j:Nat) (a:Option Addr) (b c:Nat),j≤n∧s=.slice a b c∧i=ae j∧Hid (bX w.heap.size wr (.slice a b c) (l.take d++(ys.take j).map w32)∧Below w.heap.size w wr)) (fun _ i _=>n - (intOf i).toNat)
 case atStart=>exact⟨0,va,vn,vc,ag,rfl,rfl,H1⟩
 case round=>
  clear H1 c2;obtain⟨j,a,b,c,hj,rfl,rfl,HC⟩:=hrel
  by_cases hlt2:j<n
  ·have hji:(j:Int)<(n:Int):=by omega
   obtain⟨y,hyj⟩:∃y,ys[j]?=some y:=⟨_,bE (by rw[←HN.out];exact hlt2)⟩;obtain⟨pb,po,rfl,hpb,cy⟩:=HPC.out j y hyj;have cyr:wr.cell? (ai pb (po+j))=some (ae y):=(HC.out.2.cell (p:=ai pb (po+j)) hpb).trans cy;have hpr:pb<wr.heap.size:=bF hpb HC.out.2.size;have pE:=af (fun w=>Ru y w (rD y (mF hyj)));have HYJ:=af hyj;clear cy hyj;go_wp2_with fail;refine(pE _).mono ?_;rintro e w3 ⟨rfl,rfl⟩;clear pE cyr;obtain⟨lS,hz0,pP,hb0⟩:=HI.out;have rU:Below w.heap.size w (w3.alloc (.cells #[ae (w32 y)] 3 (0,0))):=HC.out.2.alloc HC.out.2.size _;have hrA:(w3.alloc (.cells #[ae (w32 y)] 3 (0,0))).ownsRow w.heap.size 3 1 (.slice a b c) (l.take d++(ys.take j).map w32).length (ints (l.take d++(ys.take j).map w32)):=HC.out.1.alloc _
   have hsm:(l.take d++(ys.take j).map w32).length≤32:=by
    rw[cF,List.length_map,List.length_take,List.length_take];have:=HN.out;omega
   obtain⟨q,hq⟩:=ak (l.take d++(ys.take j).map w32:List Int);rw[←hq]at hrA hsm;obtain⟨qn,lN⟩:=ak (q.length);obtain⟨qi,jf⟩:=ak (ints q);rw[←lN,←jf]at hrA;rw[←lN]at hsm;have HQ:=af (aY hq (aY lN jf));clear hq lN jf;have pO:=af rU;have HRA:=af hrA;have jL:=af (za w3 #[ae (w32 y)] 3);clear rU hrA;go_wp2_with (at_builtin;refine wpList_append_own _ rfl _ _ 24 rfl w.heap.size 3 i0 (ae 0) 1 8 underlying24 lS hz0 pP hb0 rfl aj (.slice a b c) qn qi rfl HRA (ai w3.heap.size 0) 1 1 [ae (w32 y)] rfl rfl jL Rm lu ag pO.size ?_);intro v4 w4 hr4 hg4 _
   have Ia:bX w.heap.size w4 v4 (l.take d++(ys.take (j+1)).map w32):=by
    have e:l.take d++(ys.take (j+1)).map w32=(l.take d++(ys.take j).map w32)++[w32 y]:=by
     rw[List.take_add_one,HYJ.out];simp
    show w4.ownsRow _ _ _ _ _ _
    obtain⟨e1,e2,e3⟩:=HQ.out;rw[e,←e1,Rq,cF,←e3,←e2];exact hr4
   have hb4:Below w.heap.size w w4:=pO.trans ((aq.dP hg4).toBelow pO.size (fun q hq e=>by have:=cR HRA e.symm;omega));obtain⟨a4,n4,c4,rfl⟩:=Jq Ia;have HF:=af (aY Ia hb4);clear hr4 hg4 Ia hb4 lS hz0 pP hb0 jL HRA pO HC;go_wp2_with fail;go_roundw
   case rel=>exact⟨j+1,a4,n4,c4,ag,rfl,bO,HF⟩
   case measure=>simp only[intOf];omega
  ·obtain rfl:j=n:=by omega
   have hji:¬(j:Int)<(j:Int):=ag;have c2r:wr.cell? (ai x.mb 2)=some x.tv:=(HC.out.2.cell (p:=ai x.mb 2) hlt).trans (H.cells.2.2.1);have f2:wr.frozen? (ai x.mb 2)=false:=(HC.out.2.frozen (p:=ai x.mb 2) hlt).trans (H.dA.frozen 2);have ady:x.mb<wr.heap.size:=bF hlt HC.out.2.size;rw[HTV.out]at c2r;go_wp2_with fail;go_ret;refine⟨rfl,_,H.stack (tv':=.slice a b c) (((aq.bf (S:=fun b=>b=x.mb) HC.out.2).setCell (p:=ai x.mb 2) rfl _)) ?_ ?_ (fun q hq=>aA (cR HC.out.1 hq)) ?_⟩
   ·have hm:=(H.dA.sub HC.out.2 hlt).set (o:=2) (.slice a b c)
    simpa [uS]using hm
   ·have e:((ys.map w32).reverse++m.au.drop t).reverse=l.take d++(ys.take j).map w32:=by
     rw[List.reverse_append,List.reverse_reverse,HL.out,List.take_of_length_le (show ys.length≤j by have:=HN.out;omega),HD.out,HK.out]
     congr 1
     rw[List.reverse_drop]
    show bX B _ _ (((ys.map w32).reverse++m.au.drop t).reverse)
    rw[e];have vI:bX B wr (.slice a b c) (l.take d++(ys.take j).map w32):=Fs HC.out.1 hB;exact aR vI ((aq.refl (fun b=>b=x.mb) wr).setCell (p:=ai x.mb 2) rfl _) (fun q hq e=>by subst e;exact aZ HC.out.1 (H.dA.sub HC.out.2 hlt) aj hq)
   ·show((ys.map w32).reverse++m.au.drop t).length≤32
    rw[cF,dm,List.length_map,List.length_drop,←HN.out,←HK.out];omega
end
end
section
attribute [local go_sem] fH
def frz:Value:=.agg #[aI,ae 0,ae 0,ae 0,ae 0]
theorem Tryz.adn:(prog.info? 257).map (fun i=>(i.zero,i.size,i.bytes))=some (some frz,5,56):=aP
section
variable{B:Nat}{w w':World}{sb:Nat}{F:Nat→Prop}{x:DX}{m m':DM}{u u':MW}
theorem O5(l:List (Value×Fr)):(l.flatMap Fr.cells).length=l.length*5:=flat_length Fr.cells 5 (fun _=>rfl) l
theorem bC.Pg(h:bC B w sb F x m u)(i:Nat){p:Value×Fr}(hp:m.fs.reverse[i]?=some p):∃g cap,x.fv=aD g m.fs.length cap∧m.fs.length≤cap∧g<w.heap.size∧i<m.fs.length∧∀(j:Nat) (v:Value),(Fr.cells p)[j]?=some v→w.cell? (ai g (i*5+j))=some v:=by
 have hi:=(cI.1 hp).1;rw[dm]at hi;obtain⟨g,cap,h1,_,h3,h4,_,h6⟩:=cd h.fg ag;refine⟨g,cap,h1,h4,h3,hi,fun j v hv=>h6 _ _ ?_⟩;have hj:j<5:=(cI.1 hv).1;rw[flat_get Fr.cells 5 (fun _=>rfl) m.fs.reverse i j (by rw[dm];exact hi) hj];obtain⟨hi',he⟩:=cI.1 hp;rw[he];exact hv
def turnsF:List (Value×Fr)→Int
 |[]=>0
 |p :: r=>if p.2.dX=2 then p.2.n else turnsF r
theorem Vc(l:List (Value×Fr))(k:Nat)(hk:k<l.length):l.reverse[k]?=l[l.length - 1 - k]?:=List.getElem?_reverse hk
theorem MJ(h:bC B w sb F x m u)(hf:∀p∈m.fs,p.2.dX≤3):
  Calls prog 209 #[ax x.mb] w fun r w'=>r=.returned (ae (turnsF m.fs))∧w'=w:=by
 obtain⟨c0,c1,c2,c3,c4,hlt⟩:=h.cells;obtain⟨ad,cap,hfv,hcap,hmax⟩:=bo h.fg;have hlen:=h.len.1;obtain⟨R,hR⟩:=ak (turnsF m.fs);rw[←hR];rw[hfv]at c1;have H:=af h;have HFV:=af hfv;have HR:=af hR;have HF:=af hf;obtain⟨n,hn⟩:=ak (m.fs.length);rw[←hn]at hlen c1 hcap;have HN:=af hn;clear h hfv hR hf hn c0 c2 c3 c4;go_enter func209,ntmps209;go_wp2_with fail;go_loopw[3] (fun s wr=>∃k:Nat,k≤n∧s=ae ((k:Int) - 1)∧wr=w∧Hid (R=turnsF (m.fs.drop (n - k)))) (fun s _=>(intOf s+1).toNat)
 case atStart=>exact⟨n,aH,rfl,rfl,af (by rw[HR.out,Nat.sub_self];rfl)⟩
 case round=>
  clear HR;obtain⟨k,hk,rfl,rfl,HC⟩:=hrel
  by_cases h0:k=0
  ·subst h0
   have ee:Hid (R=0):=by show R=0;rw[HC.out,List.drop_of_length_le Gt];rfl
   clear HC;go_wp2_with fail;rw[ee.out];go_ret;exact⟨rfl,rfl⟩
  ·obtain⟨j,rfl⟩:∃j,k=j+1:=⟨k - 1,ag⟩
   have hjn:n - (j+1)<m.fs.length:=Gt;obtain⟨p,hp⟩:∃p,m.fs[n - (j+1)]?=some p:=⟨_,bE hjn⟩
   have hpr:m.fs.reverse[j]?=some p:=by
    rw[Vc m.fs j Gt,←HN.out,show n - 1 - j=n - (j+1) by omega];exact hp
   obtain⟨g,bq,e1,e2,e3,e4,e5⟩:=H.Pg j hpr
   have had:ad=some (ai g 0)∧cap=bq:=by
    have:=HFV.symm.trans e1;simpa using this
   obtain⟨rfl,rfl⟩:=had;have q2:=e5 2 _ rfl;have q3:=e5 3 _ rfl
   have hdr:R=if p.2.dX=2 then p.2.n else turnsF (m.fs.drop (n - j)):=by
    obtain⟨h1,h2⟩:=cI.1 hp;rw[HC.out,qh h1,h2,turnsF,show n - (j+1)+1=n - j by omega]
   have hb3:=HF.out p (mF hp);have HD:=af hdr;have hji:((j+1:Nat):Int) - 1=(j:Int):=ag;have hj0:(0:Int)≤(j:Int):=ag;have tZ:(j:Int)<(n:Int):=ag;rw[hji];obtain⟨bb,fK⟩:=ak (p.2.dX);rw[←fK]at q2 hb3 HD;clear hdr hp hpr e1 e5 HC fK hji
   by_cases h2:bb=2
   ·subst h2
    have ee:Hid (R=p.2.n):=by show R=_;rw[HD.out,aG rfl]
    go_wp2_with fail
    rw[ee.out];go_ret;exact⟨rfl,rfl⟩
   ·have ee:Hid (R=turnsF (m.fs.drop (n - j))):=by show R=_;rw[HD.out,az h2]
    have hbe:((bb:Int) == 2)=false:=aK;have di:decide ((bb:Int)=2)=false:=aK;go_wp2_with fail;go_roundw
    case rel=>exact⟨j,ag,rfl,y8,ee⟩
    case measure=>simp only[intOf];omega
end
end
section
attribute [local go_sem] fH
theorem aa7(n:Nat)(h:n≤1000000000000):IntKind.wrap .i64 (n:Int)=(n:Int):=by
 simp only[IntKind.wrap,show IntKind.i64.bits=64 from rfl,show IntKind.i64.signed=true from rfl,Bool.true_and,decide_eq_true_eq];omega
section
variable{B:Nat}{w w':World}{sb:Nat}{F:Nat→Prop}{x:DX}{m m':DM}{u u':MW}
theorem bC.frames{fs':List (Value×Fr)}(h:bC B w sb F x m u)(hc:aq (fun b=>b=x.mb∨x.fv.ownBlock=some b) w w')(hb:ay w' x.mb (uS sb {x with fv:=oh} m) 226)(hf:uu B w' oh fs')(h1:Lc w x.fv oh)(oV:∀p∈fs',fk F w p.1 p.2.its)(hn:fs'.length≤2000000):DN B w sb F x {m with fs:=fs'} u w' {x with fv:=oh}:=by
 have hB:=h.toBelow hc (fun b e=>e.elim aC (fun e=>aA (aA (aC e))))
 exact h.machine (oh:=oh) (tv':=x.tv) hc hb hf (aR h.cH hc (fun b hb e=>by
  rcases e with e|e
  ·subst e;exact aZ h.cH h.dA aj hb
  ·exact fw h.fg h.cH aj e hb)) h1 (Lc.refl _ _) (fun p hp=>(oV p hp).below h.fb hB) ⟨hn,h.len.2.1⟩
theorem VW{va:Option Addr}{vn vc:Nat}(f:Fr)(h:bC B w sb F x m u)(hf:fk F w (.slice va vn vc) f.its)(hl:m.fs.length+1≤2000000):
  Calls prog 200 #[ax x.mb,.agg #[.slice va vn vc,ae f.i,ae f.dX,ae f.n,ae f.e]] w fun r w'=>r=.returned (.tuple #[])∧dp B w sb F x {m with fs:=(.slice va vn vc,f) :: m.fs} u w':=by
 obtain⟨c0,c1,c2,c3,c4,hlt⟩:=h.cells;obtain⟨ad,cap,hfv,hcap,hmax⟩:=bo h.fg;have hB:=h.le;have H:=af h;have HFV:=af hfv;have HF:=af hf;obtain⟨n,hn⟩:=ak (m.fs.length);have HN:=af hn;obtain⟨cs,hcs⟩:=ak (#[.slice va vn vc,ae f.i,ae f.dX,ae f.n,ae f.e]:Array Value);have HCS:=af hcs;obtain⟨Y,hY⟩:=ak (w.alloc (.cells cs 257 (0,0)):World);obtain⟨pb,hpb⟩:=ak (w.heap.size);have eW:ay Y pb cs 257:=by rw[hY,hpb];exact bJ w _ _
 have dV:Below w.heap.size w Y:=Gj;have hAY:=(h.below dV).at_;have hYs:Y.heap.size=pb+1:=by rw[hY,hpb];simp
 obtain⟨xs,hxs⟩:=ak (m.fs.reverse.flatMap Fr.cells)
 have hro:Y.ownsRow B 257 5 (.slice ad n cap) n xs:=by
  have:=hAY.fg;rw[hfv]at this;rw[hxs,hn];exact this
 have hnp:(Value.slice ad n cap).ownBlock≠some pb:=fun e=>by
  have h1:x.fv.ownBlock=some pb:=by rw[hfv,←hn];exact e
  have:=cJ h.fg h1;omega
 have hnm:(Value.slice ad n cap).ownBlock≠some x.mb:=aZ hro hAY.dA aj
 have key:∀w':World,aq (fun b=>(Value.slice ad n cap).ownBlock=some b) Y w'→w'.cell? (ai x.mb 1)=some (.slice ad n cap)∧∀(j:Nat) (v:Value),cs[j]?=some v→w'.cell? (ai pb j)=some v:=fun w' hc=>
  ⟨(hc.cell (p:=ai x.mb 1) hAY.dA.lt hnm).trans (by have:=hAY.cells.2.1;rw[hfv,←hn]at this;exact this),fun j v hv=>(hc.cell (p:=ai pb j) (by show pb<Y.heap.size;omega) hnp).trans (eW.cell j v hv)⟩
 have hne:Nonempty {w':World // aq (fun b=>(Value.slice ad n cap).ownBlock=some b) Y w'}:=⟨⟨Y,aq.refl _ _⟩⟩;have k1:∀v:{w':World // aq (fun b=>(Value.slice ad n cap).ownBlock=some b) Y w'},v.val.cell? (ai x.mb 1)=some (.slice ad n cap):=fun v=>(key _ v.property).1
 have p0:∀v:{w':World // aq (fun b=>(Value.slice ad n cap).ownBlock=some b) Y w'},v.val.cell? (ai pb 0)=some (.slice va vn vc):=fun v=>(key _ v.property).2 0 _ sY
 have p1:∀v:{w':World // aq (fun b=>(Value.slice ad n cap).ownBlock=some b) Y w'},v.val.cell? (ai pb 1)=some (ae f.i):=fun v=>(key _ v.property).2 1 _ sY
 have p2:∀v:{w':World // aq (fun b=>(Value.slice ad n cap).ownBlock=some b) Y w'},v.val.cell? (ai pb 2)=some (ae f.dX):=fun v=>(key _ v.property).2 2 _ sY
 have p3:∀v:{w':World // aq (fun b=>(Value.slice ad n cap).ownBlock=some b) Y w'},v.val.cell? (ai pb 3)=some (ae f.n):=fun v=>(key _ v.property).2 3 _ sY
 have p4:∀v:{w':World // aq (fun b=>(Value.slice ad n cap).ownBlock=some b) Y w'},v.val.cell? (ai pb 4)=some (ae f.e):=fun v=>(key _ v.property).2 4 _ sY
 obtain⟨i0,hi,hz0,hz1,hz2⟩:=info_parts Tryz.adn;have HI:=af (aY hi (aY hz0 (aY hz1 hz2)));have fB:=af (show ∀v∈cs.toList,v.oneCell'=true by rw[hcs];intro v hv;simp at hv;rcases hv with rfl|rfl|rfl|rfl|rfl<;>rfl);have HQ:=af (aY (show n+1≤maxLen by unfold maxLen;omega) (show(n+1)*56≤140737488355328 by omega));have px:=af eW;have cx:=af dV;have HAY:=af hAY;have HRO:=af hro;have HY:=af hY;have HPB:=af hpb;have HXS:=af hxs;have rD:=af hYs;have hpY:pb<Y.heap.size:=ag;have hlY:x.mb<Y.heap.size:=ag;clear h hfv hf hn eW dV hAY hYs hro key hi hz0 hz1 hz2 c0 c1 c2 c3 c4 hxs hpb hY;go_enter func200,ntmps200;go_upto_region 1 with fail
 rw[show #[.slice va vn vc,ae f.i,ae f.dX,ae f.n,ae f.e]=cs from hcs.symm,←HY.out,←HPB.out];refine ly (C:=eM fun w'=>aq (fun b=>(Value.slice ad n cap).ownBlock=some b) Y w') 10 [6,7] ⟨Y.drew,(aq.refl _ Y).drew⟩ aP aP rfl ?_;rw[show List.range 10=[0,1,2,3,4,5,6,7,8,9]from rfl]
 repeat (refine eV rfl rfl (fun K hK=>?_);go_simp;refine hK _ ?_;clear hK K)
 rw[←hcs];have hKW:=af (show ∀j u,cs.toList[j]?=some u→(Y.drew.alloc (.cells cs 257 (0,0))).cell? ((Addr.mk Y.heap.size 0 none).add j)=some u from World.news_of_block (fr:=(0,0)) (heap_alloc_new Y.drew _));refine oG rfl rfl (aD Y.heap.size 1 1) (Y.drew.alloc (.cells cs 257 (0,0))) ((aq.refl _ Y).drew.alloc _) (aC (by rw[hcs];go_simp)) ?_;obtain⟨hi,hz0,hz1,hz2⟩:=HI.out;refine CG rfl rfl (Y.drew.alloc (.cells cs 257 (0,0))) rfl _ _ _ rfl B 257 i0 frz 5 56 underlying224 hi hz0 hz1 hz2 rfl aj (.slice ad n cap) n xs rfl (HRO.drew.alloc _) (Addr.mk Y.heap.size 0 none) 1 1 cs.toList rfl sY hKW fB aj HQ.out.1 HQ.out.2 (by have:=HAY.le;simp;omega) (Y.heap.size+1) aF (fun w' hg=>((aq.refl _ Y).drew.alloc _).trans ((aq.dP hg).mono (fun k _ e=>e.symm))) ?_;intro g2 bq w2 bP hr2 hg2 lJ hlt2
 repeat (refine eV rfl rfl (fun K hK=>?_);go_simp;refine hK _ ?_;clear hK K)
 have d1:=k1 ⟨w2,bP⟩;simp only at d1;have hb2:=HAY.dA.aB bP hnm;have f1:=hb2.frozen 1;have HR2:=af hr2;have lB:=af bP;have aW:=af hb2;have gU:=af lJ;refine iV ?_;intro w' hw';rw[show w'=w2 from hw'];clear hw' w' k1 p0 p1 p2 p3 p4 hne hr2 hg2 lJ hi hz0 hz1 hz2 hb2;simp only[List.drop_succ_cons,List.drop_zero];have hl2:x.mb<w2.heap.size:=bF hlY bP.size;clear bP;go_wp2_with fail;go_end0;have cO:aq (fun b=>b=x.mb) w2 (w2.setCell (ai x.mb 1) (aD g2 (n+1) bq)):=(aq.refl (fun b=>b=x.mb) w2).setCell (p:=ai x.mb 1) rfl _;have hbe:x.fv=.slice ad n cap:=by rw[HFV.out,HN.out]
 have hcw:aq (fun b=>b=x.mb∨x.fv.ownBlock=some b) w (w2.setCell (ai x.mb 1) (aD g2 (n+1) bq)):=((aq.bf cx).trans (lB.mono (fun b _ e=>aA (by rw[hbe];exact e)))).trans (cO.mono (fun b _ e=>aC e));refine⟨rfl,_,H.frames (oh:=aD g2 (n+1) bq) (fs':=(.slice va vn vc,f) :: m.fs) hcw ?_ ?_ ?_ ?_ hl⟩
 ·have:=aW.set (o:=1) (aD g2 (n+1) bq)
  simpa [uS]using this
 ·show World.ownsRow _ _ _ _ _ _ _
  rw[fA,←HN.out,List.reverse_cons,kS,←HXS.out,List.flatMap_singleton];have e:Fr.cells (.slice va vn vc,f)=cs.toList:=by rw[HCS.out];rfl
  rw[e];exact aR HR2 cO (fun b hb e=>by subst e;exact aZ HR2 aW aj hb)
 ·intro k hk
  simp only[Value.ownBlock,Option.some.injEq]at hk;subst hk;rcases gU.out with e|e
  ·exact aC (by rw[hbe];exact e)
  ·right;have:=rD.out;have:=HPB.out;omega
 ·intro p hp
  rcases er.1 hp with rfl|hp
  ·exact HF
  ·exact H.oD p hp
theorem QL{p:Value×Fr}{r:List (Value×Fr)}(h:bC B w sb F x m u)(hp:m.fs=p :: r):
  Calls prog 174 #[ax x.mb] w fun e w'=>e=.returned (.tuple #[])∧dp B w sb F x {m with fs:=r} u w':=by
 obtain⟨c0,c1,c2,c3,c4,hlt⟩:=h.cells;have hfl:m.fs.length=r.length+1:=by rw[hp];rfl
 have hrow:=h.fg;rw[show uu B w x.fv m.fs=w.ownsRow B 257 5 x.fv m.fs.length (m.fs.reverse.flatMap Fr.cells)from rfl,hfl]at hrow;obtain⟨g,cap,hfv,_,hg,hcap,_,_⟩:=cd hrow ag;rw[hfv]at c1 hrow;have hlen:=h.len.1;have f1:=h.dA.frozen 1;rw[hp,List.reverse_cons,kS]at hrow;have wR:=ownsRow_pop hrow (by rw[O5,dm]);have H:=af h;have HP:=af wR;have HFV:=af hfv;have HPE:=af hp;rw[hfl]at hlen;obtain⟨n,hn⟩:=ak (r.length);rw[←hn]at c1 hcap hlen HP;have HN:=af hn;have k1:∀v:{w':World // w'=w.drew},v.val.cell? (ai x.mb 1)=some (aD g (n+1) cap):=fun v=>by rw[v.property];exact c1
 have hne:Nonempty {w':World // w'=w.drew}:=⟨⟨w.drew,rfl⟩⟩;have eF:(0:Int)≤(n:Int):=ag;have hn1:(n:Int)≤(cap:Int):=ag;have hn2:(n:Int)+1 - 1=(n:Int):=ag;have gT:IntKind.wrap .i64 (n:Int)=(n:Int):=aa7 n ag;clear h hrow wR hfv hp hn c0 c2 c3 c4 hfl;go_enter func174,ntmps174;refine ly (C:=eM fun w'=>w'=w.drew) 14 [] ⟨w.drew,rfl⟩ aP aP rfl ?_;rw[show List.range 14=[0,1,2,3,4,5,6,7,8,9,10,11,12,13]from rfl]
 repeat (refine eV rfl rfl (fun K hK=>?_);go_simp;refine hK _ ?_;clear hK K)
 refine iV ?_;intro w' hw';rw[show w'=w.drew from hw'];clear hw' w' k1 hne;simp only[List.drop_succ_cons,List.drop_zero];go_wp2_with fail;go_end0;have cO:aq (fun b=>b=x.mb) w (w.drew.setCell (ai x.mb 1) (aD g n cap)):=(aq.refl (fun b=>b=x.mb) w).drew.setCell (p:=ai x.mb 1) rfl _;refine⟨rfl,_,H.frames (oh:=aD g n cap) (fs':=r) (cO.mono (fun b _ e=>aC e)) ?_ ?_ ?_ (fun q hq=>H.oD q (by rw[HPE.out];exact List.mem_cons_of_mem _ hq)) Gt⟩
 ·have:=(H.dA.set (o:=1) (aD g n cap)).drew
  simpa [uS]using this
 ·show World.ownsRow _ _ _ _ _ _ _
  rw[←HN.out];exact aR HP cO (fun b hb e=>by subst e;exact aZ HP H.dA aj hb)
 ·intro k hk
  left
  rw[HFV.out];exact hk
end
end
end Go.Proofs.YtcphhbofjkenaaaGreatDoor
