import Derived.Test.YtcphhbofjkenaaaGreatDoorM14
import Derived.Test.YtcphhbofjkenaaaGreatDoorM28
namespace Go.Proofs.YtcphhbofjkenaaaGreatDoor
open Go Go.RowKit
set_option linter.unusedVariables false
set_option linter.unusedSimpArgs false
set_option maxRecDepth 100000
set_option maxHeartbeats 16000000
section
attribute [local go_sem] dK
def RW.flat(x:RW):Prop:=∃a n c,x.items=.slice a n c
theorem RW.one{x:RW}(h:x.flat):∀u∈x.cells,u.oneCell'=true:=by
 obtain⟨a,n,c,h⟩:=h;intro u hu;simp only[RW.cells,h,List.mem_cons,List.not_mem_nil,or_false]at hu;rcases hu with rfl|rfl|rfl|rfl|rfl|rfl|rfl|rfl<;>rfl
def rwz:Value:=.agg #[.string ⟨#[]⟩,.int .i64 0,.slice none 0 0,.int .i64 0,.int .i64 0,.int .i64 0,.int .i64 0,.bool false]
theorem Tryz.Vd:(Tryz.prog.info? 186).map (fun i=>(i.zero,i.size,i.bytes))=some (some rwz,8,88):=by kernel_rfl
theorem aK.push{w w2:World}{sb:Nat}{sv v2:Value}{ws:List RW}{c k:Int}{x:RW}(h:aK w sb sv ws c k)
  (hr:w2.ownsRow 0 186 8 v2 (ws.length+1) (oH ws++x.cells)) (hc:aj (fun b=>sv.ownBlock=some b) w w2):aK (w2.setCell ⟨sb,0,none⟩ v2) sb v2 (ws++[x]) c k:=by
 have hb2:az w2 sb #[sv,.int .i64 c,.int .i64 k] 176:=h.blk.aA hc h.apart;have hne:v2.ownBlock≠some sb:=ah hr hb2 (by decide);refine⟨?_,?_,hne⟩
 ·have:=hb2.set (o:=0) v2
  simpa using this
 ·have:=af hr ((aj.refl (fun b=>b=sb) w2).setCell (p:=⟨sb,0,none⟩) rfl v2) (fun k hk e=>hne (by rw[hk,e]))
  simpa [oH]using this
theorem aK.akk{w:World}{sb:Nat}{sv:Value}{ws:List RW}{c k:Int}(h:aK w sb sv ws c k)(x:Int):aK (w.setCell ⟨sb,1,none⟩ (.int .i64 x)) sb sv ws x k:=by
 refine⟨?_,af h.row ((aj.refl (fun b=>b=sb) w).setCell (p:=⟨sb,1,none⟩) rfl _) (fun k hk e=>h.apart (by rw[hk,e])),h.apart⟩;have:=h.blk.set (o:=1) (.int .i64 x);simpa using this
theorem aK.akl{w:World}{sb:Nat}{sv:Value}{ws:List RW}{c k:Int}(h:aK w sb sv ws c k)(x:Int):aK (w.setCell ⟨sb,2,none⟩ (.int .i64 x)) sb sv ws c x:=by
 refine⟨?_,af h.row ((aj.refl (fun b=>b=sb) w).setCell (p:=⟨sb,2,none⟩) rfl _) (fun k hk e=>h.apart (by rw[hk,e])),h.apart⟩;have:=h.blk.set (o:=2) (.int .i64 x);simpa using this
theorem Rd.next{w w':World}{rb sb:Nat}{tv sv qm:Value}{ae:List Tk}{ws tV:List RW}{c k c' k':Int}{cs cs':Array Value}(h:Rd w rb sb tv sv ae ws c k)(hb:az w rb cs 181)(hb':az w' rb cs' 181)
  (hc:aj (fun b=>b=rb∨b=sb∨sv.ownBlock=some b) w w') (hs:aK w' sb qm tV c' k') (hl:tV.length≤1100000) (hw:∀x∈tV,x.inf.Wt 1∧∃a n c,x.items=.slice a n c):Rd w' rb sb tv qm ae tV c' k':=by
 refine⟨h.tok.aA hc (fun b hk e=>?_),hs,h.tr,ah hs.row hb' (by decide),h.ne,h.few,hl,hw,h.tsz⟩;rcases e with e|e|e
 ·exact h.tr (by rw[hk,e])
 ·exact ah h.tok h.sys.blk (by decide) (by rw[hk,e])
 ·exact bQ h.tok h.sys.row (by decide) hk e
theorem xI(rb sb:Nat)(tv sv:Value)(ae:List Tk)(ws:List RW)(c k:Int)(I:Nat)(fin A:Int)(w:World)
  (hR:Rd w rb sb tv sv ae ws c k) (hb:az w rb (bK sb tv I fin 0 A) 181) (hI:I≤ae.length) (h0:II ws c (aC ae I)≠0):
  Calls Tryz.prog 89 #[.pointer (some ⟨rb,0,none⟩)] w fun e w'=>e=.returned (.tuple #[])∧az w' rb (bK sb tv I fin (II ws c (aC ae I)) (kz ae fin I)) 181∧aj (fun b=>b=rb) w w':=by
 have Ad:=hR.few
 by_cases hn:yQ ws (aC ae I)=0
 ·have afP:16≤c:=by
   unfold II at h0;rw[if_pos hn]at h0;rcases Int.lt_or_le c 16 with h|h
   ·rw[if_neg (by omega)]at h0;exact absurd rfl h0
   ·exact h
  have hE:II ws c (aC ae I)=8:=by unfold II;rw[if_pos hn,if_pos afP]
  rw[hE];have HN:=ast (o9 rb sb tv sv ae ws c k I fin A w hR hb hI hn);have HX:=ast (fun (w':World) (bT:Below w.heap.size w w')=>gz rb sb tv ae I I fin A 8 w' (by omega) (by omega) ((bT.block _ hb.lt).trans hb) (hR.aA (aj.au bT)).tok hR.tr);have HR:=ast hR;have HB:=ast hb;obtain⟨t,ht⟩:=exq (aC ae I);rw[←ht]at HN;clear hR hb h0 hn hE ht;go_enter Tryz.func89,Tryz.ntmps89
  go_wp2_with fail
  refine HN.out.mono ?_;rintro e w1 ⟨rfl,h1⟩;have hb1:az w1 rb (bK sb tv I fin 0 A) 181:=(h1.block _ HB.out.lt).trans HB.out;have hR1:=HR.out.aA (aj.au h1);obtain⟨r0,r1,r2,r3,r4,r5⟩:=hb1.bK;obtain⟨s0,s1,s2⟩:=hR1.sys.cells;have H1:=ast h1;clear h1 HN hb1 hR1;go_wp2_with fail
  refine(HX.out _ H1.out).mono ?_;rintro e w2 ⟨rfl,hb2,hc2⟩;have H3:=ast hb2;have H4:=ast ((aj.au H1.out).trans hc2);clear hb2 hc2 HX r0 r1 r2 r3 r4 r5 s0 s1 s2;go_wp2_with fail
  exact bodyPost_ret (results_none rfl _ _ _) rfl ⟨rfl,H3.out,H4.out⟩
 ·have hE:II ws c (aC ae I)=yQ ws (aC ae I):=by unfold II;rw[if_neg hn]
  rw[hE];have HN:=ast (sH rb sb tv sv ae ws c k I fin A w hR hb hI hn);clear hR hb h0 hn hE;go_enter Tryz.func89,Tryz.ntmps89
  go_wp2_with fail
  refine HN.out.mono ?_;rintro e w1 ⟨rfl,h1,h2⟩;have H1:=ast h1;have H2:=ast h2;clear h1 h2 HN;go_wp2_with fail
  exact bodyPost_ret (results_none rfl _ _ _) rfl ⟨rfl,H1.out,H2.out⟩
theorem yS(rb sb:Nat)(tv sv:Value)(ae:List Tk)(ws:List RW)(c k:Int)(I:Nat)(fin A:Int)(w:World)
  (hR:Rd w rb sb tv sv ae ws c k) (hb:az w rb (bK sb tv I fin 0 A) 181) (hI:I≤ae.length) (hc0:0≤c) (h0:II ws c (aC ae I)=0):
  Calls Tryz.prog 89 #[.pointer (some ⟨rb,0,none⟩)] w fun e w'=>e=.returned (.tuple #[])∧az w' rb (bK sb tv ((I+1:Nat):Int) fin 0 A) 181∧(∃qm,aK w' sb qm (ws++[⟨aC ae I,c,.slice none 0 0,⟨0,0,0,0,false⟩,[]⟩]) (c+1) k∧Lc w sv qm)∧aj (fun b=>b=rb∨b=sb∨sv.ownBlock=some b) w w':=by
 have Ad:=hR.few;have hwf:=hR.EG
 have hn:yQ ws (aC ae I)=0:=by
  unfold II at h0;rcases Classical.em (yQ ws (aC ae I)=0)with h|h
  ·exact h
  ·rw[if_neg h]at h0;exact absurd h0 h
 have afP:c<16:=by
  unfold II at h0;rw[if_pos hn]at h0;rcases Int.lt_or_le c 16 with h|h
  ·exact h
  ·rw[if_pos h]at h0;cases h0
 have apO:ws.length<40:=by
  unfold yQ at hn;rcases Nat.lt_or_ge ws.length 40 with h|h
  ·exact h
  ·rw[if_pos h]at hn;split at hn<;>cases hn
 have HN:=ast (o9 rb sb tv sv ae ws c k I fin A w hR hb hI hn);obtain⟨t,ht⟩:=exq (aC ae I);rw[←ht]at HN ⊢;obtain⟨ad,cap,hv,hcap,_⟩:=ag hR.sys.row;have hrs:rb≠sb:=hR.ne;have ZV:sb≠rb:=hR.ne.symm;have HR:=ast hR;have HB:=ast hb;subst hv;clear hR hb h0 hn ht;go_enter Tryz.func89,Tryz.ntmps89
 go_wp2_with fail
 refine HN.out.mono ?_;rintro e w1 ⟨rfl,h1⟩;have hb1:az w1 rb (bK sb tv I fin 0 A) 181:=(h1.block _ HB.out.lt).trans HB.out;have hR1:=HR.out.aA (aj.au h1);obtain⟨r0,r1,r2,r3,r4,r5⟩:=hb1.bK;obtain⟨s0,s1,s2⟩:=hR1.sys.cells;have DJ:=hb1.frozen 2;obtain⟨W,hW⟩:=exq (w1.setCell ⟨rb,2,none⟩ (.int .i64 ((I:Int)+1)):World)
 have hbW:az W rb (bK sb tv ((I+1:Nat):Int) fin 0 A) 181:=by
  rw[hW];have:=hb1.set (o:=2) (.int .i64 ((I:Int)+1));simpa [bK]using this
 have A8:aj (fun b=>b=rb) w W:=by rw[hW];exact(aj.au h1:aj (fun b=>b=rb) w w1).setCell (p:=⟨rb,2,none⟩) rfl _
 have dX:=ast hbW;have pR:=ast A8;clear h1 HN hb1 hR1 hbW A8;go_upto_region 5 with fail
 rw[←hW];clear hW r0 r1 r2 r3 r4 r5 s0 s1 s2 DJ;obtain⟨r0,r1,r2,r3,r4,r5⟩:=dX.out.bK;have ZW:=HR.out.aA pR.out;obtain⟨s0,s1,s2⟩:=ZW.sys.cells;have q0:=ZW.sys.blk.frozen 0;have hrl:=dX.out.lt;have hsl:=ZW.sys.blk.lt;have HN:=ast ZW.sys.apart;have HNR:=ast ZW.sr;have hown:=ast ZW.sys.row;have zy:=ast ZW;obtain⟨i0,hi,hz0,hz1,hz2⟩:=info_parts Tryz.Vd;have HI:=ast (And.intro hi (And.intro hz0 (And.intro hz1 hz2)));have H1:=ast (RW.one (x:=⟨t,c,.slice none 0 0,⟨0,0,0,0,false⟩,[]⟩) ⟨_,_,_,rfl⟩);have HC:=ast (show ws.length+1≤maxLen by unfold maxLen;omega);have vH:=ast (show(ws.length+1)*88≤140737488355328 by omega);have hne:Nonempty {w':World // aj (fun b=>(Value.slice ad ws.length cap).ownBlock=some b) W w'}:=⟨⟨W,aj.refl _ _⟩⟩;have k0:∀u:{w':World // aj (fun b=>(Value.slice ad ws.length cap).ownBlock=some b) W w'},u.val.cell? ⟨rb,0,none⟩=some (.pointer (some ⟨sb,0,none⟩)):=fun u=>(u.property.cell (p:=⟨rb,0,none⟩) hrl HNR.out).trans r0
 have k1:∀u:{w':World // aj (fun b=>(Value.slice ad ws.length cap).ownBlock=some b) W w'},u.val.cell? ⟨sb,0,none⟩=some (.slice ad ws.length cap):=fun u=>(u.property.cell (p:=⟨sb,0,none⟩) hsl HN.out).trans s0
 have k2:∀u:{w':World // aj (fun b=>(Value.slice ad ws.length cap).ownBlock=some b) W w'},u.val.cell? ⟨sb,1,none⟩=some (.int .i64 c):=fun u=>(u.property.cell (p:=⟨sb,1,none⟩) hsl HN.out).trans s1
 clear r0 r1 r2 r3 r4 r5 s0 s1 s2 ZW hi hz0 hz1 hz2;refine aH (C:=fJ fun w'=>aj (fun b=>(Value.slice ad ws.length cap).ownBlock=some b) W w') 24 [20,21] ⟨W.drew,(aj.refl _ W).drew⟩ (by kernel_rfl) (by kernel_rfl) rfl ?_;rw[show List.range 24=[0,1,2,3,4,5,6,7,8,9,10,11,12,13,14,15,16,17,18,19,20,21,22,23]from rfl]
 repeat (refine aO rfl rfl (fun K hK=>?_);go_simp;refine hK _ ?_;clear hK K)
 have hKW:=ast (show ∀j u,([.string t,.int .i64 c,.slice none 0 0,.int .i64 0,.int .i64 0,.int .i64 0,.int .i64 0,.bool false]:List Value)[j]?=some u→(W.drew.alloc (.cells #[.string t,.int .i64 c,.slice none 0 0,.int .i64 0,.int .i64 0,.int .i64 0,.int .i64 0,.bool false] 186 (0,0))).cell? ((Addr.mk W.heap.size 0 none).add j)=some u from World.news_of_block (fr:=(0,0)) (heap_alloc_new W.drew _));refine eu rfl rfl (.slice (some ⟨W.heap.size,0,none⟩) 1 1) (W.drew.alloc (.cells #[.string t,.int .i64 c,.slice none 0 0,.int .i64 0,.int .i64 0,.int .i64 0,.int .i64 0,.bool false] 186 (0,0))) ((aj.refl _ W).drew.alloc _) (Or.inl (by go_simp)) ?_;obtain⟨hi,hz0,hz1,hz2⟩:=HI.out;refine oM rfl rfl (W.drew.alloc (.cells #[.string t,.int .i64 c,.slice none 0 0,.int .i64 0,.int .i64 0,.int .i64 0,.int .i64 0,.bool false] 186 (0,0))) rfl _ _ _ rfl 0 186 i0 rwz 8 88 Tryz.underlying174 hi hz0 hz1 hz2 rfl (by decide) (.slice ad ws.length cap) ws.length (oH ws) rfl (hown.out.drew.alloc _) (Addr.mk W.heap.size 0 none) 1 1 [.string t,.int .i64 c,.slice none 0 0,.int .i64 0,.int .i64 0,.int .i64 0,.int .i64 0,.bool false] rfl rfl hKW.out H1.out (by decide) HC.out vH.out (Nat.zero_le _) (W.heap.size+1) (by simp) (fun w' hg=>((aj.refl _ W).drew.alloc _).trans ((aj.bD hg).mono (fun k _ e=>e.symm))) ?_;intro gg oO w1 jh hown1 hgrow hat iD;go_simp
 repeat (refine aO rfl rfl (fun K hK=>?_);go_simp;refine hK _ ?_;clear hK K)
 have EZ:=zy.out.sys.push (x:=⟨t,c,.slice none 0 0,⟨0,0,0,0,false⟩,[]⟩) hown1 jh;have Qg:=(dX.out.aA jh HNR.out).setOther (a:=⟨sb,0,none⟩) ZV (.slice (some ⟨gg,0,none⟩) (ws.length+1) oO)
 have Cj:aj (fun b=>b=rb∨b=sb∨(Value.slice ad ws.length cap).ownBlock=some b) w (w1.setCell ⟨sb,0,none⟩ (.slice (some ⟨gg,0,none⟩) (ws.length+1) oO)):=by
  have h1:aj (fun b=>b=rb∨b=sb∨(Value.slice ad ws.length cap).ownBlock=some b) w w1:=(pR.out.mono (fun k _ e=>Or.inl e)).trans (jh.mono (fun k _ e=>Or.inr (Or.inr e)));exact h1.setCell (p:=⟨sb,0,none⟩) (Or.inr (Or.inl rfl)) _
 have BP:Hid (Lc w (Value.slice ad ws.length cap) (.slice (some ⟨gg,0,none⟩) (ws.length+1) oO)):=fun k hk=>by simp only[Value.ownBlock,Option.some.injEq]at hk;subst hk;exact hat.imp id (fun e=>by rw[e];have:=pR.out.size;omega)
 have d0:=k1 ⟨w1,jh⟩;have d1:w1.frozen? ⟨sb,0,none⟩=false:=(zy.out.sys.blk.aA jh HN.out).frozen 0;have d2:=k0 ⟨w1,jh⟩;have d3:=k2 ⟨w1,jh⟩;have d4:w1.frozen? ⟨sb,1,none⟩=false:=(zy.out.sys.blk.aA jh HN.out).frozen 1;simp only at d0 d2 d3;have HPS:=ast (EZ.akk (c+1));have BK:=ast (Qg.setOther (a:=⟨sb,1,none⟩) ZV (.int .i64 (c+1)));have HCZ:=ast (Cj.setCell (p:=⟨sb,1,none⟩) (Or.inr (Or.inl rfl)) (.int .i64 (c+1)));refine df ?_;simp only[List.drop_succ_cons,List.drop_zero];clear EZ Qg Cj hgrow hown1 hat iD k0 k1 k2 hne;go_wp2_with fail
 go_end0
 exact⟨rfl,BK.out,⟨_,HPS.out,BP.out⟩,HCZ.out⟩
end
section
attribute [local go_sem] dK
def FD(rb sb:Nat)(tv sv:Value)(ws:List RW)(c k:Int)(I:Nat)(fin A:Int)(w:World)(R:(ByteArray×List AI×Nat) ⊕ (Int×Int))(e:Ending)(w':World):Prop:=
 e=.returned (.tuple #[])∧
 match R with
 |.inr (E,P)=>E≠0∧∃J:Nat,az w' rb (bK sb tv J fin E P) 181∧aj (fun b=>b=rb) w w'
 |.inl (t,l,I')=>az w' rb (bK sb tv I' fin 0 A) 181∧aj (fun b=>b=rb∨b=sb∨sv.ownBlock=some b) w w'∧
   ∃qm v,(∃a n c,v=.slice a n c)∧aK w' sb qm (ws++[⟨t, -1,v,vO l,trees l⟩]) c (k+I' - ((I:Int) - 1))∧Lc w sv qm∧∃F:Nat→Prop,(∀b,F b→w.heap.size≤b)∧bV F w' v (trees l)
theorem Lm(w:World)(t:TypeId):∀j (h:j<[ik].length),(w.alloc (.cells #[.string ik] t)).cell? ⟨w.heap.size,j,none⟩=some (.string [ik][j]):=by
 intro j h;have h1:j<1:=h
 match j,h1 with
 |0,_=>simp
theorem Ve{ws:List RW}{t:ByteArray}(h:yQ ws t=0):gy t=true∧ws.length<40:=by
 unfold yQ at h
 cases hh:gy t with
 |false=>rw[hh]at h;simp at h
 |true=>
  rw[hh]at h;refine⟨rfl,?_⟩;rcases Nat.lt_or_ge ws.length 40 with h2|h2
  ·exact h2
  ·simp[h2]at h
theorem abC{ae:List Tk}{I:Nat}(h:gy (aC ae I)=true):I<ae.length:=by
 rcases Nat.lt_or_ge I ae.length with h2|h2
 ·exact h2
 ·have:aC ae I=⟨#[]⟩:=by simp[aC,List.getD,List.getElem?_eq_none h2]
  rw[this]at h;exact absurd (aN []) (xH h)
theorem Ba(rb sb:Nat)(tv sv:Value)(ae:List Tk)(ws:List RW)(c k:Int)(I f:Nat)(fin A:Int)(w:World)
  (hR:Rd w rb sb tv sv ae ws c k) (hb:az w rb (bK sb tv I fin 0 A) 181) (hI:I≤ae.length) (hn:yQ ws (aC ae I)≠0):
  Calls Tryz.prog 90 #[.pointer (some ⟨rb,0,none⟩)] w (FD rb sb tv sv ws c k I fin A w (kX ws k ae fin f I)):=by
 have Ad:=hR.few
 have hE:kX ws k ae fin f I=.inr (yQ ws (aC ae I),kz ae fin I):=by
  unfold kX yQ;unfold yQ at hn
  cases hnm:gy (aC ae I)with
  |false=>simp
  |true=>
   rw[hnm]at hn;simp only[Bool.true_eq_false,if_false]at hn ⊢;rcases Nat.lt_or_ge ws.length 40 with h|h
   ·rw[if_neg (show ¬40≤ws.length by omega)]at hn;exact absurd rfl hn
   ·rw[if_pos h,if_pos h]
 rw[hE];obtain⟨r0,r1,r2,r3,r4,r5⟩:=hb.bK;have HN:=ast (sH rb sb tv sv ae ws c k I fin A w hR hb hI hn);have HE:=ast hn;have hI2:(I:Int)≤1100000:=by omega
 have hI3:(0:Int)≤(I:Int):=by omega
 clear hR hb hn hE;go_enter Tryz.func90,Tryz.ntmps90
 go_wp2_with fail
 refine HN.out.mono ?_;rintro e w1 ⟨rfl,h1,h2⟩;have H1:=ast h1;have H2:=ast h2;clear h1 h2 HN;go_wp2_with fail
 exact bodyPost_ret (results_none rfl _ _ _) rfl ⟨rfl,HE.out,I,H1.out,H2.out⟩
theorem FH(rb sb:Nat)(tv sv:Value)(ae:List Tk)(ws:List RW)(c k:Int)(I f:Nat)(fin A:Int)(w:World)
  (hR:Rd w rb sb tv sv ae ws c k) (hb:az w rb (bK sb tv I fin 0 A) 181) (hf:ae.length+1≤f) (hI1:1≤I) (hk0:0≤k) (dM:k≤400) (hn:yQ ws (aC ae I)=0):
  Calls Tryz.prog 90 #[.pointer (some ⟨rb,0,none⟩)] w (FD rb sb tv sv ws c k I fin A w (kX ws k ae fin f I)):=by
 have Ad:=hR.few;have hwf:=hR.EG;obtain⟨hnm,PY⟩:=Ve hn;have hIl:=abC hnm;obtain⟨R,hRR⟩:=exq (kX ws k ae fin f I);rw[←hRR];unfold kX at hRR;rw[if_neg (by rw[hnm];simp),if_neg (by omega)]at hRR;have HN:=ast (o9 rb sb tv sv ae ws c k I fin A w hR hb (by omega) hn);have afS:=ast hR.tsz;obtain⟨t,ht⟩:=exq (aC ae I);rw[←ht]at HN hRR;obtain⟨r0,r1,r2,r3,r4,r5⟩:=hb.bK;have hI2:(I:Int)≤1100000:=by omega
 have hI3:(1:Int)≤(I:Int):=by omega
 have XF:=hR.WS;have HR:=ast hR;have HB:=ast hb;have HRR:=ast hRR;have akm:=ast XF;clear hR hb hn ht hnm hRR XF;go_enter Tryz.func90,Tryz.ntmps90
 go_wp2_with fail
 refine HN.out.mono ?_;rintro e w1 ⟨rfl,h1⟩;have hb1:az w1 rb (bK sb tv I fin 0 A) 181:=(h1.block _ HB.out.lt).trans HB.out;clear r0 r1 r2 r3 r4 r5;obtain⟨r0,r1,r2,r3,r4,r5⟩:=hb1.bK;have DJ:=hb1.frozen 2;obtain⟨W,hW⟩:=exq (w1.setCell ⟨rb,2,none⟩ (.int .i64 ((I:Int)+1)):World)
 have hbW:az W rb (bK sb tv ((I+1:Nat):Int) fin 0 A) 181:=by
  rw[hW];have:=hb1.set (o:=2) (.int .i64 ((I:Int)+1));simpa [bK]using this
 have A8:aj (fun b=>b=rb) w W:=by rw[hW];exact(aj.au h1:aj (fun b=>b=rb) w w1).setCell (p:=⟨rb,2,none⟩) rfl _
 have dX:=ast hbW;have pR:=ast A8;clear h1 HN hb1 hbW A8;go_upto_region 4 with fail
 rw[←hW];clear hW r0 r1 r2 r3 r4 r5 DJ;have hW4:Rd (W.alloc (.cells #[.string ik] 9 (0,0))) rb sb tv sv ae ws c k:=(HR.out.aA pR.out).aA ((aj.refl _ W).alloc _);have JJ:=ast (Ap (ae.length+1) rb sb tv sv ae ws c k (I+1) f fin A 0 [ik] W.heap.size 1 (W.alloc (.cells #[.string ik] 9 (0,0))) hW4 (dX.out.alloc _) (by omega) (by omega) (by omega) (by omega) (by omega) (by decide) (by decide) (by have:=dX.out.lt;omega) (Lm W 9));have abD:(W.alloc (.cells #[.string ik] 9 (0,0))).heap.size=W.heap.size+1:=by simp
 obtain⟨W4,Yh⟩:=exq (W.alloc (.cells #[.string ik] 9 (0,0)):World);rw[←Yh]at JJ hW4 abD;have afT:aj (fun b=>b=rb) w W4:=by rw[Yh];exact pR.out.alloc _
 have HR4:=ast hW4;have HC4:=ast afT;have apQ:=ast abD;have H4E:=ast Yh;clear hW4 afT abD Yh dX pR;go_wp2_with fail
 rw[show Obj.cells #[Value.string ⟨#[59]⟩] 9=Obj.cells #[Value.string ik] 9 from rfl,←H4E.out];refine JJ.out.mono ?_;intro e w5 hP
 cases hp:aJ ws ae fin f [ik] 0 [] (I+1)with
 |inr q=>
  obtain⟨E,P⟩:=q;rw[hp]at hP;obtain⟨ad,m,cap,J,rfl,hE,mf,mY⟩:=hP;have hfin:Hid (R=.inr (E,P)):=by show R=_;rw[HRR.out,hp]
  have hEb:(E == 0)=false:=by simpa using hE
  have hEn:(E != 0)=true:=by simpa using hE
  obtain⟨r0,r1,r2,r3,r4,r5⟩:=mf.bK;have nJ:=ast mf;have BM:=ast (HC4.out.trans mY);have HE:=ast hE;clear mf mY hE JJ HRR hp;go_wp2_with fail
  rw[hfin.out];exact bodyPost_ret (results_none rfl _ _ _) rfl ⟨rfl,HE.out,J,nJ.out,BM.out⟩
 |inl q=>
  obtain⟨l,t',I'⟩:=q;rw[hp]at hP;obtain⟨v,xs,F,rfl,mf,mY,jI⟩:=hP;obtain⟨o1,o2,o3,o4⟩:=jC ws ae fin akm.out f [ik] 0 [] (I+1) l t' I' hp Zi (uo.nil 0);have hrr:=HRR.out;rw[hp]at hrr;simp only at hrr;obtain⟨ad,cap,hv,hcap,_⟩:=ag jI.row;subst hv
  obtain⟨G,hlo,afU⟩:∃G:Nat→Prop,(∀b,G b→w.heap.size≤b)∧bM G w5 [⟨t, -1,.slice ad l.length cap,vO l,trees l⟩]:=by
   refine⟨_,fun b hb=>?_,fun x hx _=>by rw[List.mem_singleton.1 hx];exact⟨_,jI.uZ w5 (fun _ _=>rfl)⟩⟩;rcases hb with hb|hb
   ·exact Nat.le_trans HC4.out.size (jI.fp b hb).1
   ·exact Nat.le_trans HC4.out.size (aF jI.row hb)
  have Rf:=ast hlo;have HT5:=ast afU;clear hlo afU;have hwt:∃r:Nat,r≤0+(I' - (I+1))∧(dw l).Wt r:=o4.upTo l.length nrq;have hR5:=HR4.out.aA mY;have HAL:=ast (jI.aek o4 (by omega) (by simp at o3;omega) w5 (fun _ _=>rfl) (fun _ _=>rfl) hR5.sys);have hw:vO l={dw l with steps:=(dw l).steps+1}:=rfl;obtain⟨i,hi⟩:=exq (dw l);rw[←hi]at hrr HAL hwt hw;obtain⟨rr,_,hwt⟩:=hwt;have hs0:=hwt.s0;have hs1:=hwt.s1;obtain⟨r0,r1,r2,r3,r4,r5⟩:=mf.bK;have nJ:=ast mf;have BM:=ast (HC4.out.trans mY);have Rt:=ast hR5;have HF:=ast hrr;have HWI:=ast hw;have hI4:(I:Int)+1<(I':Int):=by omega
  have hI5:(I':Int)≤1100000:=by omega
  obtain⟨p,O0⟩:∃p:Nat,I'=p+1:=⟨I' - 1,by omega⟩;have e1:(I':Int) - 1=(p:Int):=by omega
  have hpt:p≤ae.length:=by omega
  have HP1:=ast O0;simp only[Inf.val]at HAL;clear mf mY hR5 hrr hw hi JJ HRR hp jI o1 o2 o3 o4 hwt O0;go_wp2_with fail
  refine HAL.out.mono ?_;rintro e w6 ⟨rfl,Ig⟩;have Gs:az w6 rb (bK sb tv I' fin 0 A) 181:=(Ig.block _ nJ.out.lt).trans nJ.out;have hR6:=Rt.out.aA (aj.au Ig);have hT6:=HT5.out.below Ig;obtain⟨b1,hb1⟩:=exq (w6.heap.size);obtain⟨X,hX⟩:=exq (w6.alloc (.cells #[.int .i64 i.need,.int .i64 i.bu,.int .i64 i.high,.int .i64 i.steps,.bool i.str] 36 (0,0)):World);have bU:az X b1 #[.int .i64 i.need,.int .i64 i.bu,.int .i64 i.high,.int .i64 i.steps,.bool i.str] 36:=by rw[hX,hb1];exact ay w6 _ _
  have hBX:az X rb (bK sb tv I' fin 0 A) 181:=by rw[hX];exact Gs.alloc _
  have Qh:Rd X rb sb tv sv ae ws c k:=by rw[hX];exact hR6.aA ((aj.refl _ w6).alloc _)
  have xZ:aj (fun b=>b=rb) w X:=by rw[hX];exact(BM.out.trans (aj.au Ig)).alloc _
  have hTX:=hT6.below (show Below w6.heap.size w6 X by rw[hX];exact brq.alloc nrq _);have hnb:b1≠rb:=by have:=Gs.lt;omega
  have ako:rb≠b1:=hnb.symm;have hwb:w.heap.size≤b1:=by rw[hb1];exact Nat.le_trans BM.out.size Ig.size
  obtain⟨Y,hY⟩:=exq (X.setCell ⟨b1,3,none⟩ (.int .i64 (i.steps+1)):World);have Ci:aj (fun b=>b=b1) X Y:=by rw[hY];exact(aj.refl (fun b=>b=b1) X).setCell (p:=⟨b1,3,none⟩) rfl _
  have Lp:az Y b1 #[.int .i64 i.need,.int .i64 i.bu,.int .i64 i.high,.int .i64 (i.steps+1),.bool i.str] 36:=by rw[hY];have:=bU.set (o:=3) (.int .i64 (i.steps+1));simpa using this
  have Yi:=hBX.aA Ci ako;have IJ:tv.ownBlock≠some b1:=ah Qh.tok bU (by decide);have hns:sv.ownBlock≠some b1:=ah Qh.sys.row bU (by decide);have afV:sb≠b1:=kG Qh.sys.blk bU (by decide);have hRY:Rd Y rb sb tv sv ae ws c k:=⟨Qh.tok.aA Ci (fun b hb e=>IJ (by rw[hb,e])),Qh.sys.aA Ci afV (fun b hb e=>hns (by rw[hb,e])),Qh.tr,Qh.sr,Qh.ne,Qh.few,Qh.EG,Qh.WS,Qh.tsz⟩;have hCY:aj (fun b=>b=rb) w Y:=xZ.jG Ci (fun k hk e=>by omega);have c3:X.cell? ⟨b1,3,none⟩=some (.int .i64 i.steps):=bU.cell 3 _ rfl;have f3:=bU.frozen 3;have HTY:=ast (hTX.one Ci bU (by decide));clear hTX hT6 HT5;have Rj:=ast Lp;have nO:=ast Yi;have Yj:=ast hRY;have EO:=ast hCY;have HX:=ast hX;have HB1:=ast hb1;clear Ig Gs hR6 bU hBX Qh xZ Ci Lp Yi IJ hns hRY hCY HAL nJ BM Rt r0 r1 r2 r3 r4 r5 hX hb1;go_upto_region 7 with fail
  rw[←HX.out,←HB1.out];go_upto_region 8 with fail
  rw[←hY];obtain⟨r0,r1,r2,r3,r4,r5⟩:=nO.out.bK;obtain⟨s0,s1,s2⟩:=Yj.out.sys.cells;have y3:Y.cell? ⟨b1,3,none⟩=some (.int .i64 (i.steps+1)):=Rj.out.cell 3 _ rfl;have HXF:=ast (fun (w':World) (E:Int) (bT:Below Y.heap.size Y w')=>gz rb sb tv ae p I' fin A E w' (by omega) (by omega) ((bT.block _ nO.out.lt).trans nO.out) (Yj.out.aA (aj.au bT)).tok Yj.out.tr);clear c3 f3 hY
  by_cases h7:1000000000<i.steps+1
  ·have hfin:Hid (R=.inr (7,kz ae fin p)):=by
    show R=_;rw[HF.out,if_pos h7,show I' - 1=p by have:=HP1.out;omega]
   clear HF;go_wp2_with fail
   refine(HXF.out _ _ brq).mono ?_;rintro e w7 ⟨rfl,zk,sZ⟩;have H7:=ast zk;have H8:=ast (EO.out.trans sZ);clear zk sZ r0 r1 r2 r3 r4 r5 s0 s1 s2 y3;go_wp2_with fail
   rw[hfin.out];exact bodyPost_ret (results_none rfl _ _ _) rfl ⟨rfl,by decide,I',H7.out,H8.out⟩
  ·have hrr:=HF.out
   rw[if_neg h7]at hrr;have h7':¬1000000000<i.steps+1:=h7
   by_cases h8:400<k+I' - ((I:Int) - 1)
   ·have hfin:Hid (R=.inr (8,kz ae fin p)):=by
     show R=_;rw[hrr,if_pos h8,show I' - 1=p by have:=HP1.out;omega]
    clear HF hrr h7;go_wp2_with fail
    go_quiet (fail)
    go_wp2_with fail
    refine(HXF.out (Y.drewN nq) 8 ⟨rfl,rfl,rfl,nrq,fun _ _=>rfl⟩).mono ?_;rintro e w7 ⟨rfl,zk,sZ⟩;have H7:=ast zk;have H8:=ast ((EO.out.trans (aj.au (show Below Y.heap.size Y (Y.drewN nq)from⟨rfl,rfl,rfl,nrq,fun _ _=>rfl⟩))).trans sZ);clear zk sZ r0 r1 r2 r3 r4 r5 s0 s1 s2 y3;go_wp2_with fail
    rw[hfin.out];exact bodyPost_ret (results_none rfl _ _ _) rfl ⟨rfl,by decide,I',H7.out,H8.out⟩
   ·have hfin:Hid (R=.inl (t,l,I')):=by
     show R=_;rw[hrr,if_neg h8]
    clear HF hrr h7 HXF;go_wp2_with fail
    go_quiet (fail)
    have hbq:Below Y.heap.size Y (Y.drewN nq):=bdq;obtain⟨V,hV⟩:=exq (Y.drewN nq:World);rw[←hV]at hbq;go_wp2_with fail
    rw[←hV];have hBV:az V rb (bK sb tv I' fin 0 A) 181:=(hbq.block _ nO.out.lt).trans nO.out;have Yk:=Yj.out.aA (aj.au hbq);have hKV:az V b1 #[.int .i64 i.need,.int .i64 i.bu,.int .i64 i.high,.int .i64 (i.steps+1),.bool i.str] 36:=(hbq.block _ Rj.out.lt).trans Rj.out;have hCV:aj (fun b=>b=rb) w V:=EO.out.trans (aj.au hbq);have hTV:=HTY.out.below hbq;clear r0 r1 r2 r3 r4 r5 s0 s1 s2 y3 hV hbq;obtain⟨r0,r1,r2,r3,r4,r5⟩:=hBV.bK;obtain⟨s0,s1,s2⟩:=Yk.sys.cells;have s3:=Yk.sys.blk.frozen 2;obtain⟨Z,hZ⟩:=exq ((V.setCell ⟨sb,2,none⟩ (.int .i64 (k+I' - ((I:Int) - 1)))).drew:World);have Cj:aj (fun b=>b=sb) V Z:=by rw[hZ];exact((aj.refl (fun b=>b=sb) V).setCell (p:=⟨sb,2,none⟩) rfl _).drew
    have hsZ:aK Z sb sv ws c (k+I' - ((I:Int) - 1)):=by
     rw[hZ];exact(aK.akl Yk.sys _).aA (aj.refl (fun _=>False) _).drew id (fun _ _=>id)
    have hBZ:=hBV.aA Cj Yk.ne;have hKZ:=hKV.aA Cj afV.symm;have hCZ:aj (fun b=>b=rb∨b=sb∨sv.ownBlock=some b) w Z:=(hCV.mono (fun k _ e=>Or.inl e)).trans (Cj.mono (fun k _ e=>Or.inr (Or.inl e)));have ZV:=Yk.sr;have hrs:rb≠sb:=Yk.ne;have akq:sb≠rb:=Yk.ne.symm;have HTZ:=ast (hTV.one Cj Yk.sys.blk (by decide));clear hTV HTY;have BK:=ast hBZ;have Zo:=ast hKZ;have HCZ:=ast hCZ;have N8:=ast hsZ;have HSR:=ast ZV;clear Cj hsZ hBZ hKZ hCZ hBV Yk hKV hCV nO Yj EO Rj;go_still_tail 20,(by kernel_rfl)
    go_wp2_with fail
    rw[←hZ];clear r0 r1 r2 r3 r4 r5 s0 s1 s2 s3 hZ;obtain⟨sad,Lr,hsv,_,_⟩:=ag N8.out.row;obtain⟨i0,hi,hz0,hz1,hz2⟩:=info_parts Tryz.Vd;have hwI:=HWI.out;have HI:=ast (And.intro hi (And.intro hz0 (And.intro hz1 hz2)));have H1:=ast (RW.one (x:=⟨t, -1,.slice ad l.length cap,vO l,trees l⟩) ⟨_,_,_,rfl⟩);have HLM:=ast (show ws.length+1≤maxLen by unfold maxLen;omega);have vH:=ast (show(ws.length+1)*88≤140737488355328 by omega);have hne:Nonempty {w':World // aj (fun b=>sv.ownBlock=some b) Z w'}:=⟨⟨Z,aj.refl _ _⟩⟩;have akr:sv.ownBlock≠some b1:=ah N8.out.row Zo.out (by decide);have k0:∀u:{w':World // aj (fun b=>sv.ownBlock=some b) Z w'},u.val.cell? ⟨rb,0,none⟩=some (.pointer (some ⟨sb,0,none⟩)):=fun u=>(u.property.cell (p:=⟨rb,0,none⟩) BK.out.lt HSR.out).trans BK.out.bK.1
    have k1:∀u:{w':World // aj (fun b=>sv.ownBlock=some b) Z w'},u.val.cell? ⟨sb,0,none⟩=some (.slice sad ws.length Lr):=fun u=>((u.property.cell (p:=⟨sb,0,none⟩) N8.out.blk.lt N8.out.apart).trans N8.out.cells.1).trans (by rw[hsv])
    have kc:∀(j:Nat) (x:Value),#[.int .i64 i.need,.int .i64 i.bu,.int .i64 i.high,.int .i64 (i.steps+1),.bool i.str][j]?=some x→∀u:{w':World // aj (fun b=>sv.ownBlock=some b) Z w'},u.val.cell? ⟨b1,j,none⟩=some x:=fun j x hx u=>(u.property.cell (p:=⟨b1,j,none⟩) Zo.out.lt akr).trans (Zo.out.cell j x hx)
    have m0:=kc 0 _ rfl;have m1:=kc 1 _ rfl;have m2:=kc 2 _ rfl;have m3:=kc 3 _ rfl;have m4:=kc 4 _ rfl;have HSV:=ast hsv;have HWW:=ast hwI;clear kc hi hz0 hz1 hz2 hsv hwI;refine aH (C:=fJ fun w'=>aj (fun b=>sv.ownBlock=some b) Z w') 19 [15,16] ⟨Z.drew,(aj.refl _ Z).drew⟩ (by kernel_rfl) (by kernel_rfl) rfl ?_;rw[show List.range 19=[0,1,2,3,4,5,6,7,8,9,10,11,12,13,14,15,16,17,18]from rfl]
    repeat (refine aO rfl rfl (fun K hK=>?_);go_simp;refine hK _ ?_;clear hK K)
    obtain⟨cs,hcs⟩:=exq (#[.string t,.int .i64 (-1),.slice ad l.length cap,.int .i64 i.need,.int .i64 i.bu,.int .i64 i.high,.int .i64 (i.steps+1),.bool i.str]:Array Value);have hcl:cs.toList=(⟨t, -1,.slice ad l.length cap,vO l,trees l⟩:RW).cells:=by rw[hcs,HWW.out];rfl
    have hKW:=ast (show ∀j u,cs.toList[j]?=some u→(Z.drew.alloc (.cells cs 186 (0,0))).cell? ((Addr.mk Z.heap.size 0 none).add j)=some u from World.news_of_block (fr:=(0,0)) (heap_alloc_new Z.drew _));refine eu rfl rfl (.slice (some ⟨Z.heap.size,0,none⟩) 1 1) (Z.drew.alloc (.cells cs 186 (0,0))) ((aj.refl _ Z).drew.alloc _) (Or.inl (by rw[hcs];go_simp)) ?_;obtain⟨hi,hz0,hz1,hz2⟩:=HI.out;refine oM rfl rfl (Z.drew.alloc (.cells cs 186 (0,0))) rfl _ _ _ rfl 0 186 i0 rwz 8 88 Tryz.underlying174 hi hz0 hz1 hz2 rfl (by decide) (.slice sad ws.length Lr) ws.length (oH ws) rfl (by have h:=N8.out.row;rw[HSV.out]at h;exact h.drew.alloc _) (Addr.mk Z.heap.size 0 none) 1 1 cs.toList rfl (by rw[hcl];rfl) hKW.out (by rw[hcl];exact H1.out) (by decide) HLM.out vH.out (Nat.zero_le _) (Z.heap.size+1) (by simp) (fun w' hg=>((aj.refl _ Z).drew.alloc _).trans ((aj.bD hg).mono (fun k _ e=>by rw[HSV.out];exact e.symm))) ?_;intro gg oO w1 jh hown1 hgrow hat iD;rw[hcl]at hown1;go_simp
    repeat (refine aO rfl rfl (fun K hK=>?_);go_simp;refine hK _ ?_;clear hK K)
    have EZ:=N8.out.push (x:=⟨t, -1,.slice ad l.length cap,vO l,trees l⟩) hown1 jh;have Qg:=(BK.out.aA jh HSR.out).setOther (a:=⟨sb,0,none⟩) akq (.slice (some ⟨gg,0,none⟩) (ws.length+1) oO)
    have Cj:aj (fun b=>b=rb∨b=sb∨sv.ownBlock=some b) w (w1.setCell ⟨sb,0,none⟩ (.slice (some ⟨gg,0,none⟩) (ws.length+1) oO)):=by
     have h1:aj (fun b=>b=rb∨b=sb∨sv.ownBlock=some b) w w1:=HCZ.out.trans (jh.mono (fun k _ e=>Or.inr (Or.inr e)));exact h1.setCell (p:=⟨sb,0,none⟩) (Or.inr (Or.inl rfl)) _
    have BP:Hid (Lc w sv (.slice (some ⟨gg,0,none⟩) (ws.length+1) oO)):=fun k hk=>by simp only[Value.ownBlock,Option.some.injEq]at hk;subst hk;rw[HSV.out];exact hat.imp id (fun e=>by rw[e];have:=HCZ.out.size;omega)
    have d0:=k1 ⟨w1,jh⟩;have d1:w1.frozen? ⟨sb,0,none⟩=false:=(N8.out.blk.aA jh N8.out.apart).frozen 0;simp only at d0;have HTF:=ast ((HTZ.out.aA jh (fun k cs _ hb e=>ah N8.out.row hb (by decide) e)).one ((aj.refl (fun b=>b=sb) w1).setCell (p:=⟨sb,0,none⟩) rfl (.slice (some ⟨gg,0,none⟩) (ws.length+1) oO)) (N8.out.blk.aA jh N8.out.apart) (by decide));have HPS:=ast EZ;have yJ:=ast Qg;have Dz:=ast Cj;refine df ?_;simp only[List.drop_succ_cons,List.drop_zero];clear EZ Qg Cj hgrow hown1 hat iD k0 k1 m0 m1 m2 m3 m4 hne;go_wp2_with fail
    rw[hfin.out];go_end0
    exact⟨rfl,yJ.out,Dz.out,_,_,⟨_,_,_,rfl⟩,HPS.out,BP.out,G,Rf.out,HTF.out _ (List.mem_singleton.2 rfl) (by simp)⟩
theorem Qi(rb sb:Nat)(tv sv:Value)(ae:List Tk)(ws:List RW)(c k:Int)(I f:Nat)(fin A:Int)(w:World)
  (hR:Rd w rb sb tv sv ae ws c k) (hb:az w rb (bK sb tv I fin 0 A) 181) (hf:ae.length+1≤f) (hI:I≤ae.length) (hI1:1≤I) (hk0:0≤k) (dM:k≤400):
  Calls Tryz.prog 90 #[.pointer (some ⟨rb,0,none⟩)] w (FD rb sb tv sv ws c k I fin A w (kX ws k ae fin f I)):=by
 by_cases hn:yQ ws (aC ae I)=0
 ·exact FH rb sb tv sv ae ws c k I f fin A w hR hb hf hI1 hk0 dM hn
 ·exact Ba rb sb tv sv ae ws c k I f fin A w hR hb hI hn
end
section
abbrev LR:=(Int×Int)×List PE×Int×Int×List Int
abbrev FI(ws:List RW):Prop:=∀x∈ws,x.inf.Wt 1∧∃a n c,x.items=.slice a n c
def TrI(w:World)(F:Nat→Prop)(w':World)(ws:List RW):Prop:=∃F':Nat→Prop,(∀k,F' k→F k∨w.heap.size≤k)∧bM F' w' ws
def afY(w:World)(sb:Nat)(sv:Value)(F:Nat→Prop)(R:LR)(e:Ending)(w':World):Prop:=
 e=.returned (.tuple #[.int .i64 R.1.1,.int .i64 R.1.2])∧(∃qm tV,aK w' sb qm tV R.2.2.1 R.2.2.2.1∧ZU R.2.1 R.2.2.2.2 tV∧FI tV∧Lc w sv qm∧TrI w F w' tV)∧aj (fun b=>b=sb∨sv.ownBlock=some b) w w'
def afZ(F:Nat→Prop)(rb sb:Nat)(tv sv:Value)(s:ByteArray)(ae:List Tk)(w:World)(R:LR)(wr:World):Prop:=
 (∃(I a f:Nat) (es:List PE) (nv nt:Int) (code:List Int) (ws:List RW) (qm:Value),LD s ae R I a f es nv nt code ws∧Rd wr rb sb tv qm ae ws nv nt∧az wr rb (bK sb tv I s.size 0 0) 181∧Lc w sv qm∧aj (fun b=>b=sb∨sv.ownBlock=some b) w wr∧TrI w F wr ws)∨
 (∃(E P:Int) (J:Nat) (es:List PE) (nv nt:Int) (code:List Int) (ws:List RW) (qm:Value),E≠0∧R=((E,P),es,nv,nt,code)∧az wr rb (bK sb tv J s.size E P) 181∧aK wr sb qm ws nv nt∧ZU es code ws∧FI ws∧Lc w sv qm∧aj (fun b=>b=sb∨sv.ownBlock=some b) w wr∧TrI w F wr ws)
theorem FK{es:List PE}{nv nt:Int}{code:List Int}{ws:List RW}(h:mi es nv nt code)(hA:Alike es ws):ws.length≤1100000:=by have:=h.l;have:=hA.len;omega
theorem aj.doc{w wr w2:World}{rb sb:Nat}{sv qm:Value}(h:aj (fun b=>b=sb∨sv.ownBlock=some b) w wr)(hl:Lc w sv qm)(hrb:w.heap.size≤rb)(h2:aj (fun b=>b=rb∨b=sb∨qm.ownBlock=some b) wr w2):aj (fun b=>b=sb∨sv.ownBlock=some b) w w2:=
 h.jG h2 (fun k hk e=>e.elim (fun e=>by omega) (fun e=>e.imp id (fun e=>(hl k e).elim id (fun e=>by omega))))
theorem bM.three{F:Nat→Prop}{w w':World}{ws wr:List RW}{rb sb:Nat}{sv:Value}{cs:Array Value}{c k:Int}(h:bM F w ws)(hc:aj (fun b=>b=rb∨b=sb∨sv.ownBlock=some b) w w')(hb:az w rb cs 181)(hs:aK w sb sv wr c k):bM F w' ws:=h.aA hc (fun j c _ hj e=>by
 rcases e with e|e|e
 ·subst e;exact absurd (bH hb hj) (by decide)
 ·subst e;exact absurd (bH hs.blk hj) (by decide)
 ·exact ah hs.row hj (by decide) e)
theorem Vf{es:List PE}{nv nt:Int}{code:List Int}{ws:List RW}{F:Nat→Prop}(s:ByteArray)(sb:Nat)(sv:Value)(w:World)(hS:aK w sb sv ws nv nt)(hA:ZU es code ws)(hF:bM F w ws)(hL:mi es nv nt code)(hw:FI ws)(hs:s.size≤1100000):
  Calls Tryz.prog 64 #[.pointer (some ⟨sb,0,none⟩),.string s] w (afY w sb sv F (vN s es nv nt code)):=by
 obtain⟨R,hR⟩:=exq (vN s es nv nt code);rw[←hR];unfold vN at hR;have hch:=qB s w (by omega);rw[xy]at hch
 cases hbad:kS s s.size 0 with
 |some k=>
  rw[hbad]at hR hch;simp only at hR hch;have Lh:=ast hch;have Ce:=ast (show ∃qm tV,aK w sb qm tV nv nt∧ZU es code tV∧FI tV∧Lc w sv qm∧TrI w F w tV from⟨_,_,hS,hA,hw,Lc.refl _ _,F,fun _=>Or.inl,hF⟩);subst hR;clear hch hbad hS hA hw hL;go_enter Tryz.func64,Tryz.ntmps64
  go_wp2_with fail
  refine Lh.out.mono ?_;rintro e w1 ⟨rfl,rfl⟩;clear Lh;go_wp2_with fail
  exact bodyPost_ret (v:=.tuple #[.int .i64 2,.int .i64 k]) (by simp[results,Tryz.results64,go_sem]) rfl ⟨rfl,Ce.out,aj.refl _ _⟩
 |none=>
  rw[hbad]at hR hch;simp only at hR hch;obtain⟨q,hq⟩:=exq (0+Lib.runeCountFrom s s.size 0:Nat);rw[←hq]at hch;obtain⟨ae,htk⟩:=exq (aZ s 0);have hfl:ae.length≤s.size:=by rw[htk];unfold aZ;have:=nV s (s.size - 0) 0;omega
  have U2:LD s ae R 0 0 (s.size+1) es nv nt code ws:=⟨⟨Nat.zero_le _,by rw[htk];rfl,hbad⟩,Nat.zero_le _,hA,hL,hR,by omega,hw⟩;have af0:∀i,(aC ae i).size≤1000000000:=fun i=>by rw[htk];exact Nat.le_trans (Ye s _ _ i) (by omega)
  have EJ:(0:Int)≤(q:Int):=by omega
  have Lh:=ast hch;have HS:=ast hS;have vK:=ast U2;have afS:=ast af0;have JK:=ast htk;have Zb:=hS.blk.lt;have hwf:=ast (FK hL hA.toAlike);have HF0:=ast hF;have hwk:=ast hw;clear hch hbad hS hA hL hw U2 af0 hR hq htk hF;go_enter Tryz.func64,Tryz.ntmps64
  go_wp2_with fail
  refine Lh.out.mono ?_;rintro e w1 ⟨rfl,rfl⟩;clear Lh;have D9:=ast (fun w':World=>JZ s w' (by omega));go_wp2_with fail
  refine(D9.out _).mono ?_;rintro e w2 ⟨tv,rfl,hown,bT⟩;rw[←JK.out]at hown;obtain⟨rb,hrb⟩:=exq (w1.heap.size);have hbR:az w2 rb (bK sb (.slice none 0 0) 0 s.size 0 0) 181:=by rw[hrb];exact(ay w1 (bK sb (.slice none 0 0) 0 s.size 0 0) 181).sub bT (by simp)
  have hcR:Below w1.heap.size w1 w2:=(brq.alloc nrq _).trans (bT.mono (by simp));have hS2:aK w2 sb sv ws nv nt:=HS.out.aA (aj.au (S:=fun _=>False) hcR) id (fun _ _=>id);have Yl:tv.ownBlock≠some rb:=ah hown hbR (by decide);have dI:kU w2 tv ae:=ownsRow_base hown (fun _ _=>Nat.zero_le _);obtain⟨tad,apU,abH,_,_⟩:=ag dI;have r1:w2.cell? ⟨rb,1,none⟩=some (.slice none 0 0):=hbR.cell 1 _ rfl;have f1:=hbR.frozen 1;obtain⟨W,hW⟩:=exq (w2.setCell ⟨rb,1,none⟩ tv:World);have A8:aj (fun b=>b=rb) w2 W:=by rw[hW];exact(aj.refl (fun b=>b=rb) w2).setCell (p:=⟨rb,1,none⟩) rfl _
  have hbW:az W rb (bK sb tv ((0:Nat):Int) s.size 0 0) 181:=by rw[hW];have:=hbR.set (o:=1) tv;simpa [bK]using this
  have hrw:w1.heap.size≤rb:=by rw[hrb];exact nrq
  have hne:rb≠sb:=by omega
  have ZV:sv.ownBlock≠some rb:=ah hS2.row hbR (by decide);have KD:Rd W rb sb tv sv ae ws nv nt:=⟨dI.aA A8 (fun b hb e=>Yl (by rw[hb,e])),hS2.aA A8 (fun e=>hne e.symm) (fun b hb e=>ZV (by rw[hb,e])),Yl,ZV,hne,by omega,hwf.out,hwk.out,afS.out⟩;have hCW:aj (fun b=>b=sb∨sv.ownBlock=some b) w1 W:=(aj.au hcR).jG A8 (fun k hk e=>by omega);have HTI:Hid (TrI w1 F W ws):=ast ⟨F,fun _=>Or.inl,(HF0.out.below hcR).one A8 hbR (by decide)⟩;have HRD:=ast KD;have dX:=ast hbW;have pR:=ast hCW;have Ym:=ast abH;have Ad:=KD.few;clear hown bT hbR hcR hS2 Yl dI A8 hbW KD hCW ZV HS hwf hwk D9;rw[abH]at hW;clear abH;rw[Ym.out];rw[←hrb];clear hrb;go_upto_region 6 with fail
  rw[←hW];clear hW r1 f1;go_loopw[45] (fun _ wr=>afZ F rb sb tv sv s ae w1 R wr) (fun _ wr=>itM ae.length rb wr)
  case atStart=>exact Or.inl ⟨0,0,s.size+1,es,nv,nt,code,ws,sv,vK.out,HRD.out,dX.out,Lc.refl _ _,pR.out,HTI.out⟩
  case round=>
   clear vK HRD dX pR HTI;have hrel':=ast hrel;clear hrel;rcases hrel'.out with ⟨I,a,f,es',qc,zt,code',tV,qm,U2,hrd,hb,hlc,hch,F',Yn,hF2⟩|⟨E,P,J,es',qc,zt,code',tV,qm,hE,hRR,hb,hsy,hal,gG,hlc,hch,hti⟩
   ·clear hrel'
    have Yo:=ast Yn;have HF2:=ast hF2;clear Yn hF2;have hM:=qK (n:=ae.length) hb;obtain⟨r0,r1,r2,r3,r4,r5⟩:=hb.bK;rw[Ym.out]at r1;have apV:=U2.le;have vK:=ast U2;have HRD:=ast hrd;have HB:=ast hb;have BP:=ast hlc;have Lh:=ast hch;have HM:=ast hM
    by_cases hI:I<ae.length
    ·have lD:(I:Int)<(ae.length:Int):=by omega
     have hd:decide ((I:Int)<(ae.length:Int))=true:=by simpa using hI
     clear U2 hrd hb hlc hch hM;go_wp2_with fail
     go_quiet (fail)
     have hbq:Below wr.heap.size wr (wr.drewN nq):=bdq;obtain⟨V,hV⟩:=exq (wr.drewN nq:World);rw[←hV]at hbq;have abI:=HRD.out.aA (aj.au hbq);have Bc:az V rb (bK sb tv I s.size 0 0) 181:=(hbq.block _ HB.out.lt).trans HB.out;have mg:=ast (uX rb sb tv ae I s.size 0 0 V (by omega) (by omega) Bc abI.tok);obtain⟨t,ht⟩:=exq (aC ae I);rw[←ht]at mg;have akv:=ast (HF2.out.below hbq);have yj:=ast (Lh.out.trans (aj.au hbq));have ZR:=ast abI;have rC:=ast Bc;have HT:=ast ht;clear r0 r1 r2 r3 r4 r5 hbq abI Bc HRD HB Lh ht;go_wp2_with fail
     rw[←hV];clear hV;refine mg.out.mono ?_;rintro e w3 ⟨rfl,hb3⟩;have PZ:=ZR.out.aA (aj.au hb3);have ET:az w3 rb (bK sb tv I s.size 0 0) 181:=(hb3.block _ rC.out.lt).trans rC.out;obtain⟨r0,r1,r2,r3,r4,r5⟩:=ET.bK;have DJ:=ET.frozen 2;have CY:=ast (akv.out.below hb3);have NZ:=ast (yj.out.trans (aj.au hb3));have WV:=ast PZ;have GZ:=ast ET;obtain⟨X,hX⟩:=exq (w3.setCell ⟨rb,2,none⟩ (.int .i64 ((I:Int)+1)):World)
     have hbX:az X rb (bK sb tv ((I+1:Nat):Int) s.size 0 0) 181:=by
      rw[hX];have:=ET.set (o:=2) (.int .i64 ((I:Int)+1));simpa [bK]using this
     have vF:aj (fun b=>b=rb) w3 X:=by rw[hX];exact(aj.refl (fun b=>b=rb) w3).setCell (p:=⟨rb,2,none⟩) rfl _
     have xZ:aj (fun b=>b=sb∨sv.ownBlock=some b) w1 X:=NZ.out.jG vF (fun k hk e=>by omega);have HTX:=ast (CY.out.one vF ET (by decide));have lV:=ast hbX;have BZ:=ast (PZ.aA vF);have vz:=ast xZ;clear mg hb3 PZ ET hbX vF xZ yj ZR rC
     by_cases g1:(t.toList == [118,97,114,105,97,98,108,101])=true
     ·have hg:((aC ae I).toList == [118,97,114,105,97,98,108,101])=true:=by rw[←HT.out];exact g1
      by_cases hE:II tV qc (aC ae (I+1))=0
      ·have Ru:=ast (yS rb sb tv qm ae tV qc zt (I+1) s.size 0 X BZ.out lV.out (by omega) vK.out.inv.v0 hE)
       obtain⟨a2,f2,es2,Vg⟩:=vK.out.abB JK.out hI hg hE;have HL2:=ast Vg;clear Vg hE hg;go_upto_region 11 with fail
       rw[←hX];clear hX r0 r1 r2 r3 r4 r5 DJ;go_wp2_with fail
       refine Ru.out.mono ?_;rintro e w4 ⟨rfl,hb4,⟨sv4,Rw,hl4⟩,hc4⟩;have H4:=ast (And.intro hb4 (And.intro Rw (And.intro hl4 hc4)));clear hb4 Rw hl4 hc4 Ru;go_wp2_with fail
       go_roundw
       case rel=>
        obtain⟨hb4,Rw,hl4,hc4⟩:=H4.out
        exact Or.inl ⟨I+2,a2,f2,es2,qc+1,zt,code',_,sv4,HL2.out,BZ.out.next lV.out hb4 hc4 Rw (FK HL2.out.inv HL2.out.alike.toAlike) HL2.out.ok,hb4,BP.out.trans (hl4.mono vz.out.size),vz.out.doc BP.out hrw hc4,F',Yo.out,fun x hx hv=>by
         rcases List.mem_append.1 hx with hx|hx
         ·exact(HTX.out.three hc4 lV.out BZ.out.sys) x hx hv
         ·rw[List.mem_singleton.1 hx]at hv;have:=vK.out.inv.v0;simp only at hv;omega⟩
       case measure=>rw[qK H4.out.1,HM.out];have:=HL2.out.le;omega
      ·have Ru:=ast (xI rb sb tv qm ae tV qc zt (I+1) s.size 0 X BZ.out lV.out (by omega) hE)
       have qw:=ast (vK.out.Yf JK.out hI hg hE);obtain⟨E,hEE⟩:=exq (II tV qc (aC ae (I+1)));rw[←hEE]at Ru qw hE;have HE:=ast hE;clear hg hEE hE;go_upto_region 11 with fail
       rw[←hX];clear hX r0 r1 r2 r3 r4 r5 DJ;go_wp2_with fail
       refine Ru.out.mono ?_;rintro e w4 ⟨rfl,hb4,hc4⟩;have H4:=ast (And.intro hb4 hc4);clear hb4 hc4 Ru;go_wp2_with fail
       go_roundw
       case rel=>
        obtain⟨hb4,hc4⟩:=H4.out;exact Or.inr ⟨E,_,I+1,es',qc,zt,code',tV,qm,HE.out,qw.out,hb4,(BZ.out.aA hc4).sys,vK.out.alike,vK.out.ok,BP.out,vz.out.jG hc4 (fun k hk e=>by omega),F',Yo.out,HTX.out.one hc4 lV.out (by decide)⟩
       case measure=>rw[mO H4.out.1 HE.out,HM.out];omega
     ·have g1':(t.toList == [118,97,114,105,97,98,108,101])=false:=by simpa using g1
      have hg:((aC ae I).toList == [118,97,114,105,97,98,108,101])=false:=by rw[←HT.out];exact g1'
      have HG:=ast hg;clear g1 hg
      by_cases g2:(t.toList == [58])=true
      ·have hg2:((aC ae I).toList == [58])=true:=by rw[←HT.out];exact g2
       have Qj:=Qi rb sb tv qm ae tV qc zt (I+1) (ae.length+1) s.size 0 X BZ.out lV.out nrq (by omega) (by omega) vK.out.inv.t0 vK.out.inv.t1
       cases hp:kX tV zt ae s.size (ae.length+1) (I+1)with
       |inr q=>
        obtain⟨E,P⟩:=q;rw[hp]at Qj;have Ru:=ast Qj;have qw:=ast (vK.out.Vb JK.out hI HG.out hg2 (ae.length+1) nrq hp);clear Qj hp hg2;go_upto_region 14 with fail
        rw[←hX];clear hX r0 r1 r2 r3 r4 r5 DJ;go_wp2_with fail
        refine Ru.out.mono ?_;rintro e w4 ⟨rfl,hE,J,hb4,hc4⟩;have H4:=ast (And.intro hE (And.intro hb4 hc4));clear hb4 hc4 Ru hE;go_wp2_with fail
        go_roundw
        case rel=>
         obtain⟨hE,hb4,hc4⟩:=H4.out;exact Or.inr ⟨E,P,J,es',qc,zt,code',tV,qm,hE,qw.out,hb4,(BZ.out.aA hc4).sys,vK.out.alike,vK.out.ok,BP.out,vz.out.jG hc4 (fun k hk e=>by omega),F',Yo.out,HTX.out.one hc4 lV.out (by decide)⟩
        case measure=>rw[mO H4.out.2.1 H4.out.1,HM.out];omega
       |inl q=>
        obtain⟨t',l,I'⟩:=q;rw[hp]at Qj;have Ru:=ast Qj;have HWO:=ast (fun (v:Value) (hv:∃a n c,v=.slice a n c)=>vK.out.Yg JK.out hI HG.out hg2 (ae.length+1) nrq hp hv);clear Qj hp hg2;go_upto_region 14 with fail
        rw[←hX];clear hX r0 r1 r2 r3 r4 r5 DJ;go_wp2_with fail
        refine Ru.out.mono ?_;rintro e w4 ⟨rfl,hb4,hc4,sv4,v4,hv4,Rw,hl4,F4,hf4,ht4⟩;obtain⟨hlt,a2,f2,es2,af1,Vg⟩:=HWO.out v4 hv4;have H4:=ast (And.intro hb4 (And.intro Rw (And.intro hl4 hc4)));have HL2:=ast Vg;have HLT:=ast hlt;have HT4:=ast ht4;have HF4:=ast hf4;clear ht4 hf4;clear hb4 Rw hl4 hc4 Ru HWO Vg hlt;go_wp2_with fail
        go_roundw
        case rel=>
         obtain⟨hb4,Rw,hl4,hc4⟩:=H4.out
         exact Or.inl ⟨I',a2,f2,es2,qc,_,af1,_,sv4,HL2.out,BZ.out.next lV.out hb4 hc4 Rw (FK HL2.out.inv HL2.out.alike.toAlike) HL2.out.ok,hb4,BP.out.trans (hl4.mono vz.out.size),vz.out.doc BP.out hrw hc4,fun k=>F' k∨F4 k,fun k hk=>hk.elim (Yo.out k) (fun e=>Or.inr (Nat.le_trans vz.out.size (HF4.out k e))),fun x hx hv=>by
          rcases List.mem_append.1 hx with hx|hx
          ·exact((HTX.out.three hc4 lV.out BZ.out.sys) x hx hv).mono (fun k _ hk _=>⟨Or.inl hk,rfl⟩)
          ·rw[List.mem_singleton.1 hx];exact HT4.out.mono (fun k _ hk _=>⟨Or.inr hk,rfl⟩)⟩
        case measure=>rw[qK H4.out.1,HM.out];have:=HL2.out.le;have:=HLT.out;omega
      ·have g2':(t.toList == [58])=false:=by simpa using g2
       have hg2:((aC ae I).toList == [58])=false:=by rw[←HT.out];exact g2'
       have qw:=ast (vK.out.bad JK.out hI HG.out hg2);have HFA:=ast (gz rb sb tv ae I I s.size 0 3 w3 (by omega) (by omega) GZ.out WV.out.tok WV.out.tr);clear g2 hg2 hX;go_wp2_with fail
       refine HFA.out.mono ?_;rintro e w4 ⟨rfl,hb4,hc4⟩;have H4:=ast (And.intro hb4 hc4);clear hb4 hc4 HFA r0 r1 r2 r3 r4 r5 DJ;go_wp2_with fail
       go_roundw
       case rel=>
        obtain⟨hb4,hc4⟩:=H4.out;exact Or.inr ⟨3,_,I,es',qc,zt,code',tV,qm,by decide,qw.out,hb4,(WV.out.aA hc4).sys,vK.out.alike,vK.out.ok,BP.out,NZ.out.jG hc4 (fun k hk e=>by omega),F',Yo.out,CY.out.one hc4 GZ.out (by decide)⟩
       case measure=>rw[mO H4.out.1 (by decide),HM.out];omega
    ·have lD:¬(I:Int)<(ae.length:Int):=by omega
     have hd:decide ((I:Int)<(ae.length:Int))=false:=by simpa using hI
     have hRe:=ast (U2.done hI);clear U2 hrd hb hlc hch hM;go_wp2_with fail
     go_quiet (fail)
     go_wp2_with fail
     go_quiet (fail)
     go_wp2_with fail
     rw[hRe.out];refine bodyPost_ret (v:=.tuple #[.int .i64 0,.int .i64 0]) (by simp[results,Tryz.results64,go_sem]) rfl ⟨rfl,⟨qm,tV,?_,vK.out.alike,vK.out.ok,BP.out,F',Yo.out,HF2.out.below (show Below wr.heap.size wr _ from⟨rfl,rfl,rfl,nrq,fun _ _=>rfl⟩)⟩,?_⟩
     ·exact HRD.out.sys.aA (aj.au (S:=fun _=>False) (show Below wr.heap.size wr _ from⟨rfl,rfl,rfl,nrq,fun _ _=>rfl⟩)) id (fun _ _=>id)
     ·exact Lh.out.trans (aj.au (show Below wr.heap.size wr _ from⟨rfl,rfl,rfl,nrq,fun _ _=>rfl⟩))
   ·clear hrel'
    obtain⟨r0,r1,r2,r3,r4,r5⟩:=hb.bK;rw[Ym.out]at r1;have hEb:(E == 0)=false:=by simpa using hE
    have hEd:decide (E=0)=false:=by simpa using hE
    have Ls:=ast (And.intro hRR (And.intro hsy (And.intro hal (And.intro gG (And.intro hlc (And.intro hch hti))))));clear hE hRR hb hsy hal gG hlc hch hti
    by_cases hJ:J<ae.length
    ·have lD:(J:Int)<(ae.length:Int):=by omega
     have hd:decide ((J:Int)<(ae.length:Int))=true:=by simpa using hJ
     go_wp2_with fail
     go_quiet (fail)
     go_wp2_with fail
     go_quiet (fail)
     go_wp2_with fail
     obtain⟨hRR,hsy,hal,gG,hlc,hch,F',Yn,hF2⟩:=Ls.out;rw[hRR];refine bodyPost_ret (v:=.tuple #[.int .i64 E,.int .i64 P]) (by simp[results,Tryz.results64,go_sem]) rfl ⟨rfl,⟨qm,tV,?_,hal,gG,hlc,F',Yn,hF2.below (show Below wr.heap.size wr _ from⟨rfl,rfl,rfl,nrq,fun _ _=>rfl⟩)⟩,?_⟩
     ·exact hsy.aA (aj.au (S:=fun _=>False) (show Below wr.heap.size wr _ from⟨rfl,rfl,rfl,nrq,fun _ _=>rfl⟩)) id (fun _ _=>id)
     ·exact hch.trans (aj.au (show Below wr.heap.size wr _ from⟨rfl,rfl,rfl,nrq,fun _ _=>rfl⟩))
    ·have lD:¬(J:Int)<(ae.length:Int):=by omega
     have hd:decide ((J:Int)<(ae.length:Int))=false:=by simpa using hJ
     go_wp2_with fail
     go_quiet (fail)
     go_wp2_with fail
     go_quiet (fail)
     go_wp2_with fail
     obtain⟨hRR,hsy,hal,gG,hlc,hch,F',Yn,hF2⟩:=Ls.out;rw[hRR];refine bodyPost_ret (v:=.tuple #[.int .i64 E,.int .i64 P]) (by simp[results,Tryz.results64,go_sem]) rfl ⟨rfl,⟨qm,tV,?_,hal,gG,hlc,F',Yn,hF2.below (show Below wr.heap.size wr _ from⟨rfl,rfl,rfl,nrq,fun _ _=>rfl⟩)⟩,?_⟩
     ·exact hsy.aA (aj.au (S:=fun _=>False) (show Below wr.heap.size wr _ from⟨rfl,rfl,rfl,nrq,fun _ _=>rfl⟩)) id (fun _ _=>id)
     ·exact hch.trans (aj.au (show Below wr.heap.size wr _ from⟨rfl,rfl,rfl,nrq,fun _ _=>rfl⟩))
end
end Go.Proofs.YtcphhbofjkenaaaGreatDoor
