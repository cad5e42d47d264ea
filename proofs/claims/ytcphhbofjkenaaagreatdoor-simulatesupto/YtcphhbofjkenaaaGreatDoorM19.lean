import Derived.Test.YtcphhbofjkenaaaGreatDoorMy
import Derived.Test.YtcphhbofjkenaaaGreatDoorM17
import Derived.Test.YtcphhbofjkenaaaGreatDoorM18
namespace Go.Proofs.YtcphhbofjkenaaaGreatDoor
open Go Go.RowKit Proofs.Tryz
set_option linter.unusedVariables false
set_option linter.unusedSimpArgs false
set_option maxRecDepth 100000
set_option maxHeartbeats 16000000
variable{w w0 w':World}{bb rb n:Nat}{ev cv v v' v2:Value}{es:List PE}{nv nt a b:Int}{code dc:List Int}{rc:RC}{s:ByteArray}
theorem zB{p:Prop}(h:p:=by
  have hm:=mI ha hb;have hm2:=mI hb (mn a b);have hd:=mn a b;obtain⟨a1,a2⟩:=ha;obtain⟨b1,b2⟩:=hb;obtain⟨d1,d2⟩:=hd;obtain⟨m1,m2⟩:=hm;obtain⟨m3,m4⟩:=hm2;go_enter func211,ntmps211;go_wp2_with fail;go_ret;exact⟨rfl,rfl⟩):p:=h
theorem EX{p:Prop}(h:p:=by
  go_roundw
  case rel=>exact⟨k+1,2*P,N+P,ag,bO,bO,bO,y8,af ⟨jY,wy.symm⟩⟩
  case measure=>simp only[intOf];omega):p:=h
theorem DG{p:Prop}(h:p:=by
  go_roundw
  case rel=>exact⟨k+1,2*P,N,ag,bO,bO,bO,y8,af ⟨jY,wy.symm⟩⟩
  case measure=>simp only[intOf];omega):p:=h
theorem EP{p:Prop}(h:p:=by
  have hm:=mI ha hb;have hm2:=mI hb (mn a b);have hd:=mn a b;obtain⟨a1,a2⟩:=ha;obtain⟨b1,b2⟩:=hb;obtain⟨d1,d2⟩:=hd;obtain⟨m1,m2⟩:=hm;obtain⟨m3,m4⟩:=hm2;go_enter func211,ntmps211;go_wp2_with fail;refine(Ro _ _).mono ?_;rintro e w' ⟨rfl,rfl⟩;go_wp2_with fail;go_ret;exact⟨rfl,rfl⟩):p:=h
theorem Ct{p:Prop}(h:p:=by
  rw[hq]at q1 q2;clear hR hm hq hm0;go_enter func218,ntmps218;go_wp2_with fail;refine(HW _ _ ag).mono ?_;rintro e w' ⟨rfl,rfl⟩;go_wp2_with fail;rw[HR.out,HQ.out];go_ret;exact⟨rfl,rfl⟩):p:=h
theorem B2{p:Prop}(h:p:=by
  rw[hq]at q1 q2;clear hR hm hq hm0;go_enter func141,ntmps141;go_wp2_with fail;refine(HW _ _).mono ?_;rintro e w' ⟨rfl,rfl⟩;go_wp2_with fail;rw[HR.out,HQ.out];go_ret;exact⟨rfl,rfl⟩):p:=h
theorem yI{p:Prop}(h:p:=by
  refine(HW _ _).mono ?_;rintro e w' ⟨rfl,rfl⟩;go_wp2_with fail;rw[←HR.out];go_ret;exact⟨rfl,rfl⟩):p:=h
theorem EY{p:Prop}(h:p:=by
  have hz:Z % 2 ^ (k+1)=N:=by rw[dQ.out];simp
  have zH:(xq:Int) % 2=0:=ex;have yj:(yq:Int) % 2=0:=ey;have zl:(xq:Int).tmod 2=0:=mr;have zC:(yq:Int).tmod 2=0:=mL;clear ex ey mr mL;have wy:=af hz;clear hz dQ;go_wp2_with fail;exact DG):p:=h
theorem Eo{p:Prop}(h:p:=by
  go_wp2_with fail
  refine(H _).mono ?_;rintro e w' ⟨rfl,rfl⟩;go_wp2_with fail;go_ret;exact⟨rfl,rfl⟩):p:=h
theorem CN{p:Prop}(h:p:=by
  go_wp2_with fail
  refine(HF _ _).mono ?_;rintro e w' ⟨rfl,rfl⟩;go_wp2_with fail;rw[←HR.out];go_ret;exact⟨rfl,rfl⟩):p:=h
theorem M7{p:Prop}(h:p:=by
  go_wp2_with fail
  refine HN.mono ?_;rintro e w1 ⟨rfl,hb1⟩;have hb:Below w.heap.size w w1:=(((Below.refl w.heap.size w).alloc aH _).trans (hb1.mono aF));have d0:=(hb.cell (p:=ai bb 0) hlt).trans c0;have HB:=af hb;clear hb1 HN hb c0;go_wp2_with fail;go_ret;exact⟨rfl,HB⟩):p:=h
theorem Nz{p:Prop}(h:p:=by
  by_cases e:cC s a=cX s a
  ·rw[e]at hne
   have:s.extract (cX s a) (cX s a)=⟨#[]⟩:=by
    have hsz:(s.extract (cX s a) (cX s a)).size=0:=aF;exact ByteArray.size_eq_zero_iff.1 hsz
   rw[this,show(⟨#[]⟩:ByteArray).toList=[]from lZ []]at hne
   cases hne
  ·omega):p:=h
theorem OM{p:Prop}(h:p:=by
  have hm:=mI ha hb;have hm2:=mI hb (mn a b);have hd:=mn a b;have H:=af (fun w=>V5 ha hb w);obtain⟨a1,a2⟩:=ha;obtain⟨b1,b2⟩:=hb;obtain⟨d1,d2⟩:=hd;obtain⟨m1,m2⟩:=hm;obtain⟨m3,m4⟩:=hm2;go_enter func211,ntmps211;exact Eo):p:=h
theorem FT{p:Prop}(h:p:=by
  have ee:=af hRe;clear hRe;rw[hm]at h0 h1 l1 l2;go_enter func208,ntmps208;go_wp2_with fail;rw[ee.out,hm];go_ret;exact⟨rfl,rfl⟩):p:=h
theorem Rc{p:Prop}(h:p:=by
  have hz:Z % 2 ^ (k+1)=N+P:=by rw[dQ.out];simp
  have zH:(xq:Int) % 2=1:=ex;have yj:(yq:Int) % 2=1:=ey;have zl:(xq:Int).tmod 2=1:=mr;have zC:(yq:Int).tmod 2=1:=mL;clear ex ey mr mL;have wy:=af hz;clear hz dQ;go_wp2_with fail;exact EX):p:=h
theorem QG{p:Prop}(h:p:=by
  have hz:Z % 2 ^ (k+1)=N+P:=by rw[dQ.out];simp
  have zH:(xq:Int) % 2=0:=ex;have yj:(yq:Int) % 2=1:=ey;have zl:(xq:Int).tmod 2=0:=mr;have zC:(yq:Int).tmod 2=1:=mL;clear ex ey mr mL;have wy:=af hz;clear hz dQ;go_wp2_with fail;exact EX):p:=h
theorem JA{p:Prop}(h:p:=by
  have hz:Z % 2 ^ (k+1)=N+P:=by rw[dQ.out];simp
  have zH:(xq:Int) % 2=1:=ex;have yj:(yq:Int) % 2=0:=ey;have zl:(xq:Int).tmod 2=1:=mr;have zC:(yq:Int).tmod 2=0:=mL;clear ex ey mr mL;have wy:=af hz;clear hz dQ;go_wp2_with fail;exact EX):p:=h
theorem Gn{p:Prop}(h:p:=by
  obtain rfl:k=32:=by omega
  have hN:N=Z:=Xq;subst hN;clear HC;go_wp2_with fail;go_ret;exact⟨rfl,rfl⟩):p:=h
theorem QR{p:Prop}(h:p:=by
  cases hq:(t2.toList == [])with
  |false=>rfl
  |true=>
   exfalso
   have:T.1=5:=by rw[HT.out];unfold stepP;simp[hq]
   rw[this]at h1;cases h1):p:=h
theorem Qy{p:Prop}(h:p:=by
  have:((Utf8.decode s i).1 == 65533)=false:=by rw[beq_eq_false_iff_ne];omega
  rw[az ag,k2,this];simp):p:=h
section
def ra(es:List PE)(s:ByteArray):Int:=if uX s=true then(if es.length=40 then 8 else 0)else 4
theorem NR(s:ByteArray)(at':Int)(h:dF w bb ev cv es nv nt code)(ht:cQ w)(hs:s.size≤100000000)(hl:es.length≤1000):
  Calls prog 121 #[ax bb,.agg #[.string s,ae at']] w fun e w'=>e=.returned (ae (ra es s))∧Below w.heap.size w w':=by
 obtain⟨R,hR⟩:=ak (ra es s);rw[←hR];have HN:=af (U2 s (w.alloc (.cells #[.string s,ae at'] 163 (0,0))) hs (ht.below (aQ.alloc aH _)));unfold ra at hR;obtain⟨q,hq⟩:=ak (uX s);rw[←hq]at hR HN;have c0:w.cell? (ai bb 0)=some ev:=h.blk.cell 0 _ rfl;have hlt:=h.blk.lt;obtain⟨ad,cap,rfl,hcap,_⟩:=bo h.row;clear h ht hs hq
 cases q
 ·simp only[Bool.false_eq_true,if_false]at hR
  subst hR;go_enter func121,ntmps121;go_wp2_with fail;refine HN.mono ?_;rintro e w1 ⟨rfl,hb1⟩;have HB:=af (((Below.refl w.heap.size w).alloc aH _).trans (hb1.mono aF));clear hb1 HN;go_wp2_with fail;go_ret;exact⟨rfl,HB⟩
 ·simp only[if_true]at hR
  by_cases pQ:es.length=40
  ·rw[aG pQ]at hR
   subst hR;rw[pQ]at c0;clear hcap hl pQ;go_enter func121,ntmps121;exact M7
  ·rw[az pQ]at hR
   subst hR;obtain⟨m,hm⟩:=ak ((es.length:Int):Int);have adT:((es.length:Int) == 40)=false:=Fy;clear hm;go_enter func121,ntmps121;exact M7
theorem La{db:Nat}{aX aT bv:Value}{pc:List Int}{tk:Int}{bs:List PB}{kn:Inf}
  (h:DS w0 w rb rc bb db ev aX aT bv es nv nt pc dc tk bs kn) (q:Bool) (hq:q=(bs.length == 0)) (hl:bs.length≤100000000):
  Calls prog 124 #[ax db] w fun e w'=>e=.returned (.bool q)∧w'=w:=by
 obtain⟨c0,c1,c2,c3⟩:=h.def;obtain⟨ad,cap,rfl,hcap,_⟩:=bo h.row;have hb:((bs.length:Int) == 0)=q:=by rw[hq,Bool.eq_iff_iff,beq_iff_eq,beq_iff_eq];omega
 clear h c0 c1 c2 hq;go_enter func124,ntmps124;go_wp2_with fail;go_ret;exact⟨rfl,rfl⟩
def PB.first:PB:={PB.zero with opener:=34}
theorem YF(h:dF w bb ev cv es nv nt code)(ht:cQ w)(hr:Rdg w rb rc)(hru:3≤rb)(htl:3≤w0.heap.size)
  (hf:aq (fun b=>b=rb∨cv.ownBlock=some b) w0 w):
  Calls prog 123 #[ax bb] w fun e w'=>∃db bv,e=.returned (ax db)∧DS w0 w' rb rc bb db ev cv cv bv es nv nt code code 2 [PB.first] Inf.zero∧Below w.heap.size w w':=by
 have c3:w.cell? (ai bb 3)=some cv:=h.blk.cell 3 _ rfl;obtain⟨ad,cap,hcv,hcap,_⟩:=bo h.bG;have hlt:=h.blk.lt;have HP:=af h;have HT:=af ht;have HR:=af hr;have HRU:=af hru;have HTL:=af htl;have HF:=af hf;rw[hcv]at c3;clear h ht hr hru htl hf;go_enter func123,ntmps123;go_wp2_with fail;go_ret;have hB:Below w.heap.size w ((w.alloc (.cells PB.first.cells.toArray 244 (0,0))).alloc (.cells (kV bb 2 (.slice ad code.length cap) (aD w.heap.size 1 1) Inf.zero) 209 (0,0))):=(aQ.alloc aH _).alloc aF _;refine⟨w.heap.size+1,aD w.heap.size 1 1,rfl,?_,hB⟩
 show DS w0 ((w.alloc (.cells PB.first.cells.toArray 244 (0,0))).alloc (.cells (kV bb 2 (.slice ad code.length cap) (aD w.heap.size 1 1) Inf.zero) 209 (0,0))) rb rc bb (w.heap.size+1) ev cv cv (aD w.heap.size 1 1) es nv nt code code 2 [PB.first] Inf.zero
 have hrb:=HR.out.1;have hgb:=HR.out.2;refine⟨HP.below hB,?_,aR HP.bG (aq.bf (S:=fun _=>False) hB) (fun _ _=>id),?_,HT.below hB,⟨(hB.block rb hrb.lt).trans hrb,(hB.block _ hgb.lt).trans hgb⟩,HRU,HTL,⟨[],aF⟩,?_,aC rfl,HF.trans (aq.bf hB)⟩
 ·rw[hcv]
  have:=bJ (w.alloc (.cells PB.first.cells.toArray 244 (0,0))) (kV bb 2 (.slice ad code.length cap) (aD w.heap.size 1 1) Inf.zero) 209;simpa using this
 ·refine⟨by simp[PB.cells],aA ⟨w.heap.size,1,PB.first.cells.toArray,rfl,HF.size,(ay.alloc (bJ w PB.first.cells.toArray 244) _),aH,by simp[maxLen],by simp[PB.cells],by simp[PB.cells]⟩⟩
 ·have:=HF.size;omega
end
section
def pez:Value:=.agg #[.string ⟨#[]⟩,.bool false,ae 0,ae 0,ae 0,ae 0,ae 0,.bool false]
theorem Tryz.acf:(prog.info? 153).map (fun i=>(i.zero,i.size,i.bytes))=some (some pez,8,72):=aP
theorem PE.one(b:PE):∀u∈b.cells,u.oneCell'=true:=by
 intro u hu;simp only[PE.cells,er,List.not_mem_nil,or_false]at hu;rcases hu with rfl|rfl|rfl|rfl|rfl|rfl|rfl|rfl<;>rfl
def Lc(w:World)(v v':Value):Prop:=∀k,v'.ownBlock=some k→v.ownBlock=some k∨w.heap.size≤k
theorem Lc.refl(w:World)(v:Value):Lc w v v:=fun k h=>aC h
theorem Lc.mono(h:Lc w v v')(hs:w0.heap.size≤w.heap.size):Lc w0 v v':=fun k hk=>(h k hk).imp id (fun e=>bB hs e)
theorem Lc.trans(h:Lc w v v')(h2:Lc w v' v2):Lc w v v2:=fun k hk=>(h2 k hk).elim (fun e=>h k e) aA
theorem dF.push{w2:World}{e:PE}(h:dF w bb ev cv es nv nt code)
  (hr:w2.ownsRow 3 153 8 v2 (es.length+1) (es.flatMap PE.cells++e.cells)) (hc:aq (fun k=>ev.ownBlock=some k) w w2):dF (w2.setCell (ai bb 0) v2) bb v2 cv (es++[e]) nv nt code:=by
 have hb2:ay w2 bb #[ev,ae nv,ae nt,cv] 122:=h.blk.aB hc (aZ h.row h.blk aj)
 have jU:∀{base:Nat} {e:TypeId} {size n:Nat} {v:Value} {xs:List Value},w2.ownsRow base e size v n xs→122≠e→(w2.setCell (ai bb 0) v2).ownsRow base e size v n xs:=fun ho hne=>
  aR ho ((aq.refl (fun b=>b=bb) w2).setCell (p:=ai bb 0) rfl _) (fun k hk e=>aZ ho hb2 hne jr)
 refine⟨?_,jU vD aj,jU (aR h.bG hc (fun k hk e=>fw h.bG h.row aj hk e)) aj,h.up⟩;have:=hb2.set (o:=0) v2;simpa using this
theorem Zr(s:ByteArray)(w:World)(hs:s.size≤100000000):Calls prog 155 #[.string s] w fun e w'=>e=.returned (.string s)∧Below w.heap.size w w':=by
 have H:=af (Tryz.stringslite_Clone s w ag);clear hs;go_enter func155,ntmps155;go_wp2_with fail;refine H.mono ?_;rintro e w1 ⟨rfl,hb⟩;have HB:=af hb;clear hb H;go_wp2_with fail;go_ret;exact⟨rfl,HB⟩
theorem Ks(x:PE)(h:dF w bb ev cv es nv nt code)(ht:cQ w)(hs:x.name.size≤100000000)(hl:es.length≤1000):
  Calls prog 122 #[ax bb,x.val] w fun e w'=>e=.returned (.tuple #[])∧(∃cT,dF w' bb cT cv (es++[x]) nv nt code∧Lc w ev cT)∧aq (fun k=>k=bb∨ev.ownBlock=some k) w w':=by
 obtain⟨b0,b1,b2,b3,b4,b5,b6,b7⟩:=x;have c0:w.cell? (ai bb 0)=some ev:=h.blk.cell 0 _ rfl;have hlt:=h.blk.lt;have hne:=aZ h.row h.blk aj;obtain⟨ad,cap,hev,hcap,_⟩:=bo h.row;obtain⟨i0,hi,hz0,hz1,hz2⟩:=info_parts Tryz.acf;have HP:=af h;have HT:=af ht;have HN:=af hne;have HC:=af (fun w'=>Zr b0 w' hs);subst hev;clear h ht hs hne;simp only[PE.val];go_enter func122,ntmps122;go_wp2_with fail;have hb0:Below w.heap.size w (w.alloc (.cells #[.string b0,.bool b1,ae b2,ae b3,ae b4,ae b5,ae b6,.bool (!b7)] 153 (0,0))):=aQ.alloc aH _;have hk0:=bJ w #[.string b0,.bool b1,ae b2,ae b3,ae b4,ae b5,ae b6,.bool (!b7)] 153;refine(HC _).mono ?_;rintro e wa ⟨rfl,hb1⟩;have hka:=hk0.sub hb1 aF;have gA:Below w.heap.size w wa:=hb0.trans (hb1.mono aF);obtain⟨E,hE⟩:=ak (w.heap.size);have p0:=hka.cell 0 _ rfl;have f0:=hka.frozen 0;simp only[List.getElem_toArray,List.getElem_cons_succ,List.getElem_cons_zero]at p0;obtain⟨W,hW⟩:=ak (wa.setCell (ai w.heap.size 0) (.string b0):World);have fh:ay W E #[.string b0,.bool b1,ae b2,ae b3,ae b4,ae b5,ae b6,.bool (!b7)] 153:=by rw[hW,hE];have:=hka.set (o:=0) (.string b0);simpa using this
 have hbW:Below w.heap.size w W:=by rw[hW];exact gA.setCell aF _
 have cf:=af fh;have bu:=af hbW;clear fh hbW hb0 hk0 hb1 hka gA HC;go_upto_region 2 with fail
 rw[←hW];rw[←hE];have c0':W.cell? (ai bb 0)=some (.slice ad es.length cap):=(bu.cell (p:=ai bb 0) hlt).trans c0;have q0:W.frozen? (ai bb 0)=false:=(bu.frozen (p:=ai bb 0) hlt).trans (HP.blk.frozen 0);have e0:=cf.cell 0 _ rfl;have e1:=cf.cell 1 _ rfl;have e2:=cf.cell 2 _ rfl;have e3:=cf.cell 3 _ rfl;have e4:=cf.cell 4 _ rfl;have e5:=cf.cell 5 _ rfl;have e6:=cf.cell 6 _ rfl;have e7:=cf.cell 7 _ rfl;simp only[List.getElem_toArray,List.getElem_cons_succ,List.getElem_cons_zero]at e0 e1 e2 e3 e4 e5 e6 e7;have hEW:E<W.heap.size:=cf.lt;have hdW:bb<W.heap.size:=bF hlt bu.size;have hEd:E≠bb:=ag;have hdE:bb≠E:=ag;have hown:=af (HP.below bu).row;have HA:=af (fun o=>(hown.alloc o).drew);have H1:=af (PE.one ⟨b0,b1,b2,b3,b4,b5,b6,b7⟩);have HC:=af (show es.length+1≤maxLen by unfold maxLen;omega);have eO:=af (show(es.length+1)*72≤140737488355328 by omega);have l8:=af (fun o=>show 3≤(W.alloc o).drew.heap.size by have:=HT.lt;have:=bu.size;simp;omega);have HH:=af (fun o=>show(W.alloc o).drew.heap.size=W.heap.size+1 by simp);have jL:=af (show ∀j u,([.string b0,.bool b1,ae b2,ae b3,ae b4,ae b5,ae b6,.bool (!b7)]:List Value)[j]?=some u→(W.alloc (.cells #[.string b0,.bool b1,ae b2,ae b3,ae b4,ae b5,ae b6,.bool (!b7)] 153 (0,0))).drew.cell? ((Addr.mk W.heap.size 0 none).add j)=some u from World.news_of_block (fr:=(0,0)) (heap_alloc_new W _));have HF:=af (fun (o:Obj) (w1:World) (hg:(W.alloc o).drew.grownBy w1 (Value.slice ad es.length cap).ownBlock)=>(show w1.frozen? (ai bb 0)=false∧w1.cell? (ai bb 0)=some (.slice ad es.length cap)from⟨(hg.frozen_far (ai bb 0) aK (fun e=>HN e.symm)).trans ((((Below.refl _ W).alloc aH o).drew.frozen (p:=ai bb 0) hdW).trans q0),(hg.cell_far (ai bb 0) aK (fun e=>HN e.symm)).trans ((((Below.refl _ W).alloc aH o).drew.cell (p:=ai bb 0) hdW).trans c0')⟩));clear c0 hW hE p0 f0;go_region_law (refine step_append_lies _ kt _ _ _ kt 3 153 i0 pez 8 72 underlying120 hi hz0 hz1 hz2 rfl aj _ es.length (es.flatMap PE.cells) kt (HA _) (Addr.mk W.heap.size 0 none) 1 1 [.string b0,.bool b1,ae b2,ae b3,ae b4,ae b5,ae b6,.bool (!b7)] kt kt jL H1 aj HC eO (l8 _) (W.heap.size+1) (HH _) ?_;intro gg gX w1 hown1 hgrow hat j9;obtain⟨q4,c4⟩:=HF.out _ _ hgrow)
 all_goals
  go_wp2_with fail
  go_end0
  have bP:aq (fun k=>(Value.slice ad es.length cap).ownBlock=some k) W w1:=((aq.refl _ W).alloc _).drew.trans ((aq.dP hgrow).mono (fun k _ e=>e.symm));have k9:=(HP.below bu).push (e:=⟨b0,b1,b2,b3,b4,b5,b6,b7⟩) hown1 bP;exact⟨rfl,⟨_,k9,fun k hk=>by simp only[Value.ownBlock,Option.some.injEq]at hk;subst hk;exact hat.imp id (fun e=>by rw[e];have:=bu.size;omega)⟩,((aq.bf bu).trans (bP.mono (fun k _ e=>aA e))).trans ((aq.refl (fun k=>k=bb∨(Value.slice ad es.length cap).ownBlock=some k) w1).setCell (p:=ai bb 0) (aC rfl) _)⟩
end
section
structure BS (w:World) (bb rb:Nat) (ev cv:Value) (es:List PE) (nv nt:Int) (code:List Int) (s:ByteArray) (a:Nat):Prop where
 sys:dF w bb ev cv es nv nt code
 tab:cQ w
 rd:ay w rb (kZ s a) 199
 ru:3≤rb
abbrev nx(s:ByteArray)(a:Nat):ByteArray×Nat×Nat:=nextF s (s.size - a) a
theorem tG(s:ByteArray):∀(f a:Nat),a≤s.size→(nextF s f a).2.1≤s.size∧a≤(nextF s f a).2.2∧(nextF s f a).2.2≤s.size∧(nextF s f a).1.size≤s.size
 |0,a,h=>by
  obtain⟨h1,h2,h3⟩:=rh s a h;rw[nextF];refine⟨iO,iO,h3,?_⟩;simp only[ByteArray.size_extract];omega
 |f+1,a,h=>by
  obtain⟨h1,h2,h3⟩:=rh s a h;rw[nextF]
  split
  ·have hsp:=iP dY s (cX s a) h3
   obtain⟨i1,i2,i3,i4⟩:=tG s f (scan dY s (cX s a)) hsp.2.1;exact⟨i1,ag,i3,i4⟩
  ·refine⟨iO,iO,h3,?_⟩
   simp only[ByteArray.size_extract];omega
theorem BS.next{a a':Nat}(h:BS w bb rb ev cv es nv nt code s a)(hb:ay w' rb (kZ s a') 199)(hc:aq (fun k=>k=rb) w w'):BS w' bb rb ev cv es nv nt code s a':=by
 have n1:bb≠rb:=by rintro rfl;exact absurd (kE h.sys.blk h.rd) aj
 have no:∀{base:Nat} {e:TypeId} {size n:Nat} {v:Value} {xs:List Value},w.ownsRow base e size v n xs→199≠e→∀k,v.ownBlock=some k→¬k=rb:=fun ho hne k hk e=>aZ ho h.rd hne jr
 exact⟨h.sys.aB hc n1 (no h.sys.row aj) (no h.sys.bG aj),h.tab.aB hc (fun k e=>by have:=h.ru;omega),hb,h.ru⟩
theorem BS.below{a:Nat}(h:BS w bb rb ev cv es nv nt code s a)(hb:Below w.heap.size w w'):BS w' bb rb ev cv es nv nt code s a:=
 h.next ((hb.block rb h.rd.lt).trans h.rd) (aq.bf hb)
theorem Mt{base:Nat}{e:TypeId}{size k:Nat}{xs:List Value}(h:w.ownsRow base e size v n xs)(hk:v.ownBlock=some k):base≤k:=by
 rcases h.2 with ⟨rfl,_⟩|⟨g,cap,cur,rfl,hb,_⟩
 ·cases hk
 ·simp[Value.ownBlock]at hk;omega
theorem dF.Zz(h:dF w bb ev cv es nv nt code)(x:Int):dF (w.setCell (ai bb 1) (ae x)) bb ev cv es x nt code:=by
 have hc:aq (fun b=>b=bb) w (w.setCell (ai bb 1) (ae x)):=(aq.refl (fun b=>b=bb) w).setCell (p:=ai bb 1) rfl _;have no:∀{base:Nat} {e:TypeId} {size n:Nat} {v:Value} {xs:List Value},w.ownsRow base e size v n xs→122≠e→∀k,v.ownBlock=some k→¬k=bb:=fun ho hne k hk e=>aZ ho h.blk hne jr
 refine⟨?_,aR h.row hc (no h.row aj),aR h.bG hc (no h.bG aj),h.up⟩;have:=h.blk.set (o:=1) (ae x);simpa using this
def ny(es:List PE)(nv:Int)(s:ByteArray)(a:Nat):(Int×Int)×List PE×Int:=
 if ra es (nx s a).1=0 then
  if nv=16 then((8,((nx s a).2.1:Int)),es,nv)
  else((0,0),es++[⟨(nx s a).1,true,nv,Inf.zero⟩],nv+1)
 else((ra es (nx s a).1,((nx s a).2.1:Int)),es,nv)
def N3(w:World)(bb rb:Nat)(ev cv:Value)(nt:Int)(code:List Int)(s:ByteArray)(a:Nat)(R:(Int×Int)×List PE×Int)(e:Ending)(w':World):Prop:=
 e=.returned (.tuple #[ae R.1.1,ae R.1.2])∧(∃cT,BS w' bb rb cT cv R.2.1 R.2.2 nt code s (nx s a).2.2∧Lc w ev cT)∧aq (fun k=>k=rb∨k=bb∨ev.ownBlock=some k) w w'
theorem Yh{a:Nat}(h:BS w bb rb ev cv es nv nt code s a)(ha:a≤s.size)(hs:s.size≤100000000)(hl:es.length≤1000)(eF:0≤nv)(hn1:nv≤16):
  Calls prog 79 #[ax bb,ax rb] w (N3 w bb rb ev cv nt code s a (ny es nv s a)):=by
 obtain⟨R,hR⟩:=ak (ny es nv s a);rw[←hR];obtain⟨n1,n2,n3,n4⟩:=tG s (s.size - a) a ha;have H1:=af (B0 rb s a w ha hs h.rd);unfold ny at hR;unfold nx at hR;obtain⟨x,hx⟩:=ak (nextF s (s.size - a) a);rw[←hx]at H1 hR n1 n2 n3 n4;have hnx:nx s a=x:=hx.symm;unfold N3;rw[hnx];obtain⟨t,pl,a'⟩:=x;simp only at H1 hR n1 n2 n3 n4 ⊢;have HB:=af h;clear h hx hnx;go_enter func79,ntmps79;go_wp2_with fail;refine H1.mono ?_;rintro e w1 ⟨rfl,hb1,hc1⟩;have BC:=HB.next hb1 hc1;have vt:=BC.below (aQ.alloc aH (.cells #[.string t,ae pl] 163 (0,0)));have hk2:=bJ w1 #[.string t,ae pl] 163;have H2:=af (NR t pl vt.sys vt.tab ag hl);have aW:=af vt;have eu:=af hk2;have lB:=af ((hc1.mono (fun k _ e=>aC e):aq (fun k=>k=rb∨k=bb∨ev.ownBlock=some k) w w1).alloc (.cells #[.string t,ae pl] 163 (0,0)));have hsz:(w1.alloc (.cells #[.string t,ae pl] 163 (0,0))).heap.size=w1.heap.size+1:=aF;clear H1 hb1 hc1 BC vt hk2;go_wp2_with fail;refine H2.mono ?_;rintro e w2 ⟨rfl,hb2⟩;have fU:=aW.below hb2;have hk:=eu.sub hb2 (by rw[hsz];omega);have p0:w2.cell? (ai w1.heap.size 0)=some (.string t):=hk.cell 0 _ rfl;have p1:w2.cell? (ai w1.heap.size 1)=some (ae pl):=hk.cell 1 _ rfl;have v1:w2.cell? (ai bb 1)=some (ae nv):=fU.sys.blk.cell 1 _ rfl;obtain⟨f,hf⟩:=ak (ra es t);rw[←hf]at hR ⊢;have kI:=af fU;have HC:=af (lB.trans (aq.bf hb2));have hkl:=hk.lt;clear H2 hb2 fU hk aW eu lB hsz hf HB
 by_cases h0:f=0
 ·rw[aG h0]at hR
  subst h0
  by_cases h16:nv=16
  ·rw[aG h16]at hR
   subst h16;subst hR;go_wp2_with fail;go_quiet (fail);go_wp2_with fail;refine bodyPost_ret (v:=.tuple #[ae 8,ae pl]) Ge rfl ⟨rfl,⟨_,kI.below (show Below w2.heap.size w2 (w2.drewN nq)from⟨rfl,rfl,rfl,aH,fun _ _=>rfl⟩),Lc.refl _ _⟩,HC.trans (aq.bf (show Below w2.heap.size w2 (w2.drewN nq)from⟨rfl,rfl,rfl,aH,fun _ _=>rfl⟩))⟩
  ·rw[az h16]at hR
   subst hR;have aeL:(nv == 16)=false:=by simpa using h16
   clear h16;go_wp2_with fail;go_still_tail 8,aP;go_wp2_with fail;have di:=kI.below (show Below w2.heap.size w2 w2.drew from aQ.drew);refine(Ks ⟨t,true,nv,Inf.zero⟩ di.sys di.tab iO hl).mono ?_;rintro e w3 ⟨rfl,⟨cT,oF,hlc⟩,hc3⟩;have iR:=af (hlc.mono (w0:=w) HC.size);have hn:rb≠bb:=by intro e;rw[e]at di;exact absurd (kE di.sys.blk di.rd) aj
   have hre:ev.ownBlock≠some rb:=aZ di.sys.row di.rd aj;have zL:=di.rd.aB hc3 (fun e=>e.elim (fun e=>hn e) (fun e=>hre e));have RJ:=di.tab.aB hc3 (fun k e=>e.elim (fun e=>by rw[e];exact di.sys.up) (fun e=>Mt di.sys.row e));have x1:w3.cell? (ai bb 1)=some (ae nv):=oF.blk.cell 1 _ rfl;have fx1:=oF.blk.frozen 1;have cO:=oF.Zz (nv+1);have rY:=zL.setOther (a:=ai bb 1) (fun e=>hn e.symm) (ae (nv+1));have hts:=RJ.aB ((aq.refl (fun k=>k=bb) w3).setCell (p:=ai bb 1) rfl (ae (nv+1))) (fun k e=>by rw[e];exact oF.up);have SG:=af (BS.mk cO hts rY di.ru);have kG:=af (((HC.trans (aq.bf (show Below w2.heap.size w2 w2.drew from aQ.drew))).trans (hc3.mono (fun k _ e=>aA e))).setCell (p:=ai bb 1) (aA (aC rfl)) (ae (nv+1)));clear hlc di oF hc3 zL RJ cO rY hts kI HC p0 p1 v1;go_wp2_with fail;refine bodyPost_ret (v:=.tuple #[ae 0,ae 0]) Ge rfl ⟨rfl,⟨_,SG,iR⟩,kG⟩
 ·rw[az h0]at hR
  subst hR;have h0':(f == 0)=false:=xI;have h0n:(f != 0)=true:=xI;clear h0;go_wp2_with fail;go_quiet (fail);go_wp2_with fail;refine bodyPost_ret (v:=.tuple #[ae f,ae pl]) Ge rfl ⟨rfl,⟨_,kI.below (show Below w2.heap.size w2 (w2.drewN nq)from⟨rfl,rfl,rfl,aH,fun _ _=>rfl⟩),Lc.refl _ _⟩,HC.trans (aq.bf (show Below w2.heap.size w2 (w2.drewN nq)from⟨rfl,rfl,rfl,aH,fun _ _=>rfl⟩))⟩
end
section
def w32(n:Int):Int:=(n+2147483648) % 4294967296 - 2147483648
def Cell(n:Int):Prop:= -2147483648≤n∧n≤2147483647
theorem E9(n:Int):Cell (w32 n):=by unfold Cell w32;omega
theorem kF{n:Int}(h:Cell n):w32 n=n:=by obtain⟨a,b⟩:=h;unfold w32;omega
theorem aag(n:Int):wrap64 (wrap32 n)=w32 n:=by unfold wrap64 wrap32 w32;omega
theorem Ji(n:Int)(w:World):Calls prog 140 #[ae n] w fun e w'=>e=.returned (ae (w32 n))∧w'=w:=by
 go_enter func140,ntmps140
 go_wp2_with fail
 rw[aag];go_ret;exact⟨rfl,rfl⟩
def lj(b:Bool):Int:=if b then -1 else 0
theorem uT(b:Bool):Cell (lj b):=by cases b<;>exact⟨aj,aj⟩
theorem KM(b:Bool)(w:World):Calls prog 142 #[.bool b] w fun e w'=>e=.returned (ae (lj b))∧w'=w:=by
 cases b
 ·go_enter func142,ntmps142
  go_wp2_with fail
  go_ret
  exact⟨rfl,rfl⟩
 ·go_enter func142,ntmps142
  go_wp2_with fail
  go_ret
  exact⟨rfl,rfl⟩
def nP(a b:Int):Int:=if b=0 then 0 else if a.tmod b≠0∧decide (a<0)≠decide (b<0)then w32 (a.tdiv b - 1)else w32 (a.tdiv b)
theorem mn(a b:Int):Cell (nP a b):=by
 unfold nP
 split
 ·exact⟨aj,aj⟩
 ·split<;>exact E9 _
theorem Oq(h:Cell a): -2147483648≤a.tdiv b∧a.tdiv b≤2147483648:=by
 obtain⟨h1,h2⟩:=h;have:(a.tdiv b).natAbs≤a.natAbs:=Int.natAbs_tdiv_le_natAbs a b;omega
theorem Uu(ha:Cell a)(hb:Cell b)(w:World):Calls prog 141 #[ae a,ae b] w fun e w'=>e=.returned (ae (nP a b))∧w'=w:=by
 obtain⟨q1,q2⟩:=Oq (b:=b) ha;obtain⟨a1,a2⟩:=ha;obtain⟨b1,b2⟩:=hb;obtain⟨R,hR⟩:=ak (nP a b);rw[←hR];unfold nP at hR
 by_cases h0:b=0
 ·rw[aG h0]at hR
  have HR:=af hR;clear hR;subst h0;go_enter func141,ntmps141;go_wp2_with fail;rw[HR.out];go_ret;exact⟨rfl,rfl⟩
 ·have hz:(b == 0)=false:=by simp[h0]
  rw[az h0]at hR;obtain⟨q,hq⟩:=ak (a.tdiv b);obtain⟨m,hm⟩:=ak (a.tmod b);have HQ:=af hq;have HM:=af hm;rw[←hq]at hR q1 q2;rw[←hm]at hR;have HW:=af (fun n w=>Ji n w)
  by_cases hm0:m=0
  ·rw[az (fun h=>h.1 hm0)]at hR
   have HR:=af hR;have hmb:(m != 0)=false:=by simp[hm0]
   clear hR;go_enter func141,ntmps141;rw[hm]at hmb;go_wp2_with fail;refine(HW _ _).mono ?_;rintro e w' ⟨rfl,rfl⟩;go_wp2_with fail;rw[HR.out,HQ.out];go_ret;exact⟨rfl,rfl⟩
  ·have hmb:(m != 0)=true:=by simp[hm0]
   rw[hm]at hmb
   by_cases ha0:a<0
   ·by_cases hb0:b<0
    ·rw[az (fun h=>h.2 wh)]at hR
     have HR:=af hR;have hda:decide (a<0)=true:=vY;have hdb:decide (b<0)=true:=vO;exact B2
    ·rw[aG ⟨hm0,wh⟩]at hR
     have HR:=af hR;have hda:decide (a<0)=true:=vY;have hdb:decide (b<0)=false:=vO;exact B2
   ·by_cases hb0:b<0
    ·rw[aG ⟨hm0,wh⟩]at hR
     have HR:=af hR;have hda:decide (a<0)=false:=vY;have tu:(a % b != 0)=true:=C8;have hdb:decide (b<0)=true:=vO;exact B2
    ·rw[az (fun h=>h.2 wh)]at hR
     have HR:=af hR;have hda:decide (a<0)=false:=vY;have tu:(a % b != 0)=true:=C8;have hdb:decide (b<0)=false:=vO;exact B2
def kD(op:Nat)(a b:Int):Int:=
 if op=0 then w32 (a+b)else if op=1 then w32 (a - b)else if op=2 then w32 (a*b)else if op=3 then bits .and .i64 a b else if op=4 then bits .or .i64 a b else if op=5 then bits .xor .i64 a b
 else if op=6 then nP a b else if op=7 then w32 (a - b*nP a b)else if op=8 then lj (a == b)else if op=9 then lj (decide (a<b))else if op=10 then lj (decide (b<a))else if op=11 then min a b else max a b
theorem mI(ha:Cell a)(hb:Cell b): -4611686018427387904≤a*b∧a*b≤4611686018427387904:=by
 obtain⟨a1,a2⟩:=ha;obtain⟨b1,b2⟩:=hb
 have h:(a*b).natAbs≤2147483648*2147483648:=by
  rw[Int.natAbs_mul];exact Nat.mul_le_mul ag ag
 omega
theorem XK(op:Nat)(hop:op≤12)(ha:Cell a)(hb:Cell b)(w:World):Calls prog 109 #[ae op,ae a,ae b] w fun e w'=>e=.returned (ae (kD op a b))∧w'=w:=by
 have HW:=af (fun n w=>Ji n w);have HF:=af (fun b w=>KM b w);have HD:=af (fun w=>Uu ha hb w);have hm:=mI ha hb;have hm2:=mI hb (mn a b);obtain⟨a1,a2⟩:=ha;obtain⟨b1,b2⟩:=hb;obtain⟨P,hP⟩:=ak (a*b);obtain⟨D,hD⟩:=ak (nP a b);rw[←hD]at HD hm2;obtain⟨m1,m2⟩:=hm;obtain⟨m3,m4⟩:=hm2
 by_cases h0:op=0
 ·subst h0
  have HR:=af (show w32 (a+b)=kD 0 a b from rfl);clear hP hD m1 m2 m3 m4;go_enter func109,ntmps109;go_wp2_with fail;exact yI
 by_cases h1:op=1
 ·subst h1
  have HR:=af (show w32 (a - b)=kD 1 a b from rfl);clear hP hD m1 m2 m3 m4;go_enter func109,ntmps109;go_wp2_with fail;exact yI
 by_cases h2:op=2
 ·subst h2
  have HR:=af (show w32 (a*b)=kD 2 a b from rfl);clear hP hD m3 m4;go_enter func109,ntmps109;go_wp2_with fail;exact yI
 by_cases h3:op=3
 ·subst h3
  have HR:=af (show bits .and .i64 a b=kD 3 a b from rfl);clear hP hD m1 m2 m3 m4;go_enter func109,ntmps109;go_wp2_with fail;rw[←HR.out];go_ret;exact⟨rfl,rfl⟩
 by_cases h4:op=4
 ·subst h4
  have HR:=af (show bits .or .i64 a b=kD 4 a b from rfl);clear hP hD m1 m2 m3 m4;go_enter func109,ntmps109;go_wp2_with fail;rw[←HR.out];go_ret;exact⟨rfl,rfl⟩
 by_cases h5:op=5
 ·subst h5
  have HR:=af (show bits .xor .i64 a b=kD 5 a b from rfl);clear hP hD m1 m2 m3 m4;go_enter func109,ntmps109;go_wp2_with fail;rw[←HR.out];go_ret;exact⟨rfl,rfl⟩
 by_cases h6:op=6
 ·subst h6
  have HR:=af (show D=kD 6 a b from by rw[hD];rfl);clear hP hD m1 m2 m3 m4;go_enter func109,ntmps109;go_wp2_with fail;refine(HD _).mono ?_;rintro e w' ⟨rfl,rfl⟩;go_wp2_with fail;rw[←HR.out];go_ret;exact⟨rfl,rfl⟩
 by_cases h7:op=7
 ·subst h7
  have HR:=af (show w32 (a - b*D)=kD 7 a b from by rw[hD];rfl);clear hP hD m1 m2;go_enter func109,ntmps109;go_wp2_with fail;refine(HD _).mono ?_;rintro e w' ⟨rfl,rfl⟩;go_wp2_with fail;exact yI
 by_cases h8:op=8
 ·subst h8
  have HR:=af (show lj (a == b)=kD 8 a b from rfl);clear hP hD m1 m2 m3 m4;go_enter func109,ntmps109;exact CN
 by_cases h9:op=9
 ·subst h9
  have HR:=af (show lj (decide (a<b))=kD 9 a b from rfl);clear hP hD m1 m2 m3 m4;go_enter func109,ntmps109;exact CN
 by_cases h10:op=10
 ·subst h10
  have HR:=af (show lj (decide (b<a))=kD 10 a b from rfl);clear hP hD m1 m2 m3 m4;go_enter func109,ntmps109;exact CN
 by_cases h11:op=11
 ·subst h11
  have HR:=af (show min a b=kD 11 a b from rfl);clear hP hD m1 m2 m3 m4;go_enter func109,ntmps109;go_wp2_with fail;rw[←HR.out];go_ret;exact⟨rfl,rfl⟩
 by_cases iW:op=12
 ·subst iW
  have HR:=af (show max a b=kD 12 a b from rfl);clear hP hD m1 m2 m3 m4;go_enter func109,ntmps109;go_wp2_with fail;rw[←HR.out];go_ret;exact⟨rfl,rfl⟩
 ·omega
def mP(op:Nat)(a:Int):Int:=if op=15 then lj (a == 0)else if op=13∨a<0 then w32 (-a)else a
theorem aaL(op:Nat)(h1:13≤op)(h2:op≤15)(ha:Cell a)(w:World):Calls prog 110 #[ae op,ae a] w fun e w'=>e=.returned (ae (mP op a))∧w'=w:=by
 have HW:=af (fun n w=>Ji n w);have HF:=af (fun b w=>KM b w);obtain⟨a1,a2⟩:=ha;have hc:op=13∨op=14∨op=15:=ag;rcases hc with rfl|rfl|rfl
 ·have HR:=af (show w32 (-a)=mP 13 a from by unfold mP;rw[az aj,aG (aC rfl)])
  go_enter func110,ntmps110
  go_wp2_with fail
  exact yI
 ·by_cases h0:a<0
  ·have HR:=af (show w32 (-a)=mP 14 a from by unfold mP;rw[az aj,aG (aA h0)])
   go_enter func110,ntmps110
   go_wp2_with fail
   exact yI
  ·have HR:=af (show a=mP 14 a from by unfold mP;rw[az aj,az (fun h=>h.elim aj h0)])
   go_enter func110,ntmps110
   go_wp2_with fail
   rw[←HR.out];go_ret;exact⟨rfl,rfl⟩
 ·have HR:=af (show lj (a == 0)=mP 15 a from by unfold mP;rw[aG rfl])
  go_enter func110,ntmps110
  exact CN
end
section
def defP(es:List PE)(nt:Int)(s:ByteArray):Nat→Int→List Int→List PB→Inf→Nat→(List Int×Inf×Int×Nat) ⊕ (Int×Int)
 |0,_,_,_,_,_=>.inr (99,0)
 |f+1,tk,dc,[],kn,a=>.inl (dc,kn,tk,a)
 |f+1,tk,dc,b :: r,kn,a=>
  if(stepP es nt (tk+1) dc (b :: r) kn (nx s a).1).1=0 then
   defP es nt s f (tk+1) (stepP es nt (tk+1) dc (b :: r) kn (nx s a).1).2.1 (stepP es nt (tk+1) dc (b :: r) kn (nx s a).1).2.2.1 (stepP es nt (tk+1) dc (b :: r) kn (nx s a).1).2.2.2 (nx s a).2.2
  else .inr ((stepP es nt (tk+1) dc (b :: r) kn (nx s a).1).1,((nx s a).2.1:Int))
theorem Ep(s:ByteArray):∀(f a:Nat),a≤s.size→((nextF s f a).1.toList == [])=false→a<(nextF s f a).2.2
 |0,a,h,hne=>by
  obtain⟨h1,h2,h3⟩:=rh s a h;rw[nextF]at hne ⊢;simp only at hne ⊢;exact Nz
 |f+1,a,h,hne=>by
  obtain⟨h1,h2,h3⟩:=rh s a h;rw[nextF]at hne ⊢
  split at hne
  ·rename_i hn
   rw[aG hn];have hsp:=iP dY s (cX s a) h3;have:=Ep s f _ hsp.2.1 hne;omega
  ·rename_i hn
   rw[az hn];simp only at hne ⊢;exact Nz
def wordP(es:List PE)(nt:Int)(code:List Int)(s:ByteArray)(a:Nat):(Int×Int)×List PE×Int×List Int×Nat:=
 if ra es (nx s a).1=0 then
  match defP es nt s (s.size+2) 2 code [PB.first] Inf.zero (nx s a).2.2 with
  |.inr (E,P)=>((E,P),es,nt,code,0)
  |.inl (dc,kn,tk,a')=>((0,0),es++[⟨(nx s a).1,false,code.length,kn⟩],nt+tk,dc,a')
 else((ra es (nx s a).1,((nx s a).2.1:Int)),es,nt,code,0)
def UE(w:World)(bb rb:Nat)(ev cv:Value)(nv:Int)(s:ByteArray)(R:(Int×Int)×List PE×Int×List Int×Nat)(e:Ending)(w':World):Prop:=
 e=.returned (.tuple #[ae R.1.1,ae R.1.2])∧(∃cT cv' a',BS w' bb rb cT cv' R.2.1 nv R.2.2.1 R.2.2.2.1 s a'∧a'≤s.size∧(R.1.1=0→a'=R.2.2.2.2)∧Lc w ev cT∧Lc w cv cv')∧aq (fun k=>k=rb∨k=bb∨ev.ownBlock=some k∨cv.ownBlock=some k) w w'
theorem dF.T9(h:dF w bb ev cv es nv nt code)(x:Int)(hr:w.ownsRow 3 3 1 v2 dc.length (sM dc)):
  dF ((w.setCell (ai bb 2) (ae x)).setCell (ai bb 3) v2) bb ev v2 es nv x dc:=by
 have hc:aq (fun b=>b=bb) w ((w.setCell (ai bb 2) (ae x)).setCell (ai bb 3) v2):=((aq.refl (fun b=>b=bb) w).setCell (p:=ai bb 2) rfl _).setCell (p:=ai bb 3) rfl _;have no:∀{base:Nat} {e:TypeId} {size n:Nat} {v:Value} {xs:List Value},w.ownsRow base e size v n xs→122≠e→∀k,v.ownBlock=some k→¬k=bb:=fun ho hne k hk e=>aZ ho h.blk hne jr
 refine⟨?_,aR h.row hc (no h.row aj),aR hr hc (no hr aj),h.up⟩;have:=(h.blk.set (o:=2) (ae x)).set (o:=3) v2;simpa using this
theorem VL{a:Nat}(h:BS w bb rb ev cv es nv nt code s a)(ha:a≤s.size)(hs:s.size≤1100000)(hl:es.length≤1000)(hwt:∀x∈es,x.inf.Wt 1)
  (Eg:0≤nt) (DF:nt≤100000) (hcl:code.length≤1100000):
  Calls prog 80 #[ax bb,ax rb] w (UE w bb rb ev cv nv s (wordP es nt code s a)):=by
 obtain⟨R,hR⟩:=ak (wordP es nt code s a);rw[←hR];obtain⟨n1,n2,n3,n4⟩:=tG s (s.size - a) a ha;have H1:=af (B0 rb s a w ha ag h.rd);unfold wordP at hR;unfold nx at hR;obtain⟨x,hx⟩:=ak (nextF s (s.size - a) a);rw[←hx]at H1 hR n1 n2 n3 n4;obtain⟨t,pl,a'⟩:=x;simp only at H1 hR n1 n2 n3 n4 ⊢;have HB:=af h;have HWT:=af hwt;have HRR:=af hR;clear h hx hwt hR;go_enter func80,ntmps80;go_wp2_with fail;refine H1.mono ?_;rintro e w1 ⟨rfl,hb1,hc1⟩;have BC:=HB.next hb1 hc1;have vt:=BC.below (aQ.alloc aH (.cells #[.string t,ae pl] 163 (0,0)));have hk2:=bJ w1 #[.string t,ae pl] 163;have H2:=af (NR t pl vt.sys vt.tab ag hl);have aW:=af vt;have eu:=af hk2;have lB:=af ((hc1.mono (fun k _ e=>aC e):aq (fun k=>k=rb∨k=bb∨ev.ownBlock=some k∨cv.ownBlock=some k) w w1).alloc (.cells #[.string t,ae pl] 163 (0,0)));have hsz:(w1.alloc (.cells #[.string t,ae pl] 163 (0,0))).heap.size=w1.heap.size+1:=aF;clear H1 hb1 hc1 BC vt hk2;go_wp2_with fail;refine H2.mono ?_;rintro e w2 ⟨rfl,hb2⟩;have fU:=aW.below hb2;have hk:=eu.sub hb2 (by rw[hsz];omega);have p0:w2.cell? (ai w1.heap.size 0)=some (.string t):=hk.cell 0 _ rfl;have p1:w2.cell? (ai w1.heap.size 1)=some (ae pl):=hk.cell 1 _ rfl;obtain⟨f,hf⟩:=ak (ra es t);have hR:=HRR.out;rw[←hf]at hR ⊢;have HR0:=af hR;clear hR HRR;have kI:=af fU;have HKN:=af hk;have HC:=af (lB.trans (aq.bf hb2));have hkl:=hk.lt;clear H2 hb2 fU hk aW eu lB hsz hf HB
 by_cases h0:f=0
 ·subst h0
  have hR1:=HR0.out;rw[aG rfl]at hR1;have HR:=af hR1;clear HR0 hR1;have H3:=af (YF (w0:=w2) (rc:=(kZ s a',w1.heap.size,#[.string t,ae pl])) kI.sys kI.tab ⟨kI.rd,HKN⟩ kI.ru kI.tab.lt (aq.refl _ w2));go_wp2_with fail;refine H3.mono ?_;rintro e w3 ⟨db,bv,rfl,cq,hbl⟩;have sA:=af cq;clear H3 cq p0 p1 hbl;go_wp2_with fail;obtain⟨D,hD⟩:=ak (defP es nt s (s.size+2) 2 code [PB.first] Inf.zero a');have HD:=af hD;have HD0:=af hD;clear hD;go_loopw[9] (fun _ wr=>∃(b f q:Nat) (tk:Int) (dc:List Int) (st:List PB) (kn:Inf) (aT bv:Value),DS w2 wr rb (kZ s b,w1.heap.size,#[.string t,ae pl]) bb db ev cv aT bv es nv nt code dc tk (List.reverse st) kn∧Hid (D=defP es nt s f tk dc st kn b)∧Hid (b≤s.size∧s.size - b+2≤f∧tk=2+(q:Int)∧q≤b∧WB st (2*q)∧st.length≤q+1∧dc.length≤code.length+2*q∧code.length≤dc.length∧(st=[]∨ju code.length dc.length st))) (fun _ wr=>s.size - lY wr rb)
  case atStart=>
   refine⟨a',s.size+2,0,2,code,[PB.first],Inf.zero,cv,bv,by simpa using sA.out,HD,n3,ag,rfl,ag,⟨0,0,Inf.Wt.zero,Inf.Wt.zero,ag,trivial⟩,aF,ag,aH,aA ⟨rfl,?_⟩⟩
   constructor<;>simp[PB.first,PB.zero]
  case round=>
   clear sA HD;obtain⟨b,fu,q,tk,dc,st,kn,aT,eK,cq,eO,HI⟩:=hrel;obtain⟨i1,i2,i3,i4,i5,i6,i7,i8,i9⟩:=HI.out
   cases st with
   |nil=>
    have hE:=af (La cq true aF aF);obtain⟨fu',rfl⟩:∃fu',fu=fu'+1:=⟨fu - 1,ag⟩;have hdd:=eO.out;rw[defP]at hdd;have hkn:ay wr w1.heap.size #[.string t,ae pl] 163:=cq.aO.2;have p0:wr.cell? (ai w1.heap.size 0)=some (.string t):=hkn.cell 0 _ rfl;obtain⟨c0,c1,c2,c3⟩:=cq.def;have k4:=cq.blk.cell 4 _ rfl;have k5:=cq.blk.cell 5 _ rfl;have k6:=cq.blk.cell 6 _ rfl;have k7:=cq.blk.cell 7 _ rfl;have k8:=cq.blk.cell 8 _ rfl;simp only[kV,List.getElem_toArray,List.getElem_cons_succ,List.getElem_cons_zero]at k4 k5 k6 k7 k8;have b3:wr.cell? (ai bb 3)=some cv:=cq.sys.blk.cell 3 _ rfl;obtain⟨ad,cap,hcv,hcap,_⟩:=bo cq.sys.bG;obtain⟨bI,bq,hdv,adi,_⟩:=bo cq.bG;rw[hcv]at b3;rw[hdv]at c2;have sA:=af cq;have HDF:=af hdd;clear cq hdd hkn eO c0 c3 i1 i2 i3 i4 i5 i6 i7 i8 i9;go_wp2_with fail;refine hE.mono ?_;rintro e wq ⟨rfl,rfl⟩;go_wp2_with fail;go_still_tail 13,aP;go_wp2_with fail;have hwd:Below wq.heap.size wq wq.drew:=aQ.drew;have hd:=sA.below hwd;refine(Ks ⟨t,false,code.length,kn⟩ hd.sys hd.tab iO hl).mono ?_;rintro e w6 ⟨rfl,⟨cT,oO,hlc⟩,kU⟩;have fL:=af (hlc.mono (w0:=w) (bB HC.size sA.jS.size));have gi:=af (show Lc w cv aT from fun k hk=>sA.loc.elim (fun e=>aC (e.symm.trans hk)) (fun ⟨j,e1,e2⟩=>by rw[e1]at hk;cases hk;exact aA (bB HC.size e2)));clear hlc;have hnd:db≠bb:=pK hd.blk hd.sys.blk aj;have Sd:ev.ownBlock≠some db:=aZ hd.sys.row hd.blk aj;have kX:rb≠bb:=pK hd.aO.1 hd.sys.blk aj;have Ph:ev.ownBlock≠some rb:=aZ hd.sys.row hd.aO.1 aj;have Dh:=hd.blk.aB kU (fun e=>e.elim (fun e=>hnd e) (fun e=>Sd e));have Qm:=hd.aO.1.aB kU (fun e=>e.elim (fun e=>kX e) (fun e=>Ph e));have Qx:=aR hd.bG kU (fun k hk e=>e.elim (fun e=>aZ hd.bG hd.sys.blk aj jr) (fun e=>fw hd.bG hd.sys.row aj hk e));have Od:=hd.tab.aB kU (fun k e=>e.elim (fun e=>by rw[e];exact hd.sys.up) (fun e=>Mt hd.sys.row e));have y1:w6.cell? (ai db 1)=some (ae tk):=Dh.cell 1 _ rfl;have y2:w6.cell? (ai db 2)=some (.slice bI dc.length bq):=by rw[←hdv];exact Dh.cell 2 _ rfl
    have z2:w6.cell? (ai bb 2)=some (ae nt):=oO.blk.cell 2 _ rfl;have z3:w6.cell? (ai bb 3)=some (.slice ad code.length cap):=by rw[←hcv];exact oO.blk.cell 3 _ rfl
    have g2:=oO.blk.frozen 2;have g3:=oO.blk.frozen 3;obtain⟨i1,i2,i3,i4,i5,i6,i7,i8,i9⟩:=HI.out;have iT:0≤tk:=ag;have eE:tk≤10000000:=ag;have hbl:=oO.blk.lt;have HP6:=af oO;have pA:=af Dh;have HR6:=af Qm;have HO6:=af Qx;have HT6:=af Od;have kG:=af (((HC.fz sA.jS (fun k _ e=>e.elim (fun e=>aC e) (fun e=>aA (aA (aA e))))).trans (aq.bf hwd)).trans (kU.mono (fun k _ e=>e.elim (fun e=>aA (aC e)) (fun e=>aA (aA (aC e))))));have HRU:=af hd.ru;have HB1:=af i1;clear hwd hd oO kU Sd Ph Dh Qm Qx Od i1 i2 i3 i4 i5 i6 i7 i8 i9 sA p0 c1 c2 k4 k5 k6 k7 k8 b3 hE;go_wp2_with fail;go_still_tail 9,aP;go_wp2_with fail
    have hRe:R=((0,0),es++[⟨t,false,code.length,kn⟩],nt+tk,dc,b):=by
     have:=HR.out;rw[←HD0.out,HDF.out]at this;exact this
    rw[hRe];have cO:=HP6.T9 (nt+tk) HO6;rw[hdv]at cO;have rY:=(HR6.setOther (a:=ai bb 2) (fun e=>kX e.symm) (ae (nt+tk))).setOther (a:=ai bb 3) (fun e=>kX e.symm) (.slice bI dc.length bq);have hts:=HT6.aB (((aq.refl (fun k=>k=bb) w6).setCell (p:=ai bb 2) rfl (ae (nt+tk))).setCell (p:=ai bb 3) rfl (.slice bI dc.length bq)) (fun k e=>by rw[e];exact HP6.up);have hcc:=(kG.setCell (p:=ai bb 2) (aA (aC rfl)) (ae (nt+tk))).setCell (p:=ai bb 3) (aA (aC rfl)) (.slice bI dc.length bq);have fU:=BS.mk cO hts rY HRU;refine bodyPost_ret (v:=.tuple #[ae 0,ae 0]) FI rfl ⟨rfl,⟨cT,_,b,fU.below aQ.drew,HB1,fun _=>rfl,fL,by rw[←hdv];exact gi⟩,hcc.trans (aq.bf aQ.drew)⟩
   |cons b0 r0=>
    have hsi:ju code.length dc.length (b0 :: r0):=by rcases i9 with e|e;exact(List.cons_ne_nil _ _ e).elim;exact e
    have hE:=af (La cq false aF (by simp at i6 ⊢;omega));obtain⟨m1,m2,m3,m4⟩:=tG s (s.size - b) b i1;have hN:=af (B0 rb s b wr i1 ag cq.aO.1);obtain⟨x,hx⟩:=ak (nextF s (s.size - b) b);have hxx:nx s b=x:=hx.symm;have hmv:=fun hne=>Ep s (s.size - b) b i1 hne
    rw[←hx]at hN m1 m2 m3 m4 hmv;obtain⟨t2,pl2,b2⟩:=x;simp only at hN m1 m2 m3 m4 hmv;obtain⟨fu',rfl⟩:∃fu',fu=fu'+1:=⟨fu - 1,ag⟩;have hdd:=eO.out;rw[defP,hxx]at hdd;simp only at hdd;have hat:lY wr rb=b:=by unfold lY;rw[show wr.cell? (ai rb 1)=some (ae b)from cq.aO.1.cell 1 _ rfl];simp
    have sA:=af cq;have HDF:=af hdd;have HSI:=af hsi;have HMV:=af hmv;have gU:=af hat;have HM:=af (aY m1 (aY m2 (aY m3 m4)));clear cq hdd hsi hx hxx hmv hat m1 m2 m3 m4 i1 i2 i3 i4 i5 i6 i7 i8 i9 eO;go_wp2_with fail;refine hE.mono ?_;rintro e wq ⟨rfl,rfl⟩;go_wp2_with fail;refine hN.mono ?_;rintro e w4 ⟨rfl,hb4,hc4⟩;have FB:=sA.aB hc4 hb4;have Z5:=FB.aO.2;have J4:=(FB.below (aQ.alloc aH (.cells #[.string t2,ae pl2] 163 (0,0)))).Ni w4.heap.size #[.string t2,ae pl2] (bJ w4 _ _);have MA:=af J4;clear hb4 hc4 FB J4 hE hN sA Z5;go_wp2_with fail;obtain⟨i1,i2,i3,i4,i5,i6,i7,i8,i9⟩:=HI.out;refine(acx MA t2 (by have:=HM.out.2.2.2;omega) hl HWT HSI (2*q) i5 ag (by simp at i6;omega) ag ag ag Eg DF).mono ?_;rintro e w5 ⟨r,rfl,hr1,abR,bv5,dc5,st5,kn5,DY,EM⟩;obtain⟨T,hT⟩:=ak (stepP es nt (tk+1) dc (b0 :: r0) kn t2);rw[←hT]at hr1 EM;have hdf:=HDF.out;rw[←hT]at hdf;have p1:w5.cell? (ai w4.heap.size 1)=some (ae pl2):=DY.aO.2.cell 1 _ rfl
    have LO:ay w5 w1.heap.size #[.string t,ae pl] 163:=by
     refine HKN.aB DY.jS ?_;rintro (e|e)
     ·exact pK HKN kI.rd aj e
     ·exact aZ kI.sys.bG HKN aj e
    have HT:=af hT;have Sc:=af hdf;have xl:=af DY;have HEQ:=af EM;have kj:=af hr1;have aaI:=af LO;clear hT hdf DY EM hr1 LO i1 i2 i3 i4 i5 i6 i7 i8 i9 HDF MA
    by_cases np:r=0
    ·subst np
     go_wp2_with fail
     go_roundw
     case rel=>
      obtain⟨i1,i2,i3,i4,i5,i6,i7,i8,i9⟩:=HI.out;obtain⟨q1,q2,q3⟩:=HEQ.out trivial;have h1:=kj.out
      have hne:(t2.toList == [])=false:=by
       exact QR
      have hlt:=HMV.out hne;obtain⟨s1,s2,s3,s4,s5,s6⟩:=Sr es HWT nt (tk+1) code.length dc (b0 :: r0) kn t2 (2*q) HSI i5 i8 T HT.symm h1.symm;have hdf:=Sc.out;rw[aG h1.symm]at hdf;subst q1 q2 q3;have hm3:=HM.out.2.2.1;refine⟨b2,fu',q+1,tk+1,_,_,_,abR,bv5,xl.Ni _ _ aaI,hdf,HM.out.2.2.1,ag,ag,ag,WB.mono s4 ag,by simp at i6 s3 ⊢;omega,ag,ag,s5⟩
     case measure=>
      have h1:=kj.out
      have hne:(t2.toList == [])=false:=by
       exact QR
      have hlt:=HMV.out hne;have e1:lY w5 rb=b2:=by unfold lY;rw[show w5.cell? (ai rb 1)=some (ae b2)from xl.aO.1.cell 1 _ rfl];simp
      rw[e1,gU.out];have:=HM.out.2.2.1;omega
    ·have adz:(r == 0)=false:=by simpa using np
     have aeK:(r != 0)=true:=by simpa using np
     have MH:=af np;clear np;go_wp2_with fail;go_quiet (fail);go_wp2_with fail
     have hRe:R=((r,(pl2:Int)),es,nt,code,0):=by
      have hdf:=Sc.out;rw[az (by rw[←kj.out];exact MH)]at hdf;have:=HR.out;rw[←HD0.out,hdf]at this;rw[this,kj.out]
     rw[hRe];refine bodyPost_ret (v:=.tuple #[ae r,ae pl2]) FI rfl ⟨rfl,⟨ev,cv,b2,BS.below ⟨xl.sys,xl.tab,xl.aO.1,xl.ru⟩ (show Below w5.heap.size w5 (w5.drewN nq)from⟨rfl,rfl,rfl,aH,fun _ _=>rfl⟩),HM.out.2.2.1,fun e=>absurd e MH,Lc.refl _ _,Lc.refl _ _⟩,?_⟩;exact(HC.fz xl.jS (fun k _ e=>e.elim (fun e=>aC e) (fun e=>aA (aA (aA e))))).trans (aq.bf (show Below w5.heap.size w5 (w5.drewN nq)from⟨rfl,rfl,rfl,aH,fun _ _=>rfl⟩))
 ·have hR1:=HR0.out
  rw[az h0]at hR1;subst hR1;clear HR0;have h0':(f == 0)=false:=xI;have h0n:(f != 0)=true:=xI;have HF0:=af h0;clear h0;go_wp2_with fail;go_quiet (fail);go_wp2_with fail;refine bodyPost_ret (v:=.tuple #[ae f,ae pl]) FI rfl ⟨rfl,⟨_,_,a',kI.below (show Below w2.heap.size w2 (w2.drewN nq)from⟨rfl,rfl,rfl,aH,fun _ _=>rfl⟩),n3,fun e=>absurd e HF0,Lc.refl _ _,Lc.refl _ _⟩,HC.trans (aq.bf (show Below w2.heap.size w2 (w2.drewN nq)from⟨rfl,rfl,rfl,aH,fun _ _=>rfl⟩))⟩
end
section
open Go
theorem Nt(s:ByteArray)(i:Nat)(h:i<s.size):(aJ s i<128∧Utf8.decode s i=(aJ s i,1))∨(128≤aJ s i∧Utf8.decode s i=(65533,1))∨
  (128≤aJ s i∧(Utf8.decode s i).2=2∧(Utf8.decode s i).1<2048)∨(128≤aJ s i∧(Utf8.decode s i).2=4∧65536≤(Utf8.decode s i).1)∨
  (aJ s i / 16=14∧i+2<s.size∧aJ s (i+1) / 64=2∧aJ s (i+2) / 64=2∧(Utf8.decode s i).2=3∧(Utf8.decode s i).1=(aJ s i % 16)*4096+(aJ s (i+1) % 64)*64+aJ s (i+2) % 64):=by
 have hb:=lh s i;have hb1:=lh s (i+1);unfold Utf8.decode;simp only[Nat.add_zero];have hf:∀k,(s.get! k).toNat=aJ s k:=fun _=>rfl
 simp only[hf]
 split
 ·left;exact⟨by assumption,rfl⟩
 ·rename_i h1
  split
  ·split
   ·right;right;left
    refine⟨ag,rfl,?_⟩;simp only;omega
   ·right;left;exact⟨ag,rfl⟩
  ·split
   ·rename_i h3
    simp only[Bool.and_eq_true,beq_iff_eq,decide_eq_true_eq]at h3
    split
    ·right;right;right;right
     exact⟨h3.1.1,h3.2.1,h3.1.2.2,h3.2.2,rfl,rfl⟩
    ·right;left;exact⟨ag,rfl⟩
   ·split
    ·split
     ·rename_i h5
      right;right;right;left
      simp only[Bool.and_eq_true,decide_eq_true_eq]at h5;exact⟨ag,rfl,h5.1⟩
     ·right;left;exact⟨ag,rfl⟩
    ·right;left;exact⟨ag,rfl⟩
theorem S4(s:ByteArray)(i:Nat):Lib.hasPrefix (s.extract i s.size).data.toList [239,191,189]=true↔i+2<s.size∧aJ s i=239∧aJ s (i+1)=191∧aJ s (i+2)=189:=by
 have hl:s.data.toList.length=s.size:=kP
 have hd:(s.extract i s.size).data.toList=s.data.toList.drop i:=by
  rw[ByteArray.data_extract,Array.toList_extract];simp only[List.extract_eq_take_drop];rw[List.take_of_length_le];simp[hl]
 rw[hd]
 have key:∀k,k<s.size→∃c,s.data.toList.drop k=c :: s.data.toList.drop (k+1)∧c.toNat=aJ s k:=fun k hk=>by
  obtain⟨c,hc,hb⟩:=Jy s k hk;refine⟨c,?_,hb⟩;rw[qh ag];rw[bE ag]at hc;rw[fy hc]
 have tn:∀(c:UInt8) (n:Nat),n<256→(c=UInt8.ofNat n↔c.toNat=n):=fun c n hn=>by
  constructor
  ·rintro rfl;simp;omega
  ·intro e;exact UInt8.toNat_inj.1 (by rw[e];simp;omega)
 by_cases h2:i+2<s.size
 ·obtain⟨c0,e0,b0⟩:=key i ag
  obtain⟨c1,e1,b1⟩:=key (i+1) ag;obtain⟨c2,e2,b2⟩:=key (i+2) h2;rw[e0,e1,e2,←b0,←b1,←b2];simp only[Lib.hasPrefix,List.isPrefixOf,Bool.and_true,Bool.and_eq_true,beq_iff_eq];have t0:=tn c0 239 ag;have t1:=tn c1 191 ag;have t2:=tn c2 189 ag
  constructor
  ·rintro ⟨rfl,rfl,rfl⟩;exact⟨h2,rfl,rfl,rfl⟩
  ·rintro ⟨_,x,y,z⟩;exact⟨(t0.2 x).symm,(t1.2 y).symm,(t2.2 z).symm⟩
 ·constructor
  ·intro h
   exfalso
   have:=(List.isPrefixOf_iff_prefix.1 h).length_le;simp only[fA,List.length_nil,List.length_drop]at this;omega
  ·intro h;exact absurd h.1 h2
theorem Gq(s:ByteArray)(i:Nat)(h:i<s.size):isBad s i=true↔wd s i=0:=by
 have hb:=lh s i;have hb1:=lh s (i+1);have hb2:=lh s (i+2);have hp:=S4 s i;unfold isBad wd;rcases Nt s i h with ⟨k1,k2⟩|⟨k1,k2⟩|⟨k1,k2,k3⟩|⟨k1,k2,k3⟩|⟨k1,k2,k3,k4,k5,k6⟩
 ·rw[k2,aG k1]
  have:(aJ s i == 65533)=false:=Fy;simp[this]
 ·rw[k2,az ag]
  cases hq:Lib.hasPrefix (s.extract i s.size).data.toList [239,191,189]with
  |false=>simp
  |true=>
   exfalso
   obtain⟨q1,q2,q3,q4⟩:=hp.1 hq;have hcl:kp (aJ s i) 3 128 191:=by unfold kp;omega
   have:=Ga s i 3 128 191 h hcl;rw[k2,q2,q3,q4]at this;unfold Lib.slowN at this;rw[az ag,az ag,az ag,az ag,aG ag]at this;exact absurd (congrArg Prod.snd this) aj
 ·exact Qy
 ·exact Qy
 ·rw[az ag,k5,k6,az ag]
  constructor
  ·intro hc
   simp only[Bool.and_eq_true,beq_iff_eq,Bool.not_eq_true']at hc;have:=hp.2 ⟨k2,ag,ag,ag⟩;rw[this]at hc;exact absurd hc.2 aj
  ·intro hc;omega
theorem Dc(s:ByteArray)(i:Nat)(h:i<s.size)(h0:wd s i≠0):(Utf8.decode s i).2=wd s i:=by
 unfold wd at h0 ⊢;rcases Nt s i h with ⟨k1,k2⟩|⟨k1,k2⟩|⟨k1,k2,k3⟩|⟨k1,k2,k3⟩|⟨k1,k2,k3,k4,k5,k6⟩
 ·rw[k2,aG k1]
 ·rw[k2,az ag,aG rfl]at h0;exact absurd rfl h0
 ·rw[az ag,k2];rfl
 ·rw[az ag,k2];rfl
 ·rw[az ag,k5];rfl
theorem Hq(s:ByteArray):∀(f i n:Nat),chars s f i n=match badF s f i with|some k=>(-1,(k:Int))|none=>(((n+Lib.runeCountFrom s f i:Nat):Int),0)
 |0,i,n=>by simp[chars,badF,Lib.runeCountFrom]
 |f+1,i,n=>by
  unfold chars badF Lib.runeCountFrom
  by_cases h:i<s.size
  ·rw[aG h,aG h,aG h]
   have ct:=Gq s i h
   by_cases h0:wd s i=0
   ·rw[aG h0,aG (ct.2 h0)]
   ·rw[az h0,az (fun e=>h0 (ct.1 e)),Dc s i h h0,Hq s f (i+wd s i) (n+1)]
    have e:n+1+Lib.runeCountFrom s f (i+wd s i)=n+(1+Lib.runeCountFrom s f (i+wd s i)):=ag;rw[e]
  ·rw[az h,az h,az h]
   simp
theorem acF(s:ByteArray)(h:badF s s.size 0=none):uX s=gK s:=by
 unfold uX gK;rw[Hq,h,(Ew s).1];simp only[Nat.zero_add];have hc:Lib.runeCountFrom s s.size 0=Lib.runeCount s:=rfl;rw[hc]
 have h1:(!(s.toList == []))=decide ((1:Int)≤((Lib.runeCount s:Nat):Int)):=by
  rw[Bool.eq_iff_iff];simp only[Bool.not_eq_true',beq_eq_false_iff_ne,ne_eq,decide_eq_true_eq]
  constructor
  ·intro hne
   have hz:0<s.size:=by
    rcases wO s.size with e|e
    ·exfalso;apply hne;rw[wZ];exact List.length_eq_zero_iff.1 (by rw[kP];exact e)
    ·exact e
   obtain⟨m,hm⟩:∃m,s.size=m+1:=⟨s.size - 1,ag⟩
   have:Lib.runeCount s=1+Lib.runeCountFrom s m (0+(Utf8.decode s 0).2):=by
    unfold Lib.runeCount;rw[hm];unfold Lib.runeCountFrom;rw[aG ag]
    cases m<;>rfl
   omega
  ·intro h1 e
   have hz:s.size=0:=by
    rw[wZ]at e;have:=congrArg List.length e;rw[kP]at this;exact this
   have:Lib.runeCount s=0:=by unfold Lib.runeCount;rw[hz];rfl
   omega
 have h2:decide (Lib.runeCount s≤16)=decide (((Lib.runeCount s:Nat):Int)≤16):=by
  rw[Bool.eq_iff_iff];simp only[decide_eq_true_eq];omega
 rw[h1,h2]
 cases decide ((1:Int)≤((Lib.runeCount s:Nat):Int))<;>cases decide (((Lib.runeCount s:Nat):Int)≤16)<;>cases ck s nine<;>cases (dC s).2<;>rfl
end
section
open Go
theorem GK(s:ByteArray):∀(d a m:Nat),m=a+d→m≤s.size→(∀x,a≤x→x<m→blk (aJ s x)=true)→cU s a=cU s m
 |0,a,m,h,_,_=>by rw[h];rfl
 |d+1,a,m,h,hm,hb=>by
  rw[RZ s a ag (hb a aH ag)];exact GK s d (a+1) m ag hm (fun x h1 h2=>hb x ag h2)
theorem acy(s:ByteArray)(k:Nat):s.extract k k=⟨#[]⟩:=by
 have hsz:(s.extract k k).size=0:=aF;exact ByteArray.size_eq_zero_iff.1 hsz
theorem uk(s:ByteArray)(l:List UInt8):(s.toList == l)=true↔s=⟨l.toArray⟩:=by
 constructor
 ·intro h
  have h1:s.data.toList=l:=by rw[←wZ];simpa using h
  rw[←h1]
 ·rintro rfl
  rw[lZ];simp
theorem abe(s:ByteArray):∀(f a:Nat),a≤s.size→s.size - a≤f→
  (cU s a=[]∧(nextF s f a).1=⟨#[]⟩)∨(cU s a=((nextF s f a).1,(nextF s f a).2.1) :: cU s (nextF s f a).2.2∧((nextF s f a).1.toList == [])=false):=by
 have main:∀a,a≤s.size→cU s a=cU s (cC s a)∧(cC s a<s.size→blk (aJ s (cC s a))=false):=fun a ha=>by
  have hB:=iP ld s a ha;refine⟨GK s (cC s a - a) a (cC s a) (by have:=hB.1;unfold cC;omega) hB.2.1 (fun x h1 h2=>?_),fun h=>?_⟩
  ·have:=hB.2.2.1 x h1 h2
   unfold ld at this;simpa using this
  ·rcases hB.2.2.2 with e|e
   ·exact absurd e (by unfold cC at h;omega)
   ·have e':(!blk (aJ s (cC s a)))=true:=e
    simpa using e'
 have fin:∀a,a≤s.size→¬cC s a<s.size→cU s a=[]∧s.extract (cC s a) (cX s a)=⟨#[]⟩:=fun a ha h=>by
  obtain⟨l1,l2,l3⟩:=rh s a ha;have e:cX s a=cC s a:=ag;exact⟨by rw[(main a ha).1];exact FW s _ ag,by rw[e];exact acy s _⟩
 intro f
 induction f with
 |zero=>
  intro a ha hf;obtain⟨l1,l2,l3⟩:=rh s a ha
  left
  unfold nextF;exact fin a ha ag
 |succ f ih=>
  intro a ha hf;obtain⟨l1,l2,l3⟩:=rh s a ha;unfold nextF
  by_cases hb:cC s a<s.size
  ·have hk:=(main a ha).2 hb
   have hlt:cC s a<cX s a:=ub s _ hb hk
   by_cases hn:((s.extract (cC s a) (cX s a)).toList == [92])=true
   ·rw[aG hn]
    have hsp:=iP dY s (cX s a) l3
    have e:cU s a=cU s (scan dY s (cX s a)):=by
     rw[(main a ha).1,De s _ hb hk ((uk _ _).1 hn)];rfl
    rw[e];exact ih _ hsp.2.1 CE
   ·rw[az hn]
    right
    refine⟨?_,?_⟩
    ·rw[(main a ha).1,Ij s _ hb hk (fun e=>hn ((uk _ _).2 e))];rfl
    ·cases hq:((s.extract (cC s a) (cX s a)).toList == [])with
     |false=>rfl
     |true=>
      exfalso
      have h1:=(uk _ _).1 hq;have h2:(s.extract (cC s a) (cX s a)).size=0:=by rw[h1];rfl
      rw[ByteArray.size_extract]at h2;omega
  ·obtain⟨f1,f2⟩:=fin a ha hb
   left
   rw[f2,az (by rw[show(⟨#[]⟩:ByteArray).toList=[]from lZ []];decide)];exact⟨f1,rfl⟩
end
section
open Go
theorem QS(s:ByteArray)(i:Nat)(h:i<s.size):∀d,0<d→d<wd s i→128≤aJ s (i+d):=by
 intro d h0 hd
 by_cases hw:wd s i=0
 ·omega
 have hdec:=Dc s i h hw;rw[←hdec]at hd;clear hdec hw;have hf:∀k,(s.get! k).toNat=aJ s k:=fun _=>rfl
 unfold Utf8.decode at hd;simp only[Nat.add_zero,hf]at hd
 split at hd
 ·simp only at hd;omega
 ·split at hd
  ·rename_i h2
   simp only[Bool.and_eq_true,beq_iff_eq,decide_eq_true_eq]at h2;have e1:d=1:=IB;subst e1;omega
  ·split at hd
   ·rename_i h3
    simp only[Bool.and_eq_true,beq_iff_eq,decide_eq_true_eq]at h3;have e1:d=1∨d=2:=IB;rcases e1 with rfl|rfl<;>omega
   ·split at hd
    ·rename_i h4
     simp only[Bool.and_eq_true,beq_iff_eq,decide_eq_true_eq]at h4;have e1:d=1∨d=2∨d=3:=IB;rcases e1 with rfl|rfl|rfl<;>omega
    ·simp only at hd;omega
theorem Qi(s:ByteArray):∀(f g i:Nat),s.size≤i+f→s.size≤i+g→badF s f i=badF s g i
 |0,g,i,hf,hg=>by cases g with|zero=>rfl|succ g=>unfold badF;rw[az ag]
 |f+1,0,i,hf,hg=>by unfold badF;rw[az ag]
 |f+1,g+1,i,hf,hg=>by
  unfold badF
  by_cases h:i<s.size
  ·rw[aG h,aG h]
   have hp:=Lib.decode_width_pos s i h;rw[Qi s f g _ ag ag]
  ·rw[az h,az h]
def Sound(s:ByteArray)(i:Nat):Prop:=badF s s.size i=none
theorem Sound.step{i:Nat}(h:Sound s i)(hi:i<s.size):wd s i≠0∧Sound s (i+wd s i):=by
 unfold Sound at h;rw[Qi s s.size (s.size+1) i ag ag]at h;unfold badF at h;rw[aG hi]at h;have hb:=Gq s i hi
 by_cases h0:isBad s i=true
 ·rw[aG h0]at h;cases h
 ·have hw:wd s i≠0:=fun e=>h0 (hb.2 e)
  rw[az h0,Dc s i hi hw]at h;exact⟨hw,h⟩
theorem Sound.at{s:ByteArray}:∀(d i j:Nat),j - i≤d→i≤j→Sound s i→(j<s.size→aJ s j<128)→j≤s.size→Sound s j
 |0,i,j,hd,hij,h,hb,hj=>by rw[show j=i by omega];exact h
 |d+1,i,j,hd,hij,h,hb,hj=>by
  by_cases e:j=i
  ·rw[e];exact h
  ·have hi:i<s.size:=by omega
   obtain⟨hw,hs⟩:=h.step hi;have hin:=GF s i hi
   by_cases hle:i+wd s i≤j
   ·exact Sound.at d (i+wd s i) j ag hle hs hb hj
   ·exfalso
    have hjs:j<s.size:=ag;have:=QS s i hi (j - i) ag ag;rw[show i+(j - i)=j by omega]at this;have:=hb hjs;omega
end
section
open Go
theorem aan(s:ByteArray)(b e p:Nat)(he:e≤s.size)(hp:b+p<e):aJ (s.extract b e) p=aJ s (b+p):=by
 have h1:p<(s.extract b e).size:=IZ;rw[←tB (s.extract b e) p h1,←tB s (b+p) ag];rw[ByteArray.getElem_extract]
theorem Y3(s:ByteArray)(b e p:Nat)(he:e≤s.size)(hw:wd s (b+p)≠0)(hin:b+p+wd s (b+p)≤e):wd (s.extract b e) p=wd s (b+p):=by
 have hsz:(s.extract b e).size=e - b:=IZ;have hB:∀k,b+(p+k)<e→aJ (s.extract b e) (p+k)=aJ s (b+p+k):=fun k hk=>by rw[aan s b e (p+k) he hk,Nat.add_assoc]
 have h0:=hB 0 ag;simp only[Nat.add_zero]at h0
 by_cases h1:aJ s (b+p)<128
 ·rw[DL s _ h1,DL _ _ (by rw[h0];exact h1)]
 ·have hlt:=lh s (b+p)
  have hr:¬((128≤aJ s (b+p)∧aJ s (b+p)<194)∨244<aJ s (b+p)):=fun h=>hw (IP s _ h)
  have hcl:∃n lo hi,kp (aJ s (b+p)) n lo hi:=by
   unfold kp
   by_cases q1:aJ s (b+p)<224
   ·exact⟨2,128,191,ag⟩
   by_cases q2:aJ s (b+p)=224
   ·exact⟨3,160,191,ag⟩
   by_cases q3:aJ s (b+p)=237
   ·exact⟨3,128,159,ag⟩
   by_cases q4:aJ s (b+p)<240
   ·exact⟨3,128,191,ag⟩
   by_cases q5:aJ s (b+p)=240
   ·exact⟨4,144,191,ag⟩
   by_cases q6:aJ s (b+p)=244
   ·exact⟨4,128,143,ag⟩
   exact⟨4,128,191,ag⟩
  obtain⟨n,lo,hi,hc⟩:=hcl;have hn:=hc.n2;have hi':b+p<s.size:=ag
  by_cases mC:b+p+n≤s.size∧(lo≤aJ s (b+p+1)∧aJ s (b+p+1)≤hi)∧∀j,2≤j→j<n→128≤aJ s (b+p+j)∧aJ s (b+p+j)≤191
  ·obtain⟨y1,y2,y3⟩:=mC
   have e1:=uK s (b+p) n lo hi hi' hc y1 y2 y3;rw[e1]at hin ⊢;refine uK _ p n lo hi ag (by rw[h0];exact hc) ag (by rw[hB 1 ag];exact y2) (fun j j1 j2=>?_);rw[hB j ag];exact y3 j j1 j2
  ·exact absurd (mJ s (b+p) n lo hi hi' hc mC) hw
theorem Sound.ext{b e:Nat}(hbe:b≤e)(he:e≤s.size)(hend:e<s.size→aJ s e<128):∀(f p:Nat),Sound s (b+p)→badF (s.extract b e) f p=none
 |0,p,h=>rfl
 |f+1,p,h=>by
  have hsz:(s.extract b e).size=e - b:=IZ;unfold badF
  by_cases hp:p<(s.extract b e).size
  ·rw[aG hp]
   have hi:b+p<s.size:=ag;obtain⟨hw,hs⟩:=h.step hi;have hin:=GF s (b+p) hi
   have hle:b+p+wd s (b+p)≤e:=by
    rcases kh e (b+p+wd s (b+p))with hx|hx
    ·exfalso
     have h1:=QS s (b+p) hi (e - (b+p)) ag ag;rw[show b+p+(e - (b+p))=e by omega]at h1;have h2:=hend ag;omega
    ·exact hx
   have hwe:=Y3 s b e p he hw hle;have ct:=Gq (s.extract b e) p hp;rw[az (fun x=>hw (by rw[←hwe];exact ct.1 x)),Dc _ p hp (by rw[hwe];exact hw),hwe];exact Sound.ext hbe he hend f _ (by rw[←Nat.add_assoc];exact hs)
  ·rw[az hp]
end
section
open Go
theorem RS(h:blk n=true):n<128:=by
 unfold blk at h;simp only[Bool.or_eq_true,beq_iff_eq]at h;omega
theorem IA{a:Nat}(h:Sound s a)(ha:a≤s.size):Sound s (cX s a)∧badF (s.extract (cC s a) (cX s a)) (s.extract (cC s a) (cX s a)).size 0=none:=by
 obtain⟨l1,l2,l3⟩:=rh s a ha;have hB:=iP ld s a ha;have hE:=iP blk s (cC s a) ag
 have sB:Sound s (cC s a):=by
  by_cases e:cC s a=a
  ·rw[e];exact h
  ·have hp:(!blk (aJ s (cC s a - 1)))=false:=hB.2.2.1 (cC s a - 1) ag (by have:cC s a=scan ld s a:=rfl;omega)
   have hb:aJ s (cC s a - 1)<128:=RS (by simpa using hp);have h1:Sound s (cC s a - 1):=Sound.at _ a (cC s a - 1) aH ag h (fun _=>hb) ag;have h2:=(h1.step ag).2;rw[DL s _ hb,show cC s a - 1+1=cC s a by omega]at h2;exact h2
 have hend:cX s a<s.size→aJ s (cX s a)<128:=fun hl=>by
  rcases hE.2.2.2 with e|e
  ·have:cX s a=scan blk s (cC s a):=rfl
   omega
  ·exact RS e
 exact⟨Sound.at _ (cC s a) (cX s a) aH l2 sB hend l3,Sound.ext l2 l3 hend _ 0 (by rw[Nat.add_zero];exact sB)⟩
theorem I7{s:ByteArray}:∀(f a:Nat),Sound s a→a≤s.size→badF (nextF s f a).1 (nextF s f a).1.size 0=none∧Sound s (nextF s f a).2.2
 |0,a,h,ha=>by unfold nextF;exact⟨(IA h ha).2,(IA h ha).1⟩
 |f+1,a,h,ha=>by
  obtain⟨c1,c2⟩:=IA h ha;obtain⟨l1,l2,l3⟩:=rh s a ha;unfold nextF
  split
  ·have hE:=iP dY s (cX s a) l3
   refine I7 f _ (Sound.at _ (cX s a) _ aH hE.1 c1 (fun hl=>?_) hE.2.1) hE.2.1;rcases hE.2.2.2 with e|e
   ·omega
   ·have e':(aJ s (scan dY s (cX s a)) == 10)=true:=e
    rw[beq_iff_eq]at e';omega
  ·exact⟨c2,c1⟩
theorem OX{a:Nat}(h:Sound s a)(ha:a≤s.size):uX (nx s a).1=gK (nx s a).1∧Sound s (nx s a).2.2:=
 ⟨acF _ (I7 _ a h ha).1,(I7 _ a h ha).2⟩
end
section
theorem Ru(n:Int)(w:World)(hn: -9000000000000000000≤n∧n≤9000000000000000000):Calls prog 208 #[ae n] w fun e w'=>e=.returned (ae (w32 n))∧w'=w:=by
 obtain⟨R,hR⟩:=ak (w32 n);rw[←hR];obtain⟨m,hm⟩:=ak (n.tmod 4294967296)
 have hm1: -4294967296<m∧m<4294967296∧∃q,n=4294967296*q+m:=by
  have h1:=Int.natAbs_tmod n 4294967296;have h2:=Int.mul_tdiv_add_tmod n 4294967296;rw[←hm]at h1 h2;have h3:n.natAbs % 4294967296<4294967296:=Nat.mod_lt _ aj;have h4:(4294967296:Int).natAbs=4294967296:=rfl;rw[h4]at h1;exact⟨ag,ag,_,h2.symm⟩
 obtain⟨l1,l2,q,hq⟩:=hm1;have HQ:=af hq;have HR:=af hR;clear hR hq
 by_cases h0:m<0
 ·by_cases h1:2147483647<m+4294967296
  ·have hRe:R=m:=by rw[HR.out];unfold w32;rw[HQ.out];omega
   have ee:=af hRe;clear hRe;rw[hm]at h0 h1 l1 l2;go_enter func208,ntmps208;go_wp2_with fail;rw[ee.out,hm];go_ret;exact⟨aF,rfl⟩
  ·have hRe:R=m+4294967296:=by rw[HR.out];unfold w32;rw[HQ.out];omega
   exact FT
 ·by_cases h1:2147483647<m
  ·have hRe:R=m - 4294967296:=by rw[HR.out];unfold w32;rw[HQ.out];omega
   exact FT
  ·have hRe:R=m:=by rw[HR.out];unfold w32;rw[HQ.out];omega
   exact FT
theorem Ro(b:Bool)(w:World):Calls prog 210 #[.bool b] w fun e w'=>e=.returned (ae (lj b))∧w'=w:=by
 cases b
 ·go_enter func210,ntmps210
  go_wp2_with fail
  go_ret
  exact⟨rfl,rfl⟩
 ·go_enter func210,ntmps210
  go_wp2_with fail
  go_ret
  exact⟨rfl,rfl⟩
theorem V5(ha:Cell a)(hb:Cell b)(w:World):Calls prog 218 #[ae a,ae b] w fun e w'=>e=.returned (ae (nP a b))∧w'=w:=by
 obtain⟨q1,q2⟩:=Oq (b:=b) ha;obtain⟨a1,a2⟩:=ha;obtain⟨b1,b2⟩:=hb;obtain⟨R,hR⟩:=ak (nP a b);rw[←hR];unfold nP at hR
 by_cases h0:b=0
 ·rw[aG h0]at hR
  have HR:=af hR;clear hR;subst h0;go_enter func218,ntmps218;go_wp2_with fail;rw[HR.out];go_ret;exact⟨rfl,rfl⟩
 ·have hz:(b == 0)=false:=by simp[h0]
  rw[az h0]at hR;obtain⟨q,hq⟩:=ak (a.tdiv b);obtain⟨m,hm⟩:=ak (a.tmod b);have HQ:=af hq;have HM:=af hm;rw[←hq]at hR q1 q2;rw[←hm]at hR;have HW:=af (fun n w (h: -9000000000000000000≤n∧n≤9000000000000000000)=>Ru n w h)
  by_cases hm0:m=0
  ·rw[az (fun h=>h.1 hm0)]at hR
   have HR:=af hR;have hmb:(m != 0)=false:=by simp[hm0]
   clear hR;go_enter func218,ntmps218;rw[hm]at hmb;go_wp2_with fail;refine(HW _ _ ag).mono ?_;rintro e w' ⟨rfl,rfl⟩;go_wp2_with fail;rw[HR.out,HQ.out];go_ret;exact⟨rfl,rfl⟩
  ·have hmb:(m != 0)=true:=by simp[hm0]
   rw[hm]at hmb
   by_cases ha0:a<0
   ·by_cases hb0:b<0
    ·rw[az (fun h=>h.2 wh)]at hR
     have HR:=af hR;have hda:decide (a<0)=true:=vY;have hdb:decide (b<0)=true:=vO;exact Ct
    ·rw[aG ⟨hm0,wh⟩]at hR
     have HR:=af hR;have hda:decide (a<0)=true:=vY;have hdb:decide (b<0)=false:=vO;exact Ct
   ·by_cases hb0:b<0
    ·rw[aG ⟨hm0,wh⟩]at hR
     have HR:=af hR;have hda:decide (a<0)=false:=vY;have tu:(a % b != 0)=true:=C8;have hdb:decide (b<0)=true:=vO;exact Ct
    ·rw[az (fun h=>h.2 wh)]at hR
     have HR:=af hR;have hda:decide (a<0)=false:=vY;have tu:(a % b != 0)=true:=C8;have hdb:decide (b<0)=false:=vO;exact Ct
theorem Vj(ha:Cell a)(hb:Cell b)(w:World):Calls prog 219 #[ae a,ae b,.string ⟨#[97,110,100]⟩] w fun e w'=>e=.returned (ae (((a % 4294967296).toNat&&&(b % 4294967296).toNat:Nat):Int))∧w'=w:=by
 obtain⟨a1,a2⟩:=ha;obtain⟨b1,b2⟩:=hb;obtain⟨X,hX⟩:=ak ((a % 4294967296).toNat:Nat);obtain⟨Y,hY⟩:=ak ((b % 4294967296).toNat:Nat);rw[←hX,←hY];have qC:X<2 ^ 32:=zP;have uN:Y<2 ^ 32:=y9;have eX:(a+4294967296).tmod 4294967296=(X:Int):=FO;have eY:(b+4294967296).tmod 4294967296=(Y:Int):=Fj;have eX2:(a+4294967296) % 4294967296=(X:Int):=zP;have eY2:(b+4294967296) % 4294967296=(Y:Int):=y9;obtain⟨Z,hZ⟩:=ak (X&&&Y:Nat);have vk:∀i,Z.testBit i=and (X.testBit i) (Y.testBit i):=fun i=>by rw[hZ,Nat.testBit_and]
 have hZl:Z<2 ^ 32:=Nat.lt_pow_two_of_testBit Z (fun i hi=>Gh);rw[←hZ];have HZ:=af vk;have HZL:=af hZl;have HX:=af qC;have HY:=af uN;have hx0:(0:Int)≤(X:Int):=ag;have hy0:(0:Int)≤(Y:Int):=ag;clear hX hY hZ vk hZl qC uN;go_enter func219,ntmps219;go_wp2_with fail;go_loopw[7,8,9] (fun s p i wr=>∃(k P N:Nat),k≤32∧s=ae N∧p=ae P∧i=ae k∧wr=w∧Hid (P=2 ^ k∧N=Z % 2 ^ k)) (fun _ _ i _=>32 - (intOf i).toNat)
 case atStart=>exact⟨0,1,0,ag,rfl,rfl,rfl,rfl,af ⟨rfl,Fe⟩⟩
 case round=>
  clear eX eY eX2 eY2;obtain⟨k,P,N,hk,rfl,rfl,rfl,rfl,HC⟩:=hrel
  by_cases hlt:k<32
  ·have bV:(k:Int)<32:=by omega
   obtain⟨hP,hN⟩:=HC.out;have hP1:1≤P:=G6;have pJ:P≤2147483648:=Jr;have hN2:N<P:=GU;obtain⟨x,hx⟩:=ak (X / P % 2:Nat);obtain⟨y,hy⟩:=ak (Y / P % 2:Nat);have tx:X.testBit k=decide (x=1):=IC;have ty:Y.testBit k=decide (y=1):=F0;have hx2:x<2:=Gc;have hy2:y<2:=Hs;obtain⟨xq,p7⟩:=ak (X / P:Nat);obtain⟨yq,hyq⟩:=ak (Y / P:Nat);rw[←p7]at hx;rw[←hyq]at hy;have ak:(X:Int) / (P:Int)=(xq:Int):=by rw[p7];norm_cast
   have eyq:(Y:Int) / (P:Int)=(yq:Int):=by rw[hyq];norm_cast
   have bx:(xq:Int)≤4294967296:=Hb;have bY:(yq:Int)≤4294967296:=IG;have bx0:(0:Int)≤(xq:Int):=ag;have by0:(0:Int)≤(yq:Int):=ag;have ex:(xq:Int) % 2=(x:Int):=by rw[hx];norm_cast
   have ey:(yq:Int) % 2=(y:Int):=by rw[hy];norm_cast
   have mr:(xq:Int).tmod 2=(x:Int):=Ha;have mL:(yq:Int).tmod 2=(y:Int):=E2;have hnx:Z % 2 ^ (k+1)=N+P*(Z.testBit k).toNat:=I5;rw[HZ.out,tx,ty]at hnx;have hPP:2*P=2 ^ (k+1):=FY;have dQ:=af hnx;have jY:=af hPP;have hp0:(P:Int)≠0:=ag;have hpz:((P:Int) == 0)=false:=aK;have oF:(1:Int)≤(P:Int):=ag;have hp4:(P:Int)≤2147483648:=ag;have gT:(0:Int)≤(N:Int):=ag;have hn4:(N:Int)≤2147483648:=ag;clear hP hN tx ty hnx hPP HC hx hy p7 hyq;have hxc:x=0∨x=1:=ag;have qB:y=0∨y=1:=ag;rcases hxc with rfl|rfl<;>rcases qB with rfl|rfl
   ·exact EY
   ·have hz:Z % 2 ^ (k+1)=N:=by rw[dQ.out];simp
    have zH:(xq:Int) % 2=0:=ex;have yj:(yq:Int) % 2=1:=ey;have zl:(xq:Int).tmod 2=0:=mr;have zC:(yq:Int).tmod 2=1:=mL;clear ex ey mr mL;have wy:=af hz;clear hz dQ;go_wp2_with fail;exact DG
   ·have hz:Z % 2 ^ (k+1)=N:=by rw[dQ.out];simp
    have zH:(xq:Int) % 2=1:=ex;have yj:(yq:Int) % 2=0:=ey;have zl:(xq:Int).tmod 2=1:=mr;have zC:(yq:Int).tmod 2=0:=mL;clear ex ey mr mL;have wy:=af hz;clear hz dQ;go_wp2_with fail;exact DG
   ·exact Rc
  ·exact Gn
theorem adm(ha:Cell a)(hb:Cell b)(w:World):Calls prog 219 #[ae a,ae b,.string ⟨#[111,114]⟩] w fun e w'=>e=.returned (ae (((a % 4294967296).toNat|||(b % 4294967296).toNat:Nat):Int))∧w'=w:=by
 obtain⟨a1,a2⟩:=ha;obtain⟨b1,b2⟩:=hb;obtain⟨X,hX⟩:=ak ((a % 4294967296).toNat:Nat);obtain⟨Y,hY⟩:=ak ((b % 4294967296).toNat:Nat);rw[←hX,←hY];have qC:X<2 ^ 32:=zP;have uN:Y<2 ^ 32:=y9;have eX:(a+4294967296).tmod 4294967296=(X:Int):=FO;have eY:(b+4294967296).tmod 4294967296=(Y:Int):=Fj;have eX2:(a+4294967296) % 4294967296=(X:Int):=zP;have eY2:(b+4294967296) % 4294967296=(Y:Int):=y9;obtain⟨Z,hZ⟩:=ak (X|||Y:Nat);have vk:∀i,Z.testBit i=or (X.testBit i) (Y.testBit i):=fun i=>by rw[hZ,Nat.testBit_or]
 have hZl:Z<2 ^ 32:=Nat.lt_pow_two_of_testBit Z (fun i hi=>Gh);rw[←hZ];have HZ:=af vk;have HZL:=af hZl;have HX:=af qC;have HY:=af uN;have hx0:(0:Int)≤(X:Int):=ag;have hy0:(0:Int)≤(Y:Int):=ag;clear hX hY hZ vk hZl qC uN;go_enter func219,ntmps219;go_wp2_with fail;go_loopw[7,8,9] (fun s p i wr=>∃(k P N:Nat),k≤32∧s=ae N∧p=ae P∧i=ae k∧wr=w∧Hid (P=2 ^ k∧N=Z % 2 ^ k)) (fun _ _ i _=>32 - (intOf i).toNat)
 case atStart=>exact⟨0,1,0,ag,rfl,rfl,rfl,rfl,af ⟨rfl,Fe⟩⟩
 case round=>
  clear eX eY eX2 eY2;obtain⟨k,P,N,hk,rfl,rfl,rfl,rfl,HC⟩:=hrel
  by_cases hlt:k<32
  ·have bV:(k:Int)<32:=by omega
   obtain⟨hP,hN⟩:=HC.out;have hP1:1≤P:=G6;have pJ:P≤2147483648:=Jr;have hN2:N<P:=GU;obtain⟨x,hx⟩:=ak (X / P % 2:Nat);obtain⟨y,hy⟩:=ak (Y / P % 2:Nat);have tx:X.testBit k=decide (x=1):=IC;have ty:Y.testBit k=decide (y=1):=F0;have hx2:x<2:=Gc;have hy2:y<2:=Hs;obtain⟨xq,p7⟩:=ak (X / P:Nat);obtain⟨yq,hyq⟩:=ak (Y / P:Nat);rw[←p7]at hx;rw[←hyq]at hy;have ak:(X:Int) / (P:Int)=(xq:Int):=by rw[p7];norm_cast
   have eyq:(Y:Int) / (P:Int)=(yq:Int):=by rw[hyq];norm_cast
   have bx:(xq:Int)≤4294967296:=Hb;have bY:(yq:Int)≤4294967296:=IG;have bx0:(0:Int)≤(xq:Int):=ag;have by0:(0:Int)≤(yq:Int):=ag;have ex:(xq:Int) % 2=(x:Int):=by rw[hx];norm_cast
   have ey:(yq:Int) % 2=(y:Int):=by rw[hy];norm_cast
   have mr:(xq:Int).tmod 2=(x:Int):=Ha;have mL:(yq:Int).tmod 2=(y:Int):=E2;have hnx:Z % 2 ^ (k+1)=N+P*(Z.testBit k).toNat:=I5;rw[HZ.out,tx,ty]at hnx;have hPP:2*P=2 ^ (k+1):=FY;have dQ:=af hnx;have jY:=af hPP;have hp0:(P:Int)≠0:=ag;have hpz:((P:Int) == 0)=false:=aK;have oF:(1:Int)≤(P:Int):=ag;have hp4:(P:Int)≤2147483648:=ag;have gT:(0:Int)≤(N:Int):=ag;have hn4:(N:Int)≤2147483648:=ag;clear hP hN tx ty hnx hPP HC hx hy p7 hyq;have hxc:x=0∨x=1:=ag;have qB:y=0∨y=1:=ag;rcases hxc with rfl|rfl<;>rcases qB with rfl|rfl
   ·exact EY
   ·exact QG
   ·exact JA
   ·exact Rc
  ·exact Gn
theorem adt(ha:Cell a)(hb:Cell b)(w:World):Calls prog 219 #[ae a,ae b,.string ⟨#[120,111,114]⟩] w fun e w'=>e=.returned (ae (((a % 4294967296).toNat ^^^ (b % 4294967296).toNat:Nat):Int))∧w'=w:=by
 obtain⟨a1,a2⟩:=ha;obtain⟨b1,b2⟩:=hb;obtain⟨X,hX⟩:=ak ((a % 4294967296).toNat:Nat);obtain⟨Y,hY⟩:=ak ((b % 4294967296).toNat:Nat);rw[←hX,←hY];have qC:X<2 ^ 32:=zP;have uN:Y<2 ^ 32:=y9;have eX:(a+4294967296).tmod 4294967296=(X:Int):=FO;have eY:(b+4294967296).tmod 4294967296=(Y:Int):=Fj;have eX2:(a+4294967296) % 4294967296=(X:Int):=zP;have eY2:(b+4294967296) % 4294967296=(Y:Int):=y9;obtain⟨Z,hZ⟩:=ak (X ^^^ Y:Nat);have vk:∀i,Z.testBit i=xor (X.testBit i) (Y.testBit i):=fun i=>by rw[hZ,Nat.testBit_xor]
 have hZl:Z<2 ^ 32:=Nat.lt_pow_two_of_testBit Z (fun i hi=>Gh);rw[←hZ];have HZ:=af vk;have HZL:=af hZl;have HX:=af qC;have HY:=af uN;have hx0:(0:Int)≤(X:Int):=ag;have hy0:(0:Int)≤(Y:Int):=ag;clear hX hY hZ vk hZl qC uN;go_enter func219,ntmps219;go_wp2_with fail;go_loopw[7,8,9] (fun s p i wr=>∃(k P N:Nat),k≤32∧s=ae N∧p=ae P∧i=ae k∧wr=w∧Hid (P=2 ^ k∧N=Z % 2 ^ k)) (fun _ _ i _=>32 - (intOf i).toNat)
 case atStart=>exact⟨0,1,0,ag,rfl,rfl,rfl,rfl,af ⟨rfl,Fe⟩⟩
 case round=>
  clear eX eY eX2 eY2;obtain⟨k,P,N,hk,rfl,rfl,rfl,rfl,HC⟩:=hrel
  by_cases hlt:k<32
  ·have bV:(k:Int)<32:=by omega
   obtain⟨hP,hN⟩:=HC.out;have hP1:1≤P:=G6;have pJ:P≤2147483648:=Jr;have hN2:N<P:=GU;obtain⟨x,hx⟩:=ak (X / P % 2:Nat);obtain⟨y,hy⟩:=ak (Y / P % 2:Nat);have tx:X.testBit k=decide (x=1):=IC;have ty:Y.testBit k=decide (y=1):=F0;have hx2:x<2:=Gc;have hy2:y<2:=Hs;obtain⟨xq,p7⟩:=ak (X / P:Nat);obtain⟨yq,hyq⟩:=ak (Y / P:Nat);rw[←p7]at hx;rw[←hyq]at hy;have ak:(X:Int) / (P:Int)=(xq:Int):=by rw[p7];norm_cast
   have eyq:(Y:Int) / (P:Int)=(yq:Int):=by rw[hyq];norm_cast
   have bx:(xq:Int)≤4294967296:=Hb;have bY:(yq:Int)≤4294967296:=IG;have bx0:(0:Int)≤(xq:Int):=ag;have by0:(0:Int)≤(yq:Int):=ag;have ex:(xq:Int) % 2=(x:Int):=by rw[hx];norm_cast
   have ey:(yq:Int) % 2=(y:Int):=by rw[hy];norm_cast
   have mr:(xq:Int).tmod 2=(x:Int):=Ha;have mL:(yq:Int).tmod 2=(y:Int):=E2;have hnx:Z % 2 ^ (k+1)=N+P*(Z.testBit k).toNat:=I5;rw[HZ.out,tx,ty]at hnx;have hPP:2*P=2 ^ (k+1):=FY;have dQ:=af hnx;have jY:=af hPP;have hp0:(P:Int)≠0:=ag;have hpz:((P:Int) == 0)=false:=aK;have oF:(1:Int)≤(P:Int):=ag;have hp4:(P:Int)≤2147483648:=ag;have gT:(0:Int)≤(N:Int):=ag;have hn4:(N:Int)≤2147483648:=ag;clear hP hN tx ty hnx hPP HC hx hy p7 hyq;have hxc:x=0∨x=1:=ag;have qB:y=0∨y=1:=ag;rcases hxc with rfl|rfl<;>rcases qB with rfl|rfl
   ·exact EY
   ·exact QG
   ·exact JA
   ·have hz:Z % 2 ^ (k+1)=N:=by rw[dQ.out];simp
    have zH:(xq:Int) % 2=1:=ex;have yj:(yq:Int) % 2=1:=ey;have zl:(xq:Int).tmod 2=1:=mr;have zC:(yq:Int).tmod 2=1:=mL;clear ex ey mr mL;have wy:=af hz;clear hz dQ;go_wp2_with fail;exact DG
  ·exact Gn
end
section
theorem yL(h:Cell a):BitVec.ofInt 64 a=(BitVec.ofInt 32 a).signExtend 64:=by
 have e:(BitVec.ofInt 32 a).toInt=a:=by
  rw[BitVec.toInt_ofInt];obtain⟨h1,h2⟩:=h;exact Int.bmod_eq_of_le ag ag
 rw[BitVec.signExtend,e]
theorem Hk(x:BitVec 64):IntKind.wrap .i64 (x.toNat:Int)=x.toInt:=by
 rw[BitVec.toInt_eq_toNat_bmod];have:=x.isLt;simp only[IntKind.wrap,show IntKind.i64.bits=64 from rfl,show IntKind.i64.signed=true from rfl,Bool.true_and,decide_eq_true_eq,Int.bmod];omega
theorem I3(x:BitVec 32):w32 (x.toNat:Int)=x.toInt:=by
 rw[BitVec.toInt_eq_toNat_bmod];have:=x.isLt;simp only[w32,Int.bmod];omega
theorem FR(x:BitVec 32):(x.signExtend 64).toInt=x.toInt:=BitVec.toInt_signExtend_of_le aj
theorem zv(a:Int):(BitVec.ofInt 32 a).toNat=(a % 4294967296).toNat:=by rw[BitVec.toNat_ofInt];rfl
theorem WN(ha:Cell a)(hb:Cell b):bits .and .i64 a b=w32 (((a % 4294967296).toNat&&&(b % 4294967296).toNat:Nat):Int):=by
 show IntKind.wrap .i64 ((BitVec.ofInt 64 a&&&BitVec.ofInt 64 b).toNat:Int)=_
 rw[yL ha,yL hb,←BitVec.signExtend_and,Hk,FR,←I3,BitVec.toNat_and,zv,zv]
theorem Tt(ha:Cell a)(hb:Cell b):bits .or .i64 a b=w32 (((a % 4294967296).toNat|||(b % 4294967296).toNat:Nat):Int):=by
 show IntKind.wrap .i64 ((BitVec.ofInt 64 a|||BitVec.ofInt 64 b).toNat:Int)=_
 rw[yL ha,yL hb,←BitVec.signExtend_or,Hk,FR,←I3,BitVec.toNat_or,zv,zv]
theorem W9(ha:Cell a)(hb:Cell b):bits .xor .i64 a b=w32 (((a % 4294967296).toNat ^^^ (b % 4294967296).toNat:Nat):Int):=by
 show IntKind.wrap .i64 ((BitVec.ofInt 64 a ^^^ BitVec.ofInt 64 b).toNat:Int)=_
 rw[yL ha,yL hb,←BitVec.signExtend_xor,Hk,FR,←I3,BitVec.toNat_xor,zv,zv]
def jM(k:Nat)(a b:Int):Int:=
 if k=0 then a+b else if k=1 then a - b else if k=2 then a*b else if k=3 then(((a % 4294967296).toNat&&&(b % 4294967296).toNat:Nat):Int)else if k=4 then(((a % 4294967296).toNat|||(b % 4294967296).toNat:Nat):Int)else if k=5 then(((a % 4294967296).toNat ^^^ (b % 4294967296).toNat:Nat):Int)
 else if k=6 then nP a b else if k=7 then a - b*nP a b else if k=8 then lj (a == b)else if k=9 then lj (decide (a<b))else if k=10 then lj (decide (b<a))else if k=11 then min a b else if k=12 then max a b else b
theorem BH(a:Int):(a % 4294967296).toNat<2 ^ 32:=ag
theorem KJ(k:Nat)(ha:Cell a)(hb:Cell b): -9000000000000000000≤jM k a b∧jM k a b≤9000000000000000000:=by
 have hm:=mI ha hb;have hm2:=mI hb (mn a b);have hd:=mn a b;have h3:=Nat.and_lt_two_pow (a % 4294967296).toNat (BH b);have h4:=Nat.or_lt_two_pow (BH a) (BH b);have h5:=Nat.xor_lt_two_pow (BH a) (BH b);have f1:=uT (a == b);have f2:=uT (decide (a<b));have f3:=uT (decide (b<a));obtain⟨a1,a2⟩:=ha;obtain⟨b1,b2⟩:=hb;obtain⟨d1,d2⟩:=hd;obtain⟨f11,f12⟩:=f1;obtain⟨f21,f22⟩:=f2;obtain⟨f31,f32⟩:=f3;unfold jM
 (repeat' split)<;>omega
theorem Ll(k:Nat)(hk:k≤12)(ha:Cell a)(hb:Cell b):w32 (jM k a b)=kD k a b:=by
 unfold jM kD;have T3:Cell (min a b):=Pz;have hmax:Cell (max a b):=Pz;have hc:k=0∨k=1∨k=2∨k=3∨k=4∨k=5∨k=6∨k=7∨k=8∨k=9∨k=10∨k=11∨k=12:=ag;rcases hc with rfl|rfl|rfl|rfl|rfl|rfl|rfl|rfl|rfl|rfl|rfl|rfl|rfl
 ·rfl
 ·rfl
 ·rfl
 ·exact(WN ha hb).symm
 ·exact(Tt ha hb).symm
 ·exact(W9 ha hb).symm
 ·exact kF (mn a b)
 ·rfl
 ·exact kF (uT _)
 ·exact kF (uT _)
 ·exact kF (uT _)
 ·exact kF T3
 ·exact kF hmax
end
section
theorem XW(ha:Cell a)(hb:Cell b)(w:World):Calls prog 211 #[.string ⟨#[43]⟩,ae a,ae b] w fun e w'=>e=.returned (ae (jM 0 a b))∧w'=w:=by
 show Calls _ _ _ _ fun e w'=>e=.returned (ae (a+b))∧w'=w
 exact zB
theorem TG(ha:Cell a)(hb:Cell b)(w:World):Calls prog 211 #[.string ⟨#[45]⟩,ae a,ae b] w fun e w'=>e=.returned (ae (jM 1 a b))∧w'=w:=by
 show Calls _ _ _ _ fun e w'=>e=.returned (ae (a - b))∧w'=w
 exact zB
theorem XP(ha:Cell a)(hb:Cell b)(w:World):Calls prog 211 #[.string ⟨#[42]⟩,ae a,ae b] w fun e w'=>e=.returned (ae (jM 2 a b))∧w'=w:=by
 show Calls _ _ _ _ fun e w'=>e=.returned (ae (a*b))∧w'=w
 exact zB
theorem Sz(ha:Cell a)(hb:Cell b)(w:World):Calls prog 211 #[.string ⟨#[97,110,100]⟩,ae a,ae b] w fun e w'=>e=.returned (ae (jM 3 a b))∧w'=w:=by
 show Calls _ _ _ _ fun e w'=>e=.returned (ae ((((a % 4294967296).toNat&&&(b % 4294967296).toNat:Nat):Int)))∧w'=w
 have hm:=mI ha hb;have hm2:=mI hb (mn a b);have hd:=mn a b;have H:=af (fun w=>Vj ha hb w);obtain⟨a1,a2⟩:=ha;obtain⟨b1,b2⟩:=hb;obtain⟨d1,d2⟩:=hd;obtain⟨m1,m2⟩:=hm;obtain⟨m3,m4⟩:=hm2;go_enter func211,ntmps211;exact Eo
theorem XI(ha:Cell a)(hb:Cell b)(w:World):Calls prog 211 #[.string ⟨#[111,114]⟩,ae a,ae b] w fun e w'=>e=.returned (ae (jM 4 a b))∧w'=w:=by
 show Calls _ _ _ _ fun e w'=>e=.returned (ae ((((a % 4294967296).toNat|||(b % 4294967296).toNat:Nat):Int)))∧w'=w
 have hm:=mI ha hb;have hm2:=mI hb (mn a b);have hd:=mn a b;have H:=af (fun w=>adm ha hb w);obtain⟨a1,a2⟩:=ha;obtain⟨b1,b2⟩:=hb;obtain⟨d1,d2⟩:=hd;obtain⟨m1,m2⟩:=hm;obtain⟨m3,m4⟩:=hm2;go_enter func211,ntmps211;exact Eo
theorem U7(ha:Cell a)(hb:Cell b)(w:World):Calls prog 211 #[.string ⟨#[120,111,114]⟩,ae a,ae b] w fun e w'=>e=.returned (ae (jM 5 a b))∧w'=w:=by
 show Calls _ _ _ _ fun e w'=>e=.returned (ae ((((a % 4294967296).toNat ^^^ (b % 4294967296).toNat:Nat):Int)))∧w'=w
 have hm:=mI ha hb;have hm2:=mI hb (mn a b);have hd:=mn a b;have H:=af (fun w=>adt ha hb w);obtain⟨a1,a2⟩:=ha;obtain⟨b1,b2⟩:=hb;obtain⟨d1,d2⟩:=hd;obtain⟨m1,m2⟩:=hm;obtain⟨m3,m4⟩:=hm2;go_enter func211,ntmps211;exact Eo
theorem TV(ha:Cell a)(hb:Cell b)(w:World):Calls prog 211 #[.string ⟨#[47]⟩,ae a,ae b] w fun e w'=>e=.returned (ae (jM 6 a b))∧w'=w:=by
 show Calls _ _ _ _ fun e w'=>e=.returned (ae (nP a b))∧w'=w
 exact OM
theorem aaO(ha:Cell a)(hb:Cell b)(w:World):Calls prog 211 #[.string ⟨#[109,111,100]⟩,ae a,ae b] w fun e w'=>e=.returned (ae (jM 7 a b))∧w'=w:=by
 show Calls _ _ _ _ fun e w'=>e=.returned (ae (a - b*nP a b))∧w'=w
 exact OM
theorem TD(ha:Cell a)(hb:Cell b)(w:World):Calls prog 211 #[.string ⟨#[61]⟩,ae a,ae b] w fun e w'=>e=.returned (ae (jM 8 a b))∧w'=w:=by
 show Calls _ _ _ _ fun e w'=>e=.returned (ae (lj (a == b)))∧w'=w
 exact EP
theorem Ty(ha:Cell a)(hb:Cell b)(w:World):Calls prog 211 #[.string ⟨#[60]⟩,ae a,ae b] w fun e w'=>e=.returned (ae (jM 9 a b))∧w'=w:=by
 show Calls _ _ _ _ fun e w'=>e=.returned (ae (lj (decide (a<b))))∧w'=w
 exact EP
theorem aaD(ha:Cell a)(hb:Cell b)(w:World):Calls prog 211 #[.string ⟨#[62]⟩,ae a,ae b] w fun e w'=>e=.returned (ae (jM 10 a b))∧w'=w:=by
 show Calls _ _ _ _ fun e w'=>e=.returned (ae (lj (decide (b<a))))∧w'=w
 exact EP
theorem S9(ha:Cell a)(hb:Cell b)(w:World):Calls prog 211 #[.string ⟨#[109,105,110]⟩,ae a,ae b] w fun e w'=>e=.returned (ae (jM 11 a b))∧w'=w:=by
 show Calls _ _ _ _ fun e w'=>e=.returned (ae (min a b))∧w'=w
 exact zB
theorem YU(ha:Cell a)(hb:Cell b)(w:World):Calls prog 211 #[.string ⟨#[109,97,120]⟩,ae a,ae b] w fun e w'=>e=.returned (ae (jM 12 a b))∧w'=w:=by
 show Calls _ _ _ _ fun e w'=>e=.returned (ae (max a b))∧w'=w
 exact zB
theorem SJ(ha:Cell a)(hb:Cell b)(w:World):Calls prog 211 #[.string ⟨#[110,105,112]⟩,ae a,ae b] w fun e w'=>e=.returned (ae (jM 21 a b))∧w'=w:=by
 show Calls _ _ _ _ fun e w'=>e=.returned (ae (b))∧w'=w
 exact zB
end
end Go.Proofs.YtcphhbofjkenaaaGreatDoor
