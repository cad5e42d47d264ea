import Derived.Test.YtcphhbofjkenaaaGreatDoorM21
import Derived.Test.YtcphhbofjkenaaaGreatDoorM23
import Derived.Test.YtcphhbofjkenaaaGreatDoorM24
import Derived.Test.YtcphhbofjkenaaaGreatDoorM25
namespace Go.Proofs.YtcphhbofjkenaaaGreatDoor
open Go Go.RowKit
set_option linter.unusedVariables false
set_option linter.unusedSimpArgs false
set_option maxRecDepth 100000
set_option maxHeartbeats 16000000
section
def xx(es:List PE)(s:ByteArray):Int:=if vI s=true then(if es.length=40 then 8 else 0)else 4
theorem yz{w:World}{bb:Nat}{ev cv:Value}{es:List PE}{nv nt:Int}{code:List Int}(s:ByteArray)(at':Int)(h:iC w bb ev cv es nv nt code)(ht:lh w)(hs:s.size≤100000000)(hl:es.length≤1000):
  Calls Tryz.prog 121 #[.pointer (some ⟨bb,0,none⟩),.agg #[.string s,.int .i64 at']] w fun e w'=>e=.returned (.int .i64 (xx es s))∧Below w.heap.size w w':=by
 obtain⟨R,hR⟩:=exq (xx es s);rw[←hR];have HN:=ast (Uo s (w.alloc (.cells #[.string s,.int .i64 at'] 163 (0,0))) hs (ht.below (brq.alloc nrq _)));unfold xx at hR;obtain⟨q,hq⟩:=exq (vI s);rw[←hq]at hR HN;have c0:w.cell? ⟨bb,0,none⟩=some ev:=h.blk.cell 0 _ rfl;have hlt:=h.blk.lt;obtain⟨ad,cap,rfl,hcap,_⟩:=ag h.row;clear h ht hs hq
 cases q
 ·simp only[Bool.false_eq_true,if_false]at hR
  subst hR;go_enter Tryz.func121,Tryz.ntmps121
  go_wp2_with fail
  refine HN.out.mono ?_;rintro e w1 ⟨rfl,hb1⟩;have HB:=ast (((Below.refl w.heap.size w).alloc nrq _).trans (hb1.mono (by simp)));clear hb1 HN;go_wp2_with fail
  go_ret
  exact⟨rfl,HB.out⟩
 ·simp only[if_true]at hR
  by_cases PY:es.length=40
  ·rw[if_pos PY]at hR
   subst hR;rw[PY]at c0;clear hcap hl PY;go_enter Tryz.func121,Tryz.ntmps121
   go_wp2_with fail
   refine HN.out.mono ?_;rintro e w1 ⟨rfl,hb1⟩;have hb:Below w.heap.size w w1:=(((Below.refl w.heap.size w).alloc nrq _).trans (hb1.mono (by simp)));have d0:=(hb.cell (p:=⟨bb,0,none⟩) hlt).trans c0;have HB:=ast hb;clear hb1 HN hb c0;go_wp2_with fail
   go_ret
   exact⟨rfl,HB.out⟩
  ·rw[if_neg PY]at hR
   subst hR;obtain⟨m,hm⟩:=exq ((es.length:Int):Int);have apB:((es.length:Int) == 40)=false:=by rw[beq_eq_false_iff_ne];omega
   clear hm;go_enter Tryz.func121,Tryz.ntmps121
   go_wp2_with fail
   refine HN.out.mono ?_;rintro e w1 ⟨rfl,hb1⟩;have hb:Below w.heap.size w w1:=(((Below.refl w.heap.size w).alloc nrq _).trans (hb1.mono (by simp)));have d0:=(hb.cell (p:=⟨bb,0,none⟩) hlt).trans c0;have HB:=ast hb;clear hb1 HN hb c0;go_wp2_with fail
   go_ret
   exact⟨rfl,HB.out⟩
theorem DV{w0 w:World}{rb bb db:Nat}{rc:RC}{ev bI bC bv:Value}{es:List PE}{nv nt:Int}{pc dc:List Int}{tk:Int}{bs:List PB}{kn:Inf}
  (h:DS w0 w rb rc bb db ev bI bC bv es nv nt pc dc tk bs kn) (q:Bool) (hq:q=(bs.length == 0)) (hl:bs.length≤100000000):
  Calls Tryz.prog 124 #[.pointer (some ⟨db,0,none⟩)] w fun e w'=>e=.returned (.bool q)∧w'=w:=by
 obtain⟨c0,c1,c2,c3⟩:=h.def;obtain⟨ad,cap,rfl,hcap,_⟩:=ag h.row;have hb:((bs.length:Int) == 0)=q:=by rw[hq,Bool.eq_iff_iff,beq_iff_eq,beq_iff_eq];omega
 clear h c0 c1 c2 hq;go_enter Tryz.func124,Tryz.ntmps124
 go_wp2_with fail
 go_ret
 exact⟨rfl,rfl⟩
def PB.first:PB:={PB.zero with opener:=34}
theorem Iu{w0 w:World}{rb bb:Nat}{rc:RC}{ev cv:Value}{es:List PE}{nv nt:Int}{code:List Int}(h:iC w bb ev cv es nv nt code)(ht:lh w)(hr:Rdg w rb rc)(hru:3≤rb)(htl:3≤w0.heap.size)
  (hf:aj (fun b=>b=rb∨cv.ownBlock=some b) w0 w):
  Calls Tryz.prog 123 #[.pointer (some ⟨bb,0,none⟩)] w fun e w'=>∃db bv,e=.returned (.pointer (some ⟨db,0,none⟩))∧DS w0 w' rb rc bb db ev cv cv bv es nv nt code code 2 [PB.first] Inf.zero∧Below w.heap.size w w':=by
 have c3:w.cell? ⟨bb,3,none⟩=some cv:=h.blk.cell 3 _ rfl;obtain⟨ad,cap,hcv,hcap,_⟩:=ag h.iO;have hlt:=h.blk.lt;have HP:=ast h;have HT:=ast ht;have HR:=ast hr;have HRU:=ast hru;have HTL:=ast htl;have HF:=ast hf;rw[hcv]at c3;clear h ht hr hru htl hf;go_enter Tryz.func123,Tryz.ntmps123
 go_wp2_with fail
 go_ret
 have hB:Below w.heap.size w ((w.alloc (.cells PB.first.cells.toArray 244 (0,0))).alloc (.cells (oN bb 2 (.slice ad code.length cap) (.slice (some ⟨w.heap.size,0,none⟩) 1 1) Inf.zero) 209 (0,0))):=(brq.alloc nrq _).alloc (by simp) _;refine⟨w.heap.size+1,.slice (some ⟨w.heap.size,0,none⟩) 1 1,rfl,?_,hB⟩
 show DS w0 ((w.alloc (.cells PB.first.cells.toArray 244 (0,0))).alloc (.cells (oN bb 2 (.slice ad code.length cap) (.slice (some ⟨w.heap.size,0,none⟩) 1 1) Inf.zero) 209 (0,0))) rb rc bb (w.heap.size+1) ev cv cv (.slice (some ⟨w.heap.size,0,none⟩) 1 1) es nv nt code code 2 [PB.first] Inf.zero
 have hrb:=HR.out.1;have hgb:=HR.out.2;refine⟨HP.out.below hB,?_,af HP.out.iO (aj.au (S:=fun _=>False) hB) (fun _ _=>id),?_,HT.out.below hB,⟨(hB.block rb hrb.lt).trans hrb,(hB.block _ hgb.lt).trans hgb⟩,HRU.out,HTL.out,⟨[],by simp⟩,?_,Or.inl rfl,HF.out.trans (aj.au hB)⟩
 ·rw[hcv]
  have:=ay (w.alloc (.cells PB.first.cells.toArray 244 (0,0))) (oN bb 2 (.slice ad code.length cap) (.slice (some ⟨w.heap.size,0,none⟩) 1 1) Inf.zero) 209;simpa using this
 ·refine⟨by simp[PB.cells],Or.inr ⟨w.heap.size,1,PB.first.cells.toArray,rfl,HF.out.size,(az.alloc (ay w PB.first.cells.toArray 244) _),nrq,by simp[maxLen],by simp[PB.cells],by simp[PB.cells]⟩⟩
 ·have:=HF.out.size;omega
end
section
def pez:Value:=.agg #[.string ⟨#[]⟩,.bool false,.int .i64 0,.int .i64 0,.int .i64 0,.int .i64 0,.int .i64 0,.bool false]
theorem Tryz.abj:(Tryz.prog.info? 153).map (fun i=>(i.zero,i.size,i.bytes))=some (some pez,8,72):=by kernel_rfl
theorem PE.one(b:PE):∀u∈b.cells,u.oneCell'=true:=by
 intro u hu;simp only[PE.cells,List.mem_cons,List.not_mem_nil,or_false]at hu;rcases hu with rfl|rfl|rfl|rfl|rfl|rfl|rfl|rfl<;>rfl
def Lc(w:World)(v v':Value):Prop:=∀k,v'.ownBlock=some k→v.ownBlock=some k∨w.heap.size≤k
theorem Lc.refl(w:World)(v:Value):Lc w v v:=fun k h=>Or.inl h
theorem Lc.mono{w0 w:World}{v v':Value}(h:Lc w v v')(hs:w0.heap.size≤w.heap.size):Lc w0 v v':=fun k hk=>(h k hk).imp id (fun e=>Nat.le_trans hs e)
theorem Lc.trans{w:World}{v v' v2:Value}(h:Lc w v v')(h2:Lc w v' v2):Lc w v v2:=fun k hk=>(h2 k hk).elim (fun e=>h k e) Or.inr
theorem iC.push{w w2:World}{bb:Nat}{ev cv v2:Value}{es:List PE}{nv nt:Int}{code:List Int}{e:PE}(h:iC w bb ev cv es nv nt code)
  (hr:w2.ownsRow 3 153 8 v2 (es.length+1) (es.flatMap PE.cells++e.cells)) (hc:aj (fun k=>ev.ownBlock=some k) w w2):iC (w2.setCell ⟨bb,0,none⟩ v2) bb v2 cv (es++[e]) nv nt code:=by
 have hb2:az w2 bb #[ev,.int .i64 nv,.int .i64 nt,cv] 122:=h.blk.aA hc (ah h.row h.blk (by decide))
 have EX:∀{base:Nat} {e:TypeId} {size n:Nat} {v:Value} {xs:List Value},w2.ownsRow base e size v n xs→122≠e→(w2.setCell ⟨bb,0,none⟩ v2).ownsRow base e size v n xs:=fun ho hne=>
  af ho ((aj.refl (fun b=>b=bb) w2).setCell (p:=⟨bb,0,none⟩) rfl _) (fun k hk e=>ah ho hb2 hne (by rw[hk,e]))
 refine⟨?_,EX (by simpa using hr) (by decide),EX (af h.iO hc (fun k hk e=>bQ h.iO h.row (by decide) hk e)) (by decide),h.up⟩;have:=hb2.set (o:=0) v2;simpa using this
theorem KU(s:ByteArray)(w:World)(hs:s.size≤100000000):Calls Tryz.prog 155 #[.string s] w fun e w'=>e=.returned (.string s)∧Below w.heap.size w w':=by
 have H:=ast (Tryz.stringslite_Clone s w (by omega));clear hs;go_enter Tryz.func155,Tryz.ntmps155
 go_wp2_with fail
 refine H.out.mono ?_;rintro e w1 ⟨rfl,hb⟩;have HB:=ast hb;clear hb H;go_wp2_with fail
 go_ret
 exact⟨rfl,HB.out⟩
theorem DW{w:World}{bb:Nat}{ev cv:Value}{es:List PE}{nv nt:Int}{code:List Int}(x:PE)(h:iC w bb ev cv es nv nt code)(ht:lh w)(hs:x.name.size≤100000000)(hl:es.length≤1000):
  Calls Tryz.prog 122 #[.pointer (some ⟨bb,0,none⟩),x.val] w fun e w'=>e=.returned (.tuple #[])∧(∃BO,iC w' bb BO cv (es++[x]) nv nt code∧Lc w ev BO)∧aj (fun k=>k=bb∨ev.ownBlock=some k) w w':=by
 obtain⟨b0,b1,b2,b3,b4,b5,b6,b7⟩:=x;have c0:w.cell? ⟨bb,0,none⟩=some ev:=h.blk.cell 0 _ rfl;have hlt:=h.blk.lt;have hne:=ah h.row h.blk (by decide);obtain⟨ad,cap,hev,hcap,_⟩:=ag h.row;obtain⟨i0,hi,hz0,hz1,hz2⟩:=info_parts Tryz.abj;have HP:=ast h;have HT:=ast ht;have HN:=ast hne;have HC:=ast (fun w'=>KU b0 w' hs);subst hev;clear h ht hs hne;simp only[PE.val];go_enter Tryz.func122,Tryz.ntmps122
 go_wp2_with fail
 have hb0:Below w.heap.size w (w.alloc (.cells #[.string b0,.bool b1,.int .i64 b2,.int .i64 b3,.int .i64 b4,.int .i64 b5,.int .i64 b6,.bool (!b7)] 153 (0,0))):=brq.alloc nrq _;have hk0:=ay w #[.string b0,.bool b1,.int .i64 b2,.int .i64 b3,.int .i64 b4,.int .i64 b5,.int .i64 b6,.bool (!b7)] 153;refine(HC.out _).mono ?_;rintro e wa ⟨rfl,hb1⟩;have hka:=hk0.sub hb1 (by simp);have wJ:Below w.heap.size w wa:=hb0.trans (hb1.mono (by simp));obtain⟨E,hE⟩:=exq (w.heap.size);have p0:=hka.cell 0 _ rfl;have f0:=hka.frozen 0;simp only[List.getElem_toArray,List.getElem_cons_succ,List.getElem_cons_zero]at p0;obtain⟨W,hW⟩:=exq (wa.setCell ⟨w.heap.size,0,none⟩ (.string b0):World);have sF:az W E #[.string b0,.bool b1,.int .i64 b2,.int .i64 b3,.int .i64 b4,.int .i64 b5,.int .i64 b6,.bool (!b7)] 153:=by rw[hW,hE];have:=hka.set (o:=0) (.string b0);simpa using this
 have hbW:Below w.heap.size w W:=by rw[hW];exact wJ.setCell (by simp) _
 have jD:=ast sF;have dX:=ast hbW;clear sF hbW hb0 hk0 hb1 hka wJ HC;go_upto_region 2 with fail
 rw[←hW];rw[←hE];have c0':W.cell? ⟨bb,0,none⟩=some (.slice ad es.length cap):=(dX.out.cell (p:=⟨bb,0,none⟩) hlt).trans c0;have q0:W.frozen? ⟨bb,0,none⟩=false:=(dX.out.frozen (p:=⟨bb,0,none⟩) hlt).trans (HP.out.blk.frozen 0);have e0:=jD.out.cell 0 _ rfl;have e1:=jD.out.cell 1 _ rfl;have e2:=jD.out.cell 2 _ rfl;have e3:=jD.out.cell 3 _ rfl;have e4:=jD.out.cell 4 _ rfl;have e5:=jD.out.cell 5 _ rfl;have e6:=jD.out.cell 6 _ rfl;have e7:=jD.out.cell 7 _ rfl;simp only[List.getElem_toArray,List.getElem_cons_succ,List.getElem_cons_zero]at e0 e1 e2 e3 e4 e5 e6 e7;have hEW:E<W.heap.size:=jD.out.lt;have ZE:bb<W.heap.size:=Nat.lt_of_lt_of_le hlt dX.out.size;have hEd:E≠bb:=by omega
 have hdE:bb≠E:=by omega
 have hown:=ast (HP.out.below dX.out).row;have HA:=ast (fun o=>(hown.out.alloc o).drew);have H1:=ast (PE.one ⟨b0,b1,b2,b3,b4,b5,b6,b7⟩);have HC:=ast (show es.length+1≤maxLen by unfold maxLen;omega);have vH:=ast (show(es.length+1)*72≤140737488355328 by omega);have HE2:=ast (fun o=>show 3≤(W.alloc o).drew.heap.size by have:=HT.out.lt;have:=dX.out.size;simp;omega);have HH:=ast (fun o=>show(W.alloc o).drew.heap.size=W.heap.size+1 by simp);have JH:=ast (show ∀j u,([.string b0,.bool b1,.int .i64 b2,.int .i64 b3,.int .i64 b4,.int .i64 b5,.int .i64 b6,.bool (!b7)]:List Value)[j]?=some u→(W.alloc (.cells #[.string b0,.bool b1,.int .i64 b2,.int .i64 b3,.int .i64 b4,.int .i64 b5,.int .i64 b6,.bool (!b7)] 153 (0,0))).drew.cell? ((Addr.mk W.heap.size 0 none).add j)=some u from World.news_of_block (fr:=(0,0)) (heap_alloc_new W _));have HF:=ast (fun (o:Obj) (w1:World) (hg:(W.alloc o).drew.grownBy w1 (Value.slice ad es.length cap).ownBlock)=>(show w1.frozen? ⟨bb,0,none⟩=false∧w1.cell? ⟨bb,0,none⟩=some (.slice ad es.length cap)from⟨(hg.frozen_far ⟨bb,0,none⟩ (by simp;omega) (fun e=>HN.out e.symm)).trans ((((Below.refl _ W).alloc nrq o).drew.frozen (p:=⟨bb,0,none⟩) ZE).trans q0),(hg.cell_far ⟨bb,0,none⟩ (by simp;omega) (fun e=>HN.out e.symm)).trans ((((Below.refl _ W).alloc nrq o).drew.cell (p:=⟨bb,0,none⟩) ZE).trans c0')⟩));clear c0 hW hE p0 f0;go_region_law (refine step_append_lies _ (by rfl) _ _ _ (by rfl) 3 153 i0 pez 8 72 Tryz.underlying120 hi hz0 hz1 hz2 rfl (by decide) _ es.length (es.flatMap PE.cells) (by rfl) (HA.out _) (Addr.mk W.heap.size 0 none) 1 1 [.string b0,.bool b1,.int .i64 b2,.int .i64 b3,.int .i64 b4,.int .i64 b5,.int .i64 b6,.bool (!b7)] (by rfl) (by rfl) JH.out H1.out (by decide) HC.out vH.out (HE2.out _) (W.heap.size+1) (HH.out _) ?_;intro gg oO w1 hown1 hgrow hat iD;obtain⟨q4,c4⟩:=HF.out _ _ hgrow)
 all_goals
  go_wp2_with fail
  go_end0
  have jh:aj (fun k=>(Value.slice ad es.length cap).ownBlock=some k) W w1:=((aj.refl _ W).alloc _).drew.trans ((aj.bD hgrow).mono (fun k _ e=>e.symm));have EZ:=(HP.out.below dX.out).push (e:=⟨b0,b1,b2,b3,b4,b5,b6,b7⟩) hown1 jh;exact⟨rfl,⟨_,EZ,fun k hk=>by simp only[Value.ownBlock,Option.some.injEq]at hk;subst hk;exact hat.imp id (fun e=>by rw[e];have:=dX.out.size;omega)⟩,((aj.au dX.out).trans (jh.mono (fun k _ e=>Or.inr e))).trans ((aj.refl (fun k=>k=bb∨(Value.slice ad es.length cap).ownBlock=some k) w1).setCell (p:=⟨bb,0,none⟩) (Or.inl rfl) _)⟩
end
section
structure BS (w:World) (bb rb:Nat) (ev cv:Value) (es:List PE) (nv nt:Int) (code:List Int) (s:ByteArray) (a:Nat):Prop where
 sys:iC w bb ev cv es nv nt code
 tab:lh w
 rd:az w rb (Fa s a) 199
 ru:3≤rb
abbrev nx(s:ByteArray)(a:Nat):ByteArray×Nat×Nat:=dF s (s.size - a) a
theorem jk(s:ByteArray):∀(f a:Nat),a≤s.size→(dF s f a).2.1≤s.size∧a≤(dF s f a).2.2∧(dF s f a).2.2≤s.size∧(dF s f a).1.size≤s.size
 |0,a,h=>by
  obtain⟨h1,h2,h3⟩:=kW s a h;rw[dF];refine⟨by simp only;omega,by simp only;omega,h3,?_⟩;simp only[ByteArray.size_extract];omega
 |f+1,a,h=>by
  obtain⟨h1,h2,h3⟩:=kW s a h;rw[dF]
  split
  ·have hsp:=bJ oD s (dY s a) h3
   obtain⟨i1,i2,i3,i4⟩:=jk s f (scan oD s (dY s a)) hsp.2.1;exact⟨i1,by omega,i3,i4⟩
  ·refine⟨by simp only;omega,by simp only;omega,h3,?_⟩
   simp only[ByteArray.size_extract];omega
theorem BS.next{w w':World}{bb rb:Nat}{ev cv:Value}{es:List PE}{nv nt:Int}{code:List Int}{s:ByteArray}{a a':Nat}(h:BS w bb rb ev cv es nv nt code s a)(hb:az w' rb (Fa s a') 199)(hc:aj (fun k=>k=rb) w w'):BS w' bb rb ev cv es nv nt code s a':=by
 have n1:bb≠rb:=by rintro rfl;exact absurd (bH h.sys.blk h.rd) (by decide)
 have no:∀{base:Nat} {e:TypeId} {size n:Nat} {v:Value} {xs:List Value},w.ownsRow base e size v n xs→199≠e→∀k,v.ownBlock=some k→¬k=rb:=fun ho hne k hk e=>ah ho h.rd hne (by rw[hk,e])
 exact⟨h.sys.aA hc n1 (no h.sys.row (by decide)) (no h.sys.iO (by decide)),h.tab.aA hc (fun k e=>by have:=h.ru;omega),hb,h.ru⟩
theorem BS.below{w w':World}{bb rb:Nat}{ev cv:Value}{es:List PE}{nv nt:Int}{code:List Int}{s:ByteArray}{a:Nat}(h:BS w bb rb ev cv es nv nt code s a)(hb:Below w.heap.size w w'):BS w' bb rb ev cv es nv nt code s a:=
 h.next ((hb.block rb h.rd.lt).trans h.rd) (aj.au hb)
theorem Uu{w:World}{base:Nat}{e:TypeId}{size n k:Nat}{v:Value}{xs:List Value}(h:w.ownsRow base e size v n xs)(hk:v.ownBlock=some k):base≤k:=by
 rcases h.2 with ⟨rfl,_⟩|⟨g,cap,cur,rfl,hb,_⟩
 ·cases hk
 ·simp[Value.ownBlock]at hk;omega
theorem iC.abk{w:World}{bb:Nat}{ev cv:Value}{es:List PE}{nv nt:Int}{code:List Int}(h:iC w bb ev cv es nv nt code)(x:Int):iC (w.setCell ⟨bb,1,none⟩ (.int .i64 x)) bb ev cv es x nt code:=by
 have hc:aj (fun b=>b=bb) w (w.setCell ⟨bb,1,none⟩ (.int .i64 x)):=(aj.refl (fun b=>b=bb) w).setCell (p:=⟨bb,1,none⟩) rfl _;have no:∀{base:Nat} {e:TypeId} {size n:Nat} {v:Value} {xs:List Value},w.ownsRow base e size v n xs→122≠e→∀k,v.ownBlock=some k→¬k=bb:=fun ho hne k hk e=>ah ho h.blk hne (by rw[hk,e])
 refine⟨?_,af h.row hc (no h.row (by decide)),af h.iO hc (no h.iO (by decide)),h.up⟩;have:=h.blk.set (o:=1) (.int .i64 x);simpa using this
def tH(es:List PE)(nv:Int)(s:ByteArray)(a:Nat):(Int×Int)×List PE×Int:=
 if xx es (nx s a).1=0 then
  if nv=16 then((8,((nx s a).2.1:Int)),es,nv)
  else((0,0),es++[⟨(nx s a).1,true,nv,Inf.zero⟩],nv+1)
 else((xx es (nx s a).1,((nx s a).2.1:Int)),es,nv)
def Oh(w:World)(bb rb:Nat)(ev cv:Value)(nt:Int)(code:List Int)(s:ByteArray)(a:Nat)(R:(Int×Int)×List PE×Int)(e:Ending)(w':World):Prop:=
 e=.returned (.tuple #[.int .i64 R.1.1,.int .i64 R.1.2])∧(∃BO,BS w' bb rb BO cv R.2.1 R.2.2 nt code s (nx s a).2.2∧Lc w ev BO)∧aj (fun k=>k=rb∨k=bb∨ev.ownBlock=some k) w w'
theorem vJ{w:World}{bb rb:Nat}{ev cv:Value}{es:List PE}{nv nt:Int}{code:List Int}{s:ByteArray}{a:Nat}(h:BS w bb rb ev cv es nv nt code s a)(ha:a≤s.size)(hs:s.size≤100000000)(hl:es.length≤1000)(wK:0≤nv)(hn1:nv≤16):
  Calls Tryz.prog 79 #[.pointer (some ⟨bb,0,none⟩),.pointer (some ⟨rb,0,none⟩)] w (Oh w bb rb ev cv nt code s a (tH es nv s a)):=by
 obtain⟨R,hR⟩:=exq (tH es nv s a);rw[←hR];obtain⟨n1,n2,n3,n4⟩:=jk s (s.size - a) a ha;have H1:=ast (zl rb s a w ha hs h.rd);unfold tH at hR;unfold nx at hR;obtain⟨x,hx⟩:=exq (dF s (s.size - a) a);rw[←hx]at H1 hR n1 n2 n3 n4;have hnx:nx s a=x:=hx.symm;unfold Oh;rw[hnx];obtain⟨t,pl,a'⟩:=x;simp only at H1 hR n1 n2 n3 n4 ⊢;have HB:=ast h;clear h hx hnx;go_enter Tryz.func79,Tryz.ntmps79
 go_wp2_with fail
 refine H1.out.mono ?_;rintro e w1 ⟨rfl,hb1,hc1⟩;have Uw:=HB.out.next hb1 hc1;have Fh:=Uw.below (brq.alloc nrq (.cells #[.string t,.int .i64 pl] 163 (0,0)));have hk2:=ay w1 #[.string t,.int .i64 pl] 163;have H2:=ast (yz t pl Fh.sys Fh.tab (by omega) hl);have gK:=ast Fh;have sW:=ast hk2;have Fb:=ast ((hc1.mono (fun k _ e=>Or.inl e):aj (fun k=>k=rb∨k=bb∨ev.ownBlock=some k) w w1).alloc (.cells #[.string t,.int .i64 pl] 163 (0,0)));have hsz:(w1.alloc (.cells #[.string t,.int .i64 pl] 163 (0,0))).heap.size=w1.heap.size+1:=by simp
 clear H1 hb1 hc1 Uw Fh hk2;go_wp2_with fail
 refine H2.out.mono ?_;rintro e w2 ⟨rfl,hb2⟩;have wU:=gK.out.below hb2;have hk:=sW.out.sub hb2 (by rw[hsz];omega);have p0:w2.cell? ⟨w1.heap.size,0,none⟩=some (.string t):=hk.cell 0 _ rfl;have p1:w2.cell? ⟨w1.heap.size,1,none⟩=some (.int .i64 pl):=hk.cell 1 _ rfl;have v1:w2.cell? ⟨bb,1,none⟩=some (.int .i64 nv):=wU.sys.blk.cell 1 _ rfl;obtain⟨f,hf⟩:=exq (xx es t);rw[←hf]at hR ⊢;have DK:=ast wU;have HC:=ast (Fb.out.trans (aj.au hb2));have AQ:=hk.lt;clear H2 hb2 wU hk gK sW Fb hsz hf HB
 by_cases h0:f=0
 ·rw[if_pos h0]at hR
  subst h0
  by_cases h16:nv=16
  ·rw[if_pos h16]at hR
   subst h16;subst hR;go_wp2_with fail
   go_quiet (fail)
   go_wp2_with fail
   refine bodyPost_ret (v:=.tuple #[.int .i64 8,.int .i64 pl]) (by simp[results,Tryz.results79,go_sem]) rfl ⟨rfl,⟨_,DK.out.below (show Below w2.heap.size w2 (w2.drewN nq)from⟨rfl,rfl,rfl,nrq,fun _ _=>rfl⟩),Lc.refl _ _⟩,HC.out.trans (aj.au (show Below w2.heap.size w2 (w2.drewN nq)from⟨rfl,rfl,rfl,nrq,fun _ _=>rfl⟩))⟩
  ·rw[if_neg h16]at hR
   subst hR;have apD:(nv == 16)=false:=by simpa using h16
   clear h16;go_wp2_with fail
   go_still_tail 8,(by kernel_rfl)
   go_wp2_with fail
   have ry:=DK.out.below (show Below w2.heap.size w2 w2.drew from brq.drew);refine(DW ⟨t,true,nv,Inf.zero⟩ ry.sys ry.tab (by simp only;omega) hl).mono ?_;rintro e w3 ⟨rfl,⟨BO,NY,hlc⟩,hc3⟩;have BP:=ast (hlc.mono (w0:=w) HC.out.size);have hn:rb≠bb:=by intro e;rw[e]at ry;exact absurd (bH ry.sys.blk ry.rd) (by decide)
   have hre:ev.ownBlock≠some rb:=ah ry.sys.row ry.rd (by decide);have PZ:=ry.rd.aA hc3 (fun e=>e.elim (fun e=>hn e) (fun e=>hre e));have ZK:=ry.tab.aA hc3 (fun k e=>e.elim (fun e=>by rw[e];exact ry.sys.up) (fun e=>Uu ry.sys.row e));have x1:w3.cell? ⟨bb,1,none⟩=some (.int .i64 nv):=NY.blk.cell 1 _ rfl;have fx1:=NY.blk.frozen 1;have iL:=NY.abk (nv+1);have hrs:=PZ.setOther (a:=⟨bb,1,none⟩) (fun e=>hn e.symm) (.int .i64 (nv+1));have PT:=ZK.aA ((aj.refl (fun k=>k=bb) w3).setCell (p:=⟨bb,1,none⟩) rfl (.int .i64 (nv+1))) (fun k e=>by rw[e];exact NY.up);have aj3:=ast (BS.mk iL PT hrs ry.ru);have Dz:=ast (((HC.out.trans (aj.au (show Below w2.heap.size w2 w2.drew from brq.drew))).trans (hc3.mono (fun k _ e=>Or.inr e))).setCell (p:=⟨bb,1,none⟩) (Or.inr (Or.inl rfl)) (.int .i64 (nv+1)));clear hlc ry NY hc3 PZ ZK iL hrs PT DK HC p0 p1 v1;go_wp2_with fail
   refine bodyPost_ret (v:=.tuple #[.int .i64 0,.int .i64 0]) (by simp[results,Tryz.results79,go_sem]) rfl ⟨rfl,⟨_,aj3.out,BP.out⟩,Dz.out⟩
 ·rw[if_neg h0]at hR
  subst hR;have h0':(f == 0)=false:=by simpa using h0
  have h0n:(f != 0)=true:=by simpa using h0
  clear h0;go_wp2_with fail
  go_quiet (fail)
  go_wp2_with fail
  refine bodyPost_ret (v:=.tuple #[.int .i64 f,.int .i64 pl]) (by simp[results,Tryz.results79,go_sem]) rfl ⟨rfl,⟨_,DK.out.below (show Below w2.heap.size w2 (w2.drewN nq)from⟨rfl,rfl,rfl,nrq,fun _ _=>rfl⟩),Lc.refl _ _⟩,HC.out.trans (aj.au (show Below w2.heap.size w2 (w2.drewN nq)from⟨rfl,rfl,rfl,nrq,fun _ _=>rfl⟩))⟩
end
section
def w32(n:Int):Int:=(n+2147483648) % 4294967296 - 2147483648
def Cell(n:Int):Prop:= -2147483648≤n∧n≤2147483647
theorem AU(n:Int):Cell (w32 n):=by unfold Cell w32;omega
theorem fA{n:Int}(h:Cell n):w32 n=n:=by obtain⟨a,b⟩:=h;unfold w32;omega
theorem Ux(n:Int):wrap64 (wrap32 n)=w32 n:=by unfold wrap64 wrap32 w32;omega
theorem oZ(n:Int)(w:World):Calls Tryz.prog 140 #[.int .i64 n] w fun e w'=>e=.returned (.int .i64 (w32 n))∧w'=w:=by
 go_enter Tryz.func140,Tryz.ntmps140
 go_wp2_with fail
 rw[Ux];go_ret
 exact⟨rfl,rfl⟩
def jR(b:Bool):Int:=if b then -1 else 0
theorem iZ(b:Bool):Cell (jR b):=by cases b<;>exact⟨by decide,by decide⟩
theorem DY(b:Bool)(w:World):Calls Tryz.prog 142 #[.bool b] w fun e w'=>e=.returned (.int .i64 (jR b))∧w'=w:=by
 cases b
 ·go_enter Tryz.func142,Tryz.ntmps142
  go_wp2_with fail
  go_ret
  exact⟨rfl,rfl⟩
 ·go_enter Tryz.func142,Tryz.ntmps142
  go_wp2_with fail
  go_ret
  exact⟨rfl,rfl⟩
def tJ(a b:Int):Int:=if b=0 then 0 else if a.tmod b≠0∧decide (a<0)≠decide (b<0)then w32 (a.tdiv b - 1)else w32 (a.tdiv b)
theorem aY(a b:Int):Cell (tJ a b):=by
 unfold tJ
 split
 ·exact⟨by decide,by decide⟩
 ·split<;>exact AU _
theorem Oi{a b:Int}(h:Cell a): -2147483648≤a.tdiv b∧a.tdiv b≤2147483648:=by
 obtain⟨h1,h2⟩:=h;have:(a.tdiv b).natAbs≤a.natAbs:=Int.natAbs_tdiv_le_natAbs a b;omega
theorem Fj{a b:Int}(ha:Cell a)(hb:Cell b)(w:World):Calls Tryz.prog 141 #[.int .i64 a,.int .i64 b] w fun e w'=>e=.returned (.int .i64 (tJ a b))∧w'=w:=by
 obtain⟨q1,q2⟩:=Oi (b:=b) ha;obtain⟨a1,a2⟩:=ha;obtain⟨b1,b2⟩:=hb;obtain⟨R,hR⟩:=exq (tJ a b);rw[←hR];unfold tJ at hR
 by_cases h0:b=0
 ·rw[if_pos h0]at hR
  have HR:=ast hR;clear hR;subst h0;go_enter Tryz.func141,Tryz.ntmps141
  go_wp2_with fail
  rw[HR.out];go_ret
  exact⟨rfl,rfl⟩
 ·have hz:(b == 0)=false:=by simp[h0]
  rw[if_neg h0]at hR;obtain⟨q,hq⟩:=exq (a.tdiv b);obtain⟨m,hm⟩:=exq (a.tmod b);have HQ:=ast hq;have HM:=ast hm;rw[←hq]at hR q1 q2;rw[←hm]at hR;have HW:=ast (fun n w=>oZ n w)
  by_cases hm0:m=0
  ·rw[if_neg (fun h=>h.1 hm0)]at hR
   have HR:=ast hR;have gX:(m != 0)=false:=by simp[hm0]
   clear hR;go_enter Tryz.func141,Tryz.ntmps141
   rw[hm]at gX;go_wp2_with fail
   refine(HW.out _ _).mono ?_;rintro e w' ⟨rfl,rfl⟩;go_wp2_with fail
   rw[HR.out,HQ.out];go_ret
   exact⟨rfl,rfl⟩
  ·have gX:(m != 0)=true:=by simp[hm0]
   rw[hm]at gX
   by_cases ha0:a<0
   ·by_cases hb0:b<0
    ·rw[if_neg (fun h=>h.2 (by simp[ha0,hb0]))]at hR
     have HR:=ast hR;have hda:decide (a<0)=true:=by simp[ha0]
     have hdb:decide (b<0)=true:=by simp[hb0]
     rw[hq]at q1 q2;clear hR hm hq hm0;go_enter Tryz.func141,Tryz.ntmps141
     go_wp2_with fail
     refine(HW.out _ _).mono ?_;rintro e w' ⟨rfl,rfl⟩;go_wp2_with fail
     rw[HR.out,HQ.out];go_ret
     exact⟨rfl,rfl⟩
    ·rw[if_pos ⟨hm0,by simp[ha0,hb0]⟩]at hR
     have HR:=ast hR;have hda:decide (a<0)=true:=by simp[ha0]
     have hdb:decide (b<0)=false:=by simp[hb0]
     rw[hq]at q1 q2;clear hR hm hq hm0;go_enter Tryz.func141,Tryz.ntmps141
     go_wp2_with fail
     refine(HW.out _ _).mono ?_;rintro e w' ⟨rfl,rfl⟩;go_wp2_with fail
     rw[HR.out,HQ.out];go_ret
     exact⟨rfl,rfl⟩
   ·by_cases hb0:b<0
    ·rw[if_pos ⟨hm0,by simp[ha0,hb0]⟩]at hR
     have HR:=ast hR;have hda:decide (a<0)=false:=by simp[ha0]
     have abo:(a % b != 0)=true:=by rw[←Int.tmod_eq_emod_of_nonneg (by omega)];exact gX
     have hdb:decide (b<0)=true:=by simp[hb0]
     rw[hq]at q1 q2;clear hR hm hq hm0;go_enter Tryz.func141,Tryz.ntmps141
     go_wp2_with fail
     refine(HW.out _ _).mono ?_;rintro e w' ⟨rfl,rfl⟩;go_wp2_with fail
     rw[HR.out,HQ.out];go_ret
     exact⟨rfl,rfl⟩
    ·rw[if_neg (fun h=>h.2 (by simp[ha0,hb0]))]at hR
     have HR:=ast hR;have hda:decide (a<0)=false:=by simp[ha0]
     have abo:(a % b != 0)=true:=by rw[←Int.tmod_eq_emod_of_nonneg (by omega)];exact gX
     have hdb:decide (b<0)=false:=by simp[hb0]
     rw[hq]at q1 q2;clear hR hm hq hm0;go_enter Tryz.func141,Tryz.ntmps141
     go_wp2_with fail
     refine(HW.out _ _).mono ?_;rintro e w' ⟨rfl,rfl⟩;go_wp2_with fail
     rw[HR.out,HQ.out];go_ret
     exact⟨rfl,rfl⟩
def nT(op:Nat)(a b:Int):Int:=
 if op=0 then w32 (a+b)else if op=1 then w32 (a - b)else if op=2 then w32 (a*b)else if op=3 then bits .and .i64 a b else if op=4 then bits .or .i64 a b else if op=5 then bits .xor .i64 a b
 else if op=6 then tJ a b else if op=7 then w32 (a - b*tJ a b)else if op=8 then jR (a == b)else if op=9 then jR (decide (a<b))else if op=10 then jR (decide (b<a))else if op=11 then min a b else max a b
theorem dm{a b:Int}(ha:Cell a)(hb:Cell b): -4611686018427387904≤a*b∧a*b≤4611686018427387904:=by
 obtain⟨a1,a2⟩:=ha;obtain⟨b1,b2⟩:=hb
 have h:(a*b).natAbs≤2147483648*2147483648:=by
  rw[Int.natAbs_mul];exact Nat.mul_le_mul (by omega) (by omega)
 omega
theorem Uy(op:Nat)(hop:op≤12){a b:Int}(ha:Cell a)(hb:Cell b)(w:World):Calls Tryz.prog 109 #[.int .i64 op,.int .i64 a,.int .i64 b] w fun e w'=>e=.returned (.int .i64 (nT op a b))∧w'=w:=by
 have HW:=ast (fun n w=>oZ n w);have HF:=ast (fun b w=>DY b w);have HD:=ast (fun w=>Fj ha hb w);have hm:=dm ha hb;have hm2:=dm hb (aY a b);obtain⟨a1,a2⟩:=ha;obtain⟨b1,b2⟩:=hb;obtain⟨P,hP⟩:=exq (a*b);obtain⟨D,hD⟩:=exq (tJ a b);rw[←hD]at HD hm2;obtain⟨m1,m2⟩:=hm;obtain⟨m3,m4⟩:=hm2
 by_cases h0:op=0
 ·subst h0
  have HR:=ast (show w32 (a+b)=nT 0 a b from rfl);clear hP hD m1 m2 m3 m4;go_enter Tryz.func109,Tryz.ntmps109
  go_wp2_with fail
  refine(HW.out _ _).mono ?_;rintro e w' ⟨rfl,rfl⟩;go_wp2_with fail
  rw[←HR.out];go_ret
  exact⟨rfl,rfl⟩
 by_cases h1:op=1
 ·subst h1
  have HR:=ast (show w32 (a - b)=nT 1 a b from rfl);clear hP hD m1 m2 m3 m4;go_enter Tryz.func109,Tryz.ntmps109
  go_wp2_with fail
  refine(HW.out _ _).mono ?_;rintro e w' ⟨rfl,rfl⟩;go_wp2_with fail
  rw[←HR.out];go_ret
  exact⟨rfl,rfl⟩
 by_cases h2:op=2
 ·subst h2
  have HR:=ast (show w32 (a*b)=nT 2 a b from rfl);clear hP hD m3 m4;go_enter Tryz.func109,Tryz.ntmps109
  go_wp2_with fail
  refine(HW.out _ _).mono ?_;rintro e w' ⟨rfl,rfl⟩;go_wp2_with fail
  rw[←HR.out];go_ret
  exact⟨rfl,rfl⟩
 by_cases h3:op=3
 ·subst h3
  have HR:=ast (show bits .and .i64 a b=nT 3 a b from rfl);clear hP hD m1 m2 m3 m4;go_enter Tryz.func109,Tryz.ntmps109
  go_wp2_with fail
  rw[←HR.out];go_ret
  exact⟨rfl,rfl⟩
 by_cases h4:op=4
 ·subst h4
  have HR:=ast (show bits .or .i64 a b=nT 4 a b from rfl);clear hP hD m1 m2 m3 m4;go_enter Tryz.func109,Tryz.ntmps109
  go_wp2_with fail
  rw[←HR.out];go_ret
  exact⟨rfl,rfl⟩
 by_cases h5:op=5
 ·subst h5
  have HR:=ast (show bits .xor .i64 a b=nT 5 a b from rfl);clear hP hD m1 m2 m3 m4;go_enter Tryz.func109,Tryz.ntmps109
  go_wp2_with fail
  rw[←HR.out];go_ret
  exact⟨rfl,rfl⟩
 by_cases h6:op=6
 ·subst h6
  have HR:=ast (show D=nT 6 a b from by rw[hD];rfl);clear hP hD m1 m2 m3 m4;go_enter Tryz.func109,Tryz.ntmps109
  go_wp2_with fail
  refine(HD.out _).mono ?_;rintro e w' ⟨rfl,rfl⟩;go_wp2_with fail
  rw[←HR.out];go_ret
  exact⟨rfl,rfl⟩
 by_cases h7:op=7
 ·subst h7
  have HR:=ast (show w32 (a - b*D)=nT 7 a b from by rw[hD];rfl);clear hP hD m1 m2;go_enter Tryz.func109,Tryz.ntmps109
  go_wp2_with fail
  refine(HD.out _).mono ?_;rintro e w' ⟨rfl,rfl⟩;go_wp2_with fail
  refine(HW.out _ _).mono ?_;rintro e w' ⟨rfl,rfl⟩;go_wp2_with fail
  rw[←HR.out];go_ret
  exact⟨rfl,rfl⟩
 by_cases h8:op=8
 ·subst h8
  have HR:=ast (show jR (a == b)=nT 8 a b from rfl);clear hP hD m1 m2 m3 m4;go_enter Tryz.func109,Tryz.ntmps109
  go_wp2_with fail
  refine(HF.out _ _).mono ?_;rintro e w' ⟨rfl,rfl⟩;go_wp2_with fail
  rw[←HR.out];go_ret
  exact⟨rfl,rfl⟩
 by_cases h9:op=9
 ·subst h9
  have HR:=ast (show jR (decide (a<b))=nT 9 a b from rfl);clear hP hD m1 m2 m3 m4;go_enter Tryz.func109,Tryz.ntmps109
  go_wp2_with fail
  refine(HF.out _ _).mono ?_;rintro e w' ⟨rfl,rfl⟩;go_wp2_with fail
  rw[←HR.out];go_ret
  exact⟨rfl,rfl⟩
 by_cases h10:op=10
 ·subst h10
  have HR:=ast (show jR (decide (b<a))=nT 10 a b from rfl);clear hP hD m1 m2 m3 m4;go_enter Tryz.func109,Tryz.ntmps109
  go_wp2_with fail
  refine(HF.out _ _).mono ?_;rintro e w' ⟨rfl,rfl⟩;go_wp2_with fail
  rw[←HR.out];go_ret
  exact⟨rfl,rfl⟩
 by_cases h11:op=11
 ·subst h11
  have HR:=ast (show min a b=nT 11 a b from rfl);clear hP hD m1 m2 m3 m4;go_enter Tryz.func109,Tryz.ntmps109
  go_wp2_with fail
  rw[←HR.out];go_ret
  exact⟨rfl,rfl⟩
 by_cases zh:op=12
 ·subst zh
  have HR:=ast (show max a b=nT 12 a b from rfl);clear hP hD m1 m2 m3 m4;go_enter Tryz.func109,Tryz.ntmps109
  go_wp2_with fail
  rw[←HR.out];go_ret
  exact⟨rfl,rfl⟩
 ·omega
def rU(op:Nat)(a:Int):Int:=if op=15 then jR (a == 0)else if op=13∨a<0 then w32 (-a)else a
theorem Uz(op:Nat)(h1:13≤op)(h2:op≤15){a:Int}(ha:Cell a)(w:World):Calls Tryz.prog 110 #[.int .i64 op,.int .i64 a] w fun e w'=>e=.returned (.int .i64 (rU op a))∧w'=w:=by
 have HW:=ast (fun n w=>oZ n w);have HF:=ast (fun b w=>DY b w);obtain⟨a1,a2⟩:=ha;have hc:op=13∨op=14∨op=15:=by omega
 rcases hc with rfl|rfl|rfl
 ·have HR:=ast (show w32 (-a)=rU 13 a from by unfold rU;rw[if_neg (by decide),if_pos (Or.inl rfl)])
  go_enter Tryz.func110,Tryz.ntmps110
  go_wp2_with fail
  refine(HW.out _ _).mono ?_;rintro e w' ⟨rfl,rfl⟩;go_wp2_with fail
  rw[←HR.out];go_ret
  exact⟨rfl,rfl⟩
 ·by_cases h0:a<0
  ·have HR:=ast (show w32 (-a)=rU 14 a from by unfold rU;rw[if_neg (by decide),if_pos (Or.inr h0)])
   go_enter Tryz.func110,Tryz.ntmps110
   go_wp2_with fail
   refine(HW.out _ _).mono ?_;rintro e w' ⟨rfl,rfl⟩;go_wp2_with fail
   rw[←HR.out];go_ret
   exact⟨rfl,rfl⟩
  ·have HR:=ast (show a=rU 14 a from by unfold rU;rw[if_neg (by decide),if_neg (fun h=>h.elim (by decide) h0)])
   go_enter Tryz.func110,Tryz.ntmps110
   go_wp2_with fail
   rw[←HR.out];go_ret
   exact⟨rfl,rfl⟩
 ·have HR:=ast (show jR (a == 0)=rU 15 a from by unfold rU;rw[if_pos rfl])
  go_enter Tryz.func110,Tryz.ntmps110
  go_wp2_with fail
  refine(HF.out _ _).mono ?_;rintro e w' ⟨rfl,rfl⟩;go_wp2_with fail
  rw[←HR.out];go_ret
  exact⟨rfl,rfl⟩
end
section
def jZ(es:List PE)(nt:Int)(s:ByteArray):Nat→Int→List Int→List PB→Inf→Nat→(List Int×Inf×Int×Nat) ⊕ (Int×Int)
 |0,_,_,_,_,_=>.inr (99,0)
 |f+1,tk,dc,[],kn,a=>.inl (dc,kn,tk,a)
 |f+1,tk,dc,b :: r,kn,a=>
  if(aT es nt (tk+1) dc (b :: r) kn (nx s a).1).1=0 then
   jZ es nt s f (tk+1) (aT es nt (tk+1) dc (b :: r) kn (nx s a).1).2.1 (aT es nt (tk+1) dc (b :: r) kn (nx s a).1).2.2.1 (aT es nt (tk+1) dc (b :: r) kn (nx s a).1).2.2.2 (nx s a).2.2
  else .inr ((aT es nt (tk+1) dc (b :: r) kn (nx s a).1).1,((nx s a).2.1:Int))
theorem o7(s:ByteArray):∀(f a:Nat),a≤s.size→((dF s f a).1.toList == [])=false→a<(dF s f a).2.2
 |0,a,h,hne=>by
  obtain⟨h1,h2,h3⟩:=kW s a h;rw[dF]at hne ⊢;simp only at hne ⊢
  by_cases e:dL s a=dY s a
  ·rw[e]at hne
   have:s.extract (dY s a) (dY s a)=⟨#[]⟩:=by
    have hsz:(s.extract (dY s a) (dY s a)).size=0:=by simp
    exact ByteArray.size_eq_zero_iff.1 hsz
   rw[this,show(⟨#[]⟩:ByteArray).toList=[]from aN []]at hne
   cases hne
  ·omega
 |f+1,a,h,hne=>by
  obtain⟨h1,h2,h3⟩:=kW s a h;rw[dF]at hne ⊢
  split at hne
  ·rename_i hn
   rw[if_pos hn];have hsp:=bJ oD s (dY s a) h3;have:=o7 s f _ hsp.2.1 hne;omega
  ·rename_i hn
   rw[if_neg hn];simp only at hne ⊢
   by_cases e:dL s a=dY s a
   ·rw[e]at hne
    have:s.extract (dY s a) (dY s a)=⟨#[]⟩:=by
     have hsz:(s.extract (dY s a) (dY s a)).size=0:=by simp
     exact ByteArray.size_eq_zero_iff.1 hsz
    rw[this,show(⟨#[]⟩:ByteArray).toList=[]from aN []]at hne
    cases hne
   ·omega
def jb(es:List PE)(nt:Int)(code:List Int)(s:ByteArray)(a:Nat):(Int×Int)×List PE×Int×List Int×Nat:=
 if xx es (nx s a).1=0 then
  match jZ es nt s (s.size+2) 2 code [PB.first] Inf.zero (nx s a).2.2 with
  |.inr (E,P)=>((E,P),es,nt,code,0)
  |.inl (dc,kn,tk,a')=>((0,0),es++[⟨(nx s a).1,false,code.length,kn⟩],nt+tk,dc,a')
 else((xx es (nx s a).1,((nx s a).2.1:Int)),es,nt,code,0)
def UA(w:World)(bb rb:Nat)(ev cv:Value)(nv:Int)(s:ByteArray)(R:(Int×Int)×List PE×Int×List Int×Nat)(e:Ending)(w':World):Prop:=
 e=.returned (.tuple #[.int .i64 R.1.1,.int .i64 R.1.2])∧(∃BO cv' a',BS w' bb rb BO cv' R.2.1 nv R.2.2.1 R.2.2.2.1 s a'∧a'≤s.size∧(R.1.1=0→a'=R.2.2.2.2)∧Lc w ev BO∧Lc w cv cv')∧aj (fun k=>k=rb∨k=bb∨ev.ownBlock=some k∨cv.ownBlock=some k) w w'
theorem iC.XT{w:World}{bb:Nat}{ev cv v2:Value}{es:List PE}{nv nt:Int}{code dc:List Int}(h:iC w bb ev cv es nv nt code)(x:Int)(hr:w.ownsRow 3 3 1 v2 dc.length (qN dc)):
  iC ((w.setCell ⟨bb,2,none⟩ (.int .i64 x)).setCell ⟨bb,3,none⟩ v2) bb ev v2 es nv x dc:=by
 have hc:aj (fun b=>b=bb) w ((w.setCell ⟨bb,2,none⟩ (.int .i64 x)).setCell ⟨bb,3,none⟩ v2):=((aj.refl (fun b=>b=bb) w).setCell (p:=⟨bb,2,none⟩) rfl _).setCell (p:=⟨bb,3,none⟩) rfl _;have no:∀{base:Nat} {e:TypeId} {size n:Nat} {v:Value} {xs:List Value},w.ownsRow base e size v n xs→122≠e→∀k,v.ownBlock=some k→¬k=bb:=fun ho hne k hk e=>ah ho h.blk hne (by rw[hk,e])
 refine⟨?_,af h.row hc (no h.row (by decide)),af hr hc (no hr (by decide)),h.up⟩;have:=(h.blk.set (o:=2) (.int .i64 x)).set (o:=3) v2;simpa using this
theorem CW{w:World}{bb rb:Nat}{ev cv:Value}{es:List PE}{nv nt:Int}{code:List Int}{s:ByteArray}{a:Nat}(h:BS w bb rb ev cv es nv nt code s a)(ha:a≤s.size)(hs:s.size≤1100000)(hl:es.length≤1000)(hwt:∀x∈es,x.inf.Wt 1)
  (XM:0≤nt) (XN:nt≤100000) (hcl:code.length≤1100000):
  Calls Tryz.prog 80 #[.pointer (some ⟨bb,0,none⟩),.pointer (some ⟨rb,0,none⟩)] w (UA w bb rb ev cv nv s (jb es nt code s a)):=by
 obtain⟨R,hR⟩:=exq (jb es nt code s a);rw[←hR];obtain⟨n1,n2,n3,n4⟩:=jk s (s.size - a) a ha;have H1:=ast (zl rb s a w ha (by omega) h.rd);unfold jb at hR;unfold nx at hR;obtain⟨x,hx⟩:=exq (dF s (s.size - a) a);rw[←hx]at H1 hR n1 n2 n3 n4;obtain⟨t,pl,a'⟩:=x;simp only at H1 hR n1 n2 n3 n4 ⊢;have HB:=ast h;have HWT:=ast hwt;have HRR:=ast hR;clear h hx hwt hR;go_enter Tryz.func80,Tryz.ntmps80
 go_wp2_with fail
 refine H1.out.mono ?_;rintro e w1 ⟨rfl,hb1,hc1⟩;have Uw:=HB.out.next hb1 hc1;have Fh:=Uw.below (brq.alloc nrq (.cells #[.string t,.int .i64 pl] 163 (0,0)));have hk2:=ay w1 #[.string t,.int .i64 pl] 163;have H2:=ast (yz t pl Fh.sys Fh.tab (by omega) hl);have gK:=ast Fh;have sW:=ast hk2;have Fb:=ast ((hc1.mono (fun k _ e=>Or.inl e):aj (fun k=>k=rb∨k=bb∨ev.ownBlock=some k∨cv.ownBlock=some k) w w1).alloc (.cells #[.string t,.int .i64 pl] 163 (0,0)));have hsz:(w1.alloc (.cells #[.string t,.int .i64 pl] 163 (0,0))).heap.size=w1.heap.size+1:=by simp
 clear H1 hb1 hc1 Uw Fh hk2;go_wp2_with fail
 refine H2.out.mono ?_;rintro e w2 ⟨rfl,hb2⟩;have wU:=gK.out.below hb2;have hk:=sW.out.sub hb2 (by rw[hsz];omega);have p0:w2.cell? ⟨w1.heap.size,0,none⟩=some (.string t):=hk.cell 0 _ rfl;have p1:w2.cell? ⟨w1.heap.size,1,none⟩=some (.int .i64 pl):=hk.cell 1 _ rfl;obtain⟨f,hf⟩:=exq (xx es t);have hR:=HRR.out;rw[←hf]at hR ⊢;have HR0:=ast hR;clear hR HRR;have DK:=ast wU;have HKN:=ast hk;have HC:=ast (Fb.out.trans (aj.au hb2));have AQ:=hk.lt;clear H2 hb2 wU hk gK sW Fb hsz hf HB
 by_cases h0:f=0
 ·subst h0
  have hR1:=HR0.out;rw[if_pos rfl]at hR1;have HR:=ast hR1;clear HR0 hR1;have H3:=ast (Iu (w0:=w2) (rc:=(Fa s a',w1.heap.size,#[.string t,.int .i64 pl])) DK.out.sys DK.out.tab ⟨DK.out.rd,HKN.out⟩ DK.out.ru DK.out.tab.lt (aj.refl _ w2));go_wp2_with fail
  refine H3.out.mono ?_;rintro e w3 ⟨db,bv,rfl,jf,hbl⟩;have UB:=ast jf;clear H3 jf p0 p1 hbl;go_wp2_with fail
  obtain⟨D,hD⟩:=exq (jZ es nt s (s.size+2) 2 code [PB.first] Inf.zero a');have HD:=ast hD;have HD0:=ast hD;clear hD;go_loopw[9] (fun _ wr=>∃(b f q:Nat) (tk:Int) (dc:List Int) (st:List PB) (kn:Inf) (bC bv:Value),DS w2 wr rb (Fa s b,w1.heap.size,#[.string t,.int .i64 pl]) bb db ev cv bC bv es nv nt code dc tk (List.reverse st) kn∧Hid (D=jZ es nt s f tk dc st kn b)∧Hid (b≤s.size∧s.size - b+2≤f∧tk=2+(q:Int)∧q≤b∧WB st (2*q)∧st.length≤q+1∧dc.length≤code.length+2*q∧code.length≤dc.length∧(st=[]∨lX code.length dc.length st))) (fun _ wr=>s.size - qP wr rb)
  case atStart=>
   refine⟨a',s.size+2,0,2,code,[PB.first],Inf.zero,cv,bv,by simpa using UB.out,HD,n3,by omega,rfl,by omega,⟨0,0,Inf.Wt.zero,Inf.Wt.zero,by omega,trivial⟩,by simp,by omega,nrq,Or.inr ⟨rfl,?_⟩⟩
   constructor<;>simp[PB.first,PB.zero]
  case round=>
   clear UB HD;obtain⟨b,fu,q,tk,dc,st,kn,bC,rE,jf,vH,HI⟩:=hrel;obtain⟨i1,i2,i3,i4,i5,i6,i7,i8,i9⟩:=HI.out
   cases st with
   |nil=>
    have hE:=ast (DV jf true (by simp) (by simp));obtain⟨fu',rfl⟩:∃fu',fu=fu'+1:=⟨fu - 1,by omega⟩;have hdd:=vH.out;rw[jZ]at hdd;have hkn:az wr w1.heap.size #[.string t,.int .i64 pl] 163:=jf.bK.2;have p0:wr.cell? ⟨w1.heap.size,0,none⟩=some (.string t):=hkn.cell 0 _ rfl;obtain⟨c0,c1,c2,c3⟩:=jf.def;have k4:=jf.blk.cell 4 _ rfl;have k5:=jf.blk.cell 5 _ rfl;have k6:=jf.blk.cell 6 _ rfl;have k7:=jf.blk.cell 7 _ rfl;have k8:=jf.blk.cell 8 _ rfl;simp only[oN,List.getElem_toArray,List.getElem_cons_succ,List.getElem_cons_zero]at k4 k5 k6 k7 k8;have b3:wr.cell? ⟨bb,3,none⟩=some cv:=jf.sys.blk.cell 3 _ rfl;obtain⟨ad,cap,hcv,hcap,_⟩:=ag jf.sys.iO;obtain⟨iI,bf,hdv,aeo,_⟩:=ag jf.iO;rw[hcv]at b3;rw[hdv]at c2;have UB:=ast jf;have HDF:=ast hdd;clear jf hdd hkn vH c0 c3 i1 i2 i3 i4 i5 i6 i7 i8 i9;go_wp2_with fail
    refine hE.out.mono ?_;rintro e wq ⟨rfl,rfl⟩;go_wp2_with fail
    go_still_tail 13,(by kernel_rfl)
    go_wp2_with fail
    have hwd:Below wq.heap.size wq wq.drew:=brq.drew;have hd:=UB.out.below hwd;refine(DW ⟨t,false,code.length,kn⟩ hd.sys hd.tab (by simp only;omega) hl).mono ?_;rintro e w6 ⟨rfl,⟨BO,Rn,hlc⟩,Fp⟩;have jc:=ast (hlc.mono (w0:=w) (Nat.le_trans HC.out.size UB.out.Cf.size));have vK:=ast (show Lc w cv bC from fun k hk=>UB.out.loc.elim (fun e=>Or.inl (e.symm.trans hk)) (fun ⟨j,e1,e2⟩=>by rw[e1]at hk;cases hk;exact Or.inr (Nat.le_trans HC.out.size e2)));clear hlc;have hnd:db≠bb:=kG hd.blk hd.sys.blk (by decide);have afq:ev.ownBlock≠some db:=ah hd.sys.row hd.blk (by decide);have BL:rb≠bb:=kG hd.bK.1 hd.sys.blk (by decide);have afr:ev.ownBlock≠some rb:=ah hd.sys.row hd.bK.1 (by decide);have XU:=hd.blk.aA Fp (fun e=>e.elim (fun e=>hnd e) (fun e=>afq e));have afs:=hd.bK.1.aA Fp (fun e=>e.elim (fun e=>BL e) (fun e=>afr e));have ZL:=af hd.iO Fp (fun k hk e=>e.elim (fun e=>ah hd.iO hd.sys.blk (by decide) (by rw[hk,e])) (fun e=>bQ hd.iO hd.sys.row (by decide) hk e));have ZM:=hd.tab.aA Fp (fun k e=>e.elim (fun e=>by rw[e];exact hd.sys.up) (fun e=>Uu hd.sys.row e));have y1:w6.cell? ⟨db,1,none⟩=some (.int .i64 tk):=XU.cell 1 _ rfl;have y2:w6.cell? ⟨db,2,none⟩=some (.slice iI dc.length bf):=by rw[←hdv];exact XU.cell 2 _ rfl
    have z2:w6.cell? ⟨bb,2,none⟩=some (.int .i64 nt):=Rn.blk.cell 2 _ rfl;have z3:w6.cell? ⟨bb,3,none⟩=some (.slice ad code.length cap):=by rw[←hcv];exact Rn.blk.cell 3 _ rfl
    have g2:=Rn.blk.frozen 2;have g3:=Rn.blk.frozen 3;obtain⟨i1,i2,i3,i4,i5,i6,i7,i8,i9⟩:=HI.out;have lG:0≤tk:=by omega
    have iU:tk≤10000000:=by omega
    have hbl:=Rn.blk.lt;have HP6:=ast Rn;have PL:=ast XU;have HR6:=ast afs;have HO6:=ast ZL;have HT6:=ast ZM;have Dz:=ast (((HC.out.jG UB.out.Cf (fun k _ e=>e.elim (fun e=>Or.inl e) (fun e=>Or.inr (Or.inr (Or.inr e))))).trans (aj.au hwd)).trans (Fp.mono (fun k _ e=>e.elim (fun e=>Or.inr (Or.inl e)) (fun e=>Or.inr (Or.inr (Or.inl e))))));have HRU:=ast hd.ru;have HB1:=ast i1;clear hwd hd Rn Fp afq afr XU afs ZL ZM i1 i2 i3 i4 i5 i6 i7 i8 i9 UB p0 c1 c2 k4 k5 k6 k7 k8 b3 hE;go_wp2_with fail
    go_still_tail 9,(by kernel_rfl)
    go_wp2_with fail
    have hRe:R=((0,0),es++[⟨t,false,code.length,kn⟩],nt+tk,dc,b):=by
     have:=HR.out;rw[←HD0.out,HDF.out]at this;exact this
    rw[hRe];have iL:=HP6.out.XT (nt+tk) HO6.out;rw[hdv]at iL;have hrs:=(HR6.out.setOther (a:=⟨bb,2,none⟩) (fun e=>BL e.symm) (.int .i64 (nt+tk))).setOther (a:=⟨bb,3,none⟩) (fun e=>BL e.symm) (.slice iI dc.length bf);have PT:=HT6.out.aA (((aj.refl (fun k=>k=bb) w6).setCell (p:=⟨bb,2,none⟩) rfl (.int .i64 (nt+tk))).setCell (p:=⟨bb,3,none⟩) rfl (.slice iI dc.length bf)) (fun k e=>by rw[e];exact HP6.out.up);have hcc:=(Dz.out.setCell (p:=⟨bb,2,none⟩) (Or.inr (Or.inl rfl)) (.int .i64 (nt+tk))).setCell (p:=⟨bb,3,none⟩) (Or.inr (Or.inl rfl)) (.slice iI dc.length bf);have wU:=BS.mk iL PT hrs HRU.out;refine bodyPost_ret (v:=.tuple #[.int .i64 0,.int .i64 0]) (by simp[results,Tryz.results80,go_sem]) rfl ⟨rfl,⟨BO,_,b,wU.below brq.drew,HB1.out,fun _=>rfl,jc.out,by rw[←hdv];exact vK.out⟩,hcc.trans (aj.au brq.drew)⟩
   |cons b0 r0=>
    have hsi:lX code.length dc.length (b0 :: r0):=by rcases i9 with e|e;exact(List.cons_ne_nil _ _ e).elim;exact e
    have hE:=ast (DV jf false (by simp) (by simp at i6 ⊢;omega));obtain⟨m1,m2,m3,m4⟩:=jk s (s.size - b) b i1;have hN:=ast (zl rb s b wr i1 (by omega) jf.bK.1);obtain⟨x,hx⟩:=exq (dF s (s.size - b) b);have hxx:nx s b=x:=hx.symm;have XV:=fun hne=>o7 s (s.size - b) b i1 hne
    rw[←hx]at hN m1 m2 m3 m4 XV;obtain⟨t2,pl2,b2⟩:=x;simp only at hN m1 m2 m3 m4 XV;obtain⟨fu',rfl⟩:∃fu',fu=fu'+1:=⟨fu - 1,by omega⟩;have hdd:=vH.out;rw[jZ,hxx]at hdd;simp only at hdd;have hat:qP wr rb=b:=by unfold qP;rw[show wr.cell? ⟨rb,1,none⟩=some (.int .i64 b)from jf.bK.1.cell 1 _ rfl];simp
    have UB:=ast jf;have HDF:=ast hdd;have HSI:=ast hsi;have HMV:=ast XV;have vw:=ast hat;have HM:=ast (And.intro m1 (And.intro m2 (And.intro m3 m4)));clear jf hdd hsi hx hxx XV hat m1 m2 m3 m4 i1 i2 i3 i4 i5 i6 i7 i8 i9 vH;go_wp2_with fail
    refine hE.out.mono ?_;rintro e wq ⟨rfl,rfl⟩;go_wp2_with fail
    refine hN.out.mono ?_;rintro e w4 ⟨rfl,hb4,hc4⟩;have abq:=UB.out.aA hc4 hb4;have aj6:=abq.bK.2;have afu:=(abq.below (brq.alloc nrq (.cells #[.string t2,.int .i64 pl2] 163 (0,0)))).ZB w4.heap.size #[.string t2,.int .i64 pl2] (ay w4 _ _);have afv:=ast afu;clear hb4 hc4 abq afu hE hN UB aj6;go_wp2_with fail
    obtain⟨i1,i2,i3,i4,i5,i6,i7,i8,i9⟩:=HI.out;refine(Us afv.out t2 (by have:=HM.out.2.2.2;omega) hl HWT.out HSI.out (2*q) i5 (by omega) (by simp at i6;omega) (by omega) (by omega) (by omega) XM XN).mono ?_;rintro e w5 ⟨r,rfl,hr1,aj7,bv5,dc5,st5,kn5,XW,abr⟩;obtain⟨T,hT⟩:=exq (aT es nt (tk+1) dc (b0 :: r0) kn t2);rw[←hT]at hr1 abr;have XX:=HDF.out;rw[←hT]at XX;have p1:w5.cell? ⟨w4.heap.size,1,none⟩=some (.int .i64 pl2):=XW.bK.2.cell 1 _ rfl
    have afw:az w5 w1.heap.size #[.string t,.int .i64 pl] 163:=by
     refine HKN.out.aA XW.Cf ?_;rintro (e|e)
     ·exact kG HKN.out DK.out.rd (by decide) e
     ·exact ah DK.out.sys.iO HKN.out (by decide) e
    have HT:=ast hT;have afx:=ast XX;have KY:=ast XW;have HEQ:=ast abr;have JG:=ast hr1;have aj8:=ast afw;clear hT XX XW abr hr1 afw i1 i2 i3 i4 i5 i6 i7 i8 i9 HDF afv
    by_cases KT:r=0
    ·subst KT
     go_wp2_with fail
     go_roundw
     case rel=>
      obtain⟨i1,i2,i3,i4,i5,i6,i7,i8,i9⟩:=HI.out;obtain⟨q1,q2,q3⟩:=HEQ.out trivial;have h1:=JG.out
      have hne:(t2.toList == [])=false:=by
       cases hq:(t2.toList == [])with
       |false=>rfl
       |true=>
        exfalso
        have:T.1=5:=by rw[HT.out];unfold aT;simp[hq]
        rw[this]at h1;cases h1
      have hlt:=HMV.out hne;obtain⟨s1,s2,s3,s4,s5,s6⟩:=Ut es HWT.out nt (tk+1) code.length dc (b0 :: r0) kn t2 (2*q) HSI.out i5 i8 T HT.out.symm h1.symm;have XX:=afx.out;rw[if_pos h1.symm]at XX;subst q1 q2 q3;have hm3:=HM.out.2.2.1;refine⟨b2,fu',q+1,tk+1,_,_,_,aj7,bv5,KY.out.ZB _ _ aj8.out,XX,HM.out.2.2.1,by omega,by omega,by omega,WB.mono s4 (by omega),by simp at i6 s3 ⊢;omega,by omega,by omega,s5⟩
     case measure=>
      have h1:=JG.out
      have hne:(t2.toList == [])=false:=by
       cases hq:(t2.toList == [])with
       |false=>rfl
       |true=>
        exfalso
        have:T.1=5:=by rw[HT.out];unfold aT;simp[hq]
        rw[this]at h1;cases h1
      have hlt:=HMV.out hne;have e1:qP w5 rb=b2:=by unfold qP;rw[show w5.cell? ⟨rb,1,none⟩=some (.int .i64 b2)from KY.out.bK.1.cell 1 _ rfl];simp
      rw[e1,vw.out];have:=HM.out.2.2.1;omega
    ·have apI:(r == 0)=false:=by simpa using KT
     have apJ:(r != 0)=true:=by simpa using KT
     have afy:=ast KT;clear KT;go_wp2_with fail
     go_quiet (fail)
     go_wp2_with fail
     have hRe:R=((r,(pl2:Int)),es,nt,code,0):=by
      have XX:=afx.out;rw[if_neg (by rw[←JG.out];exact afy.out)]at XX;have:=HR.out;rw[←HD0.out,XX]at this;rw[this,JG.out]
     rw[hRe];refine bodyPost_ret (v:=.tuple #[.int .i64 r,.int .i64 pl2]) (by simp[results,Tryz.results80,go_sem]) rfl ⟨rfl,⟨ev,cv,b2,BS.below ⟨KY.out.sys,KY.out.tab,KY.out.bK.1,KY.out.ru⟩ (show Below w5.heap.size w5 (w5.drewN nq)from⟨rfl,rfl,rfl,nrq,fun _ _=>rfl⟩),HM.out.2.2.1,fun e=>absurd e afy.out,Lc.refl _ _,Lc.refl _ _⟩,?_⟩;exact(HC.out.jG KY.out.Cf (fun k _ e=>e.elim (fun e=>Or.inl e) (fun e=>Or.inr (Or.inr (Or.inr e))))).trans (aj.au (show Below w5.heap.size w5 (w5.drewN nq)from⟨rfl,rfl,rfl,nrq,fun _ _=>rfl⟩))
 ·have hR1:=HR0.out
  rw[if_neg h0]at hR1;subst hR1;clear HR0;have h0':(f == 0)=false:=by simpa using h0
  have h0n:(f != 0)=true:=by simpa using h0
  have HF0:=ast h0;clear h0;go_wp2_with fail
  go_quiet (fail)
  go_wp2_with fail
  refine bodyPost_ret (v:=.tuple #[.int .i64 f,.int .i64 pl]) (by simp[results,Tryz.results80,go_sem]) rfl ⟨rfl,⟨_,_,a',DK.out.below (show Below w2.heap.size w2 (w2.drewN nq)from⟨rfl,rfl,rfl,nrq,fun _ _=>rfl⟩),n3,fun e=>absurd e HF0.out,Lc.refl _ _,Lc.refl _ _⟩,HC.out.trans (aj.au (show Below w2.heap.size w2 (w2.drewN nq)from⟨rfl,rfl,rfl,nrq,fun _ _=>rfl⟩))⟩
end
section
open Go
theorem yA(s:ByteArray)(i:Nat)(h:i<s.size):(aI s i<128∧Utf8.decode s i=(aI s i,1))∨(128≤aI s i∧Utf8.decode s i=(65533,1))∨
  (128≤aI s i∧(Utf8.decode s i).2=2∧(Utf8.decode s i).1<2048)∨(128≤aI s i∧(Utf8.decode s i).2=4∧65536≤(Utf8.decode s i).1)∨
  (aI s i / 16=14∧i+2<s.size∧aI s (i+1) / 64=2∧aI s (i+2) / 64=2∧(Utf8.decode s i).2=3∧(Utf8.decode s i).1=(aI s i % 16)*4096+(aI s (i+1) % 64)*64+aI s (i+2) % 64):=by
 have hb:=dS s i;have hb1:=dS s (i+1);unfold Utf8.decode;simp only[Nat.add_zero];have hf:∀k,(s.get! k).toNat=aI s k:=fun _=>rfl
 simp only[hf]
 split
 ·left;exact⟨by assumption,rfl⟩
 ·rename_i h1
  split
  ·split
   ·right;right;left
    refine⟨by omega,rfl,?_⟩;simp only;omega
   ·right;left;exact⟨by omega,rfl⟩
  ·split
   ·rename_i h3
    simp only[Bool.and_eq_true,beq_iff_eq,decide_eq_true_eq]at h3
    split
    ·right;right;right;right
     exact⟨h3.1.1,h3.2.1,h3.1.2.2,h3.2.2,rfl,rfl⟩
    ·right;left;exact⟨by omega,rfl⟩
   ·split
    ·split
     ·rename_i h5
      right;right;right;left
      simp only[Bool.and_eq_true,decide_eq_true_eq]at h5;exact⟨by omega,rfl,h5.1⟩
     ·right;left;exact⟨by omega,rfl⟩
    ·right;left;exact⟨by omega,rfl⟩
theorem aka(s:ByteArray)(i:Nat):Lib.hasPrefix (s.extract i s.size).data.toList [239,191,189]=true↔i+2<s.size∧aI s i=239∧aI s (i+1)=191∧aI s (i+2)=189:=by
 have hl:s.data.toList.length=s.size:=Array.length_toList
 have hd:(s.extract i s.size).data.toList=s.data.toList.drop i:=by
  rw[ByteArray.data_extract,Array.toList_extract];simp only[List.extract_eq_take_drop];rw[List.take_of_length_le];simp[hl]
 rw[hd]
 have key:∀k,k<s.size→∃c,s.data.toList.drop k=c :: s.data.toList.drop (k+1)∧c.toNat=aI s k:=fun k hk=>by
  obtain⟨c,hc,hb⟩:=AB s k hk;refine⟨c,?_,hb⟩;rw[List.drop_eq_getElem_cons (by omega)];rw[List.getElem?_eq_getElem (by omega)]at hc;rw[Option.some.inj hc]
 have tn:∀(c:UInt8) (n:Nat),n<256→(c=UInt8.ofNat n↔c.toNat=n):=fun c n hn=>by
  constructor
  ·rintro rfl;simp;omega
  ·intro e;exact UInt8.toNat_inj.1 (by rw[e];simp;omega)
 by_cases h2:i+2<s.size
 ·obtain⟨c0,e0,b0⟩:=key i (by omega)
  obtain⟨c1,e1,b1⟩:=key (i+1) (by omega);obtain⟨c2,e2,b2⟩:=key (i+2) h2;rw[e0,e1,e2,←b0,←b1,←b2];simp only[Lib.hasPrefix,List.isPrefixOf,Bool.and_true,Bool.and_eq_true,beq_iff_eq];have t0:=tn c0 239 (by omega);have t1:=tn c1 191 (by omega);have t2:=tn c2 189 (by omega)
  constructor
  ·rintro ⟨rfl,rfl,rfl⟩;exact⟨h2,rfl,rfl,rfl⟩
  ·rintro ⟨_,x,y,z⟩;exact⟨(t0.2 x).symm,(t1.2 y).symm,(t2.2 z).symm⟩
 ·constructor
  ·intro h
   exfalso
   have:=(List.isPrefixOf_iff_prefix.1 h).length_le;simp only[List.length_cons,List.length_nil,List.length_drop]at this;omega
  ·intro h;exact absurd h.1 h2
theorem La(s:ByteArray)(i:Nat)(h:i<s.size):isBad s i=true↔wd s i=0:=by
 have hb:=dS s i;have hb1:=dS s (i+1);have hb2:=dS s (i+2);have hp:=aka s i;unfold isBad wd;rcases yA s i h with ⟨k1,k2⟩|⟨k1,k2⟩|⟨k1,k2,k3⟩|⟨k1,k2,k3⟩|⟨k1,k2,k3,k4,k5,k6⟩
 ·rw[k2,if_pos k1]
  have:(aI s i == 65533)=false:=by rw[beq_eq_false_iff_ne];omega
  simp[this]
 ·rw[k2,if_neg (by omega)]
  cases hq:Lib.hasPrefix (s.extract i s.size).data.toList [239,191,189]with
  |false=>simp
  |true=>
   exfalso
   obtain⟨q1,q2,q3,q4⟩:=hp.1 hq;have hcl:qZ (aI s i) 3 128 191:=by unfold qZ;omega
   have:=sN s i 3 128 191 h hcl;rw[k2,q2,q3,q4]at this;unfold Lib.slowN at this;rw[if_neg (by omega),if_neg (by omega),if_neg (by omega),if_neg (by omega),if_pos (by omega)]at this;exact absurd (congrArg Prod.snd this) (by decide)
 ·have:((Utf8.decode s i).1 == 65533)=false:=by rw[beq_eq_false_iff_ne];omega
  rw[if_neg (by omega),k2,this];simp
 ·have:((Utf8.decode s i).1 == 65533)=false:=by rw[beq_eq_false_iff_ne];omega
  rw[if_neg (by omega),k2,this];simp
 ·rw[if_neg (by omega),k5,k6,if_neg (by omega)]
  constructor
  ·intro hc
   simp only[Bool.and_eq_true,beq_iff_eq,Bool.not_eq_true']at hc;have:=hp.2 ⟨k2,by omega,by omega,by omega⟩;rw[this]at hc;exact absurd hc.2 (by decide)
  ·intro hc;omega
theorem Fq(s:ByteArray)(i:Nat)(h:i<s.size)(h0:wd s i≠0):(Utf8.decode s i).2=wd s i:=by
 unfold wd at h0 ⊢;rcases yA s i h with ⟨k1,k2⟩|⟨k1,k2⟩|⟨k1,k2,k3⟩|⟨k1,k2,k3⟩|⟨k1,k2,k3,k4,k5,k6⟩
 ·rw[k2,if_pos k1]
 ·rw[k2,if_neg (by omega),if_pos rfl]at h0;exact absurd rfl h0
 ·rw[if_neg (by omega),k2];rfl
 ·rw[if_neg (by omega),k2];rfl
 ·rw[if_neg (by omega),k5];rfl
theorem xy(s:ByteArray):∀(f i n:Nat),chars s f i n=match kS s f i with|some k=>(-1,(k:Int))|none=>(((n+Lib.runeCountFrom s f i:Nat):Int),0)
 |0,i,n=>by simp[chars,kS,Lib.runeCountFrom]
 |f+1,i,n=>by
  unfold chars kS Lib.runeCountFrom
  by_cases h:i<s.size
  ·rw[if_pos h,if_pos h,if_pos h]
   have lK:=La s i h
   by_cases h0:wd s i=0
   ·rw[if_pos h0,if_pos (lK.2 h0)]
   ·rw[if_neg h0,if_neg (fun e=>h0 (lK.1 e)),Fq s i h h0,xy s f (i+wd s i) (n+1)]
    have e:n+1+Lib.runeCountFrom s f (i+wd s i)=n+(1+Lib.runeCountFrom s f (i+wd s i)):=by omega
    rw[e]
  ·rw[if_neg h,if_neg h,if_neg h]
   simp
theorem XY(s:ByteArray)(h:kS s s.size 0=none):vI s=gy s:=by
 unfold vI gy;rw[xy,h,(KN s).1];simp only[Nat.zero_add];have hc:Lib.runeCountFrom s s.size 0=Lib.runeCount s:=rfl;rw[hc]
 have h1:(!(s.toList == []))=decide ((1:Int)≤((Lib.runeCount s:Nat):Int)):=by
  rw[Bool.eq_iff_iff];simp only[Bool.not_eq_true',beq_eq_false_iff_ne,ne_eq,decide_eq_true_eq]
  constructor
  ·intro hne
   have hz:0<s.size:=by
    rcases Nat.eq_zero_or_pos s.size with e|e
    ·exfalso;apply hne;rw[oP];exact List.length_eq_zero_iff.1 (by rw[Array.length_toList];exact e)
    ·exact e
   obtain⟨m,hm⟩:∃m,s.size=m+1:=⟨s.size - 1,by omega⟩
   have:Lib.runeCount s=1+Lib.runeCountFrom s m (0+(Utf8.decode s 0).2):=by
    unfold Lib.runeCount;rw[hm];unfold Lib.runeCountFrom;rw[if_pos (by omega)]
    cases m<;>rfl
   omega
  ·intro h1 e
   have hz:s.size=0:=by
    rw[oP]at e;have:=congrArg List.length e;rw[Array.length_toList]at this;exact this
   have:Lib.runeCount s=0:=by unfold Lib.runeCount;rw[hz];rfl
   omega
 have h2:decide (Lib.runeCount s≤16)=decide (((Lib.runeCount s:Nat):Int)≤16):=by
  rw[Bool.eq_iff_iff];simp only[decide_eq_true_eq];omega
 rw[h1,h2]
 cases decide ((1:Int)≤((Lib.runeCount s:Nat):Int))<;>cases decide (((Lib.runeCount s:Nat):Int)≤16)<;>cases jH s nine<;>cases (fZ s).2<;>rfl
end
section
open Go
theorem xA(s:ByteArray):∀(d a m:Nat),m=a+d→m≤s.size→(∀x,a≤x→x<m→blk (aI s x)=true)→aZ s a=aZ s m
 |0,a,m,h,_,_=>by rw[h];rfl
 |d+1,a,m,h,hm,hb=>by
  rw[uG s a (by omega) (hb a nrq (by omega))];exact xA s d (a+1) m (by omega) hm (fun x h1 h2=>hb x (by omega) h2)
theorem P5(s:ByteArray)(k:Nat):s.extract k k=⟨#[]⟩:=by
 have hsz:(s.extract k k).size=0:=by simp
 exact ByteArray.size_eq_zero_iff.1 hsz
theorem jS(s:ByteArray)(l:List UInt8):(s.toList == l)=true↔s=⟨l.toArray⟩:=by
 constructor
 ·intro h
  have h1:s.data.toList=l:=by rw[←oP];simpa using h
  rw[←h1]
 ·rintro rfl
  rw[aN];simp
theorem UC(s:ByteArray):∀(f a:Nat),a≤s.size→s.size - a≤f→
  (aZ s a=[]∧(dF s f a).1=⟨#[]⟩)∨(aZ s a=((dF s f a).1,(dF s f a).2.1) :: aZ s (dF s f a).2.2∧((dF s f a).1.toList == [])=false):=by
 have main:∀a,a≤s.size→aZ s a=aZ s (dL s a)∧(dL s a<s.size→blk (aI s (dL s a))=false):=fun a ha=>by
  have hB:=bJ Es s a ha;refine⟨xA s (dL s a - a) a (dL s a) (by have:=hB.1;unfold dL;omega) hB.2.1 (fun x h1 h2=>?_),fun h=>?_⟩
  ·have:=hB.2.2.1 x h1 h2
   unfold Es at this;simpa using this
  ·rcases hB.2.2.2 with e|e
   ·exact absurd e (by unfold dL at h;omega)
   ·have e':(!blk (aI s (dL s a)))=true:=e
    simpa using e'
 have fin:∀a,a≤s.size→¬dL s a<s.size→aZ s a=[]∧s.extract (dL s a) (dY s a)=⟨#[]⟩:=fun a ha h=>by
  obtain⟨l1,l2,l3⟩:=kW s a ha;have e:dY s a=dL s a:=by omega
  exact⟨by rw[(main a ha).1];exact sO s _ (by omega),by rw[e];exact P5 s _⟩
 intro f
 induction f with
 |zero=>
  intro a ha hf;obtain⟨l1,l2,l3⟩:=kW s a ha
  left
  unfold dF;exact fin a ha (by omega)
 |succ f ih=>
  intro a ha hf;obtain⟨l1,l2,l3⟩:=kW s a ha;unfold dF
  by_cases hb:dL s a<s.size
  ·have hk:=(main a ha).2 hb
   have hlt:dL s a<dY s a:=dU s _ hb hk
   by_cases hn:((s.extract (dL s a) (dY s a)).toList == [92])=true
   ·rw[if_pos hn]
    have hsp:=bJ oD s (dY s a) l3
    have e:aZ s a=aZ s (scan oD s (dY s a)):=by
     rw[(main a ha).1,mr s _ hb hk ((jS _ _).1 hn)];rfl
    rw[e];exact ih _ hsp.2.1 (by have:=hsp.1;omega)
   ·rw[if_neg hn]
    right
    refine⟨?_,?_⟩
    ·rw[(main a ha).1,oG s _ hb hk (fun e=>hn ((jS _ _).2 e))];rfl
    ·cases hq:((s.extract (dL s a) (dY s a)).toList == [])with
     |false=>rfl
     |true=>
      exfalso
      have h1:=(jS _ _).1 hq;have h2:(s.extract (dL s a) (dY s a)).size=0:=by rw[h1];rfl
      rw[ByteArray.size_extract]at h2;omega
  ·obtain⟨f1,f2⟩:=fin a ha hb
   left
   rw[f2,if_neg (by rw[show(⟨#[]⟩:ByteArray).toList=[]from aN []];decide)];exact⟨f1,rfl⟩
end
section
open Go
theorem Oj(s:ByteArray)(i:Nat)(h:i<s.size):∀d,0<d→d<wd s i→128≤aI s (i+d):=by
 intro d h0 hd
 by_cases hw:wd s i=0
 ·omega
 have hdec:=Fq s i h hw;rw[←hdec]at hd;clear hdec hw;have hf:∀k,(s.get! k).toNat=aI s k:=fun _=>rfl
 unfold Utf8.decode at hd;simp only[Nat.add_zero,hf]at hd
 split at hd
 ·simp only at hd;omega
 ·split at hd
  ·rename_i h2
   simp only[Bool.and_eq_true,beq_iff_eq,decide_eq_true_eq]at h2;have e1:d=1:=by split at hd<;>simp only at hd<;>omega
   subst e1;omega
  ·split at hd
   ·rename_i h3
    simp only[Bool.and_eq_true,beq_iff_eq,decide_eq_true_eq]at h3;have e1:d=1∨d=2:=by split at hd<;>simp only at hd<;>omega
    rcases e1 with rfl|rfl<;>omega
   ·split at hd
    ·rename_i h4
     simp only[Bool.and_eq_true,beq_iff_eq,decide_eq_true_eq]at h4;have e1:d=1∨d=2∨d=3:=by split at hd<;>simp only at hd<;>omega
     rcases e1 with rfl|rfl|rfl<;>omega
    ·simp only at hd;omega
theorem DZ(s:ByteArray):∀(f g i:Nat),s.size≤i+f→s.size≤i+g→kS s f i=kS s g i
 |0,g,i,hf,hg=>by cases g with|zero=>rfl|succ g=>unfold kS;rw[if_neg (by omega)]
 |f+1,0,i,hf,hg=>by unfold kS;rw[if_neg (by omega)]
 |f+1,g+1,i,hf,hg=>by
  unfold kS
  by_cases h:i<s.size
  ·rw[if_pos h,if_pos h]
   have hp:=Lib.decode_width_pos s i h;rw[DZ s f g _ (by omega) (by omega)]
  ·rw[if_neg h,if_neg h]
def Sound(s:ByteArray)(i:Nat):Prop:=kS s s.size i=none
theorem Sound.step{s:ByteArray}{i:Nat}(h:Sound s i)(hi:i<s.size):wd s i≠0∧Sound s (i+wd s i):=by
 unfold Sound at h;rw[DZ s s.size (s.size+1) i (by omega) (by omega)]at h;unfold kS at h;rw[if_pos hi]at h;have hb:=La s i hi
 by_cases h0:isBad s i=true
 ·rw[if_pos h0]at h;cases h
 ·have hw:wd s i≠0:=fun e=>h0 (hb.2 e)
  rw[if_neg h0,Fq s i hi hw]at h;exact⟨hw,h⟩
theorem Sound.at{s:ByteArray}:∀(d i j:Nat),j - i≤d→i≤j→Sound s i→(j<s.size→aI s j<128)→j≤s.size→Sound s j
 |0,i,j,hd,hij,h,hb,hj=>by rw[show j=i by omega];exact h
 |d+1,i,j,hd,hij,h,hb,hj=>by
  by_cases e:j=i
  ·rw[e];exact h
  ·have hi:i<s.size:=by omega
   obtain⟨hw,hs⟩:=h.step hi;have hin:=RS s i hi
   by_cases hle:i+wd s i≤j
   ·exact Sound.at d (i+wd s i) j (by omega) hle hs hb hj
   ·exfalso
    have hjs:j<s.size:=by omega
    have:=Oj s i hi (j - i) (by omega) (by omega);rw[show i+(j - i)=j by omega]at this;have:=hb hjs;omega
end
section
open Go
theorem XZ(s:ByteArray)(b e p:Nat)(he:e≤s.size)(hp:b+p<e):aI (s.extract b e) p=aI s (b+p):=by
 have h1:p<(s.extract b e).size:=by rw[ByteArray.size_extract];omega
 rw[←dC (s.extract b e) p h1,←dC s (b+p) (by omega)];rw[ByteArray.getElem_extract]
theorem abt(s:ByteArray)(b e p:Nat)(he:e≤s.size)(hw:wd s (b+p)≠0)(hin:b+p+wd s (b+p)≤e):wd (s.extract b e) p=wd s (b+p):=by
 have hsz:(s.extract b e).size=e - b:=by rw[ByteArray.size_extract];omega
 have hB:∀k,b+(p+k)<e→aI (s.extract b e) (p+k)=aI s (b+p+k):=fun k hk=>by rw[XZ s b e (p+k) he hk,Nat.add_assoc]
 have h0:=hB 0 (by omega);simp only[Nat.add_zero]at h0
 by_cases h1:aI s (b+p)<128
 ·rw[Ep s _ h1,Ep _ _ (by rw[h0];exact h1)]
 ·have hlt:=dS s (b+p)
  have hr:¬((128≤aI s (b+p)∧aI s (b+p)<194)∨244<aI s (b+p)):=fun h=>hw (JP s _ h)
  have hcl:∃n lo hi,qZ (aI s (b+p)) n lo hi:=by
   unfold qZ
   by_cases q1:aI s (b+p)<224
   ·exact⟨2,128,191,by omega⟩
   by_cases q2:aI s (b+p)=224
   ·exact⟨3,160,191,by omega⟩
   by_cases q3:aI s (b+p)=237
   ·exact⟨3,128,159,by omega⟩
   by_cases q4:aI s (b+p)<240
   ·exact⟨3,128,191,by omega⟩
   by_cases q5:aI s (b+p)=240
   ·exact⟨4,144,191,by omega⟩
   by_cases q6:aI s (b+p)=244
   ·exact⟨4,128,143,by omega⟩
   exact⟨4,128,191,by omega⟩
  obtain⟨n,lo,hi,hc⟩:=hcl;have hn:=hc.n2;have hi':b+p<s.size:=by omega
  by_cases afz:b+p+n≤s.size∧(lo≤aI s (b+p+1)∧aI s (b+p+1)≤hi)∧∀j,2≤j→j<n→128≤aI s (b+p+j)∧aI s (b+p+j)≤191
  ·obtain⟨y1,y2,y3⟩:=afz
   have e1:=mQ s (b+p) n lo hi hi' hc y1 y2 y3;rw[e1]at hin ⊢;refine mQ _ p n lo hi (by omega) (by rw[h0];exact hc) (by omega) (by rw[hB 1 (by omega)];exact y2) (fun j j1 j2=>?_);rw[hB j (by omega)];exact y3 j j1 j2
  ·exact absurd (gZ s (b+p) n lo hi hi' hc afz) hw
theorem Sound.ext{s:ByteArray}{b e:Nat}(hbe:b≤e)(he:e≤s.size)(hend:e<s.size→aI s e<128):∀(f p:Nat),Sound s (b+p)→kS (s.extract b e) f p=none
 |0,p,h=>rfl
 |f+1,p,h=>by
  have hsz:(s.extract b e).size=e - b:=by rw[ByteArray.size_extract];omega
  unfold kS
  by_cases hp:p<(s.extract b e).size
  ·rw[if_pos hp]
   have hi:b+p<s.size:=by omega
   obtain⟨hw,hs⟩:=h.step hi;have hin:=RS s (b+p) hi
   have hle:b+p+wd s (b+p)≤e:=by
    rcases Nat.lt_or_ge e (b+p+wd s (b+p))with hx|hx
    ·exfalso
     have h1:=Oj s (b+p) hi (e - (b+p)) (by omega) (by omega);rw[show b+p+(e - (b+p))=e by omega]at h1;have h2:=hend (by omega);omega
    ·exact hx
   have hwe:=abt s b e p he hw hle;have lK:=La (s.extract b e) p hp;rw[if_neg (fun x=>hw (by rw[←hwe];exact lK.1 x)),Fq _ p hp (by rw[hwe];exact hw),hwe];exact Sound.ext hbe he hend f _ (by rw[←Nat.add_assoc];exact hs)
  ·rw[if_neg hp]
end
section
open Go
theorem UD{n:Nat}(h:blk n=true):n<128:=by
 unfold blk at h;simp only[Bool.or_eq_true,beq_iff_eq]at h;omega
theorem xB{s:ByteArray}{a:Nat}(h:Sound s a)(ha:a≤s.size):Sound s (dY s a)∧kS (s.extract (dL s a) (dY s a)) (s.extract (dL s a) (dY s a)).size 0=none:=by
 obtain⟨l1,l2,l3⟩:=kW s a ha;have hB:=bJ Es s a ha;have hE:=bJ blk s (dL s a) (by omega)
 have sB:Sound s (dL s a):=by
  by_cases e:dL s a=a
  ·rw[e];exact h
  ·have hp:(!blk (aI s (dL s a - 1)))=false:=hB.2.2.1 (dL s a - 1) (by omega) (by have:dL s a=scan Es s a:=rfl;omega)
   have hb:aI s (dL s a - 1)<128:=UD (by simpa using hp);have h1:Sound s (dL s a - 1):=Sound.at _ a (dL s a - 1) nrq (by omega) h (fun _=>hb) (by omega);have h2:=(h1.step (by omega)).2;rw[Ep s _ hb,show dL s a - 1+1=dL s a by omega]at h2;exact h2
 have hend:dY s a<s.size→aI s (dY s a)<128:=fun hl=>by
  rcases hE.2.2.2 with e|e
  ·have:dY s a=scan blk s (dL s a):=rfl
   omega
  ·exact UD e
 exact⟨Sound.at _ (dL s a) (dY s a) nrq l2 sB hend l3,Sound.ext l2 l3 hend _ 0 (by rw[Nat.add_zero];exact sB)⟩
theorem tK{s:ByteArray}:∀(f a:Nat),Sound s a→a≤s.size→kS (dF s f a).1 (dF s f a).1.size 0=none∧Sound s (dF s f a).2.2
 |0,a,h,ha=>by unfold dF;exact⟨(xB h ha).2,(xB h ha).1⟩
 |f+1,a,h,ha=>by
  obtain⟨c1,c2⟩:=xB h ha;obtain⟨l1,l2,l3⟩:=kW s a ha;unfold dF
  split
  ·have hE:=bJ oD s (dY s a) l3
   refine tK f _ (Sound.at _ (dY s a) _ nrq hE.1 c1 (fun hl=>?_) hE.2.1) hE.2.1;rcases hE.2.2.2 with e|e
   ·omega
   ·have e':(aI s (scan oD s (dY s a)) == 10)=true:=e
    rw[beq_iff_eq]at e';omega
  ·exact⟨c2,c1⟩
theorem D5{s:ByteArray}{a:Nat}(h:Sound s a)(ha:a≤s.size):vI (nx s a).1=gy (nx s a).1∧Sound s (nx s a).2.2:=
 ⟨XY _ (tK _ a h ha).1,(tK _ a h ha).2⟩
end
section
theorem Iw(n:Int)(w:World)(hn: -9000000000000000000≤n∧n≤9000000000000000000):Calls Tryz.prog 208 #[.int .i64 n] w fun e w'=>e=.returned (.int .i64 (w32 n))∧w'=w:=by
 obtain⟨R,hR⟩:=exq (w32 n);rw[←hR];obtain⟨m,hm⟩:=exq (n.tmod 4294967296)
 have hm1: -4294967296<m∧m<4294967296∧∃q,n=4294967296*q+m:=by
  have h1:=Int.natAbs_tmod n 4294967296;have h2:=Int.mul_tdiv_add_tmod n 4294967296;rw[←hm]at h1 h2;have h3:n.natAbs % 4294967296<4294967296:=Nat.mod_lt _ (by decide);have h4:(4294967296:Int).natAbs=4294967296:=rfl;rw[h4]at h1;exact⟨by omega,by omega,_,h2.symm⟩
 obtain⟨l1,l2,q,hq⟩:=hm1;have HQ:=ast hq;have HR:=ast hR;clear hR hq
 by_cases h0:m<0
 ·by_cases h1:2147483647<m+4294967296
  ·have hRe:R=m:=by rw[HR.out];unfold w32;rw[HQ.out];omega
   have qw:=ast hRe;clear hRe;rw[hm]at h0 h1 l1 l2;go_enter Tryz.func208,Tryz.ntmps208
   go_wp2_with fail
   rw[qw.out,hm];go_ret
   exact⟨by simp,rfl⟩
  ·have hRe:R=m+4294967296:=by rw[HR.out];unfold w32;rw[HQ.out];omega
   have qw:=ast hRe;clear hRe;rw[hm]at h0 h1 l1 l2;go_enter Tryz.func208,Tryz.ntmps208
   go_wp2_with fail
   rw[qw.out,hm];go_ret
   exact⟨rfl,rfl⟩
 ·by_cases h1:2147483647<m
  ·have hRe:R=m - 4294967296:=by rw[HR.out];unfold w32;rw[HQ.out];omega
   have qw:=ast hRe;clear hRe;rw[hm]at h0 h1 l1 l2;go_enter Tryz.func208,Tryz.ntmps208
   go_wp2_with fail
   rw[qw.out,hm];go_ret
   exact⟨rfl,rfl⟩
  ·have hRe:R=m:=by rw[HR.out];unfold w32;rw[HQ.out];omega
   have qw:=ast hRe;clear hRe;rw[hm]at h0 h1 l1 l2;go_enter Tryz.func208,Tryz.ntmps208
   go_wp2_with fail
   rw[qw.out,hm];go_ret
   exact⟨rfl,rfl⟩
theorem o8(b:Bool)(w:World):Calls Tryz.prog 210 #[.bool b] w fun e w'=>e=.returned (.int .i64 (jR b))∧w'=w:=by
 cases b
 ·go_enter Tryz.func210,Tryz.ntmps210
  go_wp2_with fail
  go_ret
  exact⟨rfl,rfl⟩
 ·go_enter Tryz.func210,Tryz.ntmps210
  go_wp2_with fail
  go_ret
  exact⟨rfl,rfl⟩
theorem vM{a b:Int}(ha:Cell a)(hb:Cell b)(w:World):Calls Tryz.prog 218 #[.int .i64 a,.int .i64 b] w fun e w'=>e=.returned (.int .i64 (tJ a b))∧w'=w:=by
 obtain⟨q1,q2⟩:=Oi (b:=b) ha;obtain⟨a1,a2⟩:=ha;obtain⟨b1,b2⟩:=hb;obtain⟨R,hR⟩:=exq (tJ a b);rw[←hR];unfold tJ at hR
 by_cases h0:b=0
 ·rw[if_pos h0]at hR
  have HR:=ast hR;clear hR;subst h0;go_enter Tryz.func218,Tryz.ntmps218
  go_wp2_with fail
  rw[HR.out];go_ret
  exact⟨rfl,rfl⟩
 ·have hz:(b == 0)=false:=by simp[h0]
  rw[if_neg h0]at hR;obtain⟨q,hq⟩:=exq (a.tdiv b);obtain⟨m,hm⟩:=exq (a.tmod b);have HQ:=ast hq;have HM:=ast hm;rw[←hq]at hR q1 q2;rw[←hm]at hR;have HW:=ast (fun n w (h: -9000000000000000000≤n∧n≤9000000000000000000)=>Iw n w h)
  by_cases hm0:m=0
  ·rw[if_neg (fun h=>h.1 hm0)]at hR
   have HR:=ast hR;have gX:(m != 0)=false:=by simp[hm0]
   clear hR;go_enter Tryz.func218,Tryz.ntmps218
   rw[hm]at gX;go_wp2_with fail
   refine(HW.out _ _ (by omega)).mono ?_;rintro e w' ⟨rfl,rfl⟩;go_wp2_with fail
   rw[HR.out,HQ.out];go_ret
   exact⟨rfl,rfl⟩
  ·have gX:(m != 0)=true:=by simp[hm0]
   rw[hm]at gX
   by_cases ha0:a<0
   ·by_cases hb0:b<0
    ·rw[if_neg (fun h=>h.2 (by simp[ha0,hb0]))]at hR
     have HR:=ast hR;have hda:decide (a<0)=true:=by simp[ha0]
     have hdb:decide (b<0)=true:=by simp[hb0]
     rw[hq]at q1 q2;clear hR hm hq hm0;go_enter Tryz.func218,Tryz.ntmps218
     go_wp2_with fail
     refine(HW.out _ _ (by omega)).mono ?_;rintro e w' ⟨rfl,rfl⟩;go_wp2_with fail
     rw[HR.out,HQ.out];go_ret
     exact⟨rfl,rfl⟩
    ·rw[if_pos ⟨hm0,by simp[ha0,hb0]⟩]at hR
     have HR:=ast hR;have hda:decide (a<0)=true:=by simp[ha0]
     have hdb:decide (b<0)=false:=by simp[hb0]
     rw[hq]at q1 q2;clear hR hm hq hm0;go_enter Tryz.func218,Tryz.ntmps218
     go_wp2_with fail
     refine(HW.out _ _ (by omega)).mono ?_;rintro e w' ⟨rfl,rfl⟩;go_wp2_with fail
     rw[HR.out,HQ.out];go_ret
     exact⟨rfl,rfl⟩
   ·by_cases hb0:b<0
    ·rw[if_pos ⟨hm0,by simp[ha0,hb0]⟩]at hR
     have HR:=ast hR;have hda:decide (a<0)=false:=by simp[ha0]
     have abo:(a % b != 0)=true:=by rw[←Int.tmod_eq_emod_of_nonneg (by omega)];exact gX
     have hdb:decide (b<0)=true:=by simp[hb0]
     rw[hq]at q1 q2;clear hR hm hq hm0;go_enter Tryz.func218,Tryz.ntmps218
     go_wp2_with fail
     refine(HW.out _ _ (by omega)).mono ?_;rintro e w' ⟨rfl,rfl⟩;go_wp2_with fail
     rw[HR.out,HQ.out];go_ret
     exact⟨rfl,rfl⟩
    ·rw[if_neg (fun h=>h.2 (by simp[ha0,hb0]))]at hR
     have HR:=ast hR;have hda:decide (a<0)=false:=by simp[ha0]
     have abo:(a % b != 0)=true:=by rw[←Int.tmod_eq_emod_of_nonneg (by omega)];exact gX
     have hdb:decide (b<0)=false:=by simp[hb0]
     rw[hq]at q1 q2;clear hR hm hq hm0;go_enter Tryz.func218,Tryz.ntmps218
     go_wp2_with fail
     refine(HW.out _ _ (by omega)).mono ?_;rintro e w' ⟨rfl,rfl⟩;go_wp2_with fail
     rw[HR.out,HQ.out];go_ret
     exact⟨rfl,rfl⟩
theorem Fv{a b:Int}(ha:Cell a)(hb:Cell b)(w:World):Calls Tryz.prog 219 #[.int .i64 a,.int .i64 b,.string ⟨#[97,110,100]⟩] w fun e w'=>e=.returned (.int .i64 (((a % 4294967296).toNat&&&(b % 4294967296).toNat:Nat):Int))∧w'=w:=by
 obtain⟨a1,a2⟩:=ha;obtain⟨b1,b2⟩:=hb;obtain⟨X,hX⟩:=exq ((a % 4294967296).toNat:Nat);obtain⟨Y,hY⟩:=exq ((b % 4294967296).toNat:Nat);rw[←hX,←hY];have Ol:X<2 ^ 32:=by rw[hX];omega
 have UE:Y<2 ^ 32:=by rw[hY];omega
 have eX:(a+4294967296).tmod 4294967296=(X:Int):=by rw[Int.tmod_eq_emod_of_nonneg (by omega),hX];omega
 have eY:(b+4294967296).tmod 4294967296=(Y:Int):=by rw[Int.tmod_eq_emod_of_nonneg (by omega),hY];omega
 have eX2:(a+4294967296) % 4294967296=(X:Int):=by rw[hX];omega
 have eY2:(b+4294967296) % 4294967296=(Y:Int):=by rw[hY];omega
 obtain⟨Z,hZ⟩:=exq (X&&&Y:Nat);have UF:∀i,Z.testBit i=and (X.testBit i) (Y.testBit i):=fun i=>by rw[hZ,Nat.testBit_and]
 have ZN:Z<2 ^ 32:=Nat.lt_pow_two_of_testBit Z (fun i hi=>by rw[UF,Nat.testBit_lt_two_pow (Nat.lt_of_lt_of_le Ol (Nat.pow_le_pow_right (by decide) hi)),Nat.testBit_lt_two_pow (Nat.lt_of_lt_of_le UE (Nat.pow_le_pow_right (by decide) hi))];rfl);rw[←hZ];have HZ:=ast UF;have ZO:=ast ZN;have HX:=ast Ol;have HY:=ast UE;have hx0:(0:Int)≤(X:Int):=by omega
 have hy0:(0:Int)≤(Y:Int):=by omega
 clear hX hY hZ UF ZN Ol UE;go_enter Tryz.func219,Tryz.ntmps219
 go_wp2_with fail
 go_loopw[7,8,9] (fun s p i wr=>∃(k P N:Nat),k≤32∧s=.int .i64 N∧p=.int .i64 P∧i=.int .i64 k∧wr=w∧Hid (P=2 ^ k∧N=Z % 2 ^ k)) (fun _ _ i _=>32 - (intOf i).toNat)
 case atStart=>exact⟨0,1,0,by omega,rfl,rfl,rfl,rfl,ast ⟨rfl,by rw[Nat.pow_zero,Nat.mod_one]⟩⟩
 case round=>
  clear eX eY eX2 eY2;obtain⟨k,P,N,hk,rfl,rfl,rfl,rfl,HC⟩:=hrel
  by_cases hlt:k<32
  ·have lD:(k:Int)<32:=by omega
   obtain⟨hP,hN⟩:=HC.out;have hP1:1≤P:=by rw[hP];exact Nat.one_le_two_pow
   have hP2:P≤2147483648:=by rw[hP];exact Nat.le_trans (Nat.pow_le_pow_right (by decide) (show k≤31 by omega)) (by decide)
   have hN2:N<P:=by rw[hN,hP];exact Nat.mod_lt _ (Nat.two_pow_pos k)
   obtain⟨x,hx⟩:=exq (X / P % 2:Nat);obtain⟨y,hy⟩:=exq (Y / P % 2:Nat);have tx:X.testBit k=decide (x=1):=by rw[hx,hP];exact Nat.testBit_eq_decide_div_mod_eq
   have ty:Y.testBit k=decide (y=1):=by rw[hy,hP];exact Nat.testBit_eq_decide_div_mod_eq
   have hx2:x<2:=by rw[hx];exact Nat.mod_lt _ (by decide)
   have hy2:y<2:=by rw[hy];exact Nat.mod_lt _ (by decide)
   obtain⟨xq,Om⟩:=exq (X / P:Nat);obtain⟨yq,hyq⟩:=exq (Y / P:Nat);rw[←Om]at hx;rw[←hyq]at hy;have exq:(X:Int) / (P:Int)=(xq:Int):=by rw[Om];norm_cast
   have eyq:(Y:Int) / (P:Int)=(yq:Int):=by rw[hyq];norm_cast
   have bx:(xq:Int)≤4294967296:=by have:xq≤X:=(by rw[Om];exact Nat.div_le_self _ _);have:=HX.out;omega
   have bY:(yq:Int)≤4294967296:=by have:yq≤Y:=(by rw[hyq];exact Nat.div_le_self _ _);have:=HY.out;omega
   have bx0:(0:Int)≤(xq:Int):=by omega
   have by0:(0:Int)≤(yq:Int):=by omega
   have ex:(xq:Int) % 2=(x:Int):=by rw[hx];norm_cast
   have ey:(yq:Int) % 2=(y:Int):=by rw[hy];norm_cast
   have yB:(xq:Int).tmod 2=(x:Int):=by rw[Int.tmod_eq_emod_of_nonneg (by omega)];exact ex
   have yC:(yq:Int).tmod 2=(y:Int):=by rw[Int.tmod_eq_emod_of_nonneg (by omega)];exact ey
   have hnx:Z % 2 ^ (k+1)=N+P*(Z.testBit k).toNat:=by rw[Nat.mod_pow_succ,←Nat.toNat_testBit,←hN,←hP]
   rw[HZ.out,tx,ty]at hnx;have ZP:2*P=2 ^ (k+1):=by rw[Nat.pow_succ,hP,Nat.mul_comm]
   have mg:=ast hnx;have qI:=ast ZP;have ZG:(P:Int)≠0:=by omega
   have hpz:((P:Int) == 0)=false:=by simp;omega
   have NY:(1:Int)≤(P:Int):=by omega
   have hp4:(P:Int)≤2147483648:=by omega
   have Fz:(0:Int)≤(N:Int):=by omega
   have hn4:(N:Int)≤2147483648:=by omega
   clear hP hN tx ty hnx ZP HC hx hy Om hyq;have hxc:x=0∨x=1:=by omega
   have Ro:y=0∨y=1:=by omega
   rcases hxc with rfl|rfl<;>rcases Ro with rfl|rfl
   ·have hz:Z % 2 ^ (k+1)=N:=by rw[mg.out];simp
    have UG:(xq:Int) % 2=0:=ex;have UH:(yq:Int) % 2=0:=ey;have UI:(xq:Int).tmod 2=0:=yB;have UJ:(yq:Int).tmod 2=0:=yC;clear ex ey yB yC;have AV:=ast hz;clear hz mg;go_wp2_with fail
    go_roundw
    case rel=>exact⟨k+1,2*P,N,by omega,by go_num,by go_num,by go_num,by trivial,ast ⟨qI.out,AV.out.symm⟩⟩
    case measure=>simp only[intOf];omega
   ·have hz:Z % 2 ^ (k+1)=N:=by rw[mg.out];simp
    have UG:(xq:Int) % 2=0:=ex;have UH:(yq:Int) % 2=1:=ey;have UI:(xq:Int).tmod 2=0:=yB;have UJ:(yq:Int).tmod 2=1:=yC;clear ex ey yB yC;have AV:=ast hz;clear hz mg;go_wp2_with fail
    go_roundw
    case rel=>exact⟨k+1,2*P,N,by omega,by go_num,by go_num,by go_num,by trivial,ast ⟨qI.out,AV.out.symm⟩⟩
    case measure=>simp only[intOf];omega
   ·have hz:Z % 2 ^ (k+1)=N:=by rw[mg.out];simp
    have UG:(xq:Int) % 2=1:=ex;have UH:(yq:Int) % 2=0:=ey;have UI:(xq:Int).tmod 2=1:=yB;have UJ:(yq:Int).tmod 2=0:=yC;clear ex ey yB yC;have AV:=ast hz;clear hz mg;go_wp2_with fail
    go_roundw
    case rel=>exact⟨k+1,2*P,N,by omega,by go_num,by go_num,by go_num,by trivial,ast ⟨qI.out,AV.out.symm⟩⟩
    case measure=>simp only[intOf];omega
   ·have hz:Z % 2 ^ (k+1)=N+P:=by rw[mg.out];simp
    have UG:(xq:Int) % 2=1:=ex;have UH:(yq:Int) % 2=1:=ey;have UI:(xq:Int).tmod 2=1:=yB;have UJ:(yq:Int).tmod 2=1:=yC;clear ex ey yB yC;have AV:=ast hz;clear hz mg;go_wp2_with fail
    go_roundw
    case rel=>exact⟨k+1,2*P,N+P,by omega,by go_num,by go_num,by go_num,by trivial,ast ⟨qI.out,AV.out.symm⟩⟩
    case measure=>simp only[intOf];omega
  ·obtain rfl:k=32:=by omega
   have hN:N=Z:=by rw[HC.out.2];exact Nat.mod_eq_of_lt ZO.out
   subst hN;clear HC;go_wp2_with fail
   go_ret
   exact⟨rfl,rfl⟩
theorem Iy{a b:Int}(ha:Cell a)(hb:Cell b)(w:World):Calls Tryz.prog 219 #[.int .i64 a,.int .i64 b,.string ⟨#[111,114]⟩] w fun e w'=>e=.returned (.int .i64 (((a % 4294967296).toNat|||(b % 4294967296).toNat:Nat):Int))∧w'=w:=by
 obtain⟨a1,a2⟩:=ha;obtain⟨b1,b2⟩:=hb;obtain⟨X,hX⟩:=exq ((a % 4294967296).toNat:Nat);obtain⟨Y,hY⟩:=exq ((b % 4294967296).toNat:Nat);rw[←hX,←hY];have Ol:X<2 ^ 32:=by rw[hX];omega
 have UE:Y<2 ^ 32:=by rw[hY];omega
 have eX:(a+4294967296).tmod 4294967296=(X:Int):=by rw[Int.tmod_eq_emod_of_nonneg (by omega),hX];omega
 have eY:(b+4294967296).tmod 4294967296=(Y:Int):=by rw[Int.tmod_eq_emod_of_nonneg (by omega),hY];omega
 have eX2:(a+4294967296) % 4294967296=(X:Int):=by rw[hX];omega
 have eY2:(b+4294967296) % 4294967296=(Y:Int):=by rw[hY];omega
 obtain⟨Z,hZ⟩:=exq (X|||Y:Nat);have UF:∀i,Z.testBit i=or (X.testBit i) (Y.testBit i):=fun i=>by rw[hZ,Nat.testBit_or]
 have ZN:Z<2 ^ 32:=Nat.lt_pow_two_of_testBit Z (fun i hi=>by rw[UF,Nat.testBit_lt_two_pow (Nat.lt_of_lt_of_le Ol (Nat.pow_le_pow_right (by decide) hi)),Nat.testBit_lt_two_pow (Nat.lt_of_lt_of_le UE (Nat.pow_le_pow_right (by decide) hi))];rfl);rw[←hZ];have HZ:=ast UF;have ZO:=ast ZN;have HX:=ast Ol;have HY:=ast UE;have hx0:(0:Int)≤(X:Int):=by omega
 have hy0:(0:Int)≤(Y:Int):=by omega
 clear hX hY hZ UF ZN Ol UE;go_enter Tryz.func219,Tryz.ntmps219
 go_wp2_with fail
 go_loopw[7,8,9] (fun s p i wr=>∃(k P N:Nat),k≤32∧s=.int .i64 N∧p=.int .i64 P∧i=.int .i64 k∧wr=w∧Hid (P=2 ^ k∧N=Z % 2 ^ k)) (fun _ _ i _=>32 - (intOf i).toNat)
 case atStart=>exact⟨0,1,0,by omega,rfl,rfl,rfl,rfl,ast ⟨rfl,by rw[Nat.pow_zero,Nat.mod_one]⟩⟩
 case round=>
  clear eX eY eX2 eY2;obtain⟨k,P,N,hk,rfl,rfl,rfl,rfl,HC⟩:=hrel
  by_cases hlt:k<32
  ·have lD:(k:Int)<32:=by omega
   obtain⟨hP,hN⟩:=HC.out;have hP1:1≤P:=by rw[hP];exact Nat.one_le_two_pow
   have hP2:P≤2147483648:=by rw[hP];exact Nat.le_trans (Nat.pow_le_pow_right (by decide) (show k≤31 by omega)) (by decide)
   have hN2:N<P:=by rw[hN,hP];exact Nat.mod_lt _ (Nat.two_pow_pos k)
   obtain⟨x,hx⟩:=exq (X / P % 2:Nat);obtain⟨y,hy⟩:=exq (Y / P % 2:Nat);have tx:X.testBit k=decide (x=1):=by rw[hx,hP];exact Nat.testBit_eq_decide_div_mod_eq
   have ty:Y.testBit k=decide (y=1):=by rw[hy,hP];exact Nat.testBit_eq_decide_div_mod_eq
   have hx2:x<2:=by rw[hx];exact Nat.mod_lt _ (by decide)
   have hy2:y<2:=by rw[hy];exact Nat.mod_lt _ (by decide)
   obtain⟨xq,Om⟩:=exq (X / P:Nat);obtain⟨yq,hyq⟩:=exq (Y / P:Nat);rw[←Om]at hx;rw[←hyq]at hy;have exq:(X:Int) / (P:Int)=(xq:Int):=by rw[Om];norm_cast
   have eyq:(Y:Int) / (P:Int)=(yq:Int):=by rw[hyq];norm_cast
   have bx:(xq:Int)≤4294967296:=by have:xq≤X:=(by rw[Om];exact Nat.div_le_self _ _);have:=HX.out;omega
   have bY:(yq:Int)≤4294967296:=by have:yq≤Y:=(by rw[hyq];exact Nat.div_le_self _ _);have:=HY.out;omega
   have bx0:(0:Int)≤(xq:Int):=by omega
   have by0:(0:Int)≤(yq:Int):=by omega
   have ex:(xq:Int) % 2=(x:Int):=by rw[hx];norm_cast
   have ey:(yq:Int) % 2=(y:Int):=by rw[hy];norm_cast
   have yB:(xq:Int).tmod 2=(x:Int):=by rw[Int.tmod_eq_emod_of_nonneg (by omega)];exact ex
   have yC:(yq:Int).tmod 2=(y:Int):=by rw[Int.tmod_eq_emod_of_nonneg (by omega)];exact ey
   have hnx:Z % 2 ^ (k+1)=N+P*(Z.testBit k).toNat:=by rw[Nat.mod_pow_succ,←Nat.toNat_testBit,←hN,←hP]
   rw[HZ.out,tx,ty]at hnx;have ZP:2*P=2 ^ (k+1):=by rw[Nat.pow_succ,hP,Nat.mul_comm]
   have mg:=ast hnx;have qI:=ast ZP;have ZG:(P:Int)≠0:=by omega
   have hpz:((P:Int) == 0)=false:=by simp;omega
   have NY:(1:Int)≤(P:Int):=by omega
   have hp4:(P:Int)≤2147483648:=by omega
   have Fz:(0:Int)≤(N:Int):=by omega
   have hn4:(N:Int)≤2147483648:=by omega
   clear hP hN tx ty hnx ZP HC hx hy Om hyq;have hxc:x=0∨x=1:=by omega
   have Ro:y=0∨y=1:=by omega
   rcases hxc with rfl|rfl<;>rcases Ro with rfl|rfl
   ·have hz:Z % 2 ^ (k+1)=N:=by rw[mg.out];simp
    have UG:(xq:Int) % 2=0:=ex;have UH:(yq:Int) % 2=0:=ey;have UI:(xq:Int).tmod 2=0:=yB;have UJ:(yq:Int).tmod 2=0:=yC;clear ex ey yB yC;have AV:=ast hz;clear hz mg;go_wp2_with fail
    go_roundw
    case rel=>exact⟨k+1,2*P,N,by omega,by go_num,by go_num,by go_num,by trivial,ast ⟨qI.out,AV.out.symm⟩⟩
    case measure=>simp only[intOf];omega
   ·have hz:Z % 2 ^ (k+1)=N+P:=by rw[mg.out];simp
    have UG:(xq:Int) % 2=0:=ex;have UH:(yq:Int) % 2=1:=ey;have UI:(xq:Int).tmod 2=0:=yB;have UJ:(yq:Int).tmod 2=1:=yC;clear ex ey yB yC;have AV:=ast hz;clear hz mg;go_wp2_with fail
    go_roundw
    case rel=>exact⟨k+1,2*P,N+P,by omega,by go_num,by go_num,by go_num,by trivial,ast ⟨qI.out,AV.out.symm⟩⟩
    case measure=>simp only[intOf];omega
   ·have hz:Z % 2 ^ (k+1)=N+P:=by rw[mg.out];simp
    have UG:(xq:Int) % 2=1:=ex;have UH:(yq:Int) % 2=0:=ey;have UI:(xq:Int).tmod 2=1:=yB;have UJ:(yq:Int).tmod 2=0:=yC;clear ex ey yB yC;have AV:=ast hz;clear hz mg;go_wp2_with fail
    go_roundw
    case rel=>exact⟨k+1,2*P,N+P,by omega,by go_num,by go_num,by go_num,by trivial,ast ⟨qI.out,AV.out.symm⟩⟩
    case measure=>simp only[intOf];omega
   ·have hz:Z % 2 ^ (k+1)=N+P:=by rw[mg.out];simp
    have UG:(xq:Int) % 2=1:=ex;have UH:(yq:Int) % 2=1:=ey;have UI:(xq:Int).tmod 2=1:=yB;have UJ:(yq:Int).tmod 2=1:=yC;clear ex ey yB yC;have AV:=ast hz;clear hz mg;go_wp2_with fail
    go_roundw
    case rel=>exact⟨k+1,2*P,N+P,by omega,by go_num,by go_num,by go_num,by trivial,ast ⟨qI.out,AV.out.symm⟩⟩
    case measure=>simp only[intOf];omega
  ·obtain rfl:k=32:=by omega
   have hN:N=Z:=by rw[HC.out.2];exact Nat.mod_eq_of_lt ZO.out
   subst hN;clear HC;go_wp2_with fail
   go_ret
   exact⟨rfl,rfl⟩
theorem FB{a b:Int}(ha:Cell a)(hb:Cell b)(w:World):Calls Tryz.prog 219 #[.int .i64 a,.int .i64 b,.string ⟨#[120,111,114]⟩] w fun e w'=>e=.returned (.int .i64 (((a % 4294967296).toNat ^^^ (b % 4294967296).toNat:Nat):Int))∧w'=w:=by
 obtain⟨a1,a2⟩:=ha;obtain⟨b1,b2⟩:=hb;obtain⟨X,hX⟩:=exq ((a % 4294967296).toNat:Nat);obtain⟨Y,hY⟩:=exq ((b % 4294967296).toNat:Nat);rw[←hX,←hY];have Ol:X<2 ^ 32:=by rw[hX];omega
 have UE:Y<2 ^ 32:=by rw[hY];omega
 have eX:(a+4294967296).tmod 4294967296=(X:Int):=by rw[Int.tmod_eq_emod_of_nonneg (by omega),hX];omega
 have eY:(b+4294967296).tmod 4294967296=(Y:Int):=by rw[Int.tmod_eq_emod_of_nonneg (by omega),hY];omega
 have eX2:(a+4294967296) % 4294967296=(X:Int):=by rw[hX];omega
 have eY2:(b+4294967296) % 4294967296=(Y:Int):=by rw[hY];omega
 obtain⟨Z,hZ⟩:=exq (X ^^^ Y:Nat);have UF:∀i,Z.testBit i=xor (X.testBit i) (Y.testBit i):=fun i=>by rw[hZ,Nat.testBit_xor]
 have ZN:Z<2 ^ 32:=Nat.lt_pow_two_of_testBit Z (fun i hi=>by rw[UF,Nat.testBit_lt_two_pow (Nat.lt_of_lt_of_le Ol (Nat.pow_le_pow_right (by decide) hi)),Nat.testBit_lt_two_pow (Nat.lt_of_lt_of_le UE (Nat.pow_le_pow_right (by decide) hi))];rfl);rw[←hZ];have HZ:=ast UF;have ZO:=ast ZN;have HX:=ast Ol;have HY:=ast UE;have hx0:(0:Int)≤(X:Int):=by omega
 have hy0:(0:Int)≤(Y:Int):=by omega
 clear hX hY hZ UF ZN Ol UE;go_enter Tryz.func219,Tryz.ntmps219
 go_wp2_with fail
 go_loopw[7,8,9] (fun s p i wr=>∃(k P N:Nat),k≤32∧s=.int .i64 N∧p=.int .i64 P∧i=.int .i64 k∧wr=w∧Hid (P=2 ^ k∧N=Z % 2 ^ k)) (fun _ _ i _=>32 - (intOf i).toNat)
 case atStart=>exact⟨0,1,0,by omega,rfl,rfl,rfl,rfl,ast ⟨rfl,by rw[Nat.pow_zero,Nat.mod_one]⟩⟩
 case round=>
  clear eX eY eX2 eY2;obtain⟨k,P,N,hk,rfl,rfl,rfl,rfl,HC⟩:=hrel
  by_cases hlt:k<32
  ·have lD:(k:Int)<32:=by omega
   obtain⟨hP,hN⟩:=HC.out;have hP1:1≤P:=by rw[hP];exact Nat.one_le_two_pow
   have hP2:P≤2147483648:=by rw[hP];exact Nat.le_trans (Nat.pow_le_pow_right (by decide) (show k≤31 by omega)) (by decide)
   have hN2:N<P:=by rw[hN,hP];exact Nat.mod_lt _ (Nat.two_pow_pos k)
   obtain⟨x,hx⟩:=exq (X / P % 2:Nat);obtain⟨y,hy⟩:=exq (Y / P % 2:Nat);have tx:X.testBit k=decide (x=1):=by rw[hx,hP];exact Nat.testBit_eq_decide_div_mod_eq
   have ty:Y.testBit k=decide (y=1):=by rw[hy,hP];exact Nat.testBit_eq_decide_div_mod_eq
   have hx2:x<2:=by rw[hx];exact Nat.mod_lt _ (by decide)
   have hy2:y<2:=by rw[hy];exact Nat.mod_lt _ (by decide)
   obtain⟨xq,Om⟩:=exq (X / P:Nat);obtain⟨yq,hyq⟩:=exq (Y / P:Nat);rw[←Om]at hx;rw[←hyq]at hy;have exq:(X:Int) / (P:Int)=(xq:Int):=by rw[Om];norm_cast
   have eyq:(Y:Int) / (P:Int)=(yq:Int):=by rw[hyq];norm_cast
   have bx:(xq:Int)≤4294967296:=by have:xq≤X:=(by rw[Om];exact Nat.div_le_self _ _);have:=HX.out;omega
   have bY:(yq:Int)≤4294967296:=by have:yq≤Y:=(by rw[hyq];exact Nat.div_le_self _ _);have:=HY.out;omega
   have bx0:(0:Int)≤(xq:Int):=by omega
   have by0:(0:Int)≤(yq:Int):=by omega
   have ex:(xq:Int) % 2=(x:Int):=by rw[hx];norm_cast
   have ey:(yq:Int) % 2=(y:Int):=by rw[hy];norm_cast
   have yB:(xq:Int).tmod 2=(x:Int):=by rw[Int.tmod_eq_emod_of_nonneg (by omega)];exact ex
   have yC:(yq:Int).tmod 2=(y:Int):=by rw[Int.tmod_eq_emod_of_nonneg (by omega)];exact ey
   have hnx:Z % 2 ^ (k+1)=N+P*(Z.testBit k).toNat:=by rw[Nat.mod_pow_succ,←Nat.toNat_testBit,←hN,←hP]
   rw[HZ.out,tx,ty]at hnx;have ZP:2*P=2 ^ (k+1):=by rw[Nat.pow_succ,hP,Nat.mul_comm]
   have mg:=ast hnx;have qI:=ast ZP;have ZG:(P:Int)≠0:=by omega
   have hpz:((P:Int) == 0)=false:=by simp;omega
   have NY:(1:Int)≤(P:Int):=by omega
   have hp4:(P:Int)≤2147483648:=by omega
   have Fz:(0:Int)≤(N:Int):=by omega
   have hn4:(N:Int)≤2147483648:=by omega
   clear hP hN tx ty hnx ZP HC hx hy Om hyq;have hxc:x=0∨x=1:=by omega
   have Ro:y=0∨y=1:=by omega
   rcases hxc with rfl|rfl<;>rcases Ro with rfl|rfl
   ·have hz:Z % 2 ^ (k+1)=N:=by rw[mg.out];simp
    have UG:(xq:Int) % 2=0:=ex;have UH:(yq:Int) % 2=0:=ey;have UI:(xq:Int).tmod 2=0:=yB;have UJ:(yq:Int).tmod 2=0:=yC;clear ex ey yB yC;have AV:=ast hz;clear hz mg;go_wp2_with fail
    go_roundw
    case rel=>exact⟨k+1,2*P,N,by omega,by go_num,by go_num,by go_num,by trivial,ast ⟨qI.out,AV.out.symm⟩⟩
    case measure=>simp only[intOf];omega
   ·have hz:Z % 2 ^ (k+1)=N+P:=by rw[mg.out];simp
    have UG:(xq:Int) % 2=0:=ex;have UH:(yq:Int) % 2=1:=ey;have UI:(xq:Int).tmod 2=0:=yB;have UJ:(yq:Int).tmod 2=1:=yC;clear ex ey yB yC;have AV:=ast hz;clear hz mg;go_wp2_with fail
    go_roundw
    case rel=>exact⟨k+1,2*P,N+P,by omega,by go_num,by go_num,by go_num,by trivial,ast ⟨qI.out,AV.out.symm⟩⟩
    case measure=>simp only[intOf];omega
   ·have hz:Z % 2 ^ (k+1)=N+P:=by rw[mg.out];simp
    have UG:(xq:Int) % 2=1:=ex;have UH:(yq:Int) % 2=0:=ey;have UI:(xq:Int).tmod 2=1:=yB;have UJ:(yq:Int).tmod 2=0:=yC;clear ex ey yB yC;have AV:=ast hz;clear hz mg;go_wp2_with fail
    go_roundw
    case rel=>exact⟨k+1,2*P,N+P,by omega,by go_num,by go_num,by go_num,by trivial,ast ⟨qI.out,AV.out.symm⟩⟩
    case measure=>simp only[intOf];omega
   ·have hz:Z % 2 ^ (k+1)=N:=by rw[mg.out];simp
    have UG:(xq:Int) % 2=1:=ex;have UH:(yq:Int) % 2=1:=ey;have UI:(xq:Int).tmod 2=1:=yB;have UJ:(yq:Int).tmod 2=1:=yC;clear ex ey yB yC;have AV:=ast hz;clear hz mg;go_wp2_with fail
    go_roundw
    case rel=>exact⟨k+1,2*P,N,by omega,by go_num,by go_num,by go_num,by trivial,ast ⟨qI.out,AV.out.symm⟩⟩
    case measure=>simp only[intOf];omega
  ·obtain rfl:k=32:=by omega
   have hN:N=Z:=by rw[HC.out.2];exact Nat.mod_eq_of_lt ZO.out
   subst hN;clear HC;go_wp2_with fail
   go_ret
   exact⟨rfl,rfl⟩
end
section
theorem lL{a:Int}(h:Cell a):BitVec.ofInt 64 a=(BitVec.ofInt 32 a).signExtend 64:=by
 have e:(BitVec.ofInt 32 a).toInt=a:=by
  rw[BitVec.toInt_ofInt];obtain⟨h1,h2⟩:=h;exact Int.bmod_eq_of_le (by omega) (by omega)
 rw[BitVec.signExtend,e]
theorem FC(x:BitVec 64):IntKind.wrap .i64 (x.toNat:Int)=x.toInt:=by
 rw[BitVec.toInt_eq_toNat_bmod];have:=x.isLt;simp only[IntKind.wrap,show IntKind.i64.bits=64 from rfl,show IntKind.i64.signed=true from rfl,Bool.true_and,decide_eq_true_eq,Int.bmod];omega
theorem Ld(x:BitVec 32):w32 (x.toNat:Int)=x.toInt:=by
 rw[BitVec.toInt_eq_toNat_bmod];have:=x.isLt;simp only[w32,Int.bmod];omega
theorem xC(x:BitVec 32):(x.signExtend 64).toInt=x.toInt:=BitVec.toInt_signExtend_of_le (by decide)
theorem kH(a:Int):(BitVec.ofInt 32 a).toNat=(a % 4294967296).toNat:=by rw[BitVec.toNat_ofInt];rfl
theorem UK{a b:Int}(ha:Cell a)(hb:Cell b):bits .and .i64 a b=w32 (((a % 4294967296).toNat&&&(b % 4294967296).toNat:Nat):Int):=by
 show IntKind.wrap .i64 ((BitVec.ofInt 64 a&&&BitVec.ofInt 64 b).toNat:Int)=_
 rw[lL ha,lL hb,←BitVec.signExtend_and,FC,xC,←Ld,BitVec.toNat_and,kH,kH]
theorem X0{a b:Int}(ha:Cell a)(hb:Cell b):bits .or .i64 a b=w32 (((a % 4294967296).toNat|||(b % 4294967296).toNat:Nat):Int):=by
 show IntKind.wrap .i64 ((BitVec.ofInt 64 a|||BitVec.ofInt 64 b).toNat:Int)=_
 rw[lL ha,lL hb,←BitVec.signExtend_or,FC,xC,←Ld,BitVec.toNat_or,kH,kH]
theorem UL{a b:Int}(ha:Cell a)(hb:Cell b):bits .xor .i64 a b=w32 (((a % 4294967296).toNat ^^^ (b % 4294967296).toNat:Nat):Int):=by
 show IntKind.wrap .i64 ((BitVec.ofInt 64 a ^^^ BitVec.ofInt 64 b).toNat:Int)=_
 rw[lL ha,lL hb,←BitVec.signExtend_xor,FC,xC,←Ld,BitVec.toNat_xor,kH,kH]
def ni(k:Nat)(a b:Int):Int:=
 if k=0 then a+b else if k=1 then a - b else if k=2 then a*b else if k=3 then(((a % 4294967296).toNat&&&(b % 4294967296).toNat:Nat):Int)else if k=4 then(((a % 4294967296).toNat|||(b % 4294967296).toNat:Nat):Int)else if k=5 then(((a % 4294967296).toNat ^^^ (b % 4294967296).toNat:Nat):Int)
 else if k=6 then tJ a b else if k=7 then a - b*tJ a b else if k=8 then jR (a == b)else if k=9 then jR (decide (a<b))else if k=10 then jR (decide (b<a))else if k=11 then min a b else if k=12 then max a b else b
theorem Iz(a:Int):(a % 4294967296).toNat<2 ^ 32:=by omega
theorem Oo(k:Nat){a b:Int}(ha:Cell a)(hb:Cell b): -9000000000000000000≤ni k a b∧ni k a b≤9000000000000000000:=by
 have hm:=dm ha hb;have hm2:=dm hb (aY a b);have hd:=aY a b;have h3:=Nat.and_lt_two_pow (a % 4294967296).toNat (Iz b);have h4:=Nat.or_lt_two_pow (Iz a) (Iz b);have h5:=Nat.xor_lt_two_pow (Iz a) (Iz b);have f1:=iZ (a == b);have f2:=iZ (decide (a<b));have f3:=iZ (decide (b<a));obtain⟨a1,a2⟩:=ha;obtain⟨b1,b2⟩:=hb;obtain⟨d1,d2⟩:=hd;obtain⟨f11,f12⟩:=f1;obtain⟨f21,f22⟩:=f2;obtain⟨f31,f32⟩:=f3;unfold ni
 (repeat' split)<;>omega
theorem Oq(k:Nat)(hk:k≤12){a b:Int}(ha:Cell a)(hb:Cell b):w32 (ni k a b)=nT k a b:=by
 unfold ni nT;have akb:Cell (min a b):=by obtain⟨a1,a2⟩:=ha;obtain⟨b1,b2⟩:=hb;exact⟨by omega,by omega⟩
 have hmax:Cell (max a b):=by obtain⟨a1,a2⟩:=ha;obtain⟨b1,b2⟩:=hb;exact⟨by omega,by omega⟩
 have hc:k=0∨k=1∨k=2∨k=3∨k=4∨k=5∨k=6∨k=7∨k=8∨k=9∨k=10∨k=11∨k=12:=by omega
 rcases hc with rfl|rfl|rfl|rfl|rfl|rfl|rfl|rfl|rfl|rfl|rfl|rfl|rfl
 ·rfl
 ·rfl
 ·rfl
 ·exact(UK ha hb).symm
 ·exact(X0 ha hb).symm
 ·exact(UL ha hb).symm
 ·exact fA (aY a b)
 ·rfl
 ·exact fA (iZ _)
 ·exact fA (iZ _)
 ·exact fA (iZ _)
 ·exact fA akb
 ·exact fA hmax
end
section
theorem UM{a b:Int}(ha:Cell a)(hb:Cell b)(w:World):Calls Tryz.prog 211 #[.string ⟨#[43]⟩,.int .i64 a,.int .i64 b] w fun e w'=>e=.returned (.int .i64 (ni 0 a b))∧w'=w:=by
 show Calls _ _ _ _ fun e w'=>e=.returned (.int .i64 (a+b))∧w'=w
 have hm:=dm ha hb;have hm2:=dm hb (aY a b);have hd:=aY a b;obtain⟨a1,a2⟩:=ha;obtain⟨b1,b2⟩:=hb;obtain⟨d1,d2⟩:=hd;obtain⟨m1,m2⟩:=hm;obtain⟨m3,m4⟩:=hm2;go_enter Tryz.func211,Tryz.ntmps211
 go_wp2_with fail
 go_ret
 exact⟨rfl,rfl⟩
theorem UO{a b:Int}(ha:Cell a)(hb:Cell b)(w:World):Calls Tryz.prog 211 #[.string ⟨#[45]⟩,.int .i64 a,.int .i64 b] w fun e w'=>e=.returned (.int .i64 (ni 1 a b))∧w'=w:=by
 show Calls _ _ _ _ fun e w'=>e=.returned (.int .i64 (a - b))∧w'=w
 have hm:=dm ha hb;have hm2:=dm hb (aY a b);have hd:=aY a b;obtain⟨a1,a2⟩:=ha;obtain⟨b1,b2⟩:=hb;obtain⟨d1,d2⟩:=hd;obtain⟨m1,m2⟩:=hm;obtain⟨m3,m4⟩:=hm2;go_enter Tryz.func211,Tryz.ntmps211
 go_wp2_with fail
 go_ret
 exact⟨rfl,rfl⟩
theorem UQ{a b:Int}(ha:Cell a)(hb:Cell b)(w:World):Calls Tryz.prog 211 #[.string ⟨#[42]⟩,.int .i64 a,.int .i64 b] w fun e w'=>e=.returned (.int .i64 (ni 2 a b))∧w'=w:=by
 show Calls _ _ _ _ fun e w'=>e=.returned (.int .i64 (a*b))∧w'=w
 have hm:=dm ha hb;have hm2:=dm hb (aY a b);have hd:=aY a b;obtain⟨a1,a2⟩:=ha;obtain⟨b1,b2⟩:=hb;obtain⟨d1,d2⟩:=hd;obtain⟨m1,m2⟩:=hm;obtain⟨m3,m4⟩:=hm2;go_enter Tryz.func211,Tryz.ntmps211
 go_wp2_with fail
 go_ret
 exact⟨rfl,rfl⟩
theorem UR{a b:Int}(ha:Cell a)(hb:Cell b)(w:World):Calls Tryz.prog 211 #[.string ⟨#[97,110,100]⟩,.int .i64 a,.int .i64 b] w fun e w'=>e=.returned (.int .i64 (ni 3 a b))∧w'=w:=by
 show Calls _ _ _ _ fun e w'=>e=.returned (.int .i64 ((((a % 4294967296).toNat&&&(b % 4294967296).toNat:Nat):Int)))∧w'=w
 have hm:=dm ha hb;have hm2:=dm hb (aY a b);have hd:=aY a b;have H:=ast (fun w=>Fv ha hb w);obtain⟨a1,a2⟩:=ha;obtain⟨b1,b2⟩:=hb;obtain⟨d1,d2⟩:=hd;obtain⟨m1,m2⟩:=hm;obtain⟨m3,m4⟩:=hm2;go_enter Tryz.func211,Tryz.ntmps211
 go_wp2_with fail
 refine(H.out _).mono ?_;rintro e w' ⟨rfl,rfl⟩;go_wp2_with fail
 go_ret
 exact⟨rfl,rfl⟩
theorem UT{a b:Int}(ha:Cell a)(hb:Cell b)(w:World):Calls Tryz.prog 211 #[.string ⟨#[111,114]⟩,.int .i64 a,.int .i64 b] w fun e w'=>e=.returned (.int .i64 (ni 4 a b))∧w'=w:=by
 show Calls _ _ _ _ fun e w'=>e=.returned (.int .i64 ((((a % 4294967296).toNat|||(b % 4294967296).toNat:Nat):Int)))∧w'=w
 have hm:=dm ha hb;have hm2:=dm hb (aY a b);have hd:=aY a b;have H:=ast (fun w=>Iy ha hb w);obtain⟨a1,a2⟩:=ha;obtain⟨b1,b2⟩:=hb;obtain⟨d1,d2⟩:=hd;obtain⟨m1,m2⟩:=hm;obtain⟨m3,m4⟩:=hm2;go_enter Tryz.func211,Tryz.ntmps211
 go_wp2_with fail
 refine(H.out _).mono ?_;rintro e w' ⟨rfl,rfl⟩;go_wp2_with fail
 go_ret
 exact⟨rfl,rfl⟩
theorem UU{a b:Int}(ha:Cell a)(hb:Cell b)(w:World):Calls Tryz.prog 211 #[.string ⟨#[120,111,114]⟩,.int .i64 a,.int .i64 b] w fun e w'=>e=.returned (.int .i64 (ni 5 a b))∧w'=w:=by
 show Calls _ _ _ _ fun e w'=>e=.returned (.int .i64 ((((a % 4294967296).toNat ^^^ (b % 4294967296).toNat:Nat):Int)))∧w'=w
 have hm:=dm ha hb;have hm2:=dm hb (aY a b);have hd:=aY a b;have H:=ast (fun w=>FB ha hb w);obtain⟨a1,a2⟩:=ha;obtain⟨b1,b2⟩:=hb;obtain⟨d1,d2⟩:=hd;obtain⟨m1,m2⟩:=hm;obtain⟨m3,m4⟩:=hm2;go_enter Tryz.func211,Tryz.ntmps211
 go_wp2_with fail
 refine(H.out _).mono ?_;rintro e w' ⟨rfl,rfl⟩;go_wp2_with fail
 go_ret
 exact⟨rfl,rfl⟩
theorem UW{a b:Int}(ha:Cell a)(hb:Cell b)(w:World):Calls Tryz.prog 211 #[.string ⟨#[47]⟩,.int .i64 a,.int .i64 b] w fun e w'=>e=.returned (.int .i64 (ni 6 a b))∧w'=w:=by
 show Calls _ _ _ _ fun e w'=>e=.returned (.int .i64 (tJ a b))∧w'=w
 have hm:=dm ha hb;have hm2:=dm hb (aY a b);have hd:=aY a b;have H:=ast (fun w=>vM ha hb w);obtain⟨a1,a2⟩:=ha;obtain⟨b1,b2⟩:=hb;obtain⟨d1,d2⟩:=hd;obtain⟨m1,m2⟩:=hm;obtain⟨m3,m4⟩:=hm2;go_enter Tryz.func211,Tryz.ntmps211
 go_wp2_with fail
 refine(H.out _).mono ?_;rintro e w' ⟨rfl,rfl⟩;go_wp2_with fail
 go_ret
 exact⟨rfl,rfl⟩
theorem UX{a b:Int}(ha:Cell a)(hb:Cell b)(w:World):Calls Tryz.prog 211 #[.string ⟨#[109,111,100]⟩,.int .i64 a,.int .i64 b] w fun e w'=>e=.returned (.int .i64 (ni 7 a b))∧w'=w:=by
 show Calls _ _ _ _ fun e w'=>e=.returned (.int .i64 (a - b*tJ a b))∧w'=w
 have hm:=dm ha hb;have hm2:=dm hb (aY a b);have hd:=aY a b;have H:=ast (fun w=>vM ha hb w);obtain⟨a1,a2⟩:=ha;obtain⟨b1,b2⟩:=hb;obtain⟨d1,d2⟩:=hd;obtain⟨m1,m2⟩:=hm;obtain⟨m3,m4⟩:=hm2;go_enter Tryz.func211,Tryz.ntmps211
 go_wp2_with fail
 refine(H.out _).mono ?_;rintro e w' ⟨rfl,rfl⟩;go_wp2_with fail
 go_ret
 exact⟨rfl,rfl⟩
theorem UY{a b:Int}(ha:Cell a)(hb:Cell b)(w:World):Calls Tryz.prog 211 #[.string ⟨#[61]⟩,.int .i64 a,.int .i64 b] w fun e w'=>e=.returned (.int .i64 (ni 8 a b))∧w'=w:=by
 show Calls _ _ _ _ fun e w'=>e=.returned (.int .i64 (jR (a == b)))∧w'=w
 have hm:=dm ha hb;have hm2:=dm hb (aY a b);have hd:=aY a b;obtain⟨a1,a2⟩:=ha;obtain⟨b1,b2⟩:=hb;obtain⟨d1,d2⟩:=hd;obtain⟨m1,m2⟩:=hm;obtain⟨m3,m4⟩:=hm2;go_enter Tryz.func211,Tryz.ntmps211
 go_wp2_with fail
 refine(o8 _ _).mono ?_;rintro e w' ⟨rfl,rfl⟩;go_wp2_with fail
 go_ret
 exact⟨rfl,rfl⟩
theorem UZ{a b:Int}(ha:Cell a)(hb:Cell b)(w:World):Calls Tryz.prog 211 #[.string ⟨#[60]⟩,.int .i64 a,.int .i64 b] w fun e w'=>e=.returned (.int .i64 (ni 9 a b))∧w'=w:=by
 show Calls _ _ _ _ fun e w'=>e=.returned (.int .i64 (jR (decide (a<b))))∧w'=w
 have hm:=dm ha hb;have hm2:=dm hb (aY a b);have hd:=aY a b;obtain⟨a1,a2⟩:=ha;obtain⟨b1,b2⟩:=hb;obtain⟨d1,d2⟩:=hd;obtain⟨m1,m2⟩:=hm;obtain⟨m3,m4⟩:=hm2;go_enter Tryz.func211,Tryz.ntmps211
 go_wp2_with fail
 refine(o8 _ _).mono ?_;rintro e w' ⟨rfl,rfl⟩;go_wp2_with fail
 go_ret
 exact⟨rfl,rfl⟩
theorem P6{a b:Int}(ha:Cell a)(hb:Cell b)(w:World):Calls Tryz.prog 211 #[.string ⟨#[62]⟩,.int .i64 a,.int .i64 b] w fun e w'=>e=.returned (.int .i64 (ni 10 a b))∧w'=w:=by
 show Calls _ _ _ _ fun e w'=>e=.returned (.int .i64 (jR (decide (b<a))))∧w'=w
 have hm:=dm ha hb;have hm2:=dm hb (aY a b);have hd:=aY a b;obtain⟨a1,a2⟩:=ha;obtain⟨b1,b2⟩:=hb;obtain⟨d1,d2⟩:=hd;obtain⟨m1,m2⟩:=hm;obtain⟨m3,m4⟩:=hm2;go_enter Tryz.func211,Tryz.ntmps211
 go_wp2_with fail
 refine(o8 _ _).mono ?_;rintro e w' ⟨rfl,rfl⟩;go_wp2_with fail
 go_ret
 exact⟨rfl,rfl⟩
theorem P7{a b:Int}(ha:Cell a)(hb:Cell b)(w:World):Calls Tryz.prog 211 #[.string ⟨#[109,105,110]⟩,.int .i64 a,.int .i64 b] w fun e w'=>e=.returned (.int .i64 (ni 11 a b))∧w'=w:=by
 show Calls _ _ _ _ fun e w'=>e=.returned (.int .i64 (min a b))∧w'=w
 have hm:=dm ha hb;have hm2:=dm hb (aY a b);have hd:=aY a b;obtain⟨a1,a2⟩:=ha;obtain⟨b1,b2⟩:=hb;obtain⟨d1,d2⟩:=hd;obtain⟨m1,m2⟩:=hm;obtain⟨m3,m4⟩:=hm2;go_enter Tryz.func211,Tryz.ntmps211
 go_wp2_with fail
 go_ret
 exact⟨rfl,rfl⟩
theorem P8{a b:Int}(ha:Cell a)(hb:Cell b)(w:World):Calls Tryz.prog 211 #[.string ⟨#[109,97,120]⟩,.int .i64 a,.int .i64 b] w fun e w'=>e=.returned (.int .i64 (ni 12 a b))∧w'=w:=by
 show Calls _ _ _ _ fun e w'=>e=.returned (.int .i64 (max a b))∧w'=w
 have hm:=dm ha hb;have hm2:=dm hb (aY a b);have hd:=aY a b;obtain⟨a1,a2⟩:=ha;obtain⟨b1,b2⟩:=hb;obtain⟨d1,d2⟩:=hd;obtain⟨m1,m2⟩:=hm;obtain⟨m3,m4⟩:=hm2;go_enter Tryz.func211,Tryz.ntmps211
 go_wp2_with fail
 go_ret
 exact⟨rfl,rfl⟩
theorem P9{a b:Int}(ha:Cell a)(hb:Cell b)(w:World):Calls Tryz.prog 211 #[.string ⟨#[110,105,112]⟩,.int .i64 a,.int .i64 b] w fun e w'=>e=.returned (.int .i64 (ni 21 a b))∧w'=w:=by
 show Calls _ _ _ _ fun e w'=>e=.returned (.int .i64 (b))∧w'=w
 have hm:=dm ha hb;have hm2:=dm hb (aY a b);have hd:=aY a b;obtain⟨a1,a2⟩:=ha;obtain⟨b1,b2⟩:=hb;obtain⟨d1,d2⟩:=hd;obtain⟨m1,m2⟩:=hm;obtain⟨m3,m4⟩:=hm2;go_enter Tryz.func211,Tryz.ntmps211
 go_wp2_with fail
 go_ret
 exact⟨rfl,rfl⟩
end
end Go.Proofs.YtcphhbofjkenaaaGreatDoor
