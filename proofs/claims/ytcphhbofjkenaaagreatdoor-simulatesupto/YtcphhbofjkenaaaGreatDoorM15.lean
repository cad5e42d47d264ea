import Derived.Test.YtcphhbofjkenaaaGreatDoorMy
import Derived.Test.YtcphhbofjkenaaaGreatDoorM14
namespace Go.Proofs.YtcphhbofjkenaaaGreatDoor
open Go Go.RowKit Proofs.Tryz
set_option linter.unusedVariables false
set_option linter.unusedSimpArgs false
set_option maxRecDepth 100000
set_option maxHeartbeats 16000000
variable{w0 w:World}{rb bb db:Nat}{rc:RC}{ev aX aT bv:Value}{es:List PE}{nv nt tk:Int}{pc dc:List Int}{bs:List PB}{kn:Inf}
theorem L9{p:Prop}(h:p:=by
  go_wp2_with fail
  go_end0
  have bP:aq (fun k=>(aD g (bs.length+1) cap).ownBlock=some k) W w1:=((aq.refl _ W).alloc _).drew.trans ((aq.dP hgrow).mono (fun k _ e=>e.symm));have k9:=(HD.below bu).push (b:=⟨b0,x,y,b3,⟨b4,b5,b6,b7,b8⟩,⟨b9,fG,gh,gq,gv⟩,fZ,gp,gu⟩) ab5 bP;exact⟨rfl,⟨_,k9⟩,((aq.bf bu).trans (bP.mono (fun k _ e=>aA e))).trans ((aq.refl (fun k=>k=db∨(aD g (bs.length+1) cap).ownBlock=some k) w1).setCell (p:=ai db 3) (aC rfl) _)⟩):p:=h
section
open Go.RowKit
def PB.val(b:PB):Value:=.agg b.cells.toArray
def PB.opened(b c:PB)(n:Nat):PB:={b with hole:=(n:Int) - 1,iN:=b.opener == 31||c.iN}
def pbz:Value:=.agg #[ae 0,.bool false,ae 0,ae 0,ae 0,ae 0,ae 0,ae 0,.bool false,ae 0,ae 0,ae 0,ae 0,.bool false,ae 0,ae 0,ae 0]
theorem Tryz.Yf:(prog.info? 244).map (fun i=>(i.zero,i.size,i.bytes))=some (some pbz,17,136):=aP
theorem PB.one(b:PB):∀u∈b.cells,u.oneCell'=true:=by
 intro u hu;simp only[PB.cells,er,List.not_mem_nil,or_false]at hu;rcases hu with rfl|rfl|rfl|rfl|rfl|rfl|rfl|rfl|rfl|rfl|rfl|rfl|rfl|rfl|rfl|rfl|rfl<;>rfl
theorem DS.push{w2:World}{v2:Value}{b:PB}
  (h:DS w0 w rb rc bb db ev aX aT bv es nv nt pc dc tk bs kn) (hr:w2.ownsRow w0.heap.size 244 17 v2 (bs.length+1) (bs.flatMap PB.cells++b.cells)) (hc:aq (fun k=>bv.ownBlock=some k) w w2):
  DS w0 (w2.setCell (ai db 3) v2) rb rc bb db ev aX aT v2 es nv nt pc dc tk (bs++[b]) kn:=by
 have hrb:=h.aO.1;have hgb:=h.aO.2;have no:∀{c:Array Value} {t:TypeId} {k:Nat},ay w k c t→t≠244→¬bv.ownBlock=some k:=fun hb hne e=>aZ h.row hb hne e
 have n2:∀{base:Nat} {e:TypeId} {size n:Nat} {v:Value} {xs:List Value},w.ownsRow base e size v n xs→e≠244→∀k,v.ownBlock=some k→¬bv.ownBlock=some k:=fun ho hne k hk e=>fw ho h.row hne hk e
 have hge:∀k,bv.ownBlock=some k→w0.heap.size≤k:=by
  intro k hk;rcases h.row.2 with ⟨rfl,_⟩|⟨g',cap',cur,rfl,hb,_⟩
  ·cases hk
  ·simp[Value.ownBlock]at hk;omega
 have hb2:ay w2 db (kV bb tk aT bv kn) 209:=h.blk.aB hc (no h.blk aj);have n1:db≠bb:=Fu;have n3:db≠rb:=Cm
 have jU:∀{base:Nat} {e:TypeId} {size n:Nat} {v:Value} {xs:List Value},w2.ownsRow base e size v n xs→209≠e→(w2.setCell (ai db 3) v2).ownsRow base e size v n xs:=fun ho hne=>
  aR ho ((aq.refl (fun b=>b=db) w2).setCell (p:=ai db 3) rfl _) (fun k hk e=>aZ ho hb2 hne jr)
 refine⟨⟨(h.sys.blk.aB hc (no h.sys.blk aj)).setOther n1 _,jU (aR h.sys.row hc (n2 h.sys.row aj)) aj,jU (aR h.sys.bG hc (n2 h.sys.bG aj)) aj,h.sys.up⟩,?_,jU (aR h.bG hc (n2 h.bG aj)) aj,
  jU vD aj,?_,⟨(hrb.aB hc (no hrb aj)).setOther n3 _,(hgb.aB hc (no hgb aj)).setOther (pK h.blk hgb aj) _⟩,h.ru,h.tl,h.pre,h.new,h.loc,?_⟩
 ·have:=hb2.set (o:=3) v2;simpa [kV]using this
 ·exact(h.tab.aB hc (fun k e=>by have:=hge _ e;have:=h.tl;omega)).aB ((aq.refl (fun b=>b=db) w2).setCell (p:=ai db 3) rfl _) (fun k e=>zM)
 ·exact(h.jS.fz hc (fun k hk e=>by have:=hge _ e;omega)).fz ((aq.refl (fun b=>b=db) w2).setCell (p:=ai db 3) rfl _) (fun k hk e=>zj)
theorem G7{c:PB}
  (h:DS w0 w rb rc bb db ev aX aT bv es nv nt pc dc tk (bs++[c]) kn) (b:PB) (hl:bs.length≤100000000) (hd0:1≤dc.length) (hd:dc.length≤100000000):
  Calls prog 184 #[ax db,b.val] w fun e w'=>e=.returned (.tuple #[])∧(∃eK,DS w0 w' rb rc bb db ev aX aT eK es nv nt pc dc tk (bs++[c]++[b.opened c dc.length]) kn)∧aq (fun k=>k=db∨bv.ownBlock=some k) w w':=by
 obtain⟨g,cap,hv,hcap,hge,hg,hfr,hcell⟩:=h.last;have HI:=af (fun w' (hb:Below w.heap.size w w')=>ko (h.below (w':=w') hb) ag g cap hv hcap);have d1:w.cell? (ai g (bs.length*17+1))=some (.bool c.iN):=hcell 1 _ rfl;obtain⟨c0,c1,c2,c3⟩:=h.def;obtain⟨ad,cc,hdv,hcc,_⟩:=bo h.bG;have hdl:=h.blk.lt
 have hgd:g≠db:=by
  rintro rfl;exact aZ h.row h.blk aj (by rw[hv];rfl)
 obtain⟨i0,hi,hz0,hz1,hz2⟩:=info_parts Tryz.Yf;subst hv;have HD:=af h;rw[hdv]at c2;obtain⟨b0,b1,b2,b3,⟨b4,b5,b6,b7,b8⟩,⟨b9,fG,gh,gq,gv⟩,fZ,gp,gu⟩:=b;clear h hcell c0 c1
 by_cases hdo:(b0 == 31)=true
 ·obtain⟨W,hW⟩:=ak (w.alloc (.cells #[ae b0,.bool (true),ae ((dc.length:Int) - 1),ae b3,ae b4,ae b5,ae b6,ae b7,.bool (!b8),ae b9,ae fG,ae gh,ae gq,.bool (!gv),ae fZ,ae gp,ae gu] 244 (0,0)):World)
  obtain⟨E,hE⟩:=ak (w.heap.size);obtain⟨x,hx⟩:=ak (true);obtain⟨y,hy⟩:=ak ((dc.length:Int) - 1);have fh:ay W E #[ae b0,.bool x,ae y,ae b3,ae b4,ae b5,ae b6,ae b7,.bool (!b8),ae b9,ae fG,ae gh,ae gq,.bool (!gv),ae fZ,ae gp,ae gu] 244:=by rw[hW,hE,hx,hy];exact bJ w _ _
  have hbW:Below w.heap.size w W:=Aa;have hxx:PB.opened ⟨b0,b1,b2,b3,⟨b4,b5,b6,b7,b8⟩,⟨b9,fG,gh,gq,gv⟩,fZ,gp,gu⟩ c dc.length=⟨b0,x,y,b3,⟨b4,b5,b6,b7,b8⟩,⟨b9,fG,gh,gq,gv⟩,fZ,gp,gu⟩:=by simp[PB.opened,hx,hy,hdo]
  rw[hxx];have cf:=af fh;have bu:=af hbW;clear fh hbW hxx;simp only[PB.val,PB.cells];go_enter func184,ntmps184;go_upto_region 3 with fail
  rw[←hW];rw[←hE];have c3':W.cell? (ai db 3)=some (aD g (bs.length+1) cap):=(bu.cell (p:=ai db 3) hdl).trans c3;have q3:W.frozen? (ai db 3)=false:=(bu.frozen (p:=ai db 3) hdl).trans (HD.blk.frozen 3);have e0:=cf.cell 0 _ rfl;have e1:=cf.cell 1 _ rfl;have e2:=cf.cell 2 _ rfl;have e3:=cf.cell 3 _ rfl;have e4:=cf.cell 4 _ rfl;have e5:=cf.cell 5 _ rfl;have e6:=cf.cell 6 _ rfl;have e7:=cf.cell 7 _ rfl;have e8:=cf.cell 8 _ rfl;have e9:=cf.cell 9 _ rfl;have e10:=cf.cell 10 _ rfl;have e11:=cf.cell 11 _ rfl;have e12:=cf.cell 12 _ rfl;have e13:=cf.cell 13 _ rfl;have e14:=cf.cell 14 _ rfl;have e15:=cf.cell 15 _ rfl;have e16:=cf.cell 16 _ rfl;simp only[List.getElem_toArray,List.getElem_cons_succ,List.getElem_cons_zero]at e0 e1 e2 e3 e4 e5 e6 e7 e8 e9 e10 e11 e12 e13 e14 e15 e16;have hEW:E<W.heap.size:=cf.lt;have hdW:db<W.heap.size:=bF hdl bu.size;have hEd:E≠db:=ag;have hdE:db≠E:=ag;have hown:=af (show W.ownsRow w0.heap.size 244 17 (aD g (bs.length+1) cap) (bs.length+1) ((bs++[c]).flatMap PB.cells)from by have:=(HD.below bu).row;rw[cF,gJ]at this;exact this);have fR:w0.heap.size≤W.heap.size:=bB HD.jS.size bu.size;have hgW:g<W.heap.size:=bF hg bu.size;have hEg:E≠g:=ag;have hgE:g≠E:=ag;have hdg:db≠g:=ag;have HA:=af (fun o=>(hown.alloc o).drew);have H1:=af (PB.one ⟨b0,x,y,b3,⟨b4,b5,b6,b7,b8⟩,⟨b9,fG,gh,gq,gv⟩,fZ,gp,gu⟩);have HC:=af (show bs.length+1+1≤maxLen by unfold maxLen;omega);have eO:=af (show(bs.length+1+1)*136≤140737488355328 by omega);have l8:=af (fun o=>show w0.heap.size≤(W.alloc o).drew.heap.size by simp;omega);have HH:=af (fun o=>show(W.alloc o).drew.heap.size=W.heap.size+1 by simp);have jL:=af (show ∀j u,([ae b0,.bool x,ae y,ae b3,ae b4,ae b5,ae b6,ae b7,.bool (!b8),ae b9,ae fG,ae gh,ae gq,.bool (!gv),ae fZ,ae gp,ae gu]:List Value)[j]?=some u→(W.alloc (.cells #[ae b0,.bool x,ae y,ae b3,ae b4,ae b5,ae b6,ae b7,.bool (!b8),ae b9,ae fG,ae gh,ae gq,.bool (!gv),ae fZ,ae gp,ae gu] 244 (0,0))).drew.cell? ((Addr.mk W.heap.size 0 none).add j)=some u from World.news_of_block (fr:=(0,0)) (heap_alloc_new W _));have HF:=af (fun (o:Obj) (w1:World) (hg:(W.alloc o).drew.grownBy w1 (some g))=>(show w1.frozen? (ai db 3)=false∧w1.cell? (ai db 3)=some (aD g (bs.length+1) cap)from⟨(hg.frozen_far (ai db 3) aK aK).trans ((((Below.refl _ W).alloc aH o).drew.frozen (p:=ai db 3) hdW).trans q3),(hg.cell_far (ai db 3) aK aK).trans ((((Below.refl _ W).alloc aH o).drew.cell (p:=ai db 3) hdW).trans c3')⟩))
  clear c2 c3 hW hE hx hy d1 hdv hcc hfr HI;go_region_law (refine step_append_lies _ kt _ _ _ kt w0.heap.size 244 i0 pbz 17 136 underlying207 hi hz0 hz1 hz2 rfl aj _ (bs.length+1) ((bs++[c]).flatMap PB.cells) kt (HA _) (Addr.mk W.heap.size 0 none) 1 1 [ae b0,.bool x,ae y,ae b3,ae b4,ae b5,ae b6,ae b7,.bool (!b8),ae b9,ae fG,ae gh,ae gq,.bool (!gv),ae fZ,ae gp,ae gu] kt kt jL H1 aj HC eO (l8 _) (W.heap.size+1) (HH _) ?_;intro gg gX w1 hown1 hgrow hat hlt;obtain⟨q4,c4⟩:=HF.out _ _ hgrow)
  all_goals
   exact L9
 ·have zJ:(b0 == 31)=false:=by simpa using hdo
  obtain⟨x,hx⟩:=ak (c.iN);obtain⟨y,hy⟩:=ak ((dc.length:Int) - 1);have hxx:PB.opened ⟨b0,b1,b2,b3,⟨b4,b5,b6,b7,b8⟩,⟨b9,fG,gh,gq,gv⟩,fZ,gp,gu⟩ c dc.length=⟨b0,x,y,b3,⟨b4,b5,b6,b7,b8⟩,⟨b9,fG,gh,gq,gv⟩,fZ,gp,gu⟩:=by simp[PB.opened,hx,hy,zJ]
  rw[hxx];clear hxx;simp only[PB.val,PB.cells];go_enter func184,ntmps184;go_wp2_with fail;have hb0:Below w.heap.size w (w.alloc (.cells #[ae b0,.bool (b1),ae ((dc.length:Int) - 1),ae b3,ae b4,ae b5,ae b6,ae b7,.bool (!b8),ae b9,ae fG,ae gh,ae gq,.bool (!gv),ae fZ,ae gp,ae gu] 244 (0,0))):=aQ.alloc aH _;have hk0:=bJ w #[ae b0,.bool (b1),ae ((dc.length:Int) - 1),ae b3,ae b4,ae b5,ae b6,ae b7,.bool (!b8),ae b9,ae fG,ae gh,ae gq,.bool (!gv),ae fZ,ae gp,ae gu] 244;refine(HI _ hb0).mono ?_;rintro e wa ⟨rfl,hb1⟩;have hka:=hk0.sub hb1 aF;have gA:Below w.heap.size w wa:=hb0.trans (hb1.mono aF);obtain⟨E,hE⟩:=ak (w.heap.size);have d1a:=(gA.cell (p:=ai g (bs.length*17+1)) hg).trans d1;have p1:=hka.cell 1 _ rfl;have f1:=hka.frozen 1;simp only[List.getElem_toArray,List.getElem_cons_succ,List.getElem_cons_zero]at p1;obtain⟨W,hW⟩:=ak (wa.setCell (ai w.heap.size 1) (.bool c.iN):World);have fh:ay W E #[ae b0,.bool x,ae y,ae b3,ae b4,ae b5,ae b6,ae b7,.bool (!b8),ae b9,ae fG,ae gh,ae gq,.bool (!gv),ae fZ,ae gp,ae gu] 244:=by rw[hW,hE,hx,hy];have:=hka.set (o:=1) (.bool c.iN);simpa using this
  have hbW:Below w.heap.size w W:=by rw[hW];exact gA.setCell (by simp[hE]) _
  have cf:=af fh;have bu:=af hbW;clear fh hbW hb0 hk0 hb1 hka gA;go_upto_region 3 with fail
  rw[←hW];rw[←hE];have c3':W.cell? (ai db 3)=some (aD g (bs.length+1) cap):=(bu.cell (p:=ai db 3) hdl).trans c3;have q3:W.frozen? (ai db 3)=false:=(bu.frozen (p:=ai db 3) hdl).trans (HD.blk.frozen 3);have e0:=cf.cell 0 _ rfl;have e1:=cf.cell 1 _ rfl;have e2:=cf.cell 2 _ rfl;have e3:=cf.cell 3 _ rfl;have e4:=cf.cell 4 _ rfl;have e5:=cf.cell 5 _ rfl;have e6:=cf.cell 6 _ rfl;have e7:=cf.cell 7 _ rfl;have e8:=cf.cell 8 _ rfl;have e9:=cf.cell 9 _ rfl;have e10:=cf.cell 10 _ rfl;have e11:=cf.cell 11 _ rfl;have e12:=cf.cell 12 _ rfl;have e13:=cf.cell 13 _ rfl;have e14:=cf.cell 14 _ rfl;have e15:=cf.cell 15 _ rfl;have e16:=cf.cell 16 _ rfl;simp only[List.getElem_toArray,List.getElem_cons_succ,List.getElem_cons_zero]at e0 e1 e2 e3 e4 e5 e6 e7 e8 e9 e10 e11 e12 e13 e14 e15 e16;have hEW:E<W.heap.size:=cf.lt;have hdW:db<W.heap.size:=bF hdl bu.size;have hEd:E≠db:=ag;have hdE:db≠E:=ag;have hown:=af (show W.ownsRow w0.heap.size 244 17 (aD g (bs.length+1) cap) (bs.length+1) ((bs++[c]).flatMap PB.cells)from by have:=(HD.below bu).row;rw[cF,gJ]at this;exact this);have fR:w0.heap.size≤W.heap.size:=bB HD.jS.size bu.size;have hgW:g<W.heap.size:=bF hg bu.size;have hEg:E≠g:=ag;have hgE:g≠E:=ag;have hdg:db≠g:=ag;have HA:=af (fun o=>(hown.alloc o).drew);have H1:=af (PB.one ⟨b0,x,y,b3,⟨b4,b5,b6,b7,b8⟩,⟨b9,fG,gh,gq,gv⟩,fZ,gp,gu⟩);have HC:=af (show bs.length+1+1≤maxLen by unfold maxLen;omega);have eO:=af (show(bs.length+1+1)*136≤140737488355328 by omega);have l8:=af (fun o=>show w0.heap.size≤(W.alloc o).drew.heap.size by simp;omega);have HH:=af (fun o=>show(W.alloc o).drew.heap.size=W.heap.size+1 by simp);have jL:=af (show ∀j u,([ae b0,.bool x,ae y,ae b3,ae b4,ae b5,ae b6,ae b7,.bool (!b8),ae b9,ae fG,ae gh,ae gq,.bool (!gv),ae fZ,ae gp,ae gu]:List Value)[j]?=some u→(W.alloc (.cells #[ae b0,.bool x,ae y,ae b3,ae b4,ae b5,ae b6,ae b7,.bool (!b8),ae b9,ae fG,ae gh,ae gq,.bool (!gv),ae fZ,ae gp,ae gu] 244 (0,0))).drew.cell? ((Addr.mk W.heap.size 0 none).add j)=some u from World.news_of_block (fr:=(0,0)) (heap_alloc_new W _));have HF:=af (fun (o:Obj) (w1:World) (hg:(W.alloc o).drew.grownBy w1 (some g))=>(show w1.frozen? (ai db 3)=false∧w1.cell? (ai db 3)=some (aD g (bs.length+1) cap)from⟨(hg.frozen_far (ai db 3) aK aK).trans ((((Below.refl _ W).alloc aH o).drew.frozen (p:=ai db 3) hdW).trans q3),(hg.cell_far (ai db 3) aK aK).trans ((((Below.refl _ W).alloc aH o).drew.cell (p:=ai db 3) hdW).trans c3')⟩))
  clear c2 c3 hW hE hx hy d1 hdv hcc hfr HI d1a p1 f1;go_region_law (refine step_append_lies _ kt _ _ _ kt w0.heap.size 244 i0 pbz 17 136 underlying207 hi hz0 hz1 hz2 rfl aj _ (bs.length+1) ((bs++[c]).flatMap PB.cells) kt (HA _) (Addr.mk W.heap.size 0 none) 1 1 [ae b0,.bool x,ae y,ae b3,ae b4,ae b5,ae b6,ae b7,.bool (!b8),ae b9,ae fG,ae gh,ae gq,.bool (!gv),ae fZ,ae gp,ae gu] kt kt jL H1 aj HC eO (l8 _) (W.heap.size+1) (HH _) ?_;intro gg gX w1 hown1 hgrow hat hlt;obtain⟨q4,c4⟩:=HF.out _ _ hgrow)
  all_goals
   exact L9
end
end Go.Proofs.YtcphhbofjkenaaaGreatDoor
