import Derived.StillTailTactics
import Derived.Test.YtcphhbofjkenaaaGreatDoorM17
namespace Go.Proofs.YtcphhbofjkenaaaGreatDoor
open Go Go.RowKit
set_option linter.unusedVariables false
set_option linter.unusedSimpArgs false
set_option maxRecDepth 100000
set_option maxHeartbeats 16000000
section
open Go.RowKit
theorem Ua(n:Int)(h0:0≤n)(h:n≤1000000000):IntKind.i64.wrap n=n:=by
 have hb:IntKind.i64.bits=64:=rfl;simp[IntKind.wrap,hb];omega
theorem aj.setCells(b:Nat):∀(vs:List Value) (o:Nat) (w:World),aj (fun k=>k=b) w (w.setCells b o vs)
 |[],_,w=>aj.refl _ w
 |v :: r,o,w=>((aj.refl (fun k=>k=b) w).setCell (p:=⟨b,o,none⟩) rfl v).trans (aj.setCells b r (o+1) _)
theorem az.setFrom{b:Nat}{t:TypeId}:∀(vs pre rest:List Value) (w:World),az w b (pre++rest).toArray t→rest.length=vs.length→az (w.setCells b pre.length vs) b (pre++vs).toArray t
 |[],pre,rest,w,h,hl=>by
  have:rest=[]:=List.eq_nil_of_length_eq_zero hl;subst this;exact h
 |v :: vs,pre,[],w,h,hl=>by simp at hl
 |v :: vs,pre,r :: rest,w,h,hl=>by
  have h1:=h.set (o:=pre.length) v;have e:(pre++r :: rest).toArray.setIfInBounds pre.length v=((pre++[v])++rest).toArray:=by simp
  rw[e]at h1;have h2:=az.setFrom vs (pre++[v]) rest _ h1 (by simpa using hl)
  show az ((w.setCell ⟨b,pre.length,none⟩ v).setCells b (pre.length+1) vs) b _ t
  simpa using h2
theorem az.aa5{b:Nat}{t:TypeId}{w:World}{cs:Array Value}(vs:List Value)(h:az w b cs t)(hl:cs.size=vs.length):az (w.setCells b 0 vs) b vs.toArray t:=
 az.setFrom vs [] cs.toList w (by simpa using h) (by simpa using hl)
theorem XJ{w:World}{base:Nat}{e:TypeId}{size g n cap:Nat}{F cs:List Value}(h:w.ownsRow base e size (.slice (some ⟨g,0,none⟩) (n+1) cap) (n+1) (F++cs))(hF:F.length=n*size):
  w.ownsRow base e size (.slice (some ⟨g,0,none⟩) n cap) n F:=by
 refine⟨hF,Or.inr ?_⟩;rcases h.2 with ⟨hx,_⟩|⟨g',cap',cur,hv,hb,hh,h1,h2,h3,h4⟩
 ·cases hx
 ·obtain⟨rfl,rfl⟩:g=g'∧cap=cap':=by simpa using hv
  refine⟨g,cap,cur,rfl,hb,hh,by omega,h2,h3,?_⟩;have:=congrArg (List.take (n*size)) h4;rw[List.take_take,Nat.min_eq_left (Nat.mul_le_mul_right _ (by omega)),List.take_append_of_le_length (by omega),←hF,List.take_length]at this;rw[←hF];exact this
theorem DS.pop{w0 w:World}{rb bb db:Nat}{rc:RC}{ev bI bC:Value}{es:List PE}{nv nt:Int}{pc dc:List Int}{tk:Int}{bs:List PB}{b:PB}{kn:Inf}{g cap dg Ub:Nat}
  (h:DS w0 w rb rc bb db ev bI bC (.slice (some ⟨g,0,none⟩) (bs.length+1) cap) es nv nt pc dc tk (bs++[b]) kn) (hdv:bC=.slice (some ⟨dg,0,none⟩) dc.length Ub) (k:Nat) (x:Int) (hk:pc.length≤k):
  DS w0 ((w.setCell ⟨db,3,none⟩ (.slice (some ⟨g,0,none⟩) bs.length cap)).setCell ⟨dg,k,none⟩ (.int .i64 x)) rb rc bb db ev bI bC (.slice (some ⟨g,0,none⟩) bs.length cap) es nv nt pc (dc.set k x) tk bs kn:=by
 have hrb:=h.bK.1;have hgb:=h.bK.2;have hrow:=h.row;rw[List.length_append,List.length_singleton,List.flatMap_append,List.flatMap_singleton]at hrow;have KF:=XJ hrow (flat_length PB.cells 17 (fun _=>rfl) bs);have hc1:aj (fun b=>b=db) w (w.setCell ⟨db,3,none⟩ (.slice (some ⟨g,0,none⟩) bs.length cap)):=(aj.refl (fun b=>b=db) w).setCell (p:=⟨db,3,none⟩) rfl _;obtain⟨w1,hw1⟩:=exq (w.setCell ⟨db,3,none⟩ (.slice (some ⟨g,0,none⟩) bs.length cap));rw[←hw1]at hc1 ⊢;have n1:db≠bb:=by rintro rfl;exact absurd (bH h.blk h.sys.blk) (by decide)
 have n3:db≠rb:=by rintro rfl;exact absurd (bH h.blk hrb) (by decide)
 have nd:∀{base:Nat} {e:TypeId} {size n:Nat} {v:Value} {xs:List Value},w.ownsRow base e size v n xs→209≠e→∀k,v.ownBlock=some k→¬k=db:=fun ho hne k hk e=>ah ho h.blk hne (by rw[hk,e])
 have hb1:az w1 db (oN bb tk bC (.slice (some ⟨g,0,none⟩) bs.length cap) kn) 209:=by
  rw[hw1];have:=h.blk.set (o:=3) (.slice (some ⟨g,0,none⟩) bs.length cap);simpa [oN]using this
 have r1:=af KF hc1 (nd KF (by decide));have r2:=af h.iO hc1 (nd h.iO (by decide));have r3:=af h.sys.iO hc1 (nd h.sys.iO (by decide));have r4:=af h.sys.row hc1 (nd h.sys.row (by decide));have r5:az w1 bb _ _:=h.sys.blk.aA hc1 (fun e=>n1 e.symm);have r6:=hrb.aA hc1 (fun e=>n3 e.symm);have r6g:=hgb.aA hc1 (fun e=>kG h.blk hgb (by decide) e.symm);have r7:=h.tab.aA hc1 (fun k e=>by have:=h.new;have:=h.tl;omega);have hc2:aj (fun b=>b=dg) w1 (w1.setCell ⟨dg,k,none⟩ (.int .i64 x)):=(aj.refl (fun b=>b=dg) w1).setCell (p:=⟨dg,k,none⟩) rfl _;have hdo:bC.ownBlock=some dg:=by rw[hdv];rfl
 have m1:∀{c:Array Value} {t:TypeId} {b:Nat},az w1 b c t→t≠3→¬b=dg:=fun hb hne e=>ah r2 hb hne (by rw[hdo,e])
 have m2:∀{base:Nat} {e:TypeId} {size n:Nat} {v:Value} {xs:List Value},w1.ownsRow base e size v n xs→e≠3→∀k,v.ownBlock=some k→¬k=dg:=fun ho hne k hk e=>bQ ho r2 hne hk (by rw[hdo,e])
 have hgd:3≤dg:=by
  rcases h.iO.2 with ⟨hx,_⟩|⟨g',cap',cur,hv,hb,_⟩
  ·rw[hdv]at hx;cases hx
  ·rw[hdv]at hv;simp at hv;omega
 subst hdv;refine⟨⟨r5.aA hc2 (m1 r5 (by decide)),af r4 hc2 (m2 r4 (by decide)),sQ r3 dg k _ (fun _=>by omega),h.sys.up⟩,hb1.aA hc2 (m1 hb1 (by decide)),?_,af r1 hc2 (m2 r1 (by decide)),r7.aA hc2 (fun k e=>by omega),⟨r6.aA hc2 (m1 r6 (by decide)),r6g.aA hc2 (m1 r6g (by decide))⟩,h.ru,h.tl,?_,h.new,h.loc,?_⟩
 ·have:=fO r2 k (.int .i64 x)
  simpa [qN,List.map_set]using this
 ·obtain⟨l,rfl⟩:=h.pre
  exact⟨l.set (k - pc.length) x,by rw[List.set_append_right _ _ hk]⟩
 ·refine(h.Cf.jG hc1 (fun k hk e=>by have:=h.new;omega)).jG hc2 (fun k hk e=>?_)
  rcases h.loc with h1|⟨k',h1,h2⟩
  ·exact Or.inr (by rw[←h1,e];rfl)
  ·rw[hdo]at h1;simp at h1;omega
theorem DS.apart{w0 w w':World}{rb bb db R:Nat}{rc:RC}{ev bI bC bv:Value}{es:List PE}{nv nt:Int}{pc dc:List Int}{tk:Int}{bs:List PB}{kn:Inf}
  (h:DS w0 w rb rc bb db ev bI bC bv es nv nt pc dc tk bs kn) (hc:aj (fun k=>k=R) w w') (hR:w0.heap.size≤R) (n1:bb≠R) (n2:db≠R) (n3:rb≠R) (n4:ev.ownBlock≠some R) (n5:bI.ownBlock≠some R) (n6:bC.ownBlock≠some R) (n7:bv.ownBlock≠some R) (n8:rc.2.1≠R):
  DS w0 w' rb rc bb db ev bI bC bv es nv nt pc dc tk bs kn:=by
 have hrb:=h.bK.1;have hgb:=h.bK.2;have no:∀{v:Value},v.ownBlock≠some R→∀k,v.ownBlock=some k→¬k=R:=fun hn k hk e=>hn (by rw[hk,e])
 exact⟨h.sys.aA hc n1 (no n4) (no n5),h.blk.aA hc n2,af h.iO hc (no n6),af h.row hc (no n7),h.tab.aA hc (fun k e=>by have:=h.tl;omega),⟨hrb.aA hc n3,hgb.aA hc n8⟩,h.ru,h.tl,h.pre,h.new,h.loc,h.Cf.jG hc (fun k hk e=>by omega)⟩
theorem DS.there{w0 w:World}{rb bb db R:Nat}{rc:RC}{ev bI bC bv:Value}{es:List PE}{nv nt:Int}{pc dc:List Int}{tk:Int}{bs:List PB}{kn:Inf}
  (h:DS w0 w rb rc bb db ev bI bC bv es nv nt pc dc tk bs kn) (hR:w.heap.size≤R):bb≠R∧db≠R∧rb≠R∧ev.ownBlock≠some R∧bI.ownBlock≠some R∧bC.ownBlock≠some R∧bv.ownBlock≠some R∧rc.2.1≠R:=by
 have hrb:=h.bK.1;have hgb:=h.bK.2;have h1:=h.sys.blk.lt;have h2:=h.blk.lt;have h3:=hrb.lt;have h4:=hgb.lt;refine⟨by omega,by omega,by omega,fun e=>?_,fun e=>?_,fun e=>?_,fun e=>?_,by omega⟩
 ·have:=bg h.sys.row e;omega
 ·have:=bg h.sys.iO e;omega
 ·have:=bg h.iO e;omega
 ·have:=bg h.row e;omega
theorem xh{w0 w:World}{rb bb db:Nat}{rc:RC}{ev bI bC bv:Value}{es:List PE}{nv nt:Int}{pc dc:List Int}{tk:Int}{bs:List PB}{b:PB}{kn:Inf}
  (h:DS w0 w rb rc bb db ev bI bC bv es nv nt pc dc tk (bs++[b]) kn) (k:Nat) (hk:b.hole=k) (dM:pc.length≤k) (hk2:k<dc.length) (hl:bs.length≤100000000) (hd:dc.length≤100000000):
  Calls Tryz.prog 185 #[.pointer (some ⟨db,0,none⟩)] w fun e w'=>e=.returned b.val∧(∃rE,DS w0 w' rb rc bb db ev bI bC rE es nv nt pc (dc.set k dc.length) tk bs kn)∧aj (fun k=>k=db∨bC.ownBlock=some k) w w':=by
 obtain⟨g,cap,hv,hcap,hge,hg,hfr,hcell⟩:=h.last;have HI:=ast (fun w' (hb:Below w.heap.size w w')=>bZ (h.below (w':=w') hb) (by omega) g cap hv hcap);obtain⟨c0,c1,c2,c3⟩:=h.def;obtain⟨dg,Ub,hdv,_,hdg,hdc,_,hcc⟩:=aB h.iO (by omega);have hdl:=h.blk.lt;have HD:=ast h;obtain⟨b0,b1,b2,b3,⟨b4,b5,b6,b7,b8⟩,⟨b9,sG,uw,uy,uz⟩,uA,uB,uC⟩:=b;subst hv;simp only at hk;subst hk;have hke:∃u,w.cell? ⟨dg,k,none⟩=some (.int .i64 u):=⟨dc[k],hcc k _ (by simp[qN,hk2])⟩;obtain⟨u,hu⟩:=hke;clear h c0 c1 hcc hfr;rw[hdv]at c2;simp only[PB.val,PB.cells];go_enter Tryz.func185,Tryz.ntmps185
 go_wp2_with fail
 have hb0:Below w.heap.size w (w.alloc (.cells #[.int .i64 0,.bool false,.int .i64 0,.int .i64 0,.int .i64 0,.int .i64 0,.int .i64 0,.int .i64 0,.bool false,.int .i64 0,.int .i64 0,.int .i64 0,.int .i64 0,.bool false,.int .i64 0,.int .i64 0,.int .i64 0] 244 (0,0))):=brq.alloc nrq _;have hk0:=ay w #[.int .i64 0,.bool false,.int .i64 0,.int .i64 0,.int .i64 0,.int .i64 0,.int .i64 0,.int .i64 0,.bool false,.int .i64 0,.int .i64 0,.int .i64 0,.int .i64 0,.bool false,.int .i64 0,.int .i64 0,.int .i64 0] 244;refine(HI.out _ hb0).mono ?_;rintro e w1 ⟨rfl,hb1⟩;have hka:=hk0.sub hb1 (by simp);have lK:Below w.heap.size w w1:=hb0.trans (hb1.mono (by simp));have d0:w1.cell? ⟨g,bs.length*17,none⟩=some (.int .i64 b0):=(lK.cell (p:=⟨g,bs.length*17+0,none⟩) hg).trans (hcell 0 _ rfl);have d1:w1.cell? ⟨g,bs.length*17+1,none⟩=some (.bool b1):=(lK.cell (p:=⟨g,bs.length*17+1,none⟩) hg).trans (hcell 1 _ rfl);have d2:w1.cell? ⟨g,bs.length*17+2,none⟩=some (.int .i64 (k:Int)):=(lK.cell (p:=⟨g,bs.length*17+2,none⟩) hg).trans (hcell 2 _ rfl);have d3:w1.cell? ⟨g,bs.length*17+3,none⟩=some (.int .i64 b3):=(lK.cell (p:=⟨g,bs.length*17+3,none⟩) hg).trans (hcell 3 _ rfl);have d4:w1.cell? ⟨g,bs.length*17+4,none⟩=some (.int .i64 b4):=(lK.cell (p:=⟨g,bs.length*17+4,none⟩) hg).trans (hcell 4 _ rfl);have d5:w1.cell? ⟨g,bs.length*17+5,none⟩=some (.int .i64 b5):=(lK.cell (p:=⟨g,bs.length*17+5,none⟩) hg).trans (hcell 5 _ rfl)
 have d6:w1.cell? ⟨g,bs.length*17+6,none⟩=some (.int .i64 b6):=(lK.cell (p:=⟨g,bs.length*17+6,none⟩) hg).trans (hcell 6 _ rfl);have d7:w1.cell? ⟨g,bs.length*17+7,none⟩=some (.int .i64 b7):=(lK.cell (p:=⟨g,bs.length*17+7,none⟩) hg).trans (hcell 7 _ rfl);have d8:w1.cell? ⟨g,bs.length*17+8,none⟩=some (.bool (!b8)):=(lK.cell (p:=⟨g,bs.length*17+8,none⟩) hg).trans (hcell 8 _ rfl);have d9:w1.cell? ⟨g,bs.length*17+9,none⟩=some (.int .i64 b9):=(lK.cell (p:=⟨g,bs.length*17+9,none⟩) hg).trans (hcell 9 _ rfl);have d10:w1.cell? ⟨g,bs.length*17+10,none⟩=some (.int .i64 sG):=(lK.cell (p:=⟨g,bs.length*17+10,none⟩) hg).trans (hcell 10 _ rfl);have d11:w1.cell? ⟨g,bs.length*17+11,none⟩=some (.int .i64 uw):=(lK.cell (p:=⟨g,bs.length*17+11,none⟩) hg).trans (hcell 11 _ rfl);have d12:w1.cell? ⟨g,bs.length*17+12,none⟩=some (.int .i64 uy):=(lK.cell (p:=⟨g,bs.length*17+12,none⟩) hg).trans (hcell 12 _ rfl);have d13:w1.cell? ⟨g,bs.length*17+13,none⟩=some (.bool (!uz)):=(lK.cell (p:=⟨g,bs.length*17+13,none⟩) hg).trans (hcell 13 _ rfl);have d14:w1.cell? ⟨g,bs.length*17+14,none⟩=some (.int .i64 uA):=(lK.cell (p:=⟨g,bs.length*17+14,none⟩) hg).trans (hcell 14 _ rfl);have d15:w1.cell? ⟨g,bs.length*17+15,none⟩=some (.int .i64 uB):=(lK.cell (p:=⟨g,bs.length*17+15,none⟩) hg).trans (hcell 15 _ rfl);have d16:w1.cell? ⟨g,bs.length*17+16,none⟩=some (.int .i64 uC):=(lK.cell (p:=⟨g,bs.length*17+16,none⟩) hg).trans (hcell 16 _ rfl)
 have dX:=ast lK;have HKA:=ast hka;have iD:=hka.lt;clear hb0 hk0 hb1 hka hcell lK HI;obtain⟨W,hW⟩:=exq (w1.alloc (.cells #[.int .i64 b0,.bool b1,.int .i64 (k:Int),.int .i64 b3,.int .i64 b4,.int .i64 b5,.int .i64 b6,.int .i64 b7,.bool (!b8),.int .i64 b9,.int .i64 sG,.int .i64 uw,.int .i64 uy,.bool (!uz),.int .i64 uA,.int .i64 uB,.int .i64 uC] 244 (0,0)):World);obtain⟨E,hE⟩:=exq (w1.heap.size);have sF:az W E #[.int .i64 b0,.bool b1,.int .i64 (k:Int),.int .i64 b3,.int .i64 b4,.int .i64 b5,.int .i64 b6,.int .i64 b7,.bool (!b8),.int .i64 b9,.int .i64 sG,.int .i64 uw,.int .i64 uy,.bool (!uz),.int .i64 uA,.int .i64 uB,.int .i64 uC] 244:=by rw[hW,hE];exact ay w1 _ _
 have hbW:Below w.heap.size w W:=by rw[hW];exact dX.out.alloc dX.out.size _
 have Px:=HKA.out.alloc (.cells #[.int .i64 b0,.bool b1,.int .i64 (k:Int),.int .i64 b3,.int .i64 b4,.int .i64 b5,.int .i64 b6,.int .i64 b7,.bool (!b8),.int .i64 b9,.int .i64 sG,.int .i64 uw,.int .i64 uy,.bool (!uz),.int .i64 uA,.int .i64 uB,.int .i64 uC] 244 (0,0));rw[←hW]at Px;have hER:E≠w.heap.size:=by omega
 have jD:=ast sF;have EW:=ast hbW;have HKR:=ast Px;have c3':W.cell? ⟨db,3,none⟩=some (.slice (some ⟨g,0,none⟩) (bs.length+1) cap):=(hbW.cell (p:=⟨db,3,none⟩) hdl).trans c3;have c2':W.cell? ⟨db,2,none⟩=some (.slice (some ⟨dg,0,none⟩) dc.length Ub):=(hbW.cell (p:=⟨db,2,none⟩) hdl).trans c2;have q3:W.frozen? ⟨db,3,none⟩=false:=(hbW.frozen (p:=⟨db,3,none⟩) hdl).trans (HD.out.blk.frozen 3);have JI:W.cell? ⟨dg,k,none⟩=some (.int .i64 u):=(hbW.cell (p:=⟨dg,k,none⟩) hdg).trans hu
 have hfz:W.frozen? ⟨dg,k,none⟩=false:=by
  rw[hbW.frozen (p:=⟨dg,k,none⟩) hdg];rcases HD.out.iO.2 with ⟨hx,_⟩|⟨g',cap',cur,hv,_,hh,_⟩
  ·rw[hdv]at hx;cases hx
  ·obtain⟨rfl,_⟩:dg=g'∧Ub=cap':=by rw[hdv]at hv;simpa using hv
   simp[World.frozen?,hh]
 have e2:W.cell? ⟨E,2,none⟩=some (.int .i64 k):=sF.cell 2 _ rfl;have hgd:dg≠db:=fun e=>ah HD.out.iO HD.out.blk (by decide) (by rw[hdv,e];rfl)
 have ajU:E≠db:=by have:=dX.out.size;omega
 have aps:E≠dg:=by have:=dX.out.size;omega
 have apt:w.heap.size≠db:=by omega
 have apu:w.heap.size≠dg:=by omega
 have hkk:(k:Int)<(dc.length:Int):=by omega
 have ZF:(bs.length:Int)≤(cap:Int):=by omega
 have Uc:(0:Int)≤(bs.length:Int):=by omega
 have hwr:IntKind.i64.wrap (bs.length:Int)=(bs.length:Int):=Ua _ (by omega) (by omega);have Ud:(bs.length:Int)≤100000000:=by omega
 have hk0:(0:Int)≤(k:Int):=by omega
 go_upto_region 2 with fail
 rw[←hW];rw[←hE];clear hW hE sF hbW Px d0 d1 d2 d3 d4 d5 d6 d7 d8 d9 d10 d11 d12 d13 d14 d15 d16 dX HKA c2 c3 hu;go_still_tail 12,(by kernel_rfl)
 clear hwr Ud Uc ZF;obtain⟨X,hX⟩:=exq ((W.setCell ⟨db,3,none⟩ (.slice (some ⟨g,0,none⟩) bs.length cap)).drew:World);have vF:aj (fun b=>b=db) W X:=by rw[hX];exact((aj.refl (fun b=>b=db) W).setCell (p:=⟨db,3,none⟩) rfl _).drew
 have apv:db<W.heap.size:=Nat.lt_of_lt_of_le hdl EW.out.size;have ajV:dg<W.heap.size:=Nat.lt_of_lt_of_le hdg EW.out.size
 have x2:X.cell? ⟨db,2,none⟩=some (.slice (some ⟨dg,0,none⟩) dc.length Ub):=by
  have hq:=((HD.out.below EW.out).blk.set (o:=3) (.slice (some ⟨g,0,none⟩) bs.length cap)).cell 2 bC (by simp[oN]);rw[hX,←hdv];exact hq
 have xe:X.cell? ⟨E,2,none⟩=some (.int .i64 k):=(vF.cell (p:=⟨E,2,none⟩) jD.out.lt ajU).trans e2;have xu:X.cell? ⟨dg,k,none⟩=some (.int .i64 u):=(vF.cell (p:=⟨dg,k,none⟩) ajV hgd).trans JI;have xf:X.frozen? ⟨dg,k,none⟩=false:=by rw[hX];simpa using hfz
 have HX:=ast hX;have vz:=ast vF;go_upto_region 3 with fail
 rw[←hX];clear hX vF c2' c3' q3 JI hfz e2;go_still_tail 11,(by kernel_rfl)
 obtain⟨Y,hY⟩:=exq ((X.setCell ⟨dg,k,none⟩ (.int .i64 dc.length)).drew:World);have HY:=ast hY;go_upto_region 4 with fail
 rw[←hY];have Ci:aj (fun b=>b=db∨b=dg) W Y:=(vz.out.mono (fun _ _ e=>Or.inl e)).trans (by rw[hY];exact((aj.refl (fun b=>b=db∨b=dg) X).setCell (p:=⟨dg,k,none⟩) (Or.inr rfl) _).drew);have hYE:az Y E _ _:=jD.out.aA Ci (by rintro (e|e)<;>omega);have hYR:az Y w.heap.size _ _:=HKR.out.aA Ci (by rintro (e|e)<;>omega);have hrg:Y.rangeAt E 0 [.int .i64 b0,.bool b1,.int .i64 (k:Int),.int .i64 b3,.int .i64 b4,.int .i64 b5,.int .i64 b6,.int .i64 b7,.bool (!b8),.int .i64 b9,.int .i64 sG,.int .i64 uw,.int .i64 uy,.bool (!uz),.int .i64 uA,.int .i64 uB,.int .i64 uC]:=fun j v hv=>by rw[Nat.zero_add];exact hYE.cell j v (by simpa using hv)
 have hth:Y.there w.heap.size 0 17:=fun j hj=>⟨by
   rw[Nat.zero_add];have:j<(#[Value.int .i64 0,.bool false,.int .i64 0,.int .i64 0,.int .i64 0,.int .i64 0,.int .i64 0,.int .i64 0,.bool false,.int .i64 0,.int .i64 0,.int .i64 0,.int .i64 0,.bool false,.int .i64 0,.int .i64 0,.int .i64 0]:Array Value).size:=hj;rw[hYR.cell j _ (Array.getElem?_eq_getElem this)];rfl,hYR.frozen _⟩
 clear hY x2 xe xu xf;refine wp_region_list ?_;refine wpList_load_mid rfl _ _ rfl E 0 rfl [.int .i64 b0,.bool b1,.int .i64 (k:Int),.int .i64 b3,.int .i64 b4,.int .i64 b5,.int .i64 b6,.int .i64 b7,.bool (!b8),.int .i64 b9,.int .i64 sG,.int .i64 uw,.int .i64 uy,.bool (!uz),.int .i64 uA,.int .i64 uB,.int .i64 uC] _ hrg Tryz.underlying244 rfl (by kernel_rfl) ?_;refine wpList_store_mid rfl _ _ _ rfl w.heap.size 0 ([.int .i64 b0,.bool b1,.int .i64 (k:Int),.int .i64 b3,.int .i64 b4,.int .i64 b5,.int .i64 b6,.int .i64 b7,.bool (!b8),.int .i64 b9,.int .i64 sG,.int .i64 uw,.int .i64 uy,.bool (!uz),.int .i64 uA,.int .i64 uB,.int .i64 uC]:List Value).toArray rfl rfl hth (by kernel_rfl) (by simp[Value.oneCell']) ?_;obtain⟨Z,hZ⟩:=exq (Y.setCells w.heap.size 0 [.int .i64 b0,.bool b1,.int .i64 (k:Int),.int .i64 b3,.int .i64 b4,.int .i64 b5,.int .i64 b6,.int .i64 b7,.bool (!b8),.int .i64 b9,.int .i64 sG,.int .i64 uw,.int .i64 uy,.bool (!uz),.int .i64 uA,.int .i64 uB,.int .i64 uC]:World);have Xu:=hYR.aa5 [.int .i64 b0,.bool b1,.int .i64 (k:Int),.int .i64 b3,.int .i64 b4,.int .i64 b5,.int .i64 b6,.int .i64 b7,.bool (!b8),.int .i64 b9,.int .i64 sG,.int .i64 uw,.int .i64 uy,.bool (!uz),.int .i64 uA,.int .i64 uB,.int .i64 uC] rfl;have Cj:=aj.setCells w.heap.size [.int .i64 b0,.bool b1,.int .i64 (k:Int),.int .i64 b3,.int .i64 b4,.int .i64 b5,.int .i64 b6,.int .i64 b7,.bool (!b8),.int .i64 b9,.int .i64 sG,.int .i64 uw,.int .i64 uy,.bool (!uz),.int .i64 uA,.int .i64 uB,.int .i64 uC] 0 Y
 rw[←hZ]at Xu Cj;rw[←hZ];have Zf:=ast Xu;have HZ:=ast Cj;have EO:=ast Ci;clear Xu Cj hZ hrg hth hYE hYR Ci;go_wp2_with fail
 refine bodyPost_ret (results_cell_row rfl _ _ w.heap.size _ _ _ _ rfl Zf.out Tryz.underlying244 rfl (by kernel_rfl)) rfl ⟨rfl,?_,?_⟩
 ·have EZ:=(HD.out.below EW.out).pop hdv k (dc.length:Int) dM
  have Aw:aj (fun k=>k=w.heap.size) ((W.setCell ⟨db,3,none⟩ (.slice (some ⟨g,0,none⟩) bs.length cap)).setCell ⟨dg,k,none⟩ (.int .i64 dc.length)) Z:=by
   have hq:=HZ.out;rw[HY.out,HX.out]at hq;exact⟨hq.os,hq.tape,hq.output,hq.size,hq.block⟩
  obtain⟨n1,n2,n3,n4,n5,n6,n7,n8⟩:=HD.out.there nrq;exact⟨_,EZ.apart Aw HD.out.Cf.size n1 n2 n3 n4 n5 n6 n7 n8⟩
 ·refine((aj.au EW.out).trans (EO.out.mono (fun j _ e=>?_))).iw (HZ.out.mono (fun j _ e=>by omega))
  rcases e with e|e
  ·exact Or.inl e
  ·exact Or.inr (by rw[hdv,e];rfl)
end
end Go.Proofs.YtcphhbofjkenaaaGreatDoor
