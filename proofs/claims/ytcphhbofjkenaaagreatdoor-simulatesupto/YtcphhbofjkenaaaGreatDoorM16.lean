import Derived.Test.YtcphhbofjkenaaaGreatDoorMy
import Derived.StillTailTactics
import Derived.Test.YtcphhbofjkenaaaGreatDoorM15
namespace Go.Proofs.YtcphhbofjkenaaaGreatDoor
open Go Go.RowKit Proofs.Tryz
set_option linter.unusedVariables false
set_option linter.unusedSimpArgs false
set_option maxRecDepth 100000
set_option maxHeartbeats 16000000
variable{b g cap rb bb db R:Nat}{t:TypeId}{w w0:World}{rc:RC}{ev aX aT bv:Value}{es:List PE}{nv nt tk:Int}{pc dc:List Int}{bs:List PB}{kn:Inf}
section
open Go.RowKit
theorem abi(n:Int)(h0:0≤n)(h:n≤1000000000):IntKind.i64.wrap n=n:=by
 have hb:IntKind.i64.bits=64:=rfl;simp[IntKind.wrap,hb];omega
theorem aq.setCells(b:Nat):∀(vs:List Value) (o:Nat) (w:World),aq (fun k=>k=b) w (w.setCells b o vs)
 |[],_,w=>aq.refl _ w
 |v :: r,o,w=>((aq.refl (fun k=>k=b) w).setCell (p:=ai b o) rfl v).trans (aq.setCells b r (o+1) _)
theorem ay.setFrom:∀(vs pre rest:List Value) (w:World),ay w b (pre++rest).toArray t→rest.length=vs.length→ay (w.setCells b pre.length vs) b (pre++vs).toArray t
 |[],pre,rest,w,h,hl=>by
  have:rest=[]:=List.eq_nil_of_length_eq_zero hl;subst this;exact h
 |v :: vs,pre,[],w,h,hl=>by simp at hl
 |v :: vs,pre,r :: rest,w,h,hl=>by
  have h1:=h.set (o:=pre.length) v;have e:(pre++r :: rest).toArray.setIfInBounds pre.length v=((pre++[v])++rest).toArray:=aF;rw[e]at h1;have h2:=ay.setFrom vs (pre++[v]) rest _ h1 (by simpa using hl)
  show ay ((w.setCell (ai b pre.length) v).setCells b (pre.length+1) vs) b _ t
  simpa using h2
theorem ay.Zm{cs:Array Value}(vs:List Value)(h:ay w b cs t)(hl:cs.size=vs.length):ay (w.setCells b 0 vs) b vs.toArray t:=
 ay.setFrom vs [] cs.toList w Bt (by simpa using hl)
theorem Wd{base:Nat}{e:TypeId}{size n:Nat}{F cs:List Value}(h:w.ownsRow base e size (aD g (n+1) cap) (n+1) (F++cs))(hF:F.length=n*size):
  w.ownsRow base e size (aD g n cap) n F:=by
 refine⟨hF,aA ?_⟩;rcases h.2 with ⟨hx,_⟩|⟨g',cap',cur,hv,hb,hh,h1,h2,h3,h4⟩
 ·cases hx
 ·obtain⟨rfl,rfl⟩:g=g'∧cap=cap':=by simpa using hv
  refine⟨g,cap,cur,rfl,hb,hh,ag,h2,h3,?_⟩;have:=congrArg (List.take (n*size)) h4;rw[List.take_take,Nat.min_eq_left (Nat.mul_le_mul_right _ ag),List.take_append_of_le_length ag,←hF,List.take_length]at this;rw[←hF];exact this
theorem DS.pop{b:PB}{dg AO:Nat}
  (h:DS w0 w rb rc bb db ev aX aT (aD g (bs.length+1) cap) es nv nt pc dc tk (bs++[b]) kn) (hdv:aT=aD dg dc.length AO) (k:Nat) (x:Int) (hk:pc.length≤k):
  DS w0 ((w.setCell (ai db 3) (aD g bs.length cap)).setCell (ai dg k) (ae x)) rb rc bb db ev aX aT (aD g bs.length cap) es nv nt pc (dc.set k x) tk bs kn:=by
 have hrb:=h.aO.1;have hgb:=h.aO.2;have hrow:=h.row;rw[cF,gJ,kS,List.flatMap_singleton]at hrow;have wR:=Wd hrow (flat_length PB.cells 17 (fun _=>rfl) bs);have hc1:aq (fun b=>b=db) w (w.setCell (ai db 3) (aD g bs.length cap)):=(aq.refl (fun b=>b=db) w).setCell (p:=ai db 3) rfl _;obtain⟨w1,hw1⟩:=ak (w.setCell (ai db 3) (aD g bs.length cap));rw[←hw1]at hc1 ⊢;have n1:db≠bb:=Fu;have n3:db≠rb:=Cm;have nd:∀{base:Nat} {e:TypeId} {size n:Nat} {v:Value} {xs:List Value},w.ownsRow base e size v n xs→209≠e→∀k,v.ownBlock=some k→¬k=db:=fun ho hne k hk e=>aZ ho h.blk hne jr
 have hb1:ay w1 db (kV bb tk aT (aD g bs.length cap) kn) 209:=by
  rw[hw1];have:=h.blk.set (o:=3) (aD g bs.length cap);simpa [kV]using this
 have r1:=aR wR hc1 (nd wR aj);have r2:=aR h.bG hc1 (nd h.bG aj);have r3:=aR h.sys.bG hc1 (nd h.sys.bG aj);have r4:=aR h.sys.row hc1 (nd h.sys.row aj);have r5:ay w1 bb _ _:=h.sys.blk.aB hc1 (fun e=>n1 e.symm);have r6:=hrb.aB hc1 (fun e=>n3 e.symm);have r6g:=hgb.aB hc1 (fun e=>pK h.blk hgb aj e.symm);have r7:=h.tab.aB hc1 (fun k e=>zM);have hc2:aq (fun b=>b=dg) w1 (w1.setCell (ai dg k) (ae x)):=(aq.refl (fun b=>b=dg) w1).setCell (p:=ai dg k) rfl _;have hdo:aT.ownBlock=some dg:=by rw[hdv];rfl
 have m1:∀{c:Array Value} {t:TypeId} {b:Nat},ay w1 b c t→t≠3→¬b=dg:=fun hb hne e=>aZ r2 hb hne (by rw[hdo,e])
 have m2:∀{base:Nat} {e:TypeId} {size n:Nat} {v:Value} {xs:List Value},w1.ownsRow base e size v n xs→e≠3→∀k,v.ownBlock=some k→¬k=dg:=fun ho hne k hk e=>fw ho r2 hne hk (by rw[hdo,e])
 have hgd:3≤dg:=by
  rcases h.bG.2 with ⟨hx,_⟩|⟨g',cap',cur,hv,hb,_⟩
  ·rw[hdv]at hx;cases hx
  ·rw[hdv]at hv;simp at hv;omega
 subst hdv;refine⟨⟨r5.aB hc2 (m1 r5 aj),aR r4 hc2 (m2 r4 aj),Zn r3 dg k _ (fun _=>ag),h.sys.up⟩,hb1.aB hc2 (m1 hb1 aj),?_,aR r1 hc2 (m2 r1 aj),r7.aB hc2 (fun k e=>ag),⟨r6.aB hc2 (m1 r6 aj),r6g.aB hc2 (m1 r6g aj)⟩,h.ru,h.tl,?_,h.new,h.loc,?_⟩
 ·have:=iJ r2 k (ae x)
  simpa [sM,List.map_set]using this
 ·obtain⟨l,rfl⟩:=h.pre
  exact⟨l.set (k - pc.length) x,by rw[List.set_append_right _ _ hk]⟩
 ·refine(h.jS.fz hc1 (fun k hk e=>zj)).fz hc2 (fun k hk e=>?_)
  rcases h.loc with h1|⟨k',h1,h2⟩
  ·exact aA (by rw[←h1,e];rfl)
  ·rw[hdo]at h1;simp at h1;omega
theorem DS.apart{w':World}
  (h:DS w0 w rb rc bb db ev aX aT bv es nv nt pc dc tk bs kn) (hc:aq (fun k=>k=R) w w') (hR:w0.heap.size≤R) (n1:bb≠R) (n2:db≠R) (n3:rb≠R) (n4:ev.ownBlock≠some R) (n5:aX.ownBlock≠some R) (n6:aT.ownBlock≠some R) (n7:bv.ownBlock≠some R) (n8:rc.2.1≠R):
  DS w0 w' rb rc bb db ev aX aT bv es nv nt pc dc tk bs kn:=by
 have hrb:=h.aO.1;have hgb:=h.aO.2;have no:∀{v:Value},v.ownBlock≠some R→∀k,v.ownBlock=some k→¬k=R:=fun hn k hk e=>hn jr
 exact⟨h.sys.aB hc n1 (no n4) (no n5),h.blk.aB hc n2,aR h.bG hc (no n6),aR h.row hc (no n7),h.tab.aB hc (fun k e=>by have:=h.tl;omega),⟨hrb.aB hc n3,hgb.aB hc n8⟩,h.ru,h.tl,h.pre,h.new,h.loc,h.jS.fz hc (fun k hk e=>ag)⟩
theorem DS.there
  (h:DS w0 w rb rc bb db ev aX aT bv es nv nt pc dc tk bs kn) (hR:w.heap.size≤R):bb≠R∧db≠R∧rb≠R∧ev.ownBlock≠some R∧aX.ownBlock≠some R∧aT.ownBlock≠some R∧bv.ownBlock≠some R∧rc.2.1≠R:=by
 have hrb:=h.aO.1;have hgb:=h.aO.2;have h1:=h.sys.blk.lt;have h2:=h.blk.lt;have h3:=hrb.lt;have h4:=hgb.lt;refine⟨ag,ag,ag,fun e=>?_,fun e=>?_,fun e=>?_,fun e=>?_,ag⟩
 ·have:=cJ h.sys.row e;omega
 ·have:=cJ h.sys.bG e;omega
 ·have:=cJ h.bG e;omega
 ·have:=cJ h.row e;omega
theorem Gi{b:PB}
  (h:DS w0 w rb rc bb db ev aX aT bv es nv nt pc dc tk (bs++[b]) kn) (k:Nat) (hk:b.hole=k) (bA:pc.length≤k) (hk2:k<dc.length) (hl:bs.length≤100000000) (hd:dc.length≤100000000):
  Calls prog 185 #[ax db] w fun e w'=>e=.returned b.val∧(∃eK,DS w0 w' rb rc bb db ev aX aT eK es nv nt pc (dc.set k dc.length) tk bs kn)∧aq (fun k=>k=db∨aT.ownBlock=some k) w w':=by
 obtain⟨g,cap,hv,hcap,hge,hg,hfr,hcell⟩:=h.last;have HI:=af (fun w' (hb:Below w.heap.size w w')=>ko (h.below (w':=w') hb) ag g cap hv hcap);obtain⟨c0,c1,c2,c3⟩:=h.def;obtain⟨dg,AO,hdv,_,hdg,hdc,_,hcc⟩:=cd h.bG ag;have hdl:=h.blk.lt;have HD:=af h;obtain⟨b0,b1,b2,b3,⟨b4,b5,b6,b7,b8⟩,⟨b9,fG,gh,gq,gv⟩,fZ,gp,gu⟩:=b;subst hv;simp only at hk;subst hk;have hke:∃u,w.cell? (ai dg k)=some (ae u):=⟨dc[k],hcc k _ (by simp[sM,hk2])⟩;obtain⟨u,hu⟩:=hke;clear h c0 c1 hcc hfr;rw[hdv]at c2;simp only[PB.val,PB.cells];go_enter func185,ntmps185;go_wp2_with fail;have hb0:Below w.heap.size w (w.alloc (.cells #[ae 0,.bool false,ae 0,ae 0,ae 0,ae 0,ae 0,ae 0,.bool false,ae 0,ae 0,ae 0,ae 0,.bool false,ae 0,ae 0,ae 0] 244 (0,0))):=aQ.alloc aH _;have hk0:=bJ w #[ae 0,.bool false,ae 0,ae 0,ae 0,ae 0,ae 0,ae 0,.bool false,ae 0,ae 0,ae 0,ae 0,.bool false,ae 0,ae 0,ae 0] 244;refine(HI _ hb0).mono ?_;rintro e w1 ⟨rfl,hb1⟩;have hka:=hk0.sub hb1 aF;have ct:Below w.heap.size w w1:=hb0.trans (hb1.mono aF);have d0:w1.cell? (ai g (bs.length*17))=some (ae b0):=(ct.cell (p:=ai g (bs.length*17+0)) hg).trans (hcell 0 _ rfl);have d1:w1.cell? (ai g (bs.length*17+1))=some (.bool b1):=(ct.cell (p:=ai g (bs.length*17+1)) hg).trans (hcell 1 _ rfl);have d2:w1.cell? (ai g (bs.length*17+2))=some (ae (k:Int)):=(ct.cell (p:=ai g (bs.length*17+2)) hg).trans (hcell 2 _ rfl);have d3:w1.cell? (ai g (bs.length*17+3))=some (ae b3):=(ct.cell (p:=ai g (bs.length*17+3)) hg).trans (hcell 3 _ rfl);have d4:w1.cell? (ai g (bs.length*17+4))=some (ae b4):=(ct.cell (p:=ai g (bs.length*17+4)) hg).trans (hcell 4 _ rfl);have d5:w1.cell? (ai g (bs.length*17+5))=some (ae b5):=(ct.cell (p:=ai g (bs.length*17+5)) hg).trans (hcell 5 _ rfl)
 have d6:w1.cell? (ai g (bs.length*17+6))=some (ae b6):=(ct.cell (p:=ai g (bs.length*17+6)) hg).trans (hcell 6 _ rfl);have d7:w1.cell? (ai g (bs.length*17+7))=some (ae b7):=(ct.cell (p:=ai g (bs.length*17+7)) hg).trans (hcell 7 _ rfl);have d8:w1.cell? (ai g (bs.length*17+8))=some (.bool (!b8)):=(ct.cell (p:=ai g (bs.length*17+8)) hg).trans (hcell 8 _ rfl);have d9:w1.cell? (ai g (bs.length*17+9))=some (ae b9):=(ct.cell (p:=ai g (bs.length*17+9)) hg).trans (hcell 9 _ rfl);have d10:w1.cell? (ai g (bs.length*17+10))=some (ae fG):=(ct.cell (p:=ai g (bs.length*17+10)) hg).trans (hcell 10 _ rfl);have d11:w1.cell? (ai g (bs.length*17+11))=some (ae gh):=(ct.cell (p:=ai g (bs.length*17+11)) hg).trans (hcell 11 _ rfl);have d12:w1.cell? (ai g (bs.length*17+12))=some (ae gq):=(ct.cell (p:=ai g (bs.length*17+12)) hg).trans (hcell 12 _ rfl);have d13:w1.cell? (ai g (bs.length*17+13))=some (.bool (!gv)):=(ct.cell (p:=ai g (bs.length*17+13)) hg).trans (hcell 13 _ rfl);have d14:w1.cell? (ai g (bs.length*17+14))=some (ae fZ):=(ct.cell (p:=ai g (bs.length*17+14)) hg).trans (hcell 14 _ rfl);have d15:w1.cell? (ai g (bs.length*17+15))=some (ae gp):=(ct.cell (p:=ai g (bs.length*17+15)) hg).trans (hcell 15 _ rfl);have d16:w1.cell? (ai g (bs.length*17+16))=some (ae gu):=(ct.cell (p:=ai g (bs.length*17+16)) hg).trans (hcell 16 _ rfl);have bu:=af ct;have HKA:=af hka;have j9:=hka.lt;clear hb0 hk0 hb1 hka hcell ct HI;obtain⟨W,hW⟩:=ak (w1.alloc (.cells #[ae b0,.bool b1,ae (k:Int),ae b3,ae b4,ae b5,ae b6,ae b7,.bool (!b8),ae b9,ae fG,ae gh,ae gq,.bool (!gv),ae fZ,ae gp,ae gu] 244 (0,0)):World);obtain⟨E,hE⟩:=ak (w1.heap.size);have fh:ay W E #[ae b0,.bool b1,ae (k:Int),ae b3,ae b4,ae b5,ae b6,ae b7,.bool (!b8),ae b9,ae fG,ae gh,ae gq,.bool (!gv),ae fZ,ae gp,ae gu] 244:=Fx
 have hbW:Below w.heap.size w W:=Io;have pT:=HKA.alloc (.cells #[ae b0,.bool b1,ae (k:Int),ae b3,ae b4,ae b5,ae b6,ae b7,.bool (!b8),ae b9,ae fG,ae gh,ae gq,.bool (!gv),ae fZ,ae gp,ae gu] 244 (0,0));rw[←hW]at pT;have hER:E≠w.heap.size:=ag;have cf:=af fh;have uQ:=af hbW;have HKR:=af pT;have c3':W.cell? (ai db 3)=some (aD g (bs.length+1) cap):=(hbW.cell (p:=ai db 3) hdl).trans c3;have c2':W.cell? (ai db 2)=some (aD dg dc.length AO):=(hbW.cell (p:=ai db 2) hdl).trans c2;have q3:W.frozen? (ai db 3)=false:=(hbW.frozen (p:=ai db 3) hdl).trans (HD.blk.frozen 3);have iz:W.cell? (ai dg k)=some (ae u):=(hbW.cell (p:=ai dg k) hdg).trans hu
 have hfz:W.frozen? (ai dg k)=false:=by
  rw[hbW.frozen (p:=ai dg k) hdg];rcases HD.bG.2 with ⟨hx,_⟩|⟨g',cap',cur,hv,_,hh,_⟩
  ·rw[hdv]at hx;cases hx
  ·obtain⟨rfl,_⟩:dg=g'∧AO=cap':=by rw[hdv]at hv;simpa using hv
   simp[World.frozen?,hh]
 have e2:W.cell? (ai E 2)=some (ae k):=fh.cell 2 _ rfl;have hgd:dg≠db:=fun e=>aZ HD.bG HD.blk aj (by rw[hdv,e];rfl)
 have aaT:E≠db:=by have:=bu.size;omega
 have aeH:E≠dg:=by have:=bu.size;omega
 have aeg:w.heap.size≠db:=ag;have aeM:w.heap.size≠dg:=ag;have hkk:(k:Int)<(dc.length:Int):=ag;have hbc:(bs.length:Int)≤(cap:Int):=ag;have Ax:(0:Int)≤(bs.length:Int):=ag;have hwr:IntKind.i64.wrap (bs.length:Int)=(bs.length:Int):=abi _ ag ag;have Bq:(bs.length:Int)≤100000000:=ag;have hk0:(0:Int)≤(k:Int):=ag;go_upto_region 2 with fail
 rw[←hW];rw[←hE];clear hW hE fh hbW pT d0 d1 d2 d3 d4 d5 d6 d7 d8 d9 d10 d11 d12 d13 d14 d15 d16 bu HKA c2 c3 hu;go_still_tail 12,aP;clear hwr Bq Ax hbc;obtain⟨X,hX⟩:=ak ((W.setCell (ai db 3) (aD g bs.length cap)).drew:World);have fo:aq (fun b=>b=db) W X:=by rw[hX];exact((aq.refl (fun b=>b=db) W).setCell (p:=ai db 3) rfl _).drew
 have adY:db<W.heap.size:=bF hdl uQ.size;have Ux:dg<W.heap.size:=bF hdg uQ.size
 have x2:X.cell? (ai db 2)=some (aD dg dc.length AO):=by
  have hq:=((HD.below uQ).blk.set (o:=3) (aD g bs.length cap)).cell 2 aT (by simp[kV]);rw[hX,←hdv];exact hq
 have xe:X.cell? (ai E 2)=some (ae k):=(fo.cell (p:=ai E 2) cf.lt aaT).trans e2;have xu:X.cell? (ai dg k)=some (ae u):=(fo.cell (p:=ai dg k) Ux hgd).trans iz;have xf:X.frozen? (ai dg k)=false:=by rw[hX];simpa using hfz
 have HX:=af hX;have eN:=af fo;go_upto_region 3 with fail
 rw[←hX];clear hX fo c2' c3' q3 iz hfz e2;go_still_tail 11,aP;obtain⟨Y,hY⟩:=ak ((X.setCell (ai dg k) (ae dc.length)).drew:World);have HY:=af hY;go_upto_region 4 with fail
 rw[←hY];have jX:aq (fun b=>b=db∨b=dg) W Y:=(eN.mono (fun _ _ e=>aC e)).trans (by rw[hY];exact((aq.refl (fun b=>b=db∨b=dg) X).setCell (p:=ai dg k) (aA rfl) _).drew);have hYE:ay Y E _ _:=cf.aB jX (by rintro (e|e)<;>omega);have hYR:ay Y w.heap.size _ _:=HKR.aB jX (by rintro (e|e)<;>omega);have hrg:Y.rangeAt E 0 [ae b0,.bool b1,ae (k:Int),ae b3,ae b4,ae b5,ae b6,ae b7,.bool (!b8),ae b9,ae fG,ae gh,ae gq,.bool (!gv),ae fZ,ae gp,ae gu]:=fun j v hv=>by rw[Nat.zero_add];exact hYE.cell j v gW
 have hth:Y.there w.heap.size 0 17:=fun j hj=>⟨by
   rw[Nat.zero_add];have:j<(#[ae 0,.bool false,ae 0,ae 0,ae 0,ae 0,ae 0,ae 0,.bool false,ae 0,ae 0,ae 0,ae 0,.bool false,ae 0,ae 0,ae 0]:Array Value).size:=hj;rw[hYR.cell j _ (Array.getElem?_eq_getElem this)];rfl,hYR.frozen _⟩
 clear hY x2 xe xu xf;refine wp_region_list ?_;refine wpList_load_mid rfl _ _ rfl E 0 rfl [ae b0,.bool b1,ae (k:Int),ae b3,ae b4,ae b5,ae b6,ae b7,.bool (!b8),ae b9,ae fG,ae gh,ae gq,.bool (!gv),ae fZ,ae gp,ae gu] _ hrg underlying244 rfl aP ?_;refine wpList_store_mid rfl _ _ _ rfl w.heap.size 0 ([ae b0,.bool b1,ae (k:Int),ae b3,ae b4,ae b5,ae b6,ae b7,.bool (!b8),ae b9,ae fG,ae gh,ae gq,.bool (!gv),ae fZ,ae gp,ae gu]:List Value).toArray rfl rfl hth aP (by simp[Value.oneCell']) ?_;obtain⟨Z,hZ⟩:=ak (Y.setCells w.heap.size 0 [ae b0,.bool b1,ae (k:Int),ae b3,ae b4,ae b5,ae b6,ae b7,.bool (!b8),ae b9,ae fG,ae gh,ae gq,.bool (!gv),ae fZ,ae gp,ae gu]:World);have hrz:=hYR.Zm [ae b0,.bool b1,ae (k:Int),ae b3,ae b4,ae b5,ae b6,ae b7,.bool (!b8),ae b9,ae fG,ae gh,ae gq,.bool (!gv),ae fZ,ae gp,ae gu] rfl;have iQ:=aq.setCells w.heap.size [ae b0,.bool b1,ae (k:Int),ae b3,ae b4,ae b5,ae b6,ae b7,.bool (!b8),ae b9,ae fG,ae gh,ae gq,.bool (!gv),ae fZ,ae gp,ae gu] 0 Y;rw[←hZ]at hrz iQ;rw[←hZ];have qO:=af hrz;have HZ:=af iQ;have kN:=af jX;clear hrz iQ hZ hrg hth hYE hYR jX;go_wp2_with fail;refine bodyPost_ret (results_cell_row rfl _ _ w.heap.size _ _ _ _ rfl qO underlying244 rfl aP) rfl ⟨rfl,?_,?_⟩
 ·have k9:=(HD.below uQ).pop hdv k (dc.length:Int) bA
  have fT:aq (fun k=>k=w.heap.size) ((W.setCell (ai db 3) (aD g bs.length cap)).setCell (ai dg k) (ae dc.length)) Z:=by
   have hq:=HZ.out;rw[HY.out,HX.out]at hq;exact⟨hq.os,hq.tape,hq.output,hq.size,hq.block⟩
  obtain⟨n1,n2,n3,n4,n5,n6,n7,n8⟩:=HD.there aH;exact⟨_,k9.apart fT HD.jS.size n1 n2 n3 n4 n5 n6 n7 n8⟩
 ·refine((aq.bf uQ).trans (kN.mono (fun j _ e=>?_))).qA (HZ.mono (fun j _ e=>ag))
  rcases e with e|e
  ·exact aC e
  ·exact aA (by rw[hdv,e];rfl)
end
end Go.Proofs.YtcphhbofjkenaaaGreatDoor
