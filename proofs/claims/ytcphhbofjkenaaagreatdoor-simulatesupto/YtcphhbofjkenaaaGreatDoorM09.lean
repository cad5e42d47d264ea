import Derived.Test.YtcphhbofjkenaaaGreatDoorMy
import Derived.Deep.DrawnRows
import Derived.Deep.RegionHeld3
import Derived.Test.YtcphhbofjkenaaaGreatDoorM03
import Derived.Test.YtcphhbofjkenaaaGreatDoorM04
import Derived.Test.YtcphhbofjkenaaaGreatDoorM06
import Derived.Test.YtcphhbofjkenaaaGreatDoorM08
namespace Go.Proofs.YtcphhbofjkenaaaGreatDoor
open Go Go.RowKit Proofs.Tryz
set_option linter.unusedVariables false
set_option linter.unusedSimpArgs false
set_option maxRecDepth 100000
set_option maxHeartbeats 16000000
variable{w w1 w' w2:World}{a b i:Inf}{v tv sv:Value}{n base size sb:Nat}{e:TypeId}{xs:List (Array Value)}{ar:List Tk}{S F G:Nat→Prop}{ws:List RW}{c k sc sk q r:Int}{x:Array Value}{t:IT}
theorem Pk{p:Prop}(h:p:=by
  go_wp2_with (first|(go_at_call 93;refine(HF _).mono ?_;rintro e w' ⟨rfl,rfl⟩)|(go_at_call 193;refine(HT _).mono ?_;rintro e w' ⟨rfl,rfl⟩))
  refine(HX _ _).mono ?_;rintro e w1 ⟨rfl,hb1,hc1⟩;have hz:ay w1 w.heap.size dR 249:=(bJ w dR 249).aB hc1 ag;have hC:aq (fun k=>k=rb) w w1:=((aq.refl (fun k=>k=rb) w).alloc _).trans hc1;obtain⟨d0,d1,d2,d3,d4⟩:=hz.dR;obtain⟨g0,g1,g2,g3,g4⟩:=hz.free;have HZ:=af hz;have HC:=af hC;have HB1:=af hb1;have hsz:=hz.lt;clear hz hC hb1 hc1;go_wp2_with fail;refine bodyPost_ret (v:=.tuple #[.agg dR,.bool false]) YN rfl ⟨rfl,?_,?_⟩
  ·exact((((HB1.setOther aK _).setOther aK _).setOther aK _).setOther aK _).setOther aK _
  ·refine(HC).acu hlt ?_
   exact(((((aq.refl (fun k=>k=w.heap.size) w1).setCell (p:=ai w.heap.size 0) rfl _).setCell (p:=ai w.heap.size 1) rfl _).setCell (p:=ai w.heap.size 2) rfl _).setCell (p:=ai w.heap.size 3) rfl _).setCell (p:=ai w.heap.size 4) rfl _):p:=h
theorem Om{p:Prop}(h:p:=by
  rw[←hX];clear hX hsz;refine vU (w4.heap.size) 3 aP aP ?_;simp only[List.take_succ_cons,List.take_zero,List.drop_succ_cons,List.drop_zero]
  repeat (go_big_quiet_step ((first|(go_at_call 194;exact bN.calls hle _ (yJ 2 0 _ ag ag ag ag))|(go_at_call 172;exact bN.calls hle _ (GN (Inf.plain 2 0) (a.times t) _ VZ (Inf.Ok.times HOa t0 t1))))))
  refine wpQuiet_nil ?_;intro u;obtain⟨w5,hb5⟩:=u;dsimp only;have hz5:ay w5 (w.heap.size+1) bR 36:=(hb5.block _ ag).trans eZ;have cZ:Below w.heap.size w w5:=HWX.trans (hb5.mono ag);obtain⟨d0,d1,d2,d3,d4⟩:=hz5.zero;obtain⟨g0,g1,g2,g3,g4⟩:=hz5.free;have dI:=af cZ;clear hz5 cZ hb5 hc hne u0 u1 u2 u3 u4;unfold Inf.val;go_wp2_with fail;refine bodyPost_ret (v:=R.val) Vp rfl ⟨rfl,?_⟩;exact(((((dI.setCell aF _).setCell aF _).setCell aF _).setCell aF _).setCell aF _)):p:=h
theorem QA{p:Prop}(h:p:=by
  refine wpQuiet_nil ?_;intro u;obtain⟨w3,hb3⟩:=u;have hz3:ay w3 (w.heap.size+1) bR 36:=(hb3.block _ ag).trans qO;have oz:Below w.heap.size w w3:=bu.trans (hb3.mono ag);obtain⟨d0,d1,d2,d3,d4⟩:=hz3.zero;obtain⟨g0,g1,g2,g3,g4⟩:=hz3.free;have eR:=af oz;dsimp only;clear hz3 oz hb3 hc hne u0 u1 u2 u3 u4;unfold Inf.val;go_wp2_with fail;refine bodyPost_ret (v:=R.val) ab3 rfl ⟨rfl,?_⟩;exact(((((eR.setCell aF _).setCell aF _).setCell aF _).setCell aF _).setCell aF _)):p:=h
theorem Mn{p:Prop}(h:p:=by
  go_wp2_with (first|(go_at_call 93;refine(HF _).mono ?_;rintro e w' ⟨rfl,rfl⟩)|(go_at_call 193;refine(HT _).mono ?_;rintro e w' ⟨rfl,rfl⟩))
  exact bodyPost_ret (v:=.tuple #[.agg V,.bool true]) MP rfl ⟨rfl,aQ.alloc aH _⟩):p:=h
theorem KD{p:Prop}(h:p:=by
  obtain⟨a1,a2,a3,a4,a5,a6,a7,a8⟩:=ha;have hp:0≤n*min (a.steps+1) 1000000001:=Int.mul_nonneg h0 ag;unfold Inf.times
  split<;>constructor<;>simp only<;>omega):p:=h
theorem Oe{p:Prop}(h:p:=by
  obtain⟨a1,a2,a3,a4,a5,a6,a7,a8⟩:=ha;obtain⟨b1,b2,b3,b4,b5,b6,b7,b8⟩:=hb
  constructor<;>simp only[Inf.ways]<;>omega):p:=h
theorem Ng{p:Prop}(h:p:=by
  rw[World.cell?_of_block (w:=w) (a:=ai g (j*5+o)) hg2];exact hcell _ _ (Dy xs h.shape j o x u hx hu)):p:=h
section
open Go.RowKit
theorem xY(w:World)(o:Obj)(t:TypeId):ay ((w.alloc o).alloc (.cells bR t (0,0))) (w.heap.size+1) bR t:=by
 have:=bJ (w.alloc o) bR t;simpa using this
theorem AG{a b:Obj}(h:Below ((w.alloc a).alloc b).heap.size ((w.alloc a).alloc b) w1):Below (w.heap.size+1+1) ((w.alloc a).alloc b) w1:=Bt
theorem Hd(s:ByteArray):0≤(bD s).1∧(bD s).1≤100∧0≤(bD s).2.1∧(bD s).2.1≤100:=by
 unfold bD thereL
 split
 ·rename_i r hr
  have hm:=List.mem_of_find?_eq_some hr;have:∀r∈tab,0≤r.2.1∧r.2.1≤100∧0≤r.2.2∧r.2.2≤100:=aj;exact this r hm
 ·simp
theorem Zc(sb:Nat)(n s A B:Value)(hn:n.oneCell'=true)(hs:s.oneCell'=true)(hA:A.oneCell'=true)(hB:B.oneCell'=true)(w:World):
  Calls prog 171 #[ax sb,.agg #[ae 1,n,s,A,B]] w fun e w'=>e=.returned (Inf.plain 0 1).val∧Below w.heap.size w w':=by
 go_enter func171,ntmps171
 go_wp2_with fail
 refine(yJ 0 1 _ ag ag ag ag).mono ?_;rintro e w1 ⟨rfl,hb1⟩;have hb':=AG hb1;have hz:=(hb'.block (w.heap.size+1) ag).trans (xY w _ 36);have hz:ay w1 (w.heap.size+1) bR 36:=hz;obtain⟨d0,d1,d2,d3,d4⟩:=hz.zero;obtain⟨g0,g1,g2,g3,g4⟩:=hz.free;have HB:=af hb';clear hz hb' hb1;unfold Inf.val;go_wp2_with fail;refine bodyPost_ret (v:=(Inf.plain 0 1).val) Gv rfl ⟨rfl,?_⟩;exact((((((tz HB).setCell aF _).setCell aF _).setCell aF _).setCell aF _).setCell aF _)
theorem aa6(sb:Nat)(n:Value)(s:ByteArray)(A B:Value)(hn:n.oneCell'=true)(hA:A.oneCell'=true)(hB:B.oneCell'=true)(w:World):
  Calls prog 171 #[ax sb,.agg #[ae 2,n,.string s,A,B]] w fun e w'=>e=.returned (Inf.plain (bD s).1 (bD s).2.1).val∧Below w.heap.size w w':=by
 have di:=Hd s;have HT:Hid (∀w,Calls prog 193 #[.string s] w fun e w'=>e=.returned (.tuple #[ae (bD s).1,ae (bD s).2.1,.bool (bD s).2.2])∧w'=w):=iF s;obtain⟨t,p,b,hp⟩:∃t p b,bD s=(t,p,b):=⟨_,_,_,rfl⟩
 have dv:Hid (∀w,Calls prog 193 #[.string s] w fun e w'=>e=.returned (.tuple #[ae t,ae p,.bool b])∧w'=w):=by
  have:=HT.out;rw[hp]at this;exact this
 rw[hp]at di ⊢;obtain⟨b0,b1,b2,b3⟩:=di;simp only at b0 b1 b2 b3 ⊢;clear HT hp;go_enter func171,ntmps171;go_wp2_with fail;refine(dv _).mono ?_;rintro e w0 ⟨rfl,rfl⟩;go_wp2_with fail;refine(yJ t p _ b0 b1 b2 b3).mono ?_;rintro e w1 ⟨rfl,hb1⟩;have hb':=AG hb1;have hz:=(hb'.block (w.heap.size+1) ag).trans (xY w _ 36);have hz:ay w1 (w.heap.size+1) bR 36:=hz;obtain⟨d0,d1,d2,d3,d4⟩:=hz.zero;obtain⟨g0,g1,g2,g3,g4⟩:=hz.free;have HB:=af hb';clear hz hb' hb1;unfold Inf.val;go_wp2_with fail;refine bodyPost_ret (v:=(Inf.plain t p).val) Gv rfl ⟨rfl,?_⟩;exact((((((tz HB).setCell aF _).setCell aF _).setCell aF _).setCell aF _).setCell aF _)
end
section
open Go.RowKit
attribute [local go_sem ↓] Go.wp_at_zero Go.wp_at_succ
theorem vh{a:Addr}(h:w.cell? a=some v):∀o p:Obj,((w.alloc o).alloc p).cell? a=some v:=by
 intro o p;have hlt:a.block<w.heap.size:=dD w a h;rw[(((aq.refl (fun _=>False) w).alloc o).alloc p).cell hlt id];exact h
theorem abf(sb g cap m:Nat)(i:Nat)(x:RW)(s:Value)(A B:Value)(hs:s.oneCell'=true)(hA:A.oneCell'=true)(hB:B.oneCell'=true)(w:World)
  (hi:i<m) (hm:m≤1100000) (hmc:m≤cap) (hx:∃q a b,x.items=.slice q a b) (bj:x.inf.Ok)
  (h0:w.cell? (ai sb 0)=some (aD g m cap))
  (hc:∀(j:Nat) (u:Value),j<8→(x.cells)[j]?=some u→w.cell? (ai g (i*8+j))=some u):
  Calls prog 171 #[ax sb,.agg #[ae 3,ae i,s,A,B]] w fun e w'=>e=.returned (if 0≤x.var then Inf.plain 0 1 else{x.inf with steps:=min (x.inf.steps+1) 1000000001}).val∧Below w.heap.size w w':=by
 have H0:=vh h0;have k0:=vh (hc 0 _ ag rfl);have k1:=vh (hc 1 _ ag rfl);have k2:=vh (hc 2 _ ag rfl);have k3:=vh (hc 3 _ ag rfl);have k4:=vh (hc 4 _ ag rfl);have k5:=vh (hc 5 _ ag rfl);have k6:=vh (hc 6 _ ag rfl);have k7:=vh (hc 7 _ ag rfl);have hgs:g<w.heap.size:=dD w _ (hc 0 _ ag rfl);have rJ:sb<w.heap.size:=dD w _ h0;obtain⟨nm,vr,it,⟨nd,nt,hg,st,sr⟩⟩:=x;have o1:=bj.s0;have o2:=bj.s1;simp only at o1 o2 hx k0 k1 k2 k3 k4 k5 k6 k7 ⊢;simp only[Nat.add_zero]at k0;obtain⟨iq,ia,ib,rfl⟩:=hx;clear hc h0 bj;have b1:(0:Int)≤(i:Int):=ag;have b2:(i:Int)<(m:Int):=ag
 by_cases hv:0≤vr
 ·rw[aG hv]
  go_enter func171,ntmps171
  go_wp2_with fail
  go_region_held3 (fun w'=>w'.cell? (ai sb 0)=some (aD g m cap)∧w'.cell? (ai w.heap.size 1)=some (ae i)∧w'.cell? (ai g (i*8))=some (.string nm)∧w'.cell? (ai g (i*8+1))=some (ae vr)∧w'.cell? (ai g (i*8+2))=some (.slice iq ia ib)∧w'.cell? (ai g (i*8+3))=some (ae nd)∧w'.cell? (ai g (i*8+4))=some (ae nt)∧w'.cell? (ai g (i*8+5))=some (ae hg)∧w'.cell? (ai g (i*8+6))=some (ae st)∧w'.cell? (ai g (i*8+7))=some (.bool sr)) (go_keep) (fail)
  clear k0 k1 k2 k3 k4 k5 k6 k7 H0;go_wp2_with fail;refine(yJ 0 1 _ ag ag ag ag).mono ?_;rintro e w1 ⟨rfl,hb1⟩;have rU:Below w.heap.size w w1:=((((aQ.alloc aH _).alloc aF _).alloc aK _).drew).trans (hb1.mono aK);have hz:ay w1 (w.heap.size+1) bR 36:=(hb1.block _ aF).trans (ay.drew (ay.alloc (xY w _ _) _));obtain⟨d0,d1,d2,d3,d4⟩:=hz.zero;obtain⟨g0,g1,g2,g3,g4⟩:=hz.free;have HB:=af rU;clear hz rU hb1;unfold Inf.val;go_wp2_with fail;refine bodyPost_ret (v:=(Inf.plain 0 1).val) Gv rfl ⟨rfl,?_⟩;exact(((((HB.setCell aF _).setCell aF _).setCell aF _).setCell aF _).setCell aF _)
 ·rw[az hv]
  go_enter func171,ntmps171
  go_wp2_with fail
  go_region_held3 (fun w'=>w'.cell? (ai sb 0)=some (aD g m cap)∧w'.cell? (ai w.heap.size 1)=some (ae i)∧w'.cell? (ai g (i*8))=some (.string nm)∧w'.cell? (ai g (i*8+1))=some (ae vr)∧w'.cell? (ai g (i*8+2))=some (.slice iq ia ib)∧w'.cell? (ai g (i*8+3))=some (ae nd)∧w'.cell? (ai g (i*8+4))=some (ae nt)∧w'.cell? (ai g (i*8+5))=some (ae hg)∧w'.cell? (ai g (i*8+6))=some (ae st)∧w'.cell? (ai g (i*8+7))=some (.bool sr)) (go_keep) (fail)
  clear k0 k1 k2 k3 k4 k5 k6 k7 H0;go_wp2_with fail;refine(xw _ _).mono ?_;rintro e w1 ⟨rfl,rfl⟩;go_wp2_with fail;exact bodyPost_ret (v:=(⟨nd,nt,hg,min (st+1) 1000000001,sr⟩:Inf).val) (by simp[results,results171,go_sem,Inf.val]) rfl ⟨rfl,((((aQ.alloc aH _).alloc aF _).alloc aK _).alloc aK _).drew⟩
end
section
open Go.RowKit
def Inf.ways(a b:Inf):Inf:=⟨max a.need b.need,a.aM,max a.high b.high,max a.steps b.steps,false⟩
def Inf.more(a:Inf):Inf:=⟨a.need,a.aM,a.high,min (a.steps+1) 1000000001,a.str⟩
theorem Inf.Ok.ways(ha:a.Ok)(hb:b.Ok):(a.ways b).Ok:=by
 exact Oe
theorem K3:(Inf.plain 1 0).Ok:=Hi
theorem Inf.Ok.more(ha:a.Ok):a.more.Ok:=by
 obtain⟨a1,a2,a3,a4,a5,a6,a7,a8⟩:=ha
 constructor<;>simp only[Inf.more]<;>omega
theorem Yb(sb:Nat)(n s A B:Value)(hn:n.oneCell'=true)(hs:s.oneCell'=true)(hA:A.oneCell'=true)(hB:B.oneCell'=true)(a b:Inf)(ha:a.Ok)(hb:b.Ok)(w:World)
  (oB:∀w',Below w.heap.size w w'→Calls prog 130 #[ax sb,A] w' fun e w''=>e=.returned a.val∧Below w'.heap.size w' w'')
  (hcB:∀w',Below w.heap.size w w'→Calls prog 130 #[ax sb,B] w' fun e w''=>e=.returned b.val∧Below w'.heap.size w' w''):
  Calls prog 171 #[ax sb,.agg #[ae 4,n,s,A,B]] w fun e w'=>e=.returned ((Inf.plain 1 0).then (Inf.ways a b)).val∧Below w.heap.size w w':=by
 have HA:=af oB;have HB:=af hcB;have HOa:=af ha;have HOb:=af hb;have s0:=ha.s0;have s1:=ha.s1;obtain⟨R,hR⟩:=ak ((Inf.plain 1 0).then (Inf.ways a b));rw[←hR];have HR:=af hR;clear oB hcB ha hb hR;go_enter func171,ntmps171;go_wp2_with fail;refine(HA _ ((aQ.alloc aH _).alloc aF _)).mono ?_;rintro e w1 ⟨rfl,hb1⟩;have lK:=AG hb1;have HB1:=af lK;have x0:w1.cell? (ai w.heap.size 0)=some (ae 4):=EN;have x4:w1.cell? (ai w.heap.size 4)=some B:=Ey;have hz1:ay w1 (w.heap.size+1) bR 36:=(lK.block _ ag).trans (xY w _ _);have HZ1:=af hz1;have DK:w.heap.size+1<w1.heap.size:=hz1.lt;have pP:w.heap.size<w1.heap.size:=ag;clear hb1 lK hz1;unfold Inf.val;go_wp2_with fail;refine(HB _ ((tz HB1).alloc ag _)).mono ?_;rintro e w2 ⟨rfl,hb2⟩;have mN:Below (w1.heap.size+1) (w1.alloc (.cells a.arr 36 (0,0))) w2:=by simpa [Inf.arr]using hb2
 have y0:w2.cell? (ai w.heap.size 0)=some (ae 4):=Oy;have hz2:ay w2 (w.heap.size+1) bR 36:=(mN.block _ ag).trans (HZ1.alloc _);have r9:ay w2 w1.heap.size a.arr 36:=(mN.block _ ag).trans (bJ w1 _ _);have rU:Below w.heap.size w w2:=(tz HB1).trans ((zE mN).mono ag);have HZ2:=af hz2;have HZA:=af r9;have pO:=af rU;have nk:w1.heap.size<w2.heap.size:=r9.lt;have UT:w.heap.size<w2.heap.size:=ag;have Nb:w.heap.size+1<w2.heap.size:=ag;obtain⟨c0,c1,c2,c3,c4⟩:=r9.inf;obtain⟨f0,f1,f2,f3,f4⟩:=r9.free;clear hb2 mN hz2 r9 rU x0 x4;unfold Inf.val;go_wp2_with (go_at_call 195;refine(xw _ _).mono ?_;rintro e w3 ⟨rfl,rfl⟩);obtain⟨W,hW⟩:=ak (((w2.alloc (.cells b.arr 36 (0,0))).alloc (.cells (Inf.ways a b).arr 36 (0,0))):World);have hsz:W.heap.size=w2.heap.size+1+1:=by rw[hW];simp
 have hl:=fun (o:Nat) (v:Value) (hv:(Inf.ways a b).arr[o]?=some v)=>(show W.cell? (ai (w2.heap.size+1) o)=some v by
  have hbk:=bJ (w2.alloc (.cells b.arr 36 (0,0))) (Inf.ways a b).arr 36;have e1:(w2.alloc (.cells b.arr 36 (0,0))).heap.size=w2.heap.size+1:=aF;rw[e1]at hbk;rw[hW];exact hbk.cell o v hv)
 have hrz:ay W (w.heap.size+1) bR 36:=by
  rw[hW];exact(HZ2.alloc _).alloc _
 have hbW:Below w.heap.size w W:=by
  rw[hW];exact(pO.alloc ag _).alloc aK _
 have HW:=af hW;have qO:=af hrz;have bu:=af hbW;have u0:=hl 0 _ rfl;have u1:=hl 1 _ rfl;have u2:=hl 2 _ rfl;have u3:=hl 3 _ rfl;have u4:=hl 4 _ rfl;clear hl hrz hbW c0 c1 c2 c3 c4 f0 f1 f2 f3 f4 y0;have hc:=fun (u:bN (w2.heap.size+1+1) W) (o:Nat)=>u.cell (w2.heap.size+1) o ag
 have hne:=bN.ne;have hle:w2.heap.size+1+1≤W.heap.size:=ag
 show Code.wp _ _ _ _ ((w2.alloc (.cells b.arr 36 (0,0))).alloc (.cells (Inf.ways a b).arr 36 (0,0)))
 rw[←hW];clear hW hsz;refine vU (w2.heap.size+1+1) 3 aP aP ?_;simp only[List.take_succ_cons,List.take_zero,List.drop_succ_cons,List.drop_zero]
 repeat (go_big_quiet_step ((first|(go_at_call 194;exact bN.calls hle _ (yJ 1 0 _ ag ag ag ag))|(go_at_call 172;exact bN.calls hle _ (GN (Inf.plain 1 0) (Inf.ways a b) _ K3 (Inf.Ok.ways HOa HOb))))))
 exact QA
theorem abQ(sb:Nat)(n s A B:Value)(hn:n.oneCell'=true)(hs:s.oneCell'=true)(hA:A.oneCell'=true)(hB:B.oneCell'=true)(a b:Inf)(ha:a.Ok)(hb:b.Ok)(w:World)
  (oB:∀w',Below w.heap.size w w'→Calls prog 130 #[ax sb,A] w' fun e w''=>e=.returned a.val∧Below w'.heap.size w' w'')
  (hcB:∀w',Below w.heap.size w w'→Calls prog 130 #[ax sb,B] w' fun e w''=>e=.returned b.val∧Below w'.heap.size w' w''):
  Calls prog 171 #[ax sb,.agg #[ae 5,n,s,A,B]] w fun e w'=>e=.returned ((Inf.plain 1 0).then (Inf.ways a.more b)).val∧Below w.heap.size w w':=by
 have HA:=af oB;have HB:=af hcB;have HOa:=af ha;have HOb:=af hb;have s0:=ha.s0;have s1:=ha.s1;obtain⟨R,hR⟩:=ak ((Inf.plain 1 0).then (Inf.ways a.more b));rw[←hR];have HR:=af hR;clear oB hcB ha hb hR;go_enter func171,ntmps171;go_wp2_with fail;refine(HA _ ((aQ.alloc aH _).alloc aF _)).mono ?_;rintro e w1 ⟨rfl,hb1⟩;have lK:=AG hb1;have HB1:=af lK;have x0:w1.cell? (ai w.heap.size 0)=some (ae 5):=EN;have x4:w1.cell? (ai w.heap.size 4)=some B:=Ey;have hz1:ay w1 (w.heap.size+1) bR 36:=(lK.block _ ag).trans (xY w _ _);have HZ1:=af hz1;have DK:w.heap.size+1<w1.heap.size:=hz1.lt;have pP:w.heap.size<w1.heap.size:=ag;clear hb1 lK hz1;unfold Inf.val;go_wp2_with fail;refine(HB _ ((tz HB1).alloc ag _)).mono ?_;rintro e w2 ⟨rfl,hb2⟩;have mN:Below (w1.heap.size+1) (w1.alloc (.cells a.arr 36 (0,0))) w2:=by simpa [Inf.arr]using hb2
 have y0:w2.cell? (ai w.heap.size 0)=some (ae 5):=Oy;have hz2:ay w2 (w.heap.size+1) bR 36:=(mN.block _ ag).trans (HZ1.alloc _);have r9:ay w2 w1.heap.size a.arr 36:=(mN.block _ ag).trans (bJ w1 _ _);have rU:Below w.heap.size w w2:=(tz HB1).trans ((zE mN).mono ag);have HZ2:=af hz2;have HZA:=af r9;have pO:=af rU;have nk:w1.heap.size<w2.heap.size:=r9.lt;have UT:w.heap.size<w2.heap.size:=ag;have Nb:w.heap.size+1<w2.heap.size:=ag;obtain⟨c0,c1,c2,c3,c4⟩:=r9.inf;obtain⟨f0,f1,f2,f3,f4⟩:=r9.free;clear hb2 mN hz2 r9 rU x0 x4;unfold Inf.val;go_wp2_with (go_at_call 195;refine(xw _ _).mono ?_;rintro e w3 ⟨rfl,rfl⟩);obtain⟨W,hW⟩:=ak ((((w2.setCell (ai w1.heap.size 3) (ae (min (a.steps+1) 1000000001))).alloc (.cells b.arr 36 (0,0))).alloc (.cells (Inf.ways a.more b).arr 36 (0,0))):World);have hsz:W.heap.size=w2.heap.size+1+1:=by rw[hW];simp
 have hl:=fun (o:Nat) (v:Value) (hv:(Inf.ways a.more b).arr[o]?=some v)=>(show W.cell? (ai (w2.heap.size+1) o)=some v by
  have hbk:=bJ ((w2.setCell (ai w1.heap.size 3) (ae (min (a.steps+1) 1000000001))).alloc (.cells b.arr 36 (0,0))) (Inf.ways a.more b).arr 36;have e1:((w2.setCell (ai w1.heap.size 3) (ae (min (a.steps+1) 1000000001))).alloc (.cells b.arr 36 (0,0))).heap.size=w2.heap.size+1:=aF;rw[e1]at hbk;rw[hW];exact hbk.cell o v hv)
 have hrz:ay W (w.heap.size+1) bR 36:=by
  rw[hW];exact((HZ2.setOther aK _).alloc _).alloc _
 have hbW:Below w.heap.size w W:=by
  rw[hW];exact((pO.setCell aK _).alloc aK _).alloc aK _
 have HW:=af hW;have qO:=af hrz;have bu:=af hbW;have u0:=hl 0 _ rfl;have u1:=hl 1 _ rfl;have u2:=hl 2 _ rfl;have u3:=hl 3 _ rfl;have u4:=hl 4 _ rfl;clear hl hrz hbW c0 c1 c2 c3 c4 f0 f1 f2 f3 f4 y0;have hc:=fun (u:bN (w2.heap.size+1+1) W) (o:Nat)=>u.cell (w2.heap.size+1) o ag
 have hne:=bN.ne;have hle:w2.heap.size+1+1≤W.heap.size:=ag
 show Code.wp _ _ _ _ (((w2.setCell (ai w1.heap.size 3) (ae (min (a.steps+1) 1000000001))).alloc (.cells b.arr 36 (0,0))).alloc (.cells (Inf.ways a.more b).arr 36 (0,0)))
 rw[←hW];clear hW hsz;refine vU (w2.heap.size+1+1) 3 aP aP ?_;simp only[List.take_succ_cons,List.take_zero,List.drop_succ_cons,List.drop_zero]
 repeat (go_big_quiet_step ((first|(go_at_call 194;exact bN.calls hle _ (yJ 1 0 _ ag ag ag ag))|(go_at_call 172;exact bN.calls hle _ (GN (Inf.plain 1 0) (Inf.ways a.more b) _ K3 (Inf.Ok.ways HOa.more HOb))))))
 exact QA
end
section
open Go.RowKit
theorem adu(k n s A:Value)(g cap:Nat)(e0:Int)(hk:k.oneCell'=true)(hn:n.oneCell'=true)(hs:s.oneCell'=true)(hA:A.oneCell'=true)(w:World)(hc2:2≤cap)
  (hc:w.cell? (ai g 1)=some (ae e0)):
  Calls prog 196 #[.agg #[k,n,s,A,aD g 2 cap]] w fun e w'=>e=.returned (ae e0)∧Below w.heap.size w w':=by
 have hg:g<w.heap.size:=dD w _ hc;go_enter func196,ntmps196;go_wp2;go_ret;exact⟨rfl,aQ.alloc aH _⟩
theorem VH(k n s A:Value)(g cap:Nat)(e1:Int)(hk:k.oneCell'=true)(hn:n.oneCell'=true)(hs:s.oneCell'=true)(hA:A.oneCell'=true)(w:World)(hc2:2≤cap)
  (hc:w.cell? (ai g 6)=some (ae e1)):
  Calls prog 197 #[.agg #[k,n,s,A,aD g 2 cap]] w fun e w'=>e=.returned (ae e1)∧Below w.heap.size w w':=by
 have hg:g<w.heap.size:=dD w _ hc;go_enter func197,ntmps197;go_wp2;go_ret;exact⟨rfl,aQ.alloc aH _⟩
def Inf.times(a:Inf)(n:Int):Inf:=if n=0 then⟨0,0,0,0,a.str⟩else⟨a.need,a.aM,a.high,min (n*min (a.steps+1) 1000000001) 1000000001,a.str⟩
theorem Inf.Ok.times(ha:a.Ok){n:Int}(h0:0≤n)(h1:n≤1000):(a.times n).Ok:=by
 exact KD
theorem VZ:(Inf.plain 2 0).Ok:=Hi
theorem WT(sb:Nat)(n s A:Value)(g cap:Nat)(e0 e1:Int)(hn:n.oneCell'=true)(hs:s.oneCell'=true)(hA:A.oneCell'=true)(a:Inf)(ha:a.Ok)(w:World)(hc2:2≤cap)
  (x0: -2147483648≤e0) (x1:e0≤2147483647) (x2: -2147483648≤e1) (x3:e1≤2147483647) (x4:e0 - e1≤1000)
  (hb0:w.cell? (ai g 1)=some (ae e0)) (hb1:w.cell? (ai g 6)=some (ae e1))
  (oB:∀w',Below w.heap.size w w'→Calls prog 130 #[ax sb,A] w' fun e w''=>e=.returned a.val∧Below w'.heap.size w' w''):
  Calls prog 171 #[ax sb,.agg #[ae 6,n,s,A,aD g 2 cap]] w fun e w'=>e=.returned ((Inf.plain 2 0).then (a.times (max 0 (e0 - e1)))).val∧Below w.heap.size w w':=by
 have hg:g<w.heap.size:=dD w _ hb0;have HA:=af oB;have HOa:=af ha;have s0:=ha.s0;have s1:=ha.s1;obtain⟨R,hR⟩:=ak ((Inf.plain 2 0).then (a.times (max 0 (e0 - e1))));rw[←hR];have HR:=af hR;have HC0:=af hb0;have iI:=af hb1;clear oB ha hR hb0 hb1;go_enter func171,ntmps171;go_wp2_with fail;refine(HA _ ((aQ.alloc aH _).alloc aF _)).mono ?_;rintro e w1 ⟨rfl,hb1⟩;have lK:=AG hb1;have HB1:=af lK;have y0:w1.cell? (ai w.heap.size 0)=some (ae 6):=EN;have y1:w1.cell? (ai w.heap.size 1)=some n:=by rw[lK.cell (p:=ai w.heap.size 1) aK];simp
 have y2:w1.cell? (ai w.heap.size 2)=some s:=by rw[lK.cell (p:=ai w.heap.size 2) aK];simp
 have y3:w1.cell? (ai w.heap.size 3)=some A:=by rw[lK.cell (p:=ai w.heap.size 3) aK];simp
 have y4:w1.cell? (ai w.heap.size 4)=some (aD g 2 cap):=Ey;have hz1:ay w1 (w.heap.size+1) bR 36:=(lK.block _ ag).trans (xY w _ _);have HZ1:=af hz1;have DK:w.heap.size+1<w1.heap.size:=hz1.lt;have pP:w.heap.size<w1.heap.size:=ag;clear hb1 lK hz1;unfold Inf.val;go_wp2_with fail;obtain⟨W,hW⟩:=ak (w1.alloc (.cells a.arr 36 (0,0)):World);have hsz:W.heap.size=w1.heap.size+1:=by rw[hW];simp
 have gA:ay W w1.heap.size a.arr 36:=by rw[hW];exact bJ w1 _ _
 have hbr:ay W (w.heap.size+1) bR 36:=by rw[hW];exact HZ1.alloc _
 have hbW:Below w.heap.size w W:=by rw[hW];exact(tz HB1).alloc ag _
 have old:∀o v,w1.cell? (ai w.heap.size o)=some v→∀u:bN (w1.heap.size+1) W,u.val.cell? (ai w.heap.size o)=some v:=by
  intro o v h u;rw[u.cell _ _ ag,hW,((aq.refl (fun _=>False) w1).alloc _).cell (p:=ai w.heap.size o) pP id];exact h
 have v0:=old 0 _ y0;have v1:=old 1 _ y1;have v2:=old 2 _ y2;have v3:=old 3 _ y3;have v4:=old 4 _ y4
 have q0:∀u:bN (w1.heap.size+1) W,u.val.cell? (ai g 1)=some (ae e0):=fun u=>by
  rw[u.cell _ _ ag,hbW.cell (p:=ai g 1) hg];exact HC0
 have q1:∀u:bN (w1.heap.size+1) W,u.val.cell? (ai g 6)=some (ae e1):=fun u=>by
  rw[u.cell _ _ ag,hbW.cell (p:=ai g 6) hg];exact iI
 have Q0:=af q0;have Q1:=af q1;have pO:=af gA;have fE:=af hbr;have bu:=af hbW;have hne:=bN.ne;have hle:w1.heap.size+1≤W.heap.size:=ag;clear y0 y1 y2 y3 y4 old gA hbr hbW q0 q1
 show Code.wp _ _ _ _ (w1.alloc (.cells a.arr 36 (0,0)))
 rw[←hW];clear hW hsz;refine Fb (w1.heap.size+1) aP aP ?_
 repeat (go_big_quiet_step ((first|(go_at_call 196;exact bN.calls hle _ (adu _ _ _ _ g cap e0 rfl hn hs hA _ hc2 (Q0 _)))|(go_at_call 197;exact bN.calls hle _ (VH _ _ _ _ g cap e1 rfl hn hs hA _ hc2 (Q1 _))))))
 refine wpQuiet_nil ?_;intro u;obtain⟨w2,hb2⟩:=u;dsimp only;have gA:ay w2 w1.heap.size a.arr 36:=(hb2.block _ ag).trans pO;have hbr:ay w2 (w.heap.size+1) bR 36:=(hb2.block _ ag).trans fE;have hbW:Below w.heap.size w w2:=bu.trans (hb2.mono ag);have nk:w1.heap.size<w2.heap.size:=gA.lt;obtain⟨c0,c1,c2,c3,c4⟩:=gA.inf;obtain⟨f0,f1,f2,f3,f4⟩:=gA.free;have KA:=af gA;have KR:=af hbr;have KW:=af hbW;clear gA hbr hbW hb2 v0 v1 v2 v3 v4 hne;obtain⟨t,ht⟩:=ak (max 0 (e0 - e1));have t0:0≤t:=ag;have t1:t≤1000:=ag;have HT:=af ht;rw[←ht];clear ht;obtain⟨ms,hms⟩:=ak (min (a.steps+1) 1000000001);have m0:0≤ms:=ag;have m1:ms≤1000000001:=ag;have HM:=af hms;have hm1:∀w,Calls prog 195 #[ae (a.steps+1)] w fun e w'=>e=.returned (ae ms)∧w'=w:=by rw[hms];exact xw _
 clear hms;have p0:0≤t*ms:=Int.mul_nonneg t0 m0;have p1:t*ms≤1000000001000:=Int.le_trans (Int.mul_le_mul t1 m1 m0 ag) aj;have HM1:=af hm1;clear hm1
 by_cases hz:t=0
 ·have HZ:=af hz
  have hzb:(t == 0)=true:=by simpa using hz
  clear hz;go_wp2_with fail;refine(HM1 _).mono ?_;rintro e w3 ⟨rfl,rfl⟩;go_wp2_with fail;refine(xw _ _).mono ?_;rintro e w4 ⟨rfl,rfl⟩;go_wp2_with fail;obtain⟨X,hX⟩:=ak (((((((w4.setCell (ai w1.heap.size 3) (ae (min (t*ms) 1000000001))).setCell (ai w1.heap.size 0) (ae 0)).setCell (ai w1.heap.size 1) (ae 0)).setCell (ai w1.heap.size 2) (ae 0)).setCell (ai w1.heap.size 3) (ae 0)).setCell (ai w1.heap.size 4) (.bool a.str)):World);have hsz:X.heap.size=w4.heap.size:=by rw[hX];simp[World.setCell]
  have gm:ay X w1.heap.size (a.times t).arr 36:=by
   rw[hX];have e:(a.times t).arr= #[ae 0,ae 0,ae 0,ae 0,.bool a.str]:=by rw[Inf.times,aG HZ.out];rfl
   rw[e];refine vR (a0:=ae a.need) (a1:=ae a.aM) (a2:=ae a.high) (a3:=ae (min (t*ms) 1000000001)) (a4:=.bool a.str) ?_ _ _ _ _ _;have:=KA.set (o:=3) (ae (min (t*ms) 1000000001));simpa [Inf.arr]using this
  have hrx:ay X (w.heap.size+1) bR 36:=by
   rw[hX];exact((((((KR.setOther aK _).setOther aK _).setOther aK _).setOther aK _).setOther aK _).setOther aK _)
  have hwx:Below w.heap.size w X:=by
   rw[hX];exact((((((KW.setCell aK _).setCell aK _).setCell aK _).setCell aK _).setCell aK _).setCell aK _)
  obtain⟨u0,u1,u2,u3,u4⟩:=gm.inf;have eZ:=af hrx;have HWX:=af hwx;have hc:=fun (u:bN (w4.heap.size) X) (o:Nat)=>u.cell w1.heap.size o nk
  have hne:=bN.ne;have hle:w4.heap.size≤X.heap.size:=ag;have hr1:w.heap.size+1<w4.heap.size:=ag;clear gm hrx hwx c0 c1 c2 c3 c4 f0 f1 f2 f3 f4
  show Code.wp _ _ _ _ ((((((w4.setCell (ai w1.heap.size 3) (ae (min (t*ms) 1000000001))).setCell (ai w1.heap.size 0) (ae 0)).setCell (ai w1.heap.size 1) (ae 0)).setCell (ai w1.heap.size 2) (ae 0)).setCell (ai w1.heap.size 3) (ae 0)).setCell (ai w1.heap.size 4) (.bool a.str))
  exact Om
 ·have hzb:(t == 0)=false:=by simpa using hz
  have HZ:=af hz;clear hz;go_wp2_with fail;refine(HM1 _).mono ?_;rintro e w3 ⟨rfl,rfl⟩;go_wp2_with fail;refine(xw _ _).mono ?_;rintro e w4 ⟨rfl,rfl⟩;go_wp2_with fail;obtain⟨X,hX⟩:=ak ((w4.setCell (ai w1.heap.size 3) (ae (min (t*ms) 1000000001))):World);have hsz:X.heap.size=w4.heap.size:=by rw[hX];simp[World.setCell]
  have gm:ay X w1.heap.size (a.times t).arr 36:=by
   rw[hX];have e:(a.times t).arr= #[ae a.need,ae a.aM,ae a.high,ae (min (t*ms) 1000000001),.bool a.str]:=by rw[Inf.times,az HZ.out,HM.out];rfl
   rw[e];have:=KA.set (o:=3) (ae (min (t*ms) 1000000001));simpa [Inf.arr]using this
  have hrx:ay X (w.heap.size+1) bR 36:=by
   rw[hX];exact(KR.setOther aK _)
  have hwx:Below w.heap.size w X:=by
   rw[hX];exact(KW.setCell aK _)
  obtain⟨u0,u1,u2,u3,u4⟩:=gm.inf;have eZ:=af hrx;have HWX:=af hwx;have hc:=fun (u:bN (w4.heap.size) X) (o:Nat)=>u.cell w1.heap.size o nk
  have hne:=bN.ne;have hle:w4.heap.size≤X.heap.size:=ag;have hr1:w.heap.size+1<w4.heap.size:=ag;clear gm hrx hwx c0 c1 c2 c3 c4 f0 f1 f2 f3 f4
  show Code.wp _ _ _ _ (w4.setCell (ai w1.heap.size 3) (ae (min (t*ms) 1000000001)))
  exact Om
end
section
open Go.RowKit
def aO(sb:Nat)(tv:Value)(I fin E A:Int):Array Value:= #[ax sb,tv,ae I,ae fin,ae E,ae A]
theorem ay.aO{w:World}{b:Nat}{t:TypeId}{sb:Nat}{tv:Value}{I fin E A:Int}(h:ay w b (aO sb tv I fin E A) t):
  w.cell? (ai b 0)=some (ax sb)∧w.cell? (ai b 1)=some tv∧w.cell? (ai b 2)=some (ae I)∧w.cell? (ai b 3)=some (ae fin)∧w.cell? (ai b 4)=some (ae E)∧w.cell? (ai b 5)=some (ae A):=
 ⟨h.cell 0 _ rfl,h.cell 1 _ rfl,h.cell 2 _ rfl,h.cell 3 _ rfl,h.cell 4 _ rfl,h.cell 5 _ rfl⟩
def qW(w:World)(tv:Value)(ar:List Tk):Prop:=w.ownsRow 0 213 2 tv ar.length (vS ar)
def aS(ar:List Tk)(i:Nat):ByteArray:=(ar.getD i (⟨#[]⟩,0)).1
def cE(ar:List Tk)(fin:Int)(i:Nat):Int:=if i<ar.length then((ar.getD i (⟨#[]⟩,0)).2:Int)else fin
theorem bo{xs:List Value}(h:w.ownsRow base e size v n xs):∃ad cap,v=.slice ad n cap∧n≤cap∧cap≤maxLen:=by
 rcases h.2 with ⟨rfl,rfl⟩|⟨g,cap,cur,rfl,_,_,h1,h2,_⟩
 ·exact⟨none,0,rfl,aH,bU _⟩
 ·exact⟨_,cap,rfl,h1,h2⟩
theorem PY(h:qW w tv ar)(i:Nat)(hi:i<ar.length):∃g cap,tv=aD g ar.length cap∧ar.length≤cap∧g<w.heap.size∧w.cell? (ai g (i*2))=some (.string (aS ar i))∧w.cell? (ai g (i*2+1))=some (ae (cE ar 0 i)):=by
 obtain⟨g,cap,hv,_,hg,h1,_,hc⟩:=cd h ag;refine⟨g,cap,hv,h1,hg,hc _ _ ?_,hc _ _ ?_⟩
 ·have:=flat_get (fun t:Tk=>[Value.string t.1,ae t.2]) 2 (fun _=>rfl) ar i 0 hi ag
  rw[Nat.add_zero]at this;rw[vS,this];simp[aS,hi]
 ·have:=flat_get (fun t:Tk=>[Value.string t.1,ae t.2]) 2 (fun _=>rfl) ar i 1 hi ag
  rw[vS,this];simp[cE,hi]
theorem Ca(rb sb:Nat)(tv:Value)(ar:List Tk)(i:Nat)(fin E A:Int)(w:World)(hi:i≤1000000000)(hl:ar.length≤1000000000)
  (hb:ay w rb (aO sb tv i fin E A) 181) (ht:qW w tv ar):
  Calls prog 88 #[ax rb] w fun e w'=>e=.returned (.string (aS ar i))∧Below w.heap.size w w':=by
 obtain⟨r0,r1,r2,r3,r4,r5⟩:=hb.aO
 by_cases hlt:i<ar.length
 ·obtain⟨g,cap,rfl,hc,hg,t0,_⟩:=PY ht i hlt
  obtain⟨x,hx⟩:=ak (aS ar i);rw[←hx]at t0 ⊢;have bV:(i:Int)<(ar.length:Int):=ag;have hl0:(0:Int)≤(i:Int):=ag;clear hx ht hb;go_enter func88,ntmps88;go_wp2;go_quiet (fail);go_wp2;go_quiet (fail);go_wp2;go_ret;exact⟨rfl,⟨rfl,rfl,rfl,aH,fun _ _=>rfl⟩⟩
 ·obtain⟨ad,cap,rfl,hc,_⟩:=bo ht
  have hx:aS ar i=⟨#[]⟩:=by simp[aS,List.getD,jh (by omega:ar.length≤i)]
  rw[hx];have bV:¬(i:Int)<(ar.length:Int):=ag;clear hx ht hb;go_enter func88,ntmps88;go_wp2;go_quiet (fail);go_wp2;go_ret;exact⟨rfl,⟨rfl,rfl,rfl,aH,fun _ _=>rfl⟩⟩
theorem su(rb sb:Nat)(tv:Value)(ar:List Tk)(i:Nat)(I fin A e:Int)(w:World)(hi:i≤1000000000)(hl:ar.length≤1000000000)
  (hb:ay w rb (aO sb tv I fin 0 A) 181) (ht:qW w tv ar) (hne:tv.ownBlock≠some rb):
  Calls prog 91 #[ax rb,ae e,ae i] w fun r w'=>r=.returned (.tuple #[])∧ay w' rb (aO sb tv I fin e (cE ar fin i)) 181∧aq (fun k=>k=rb) w w':=by
 obtain⟨r0,r1,r2,r3,r4,r5⟩:=hb.aO;have f4:=hb.frozen 4;have f5:=hb.frozen 5;have HB:=af hb
 by_cases hlt:i<ar.length
 ·obtain⟨g,cap,rfl,hc,hg,_,t1⟩:=PY ht i hlt
  have hp:cE ar fin i=cE ar 0 i:=by simp[cE,hlt]
  rw[hp];obtain⟨x,hx⟩:=ak (cE ar 0 i);rw[←hx]at t1 ⊢;have hgr:g≠rb:=fun e=>hne xA
  have bV:(i:Int)<(ar.length:Int):=ag;have hl0:(0:Int)≤(i:Int):=ag;clear hx ht hb hp hne;go_enter func91,ntmps91;go_wp2;go_end0;refine⟨rfl,?_,?_⟩
  ·have:=((HB.set (o:=4) (ae e)).set (o:=5) (ae fin)).set (o:=5) (ae x)
   simpa [aO]using this
  ·exact(((aq.refl (fun k=>k=rb) w).setCell (p:=ai rb 4) rfl _).setCell (p:=ai rb 5) rfl _).setCell (p:=ai rb 5) rfl _
 ·obtain⟨ad,cap,rfl,hc,_⟩:=bo ht
  have hp:cE ar fin i=fin:=by simp[cE,hlt]
  rw[hp];have bV:¬(i:Int)<(ar.length:Int):=ag;clear ht hb hp hne;go_enter func91,ntmps91;go_wp2;go_end0;refine⟨rfl,?_,?_⟩
  ·have:=(HB.set (o:=4) (ae e)).set (o:=5) (ae fin)
   simpa [aO]using this
  ·exact((aq.refl (fun k=>k=rb) w).setCell (p:=ai rb 4) rfl _).setCell (p:=ai rb 5) rfl _
end
section
open Go.RowKit
def lp(ws:List RW)(t:ByteArray)(loops:Int):Int:=
 if 0≤cL ws t then 0 else if(bD t).2.2=false then 3 else if(t.toList == [105])=true∧loops=0 then 5 else 0
def tK(ws:List RW)(t:ByteArray):Array Value:=
 if 0≤cL ws t then #[ae 3,ae (cL ws t),.string ⟨#[]⟩,aI,aI]
 else #[ae 2,ae 0,.string t,aI,aI]
def dR:Array Value:= #[ae 0,ae 0,.string ⟨#[]⟩,aI,aI]
theorem qW.aB(h:qW w tv ar)(hc:aq S w w')(hs:∀k,tv.ownBlock=some k→¬S k):qW w' tv ar:=aR h hc hs
theorem qW.alloc(h:qW w tv ar)(o:Obj):qW (w.alloc o) tv ar:=h.aB ((aq.refl (fun _=>False) w).alloc o) (fun _ _=>id)
theorem cG.aB(h:cG w sb v ws c k)(hc:aq S w w')(h1:¬S sb)(h2:∀k,v.ownBlock=some k→¬S k):cG w' sb v ws c k:=
 ⟨h.blk.aB hc h1,aR h.row hc h2,h.apart⟩
theorem cG.alloc(h:cG w sb v ws c k)(o:Obj):cG (w.alloc o) sb v ws c k:=
 h.aB ((aq.refl (fun _=>False) w).alloc o) id (fun _ _=>id)
theorem abp(rb sb:Nat)(tv:Value)(ar:List Tk)(I:Nat)(fin A loops:Int)(v:Value)(ws:List RW)(c k:Int)(t:ByteArray)(w:World)(fR:ws.length≤1100000)
  (hb:ay w rb (aO sb tv I fin 0 A) 181) (hS:cG w sb v ws c k) (h0:lp ws t loops=0):
  Calls prog 170 #[ax rb,.string t,ae loops] w fun e w'=>e=.returned (.tuple #[.agg (tK ws t),.bool true])∧Below w.heap.size w w':=by
 obtain⟨r0,r1,r2,r3,r4,r5⟩:=hb.aO;have hlt:=hb.lt;have HF:=af (fun o:Obj=>Ei t (w.alloc o) (hS.alloc o) fR);have HT:=af (iF t);obtain⟨r,hr⟩:=ak (cL ws t);obtain⟨ta,tp,tb,htt⟩:∃a b c,bD t=(a,b,c):=⟨_,_,_,rfl⟩;rw[←hr]at HF;rw[htt]at HT;have HV:Hid (tK ws t=if 0≤r then #[ae 3,ae r,.string ⟨#[]⟩,aI,aI]else #[ae 2,ae 0,.string t,aI,aI]):=by show tK ws t=_;rw[tK,hr]
 have HE:Hid ((if 0≤r then 0 else if tb=false then 3 else if(t.toList == [105])=true∧loops=0 then 5 else 0)=(0:Int)):=by
  show _=_;rw[lp,htt,←hr]at h0;exact h0
 obtain⟨V,hV⟩:=ak (tK ws t);rw[←hV];have HV2:=af hV;clear hr htt h0 hS hb hV
 by_cases hp:0≤r
 ·have HX:Hid (V= #[ae 3,ae r,.string ⟨#[]⟩,aI,aI]):=by have:=HV2.out;rw[HV.out,aG hp]at this;exact this
  go_enter func170,ntmps170
  go_wp2_with (go_at_call 93;refine(HF _).mono ?_;rintro e w' ⟨rfl,rfl⟩)
  exact bodyPost_ret (v:=.tuple #[.agg V,.bool true]) MP rfl ⟨rfl,aQ.alloc aH _⟩
 ·have HX:Hid (V= #[ae 2,ae 0,.string t,aI,aI]):=by have:=HV2.out;rw[HV.out,az hp]at this;exact this
  have hE:=HE.out;rw[az hp]at hE
  have jO:tb=true:=by
   cases tb with
   |true=>rfl
   |false=>simp at hE
  subst jO
  have nT:¬((t.toList == [105])=true∧loops=0):=by
   intro h;simp only[Bool.true_eq_false,if_false]at hE;rw[aG h]at hE;cases hE
  clear hE HE
  by_cases hi:(t.toList == [105])=true
  ·have hl:(loops == 0)=false:=by
    rw[beq_eq_false_iff_ne];intro e;exact nT ⟨hi,e⟩
   clear nT;go_enter func170,ntmps170;exact Mn
  ·have hi':(t.toList == [105])=false:=by simpa using hi
   clear nT hi;go_enter func170,ntmps170;exact Mn
theorem aq.acu{b:Nat}(h:aq S w w1)(hb:b<w.heap.size)(h2:aq (fun k=>k=w.heap.size) w1 w2):aq S w w2:=
 ⟨h2.os.trans h.os,h2.tape.trans h.tape,h2.output.trans h.output,bB h.size h2.size,fun k hk hn=>(h2.block k (bF hk h.size) ag).trans (h.block k hk hn)⟩
theorem ay.dR{w:World}{b:Nat}{t:TypeId}(h:ay w b dR t):w.cell? (ai b 0)=some (ae 0)∧w.cell? (ai b 1)=some (ae 0)∧w.cell? (ai b 2)=some (.string ⟨#[]⟩)∧w.cell? (ai b 3)=some aI∧w.cell? (ai b 4)=some aI:=
 ⟨h.cell 0 _ rfl,h.cell 1 _ rfl,h.cell 2 _ rfl,h.cell 3 _ rfl,h.cell 4 _ rfl⟩
theorem acO(rb sb:Nat)(tv:Value)(ar:List Tk)(I:Nat)(fin A loops:Int)(v:Value)(ws:List RW)(c k:Int)(t:ByteArray)(w:World)(fR:ws.length≤1100000)(hI:I≤1000000000)(hl:ar.length≤1000000000)
  (hb:ay w rb (aO sb tv I fin 0 A) 181) (ht:qW w tv ar) (hne:tv.ownBlock≠some rb) (hS:cG w sb v ws c k) (h0:lp ws t loops≠0):
  Calls prog 170 #[ax rb,.string t,ae loops] w fun e w'=>e=.returned (.tuple #[.agg dR,.bool false])∧ay w' rb (aO sb tv I fin (lp ws t loops) (cE ar fin I)) 181∧aq (fun k=>k=rb) w w':=by
 obtain⟨r0,r1,r2,r3,r4,r5⟩:=hb.aO;have hlt:=hb.lt;have HF:=af (fun o:Obj=>Ei t (w.alloc o) (hS.alloc o) fR);have HT:=af (iF t);have HX:=af (fun (o:Obj) (e:Int)=>su rb sb tv ar I I fin A e (w.alloc o) hI hl (hb.alloc o) (ht.alloc o) hne);have HB:=af hb;obtain⟨r,hr⟩:=ak (cL ws t);obtain⟨ta,tp,tb,htt⟩:∃a b c,bD t=(a,b,c):=⟨_,_,_,rfl⟩;rw[←hr]at HF;rw[htt]at HT;obtain⟨E,hE⟩:=ak (lp ws t loops);rw[←hE]at h0 ⊢
 have HE:Hid (E=(if 0≤r then 0 else if tb=false then 3 else if(t.toList == [105])=true∧loops=0 then 5 else 0)):=by
  show _=_;rw[lp,htt,←hr]at hE;exact hE
 clear hr htt hS hb hE;have hp:¬0≤r:=by intro hp;have:=HE.out;rw[aG hp]at this;exact h0 this
 have lS:=fun o:Obj=>hlt
 cases tb with
 |false=>
  obtain rfl:E=3:=by have:=HE.out;rw[az hp]at this;simpa using this
  clear HE h0;go_enter func170,ntmps170;exact Pk
 |true=>
  have hE:=HE.out;rw[az hp]at hE;simp only[Bool.true_eq_false,if_false]at hE
  have hc5:(t.toList == [105])=true∧loops=0:=by
   rcases Classical.em ((t.toList == [105])=true∧loops=0)with h|h
   ·exact h
   ·rw[az h]at hE;exact absurd hE h0
  rw[aG hc5]at hE;subst hE;obtain⟨hi,hlz⟩:=hc5;subst hlz;clear HE h0;go_enter func170,ntmps170;exact Pk
end
section
structure AI where
 num:Option Int
 inf:Inf
 tree:IT
abbrev PR:=(List AI×ByteArray×Nat) ⊕ (Int×Int)
def jm:ByteArray:=⟨#[101,108,115,101]⟩
def eC:ByteArray:=⟨#[116,104,101,110]⟩
def jV:ByteArray:=⟨#[108,111,111,112]⟩
def iw:ByteArray:=⟨#[59]⟩
def Bv:ByteArray:=⟨#[58]⟩
def Bj:ByteArray:=⟨#[118,97,114,105,97,98,108,101]⟩
def gw:List ByteArray:=[⟨#[]⟩,jm,eC,jV,iw,Bv,Bj]
def lI(l:List AI)(j:Nat):Inf:=((l.map AI.inf).getD j Inf.zero)
def bS(l:List AI):Inf:=upTo (lI l) l.length
def AP(x:RW):Inf:=if 0≤x.var then Inf.plain 0 1 else x.inf.more
def wordI(ws:List RW)(t:ByteArray):Inf:=
 if 0≤cL ws t then
  match ws[(cL ws t).toNat]? with
  |some x=>AP x
  |none=>Inf.zero
 else Inf.plain (bD t).1 (bD t).2.1
def tF(ws:List RW)(t:ByteArray):IT:=if 0≤cL ws t then .own (cL ws t).toNat else .op t
def trees(l:List AI):List IT:=l.map AI.tree
def lastTwo(l:List AI):Option (Int×Int):=
 match l.reverse with
 |⟨some b,_,_⟩ :: ⟨some a,_,_⟩ :: _=>some (a,b)
 |_=>none
section
variable(ws:List RW)(ar:List Tk)(fin:Int)
def pItems:Nat→List ByteArray→Int→List AI→Nat→PR
 |0,_,_,_,_=>.inr (99,0)
 |f+1,ends,loops,acc,I=>
  if ck (aS ar I) ends=true then .inl (acc,aS ar I,I+1)
  else if ck (aS ar I) gw=true then .inr (5,cE ar fin I)
  else if(dC (aS ar I)).2=true then pItems f ends loops (acc++[⟨some (dC (aS ar I)).1,Inf.plain 0 1,.num (dC (aS ar I)).1⟩]) (I+1)
  else if((aS ar I).toList == [105,102])=true then
   match pItems f [jm,eC] loops [] (I+1)with
   |.inr r=>.inr r
   |.inl (la,ta,I1)=>
    if(ta.toList == [101,108,115,101])=true then
     match pItems f [eC] loops [] I1 with
     |.inr r=>.inr r
     |.inl (lb,_,I2)=>if(bS la).aM=(bS lb).aM then pItems f ends loops (acc++[⟨none,(Inf.plain 1 0).then ((bS la).more.ways (bS lb)),.els (trees la) (trees lb)⟩]) I2 else .inr (6,cE ar fin (I2 - 1))
    else if(bS la).aM=0 then pItems f ends loops (acc++[⟨none,(Inf.plain 1 0).then ((bS la).ways Inf.zero),.iff (trees la)⟩]) I1 else .inr (6,cE ar fin (I1 - 1))
  else if((aS ar I).toList == [100,111])=true then
   match lastTwo acc with
   |none=>.inr (5,cE ar fin I)
   |some (a,b)=>
    if 1000<a - b then .inr (7,cE ar fin I)else
     match pItems f [jV] (loops+1) [] (I+1)with
     |.inr r=>.inr r
     |.inl (la,_,I1)=>if(bS la).aM=0 then pItems f ends loops (acc++[⟨none,(Inf.plain 2 0).then ((bS la).times (max 0 (a - b))),.kY (trees la)⟩]) I1 else .inr (6,cE ar fin (I1 - 1))
  else if lp ws (aS ar I) loops=0 then pItems f ends loops (acc++[⟨none,wordI ws (aS ar I),tF ws (aS ar I)⟩]) (I+1)
  else .inr (lp ws (aS ar I) loops,cE ar fin I)
end
def five(x:Array Value):Prop:=∃(k n:Int) (s:ByteArray) (a1:Option Addr) (n1 c1:Nat) (a2:Option Addr) (n2 c2:Nat),x= #[ae k,ae n,.string s,.slice a1 n1 c1,.slice a2 n2 c2]
def uJ(F:Nat→Prop)(w:World)(v:Value)(n:Nat)(xs:Nat→Array Value):Prop:=
 ∃ad cap,v=.slice ad n cap∧n≤cap∧(∀i,i<n→five (xs i))∧(0<n→∃g cs,ad=some (ai g 0)∧F g∧w.heap[g]?=some (.cells cs 249 (0,0))∧∀i,i<n→∀(j:Nat) (u:Value),(xs i)[j]?=some u→cs[i*5+j]?=some u)
inductive lO (F:Nat→Prop) (w:World):Array Value→IT→Prop
 |num (n:Int) (h: -2147483648≤n∧n≤2147483647):lO F w #[ae 1,ae n,.string ⟨#[]⟩,aI,aI] (.num n)
 |op (s:ByteArray):lO F w #[ae 2,ae 0,.string s,aI,aI] (.op s)
 |own (k:Nat):lO F w #[ae 3,ae k,.string ⟨#[]⟩,aI,aI] (.own k)
 |iff (v:Value) (a:List IT) (xs:Nat→Array Value) (h:uJ F w v a.length xs) (h':∀(i:Nat) (t:IT),a[i]?=some t→lO F w (xs i) t):lO F w #[ae 4,ae 0,.string ⟨#[]⟩,v,aI] (.iff a)
 |els (v u:Value) (a b:List IT) (xs ys:Nat→Array Value) (h:uJ F w v a.length xs) (h':∀(i:Nat) (t:IT),a[i]?=some t→lO F w (xs i) t) (k:uJ F w u b.length ys) (k':∀(i:Nat) (t:IT),b[i]?=some t→lO F w (ys i) t):lO F w #[ae 5,ae 0,.string ⟨#[]⟩,v,u] (.els a b)
 |kY (v:Value) (ad:Option Addr) (n c:Nat) (a:List IT) (xs:Nat→Array Value) (h:uJ F w v a.length xs) (h':∀(i:Nat) (t:IT),a[i]?=some t→lO F w (xs i) t):lO F w #[ae 6,ae 0,.string ⟨#[]⟩,v,.slice ad n c] (.kY a)
theorem uJ.mono{xs:Nat→Array Value}(h:uJ F w v n xs)(hf:∀k cs,F k→w.heap[k]?=some (.cells cs 249 (0,0))→G k∧w'.heap[k]?=w.heap[k]?):uJ G w' v n xs:=by
 obtain⟨ad,cap,h1,h2,h3,h4⟩:=h;refine⟨ad,cap,h1,h2,h3,fun hn=>?_⟩;obtain⟨g,cs,e1,e2,e3,e4⟩:=h4 hn;obtain⟨k1,k2⟩:=hf g cs e2 e3;exact⟨g,cs,e1,k1,k2.trans e3,e4⟩
theorem lO.mono(h:lO F w x t)(hf:∀k cs,F k→w.heap[k]?=some (.cells cs 249 (0,0))→G k∧w'.heap[k]?=w.heap[k]?):lO G w' x t:=by
 induction h with
 |num n h=>exact .num n h
 |op s=>exact .op s
 |own k=>exact .own k
 |iff v a xs h _ ih=>exact .iff v a xs (h.mono hf) ih
 |els v u a b xs ys h _ k _ ih ih2=>exact .els v u a b xs ys (h.mono hf) ih (k.mono hf) ih2
 |kY v ad n c a xs h _ ih=>exact .kY v ad n c a xs (h.mono hf) ih
def uA(sb:Nat)(sv:Value)(ws:List RW)(sc sk:Int)(F:Nat→Prop)(w:World)(x:Array Value)(i:Inf)(t:IT):Prop:=
 ∀w',(∀k,F k→w'.heap[k]?=w.heap[k]?)→lO F w' x t∧(cG w' sb sv ws sc sk→
  Calls prog 171 #[ax sb,.agg x] w' fun e w''=>e=.returned i.val∧Below w'.heap.size w' w'')
theorem uA.mono(h:uA sb sv ws sc sk F w x i t)(hf:∀k,F k→G k)(hw:∀k,F k→w1.heap[k]?=w.heap[k]?):uA sb sv ws sc sk G w1 x i t:=
 fun w' h1=>⟨(h w' (fun k hk=>(h1 k (hf k hk)).trans (hw k hk))).1.mono (fun k _ hk _=>⟨hf k hk,rfl⟩),(h w' (fun k hk=>(h1 k (hf k hk)).trans (hw k hk))).2⟩
def kindOk(x:Array Value)(a:AI):Prop:=
 match a.num with
 |some n=>x= #[ae 1,ae n,.string ⟨#[]⟩,aI,aI]∧ -2147483648≤n∧n≤2147483647
 |none=>∃k:Int,x[0]?=some (ae k)∧k≠1
structure dS (sb:Nat) (sv:Value) (ws:List RW) (sc sk:Int) (w:World) (base:Nat) (v:Value) (l:List AI) (xs:List (Array Value)) (F:Nat→Prop):Prop where
 len:xs.length=l.length
 row:w.ownsRow base 249 5 v l.length (xs.flatMap Array.toList)
 shape:∀x∈xs,five x
 kind:∀(i:Nat) (x:Array Value) (a:AI),xs[i]?=some x→l[i]?=some a→kindOk x a
 fp:∀k,F k→base≤k∧k<w.heap.size∧v.ownBlock≠some k
 ok:∀(i:Nat) (x:Array Value) (a:AI),xs[i]?=some x→l[i]?=some a→uA sb sv ws sc sk F w x a.inf a.tree
structure Inf.Wt (i:Inf) (q:Int):Prop where
 n0: -4000000000*q≤i.need
 n1:i.need≤4000000000*q
 t0: -4000000000*q≤i.aM
 t1:i.aM≤4000000000*q
 h0:0≤i.high
 h1:i.high≤4000000000*q
 s0:0≤i.steps
 s1:i.steps≤1000000001
theorem Inf.Wt.ok(h:i.Wt q)(h0:0≤q)(h1:q≤10000000):i.Ok:=by
 obtain⟨a1,a2,a3,a4,a5,a6,a7,a8⟩:=h
 constructor<;>omega
theorem Inf.Wt.mono(h:i.Wt q)(hq:q≤r):i.Wt r:=by
 obtain⟨a1,a2,a3,a4,a5,a6,a7,a8⟩:=h
 constructor<;>omega
theorem Inf.Wt.zero:Inf.zero.Wt 0:=E1
theorem Inf.Wt.then(ha:a.Wt q)(hb:b.Wt r)(hq:0≤q)(hr:0≤r):(a.then b).Wt (q+r):=by
 obtain⟨a1,a2,a3,a4,a5,a6,a7,a8⟩:=ha;obtain⟨b1,b2,b3,b4,b5,b6,b7,b8⟩:=hb
 constructor<;>simp only[Inf.then]<;>omega
theorem Inf.Wt.more(ha:a.Wt q):a.more.Wt q:=by
 obtain⟨a1,a2,a3,a4,a5,a6,a7,a8⟩:=ha
 constructor<;>simp only[Inf.more]<;>omega
theorem Inf.Wt.ways(ha:a.Wt q)(hb:b.Wt r)(hq:0≤q)(hr:0≤r):(a.ways b).Wt (q+r):=by
 exact Oe
theorem Inf.Wt.times{n:Int}(ha:a.Wt q)(hq:0≤q)(h0:0≤n):(a.times n).Wt q:=by
 exact KD
theorem BW:∀(a b:List Nat),(a++b).sum=a.sum+b.sum
 |[],b=>aF
 |x :: a,b=>by simp only[List.cons_append,List.sum_cons];rw[BW a b];omega
theorem Q6:∀(a:List Nat) (x:Nat),x∈a→x≤a.sum
 |[],x,h=>jC
 |y :: a,x,h=>by
  simp only[List.sum_cons];rcases er.1 h with rfl|h
  ·omega
  ·have:=Q6 a x h;omega
def fQ(l:List AI)(q:Nat):Prop:=∃qs:List Nat,qs.length=l.length∧qs.sum≤q∧∀(j:Nat) (a:AI) (n:Nat),l[j]?=some a→qs[j]?=some n→a.inf.Wt n
theorem fQ.nil(q:Nat):fQ [] q:=⟨[],rfl,aF,fun j a n h=>jC⟩
theorem fQ.mono{l:List AI}{q r:Nat}(h:fQ l q)(hq:q≤r):fQ l r:=by
 obtain⟨qs,a,b,c⟩:=h;exact⟨qs,a,ag,c⟩
theorem fQ.snoc{l:List AI}{q r:Nat}{x:AI}(h:fQ l q)(hx:x.inf.Wt r):fQ (l++[x]) (q+r):=by
 obtain⟨qs,a,b,c⟩:=h;refine⟨qs++[r],by simp[a],by rw[BW];simp;omega,fun j y n h1 h2=>?_⟩
 by_cases hj:j<l.length
 ·rw[dH hj]at h1
  rw[dH ag]at h2;exact c j y n h1 h2
 ·rw[fP ag]at h1
  rw[fP ag]at h2;rw[a]at h2
  by_cases e:j - l.length=0
  ·rw[e]at h1 h2;simp at h1 h2;subst h1;subst h2;exact hx
  ·rw[jh aK]at h1;cases h1
theorem fQ.upTo{l:List AI}{q:Nat}(h:fQ l q):∀j,j≤l.length→∃r:Nat,r≤q∧(upTo (lI l) j).Wt r:=by
 obtain⟨qs,a,b,c⟩:=h
 have key:∀j,j≤l.length→(Go.Proofs.YtcphhbofjkenaaaGreatDoor.upTo (lI l) j).Wt ((qs.take j).sum:Nat):=by
  intro j
  induction j with
  |zero=>intro _;simpa [Go.Proofs.YtcphhbofjkenaaaGreatDoor.upTo]using Inf.Wt.zero
  |succ j ih=>
   intro hj;have h1:=ih ag;have hl:l[j]?=some l[j]:=bE ag;have hq:qs[j]?=some qs[j]:=bE ag;have h2:=c j _ _ hl hq;have e:lI l j=l[j].inf:=by simp[lI,hl]
   rw[Go.Proofs.YtcphhbofjkenaaaGreatDoor.upTo,e];have h3:=h1.then h2 ag ag
   have hs:(qs.take (j+1)).sum=(qs.take j).sum+qs[j]:=by
    rw[List.take_succ_eq_append_getElem ag,BW];simp
   rw[hs];simpa using h3
 intro j hj;refine⟨_,?_,key j hj⟩
 have:(qs.take j).sum≤qs.sum:=by
  have e:=List.take_append_drop j qs;have:=congrArg List.sum e;rw[BW]at this;omega
 omega
theorem fQ.item{l:List AI}{q:Nat}(h:fQ l q)(j:Nat)(hj:j<l.length):∃r:Nat,r≤q∧(lI l j).Wt r:=by
 obtain⟨qs,a,b,c⟩:=h;have hl:l[j]?=some l[j]:=bE ag;have hq:qs[j]?=some qs[j]:=bE ag;refine⟨qs[j],?_,?_⟩
 ·have:=Q6 qs qs[j] (nS ag);omega
 ·have e:lI l j=l[j].inf:=by simp[lI,hl]
  rw[e];exact c j _ _ hl hq
end
section
theorem Vd(h:five x):x.toList.length=5:=by
 obtain⟨k,n,s,a1,n1,c1,a2,n2,c2,rfl⟩:=h;rfl
theorem Dy:∀(xs:List (Array Value)) (_:∀x∈xs,five x) (i j:Nat) (x:Array Value) (u:Value),xs[i]?=some x→x[j]?=some u→(xs.flatMap Array.toList)[i*5+j]?=some u
 |[],_,i,j,x,u,h,_=>jC
 |y :: xs,hs,0,j,x,u,h,hu=>by
  simp at h;subst h;simp only[List.flatMap_cons,Nat.zero_mul,Nat.zero_add]
  rw[dH (by
   have:=(mD.1 hu).1;simpa using this)]
  simpa using hu
 |y :: xs,hs,i+1,j,x,u,h,hu=>by
  simp only[List.flatMap_cons];have hl:=Vd (hs y aF);rw[fP ag,hl,show(i+1)*5+j - 5=i*5+j by omega];exact Dy xs (fun z hz=>hs z (by simp[hz])) i j x u Bt hu
theorem Qc{b:Nat}(h:w'.heap[b]?=w.heap[b]?)(hb:b<w.heap.size):b<w'.heap.size:=by
 rw[Array.getElem?_eq_getElem hb]at h;exact(mD.1 h).1
theorem dS.all{l:List AI}{q:Nat}
  (h:dS sb sv ws sc sk w base v l xs F) (hw:fQ l q) (hq:q≤10000000) (hl:l.length≤1100000) (w':World)
  (h1:∀k,F k→w'.heap[k]?=w.heap[k]?) (h2:∀k,v.ownBlock=some k→w'.heap[k]?=w.heap[k]?) (hsz:w.heap.size≤w'.heap.size) (h3:cG w' sb sv ws sc sk):
  Calls prog 130 #[ax sb,v] w' fun e w''=>e=.returned (bS l).val∧Below w'.heap.size w' w'':=by
 obtain⟨ad,cap,hv,hc1,hc2⟩:=bo h.row;subst hv;have bj:∀i:Inf,(∃r:Nat,r≤q∧i.Wt r)→i.Ok:=fun i ⟨r,hr,hi⟩=>hi.ok ag ag
 refine Hj sb l.length cap ad (lI l) (fun j=>xs.getD j #[]) w' hl hc1 (fun j hj=>bj _ (hw.item j hj)) (fun j hj=>bj _ (hw.upTo j hj)) (fun j hj=>?_) (fun j hj w2 hb2=>?_)
 ·have hxj:xs[j]?=some (xs[j]' zk):=bE _
  obtain⟨x,hx⟩:∃x,xs[j]?=some x:=⟨_,hxj⟩;obtain⟨k0,k1,k2,p1,n1,c1,p2,n2,c2,hxe⟩:=h.shape x (mF hx);obtain⟨g,cap',nZ,_,hg,_,_,hcell⟩:=cd h.row ag;have hg2:w'.heap[g]?=w.heap[g]?:=h2 g (by rw[nZ];rfl);have had:ad=some (ai g 0):=Lb
  have cc:∀(o:Nat) (u:Value),x[o]?=some u→w'.cell? (ai g (j*5+o))=some u:=fun o u hu=>by
   exact Ng
  subst hxe;refine⟨g,_,_,_,_,_,had,ag,KV,?_,cc 1 _ rfl,cc 2 _ rfl,cc 3 _ rfl,cc 4 _ rfl⟩;simpa using cc 0 _ rfl
 ·have hxj:xs[j]?=some (xs[j]' zk):=bE _
  have hlj:l[j]?=some l[j]:=bE hj;have:=(h.ok j _ _ hxj hlj w2 (fun k hk=>(hb2.block k (by have:=(h.fp k hk).2.1;omega)).trans (h1 k hk))).2 (h3.aB (aq.bf (S:=fun _=>False) hb2) id (fun _ _=>id));have e1:xs.getD j #[]=xs[j]' zk:=by simp[hxj]
  have e2:lI l j=l[j].inf:=by simp[lI,hlj]
  rw[e1,e2];exact this
theorem dS.JK{l:List AI}{q:Nat}
  (h:dS sb sv ws sc sk w base v l xs F) (hw:fQ l q) (hq:q≤10000000) (hl:l.length≤1100000) (w':World)
  (h1:∀k,F k→w'.heap[k]?=w.heap[k]?) (h2:∀k,v.ownBlock=some k→w'.heap[k]?=w.heap[k]?) (h3:cG w' sb sv ws sc sk):
  Calls prog 130 #[ax sb,v] w' fun e w''=>e=.returned (bS l).val∧Below w'.heap.size w' w'':=by
 obtain⟨ad,cap,hv,hc1,hc2⟩:=bo h.row;subst hv;have bj:∀i:Inf,(∃r:Nat,r≤q∧i.Wt r)→i.Ok:=fun i ⟨r,hr,hi⟩=>hi.ok ag ag
 refine Hj sb l.length cap ad (lI l) (fun j=>xs.getD j #[]) w' hl hc1 (fun j hj=>bj _ (hw.item j hj)) (fun j hj=>bj _ (hw.upTo j hj)) (fun j hj=>?_) (fun j hj w2 hb2=>?_)
 ·have hxj:xs[j]?=some (xs[j]' zk):=bE _
  obtain⟨x,hx⟩:∃x,xs[j]?=some x:=⟨_,hxj⟩;obtain⟨k0,k1,k2,p1,n1,c1,p2,n2,c2,hxe⟩:=h.shape x (mF hx);obtain⟨g,cap',nZ,_,hg,_,_,hcell⟩:=cd h.row ag;have hg2:w'.heap[g]?=w.heap[g]?:=h2 g (by rw[nZ];rfl);have had:ad=some (ai g 0):=Lb
  have cc:∀(o:Nat) (u:Value),x[o]?=some u→w'.cell? (ai g (j*5+o))=some u:=fun o u hu=>by
   exact Ng
  subst hxe;refine⟨g,_,_,_,_,_,had,Qc hg2 hg,KV,?_,cc 1 _ rfl,cc 2 _ rfl,cc 3 _ rfl,cc 4 _ rfl⟩;simpa using cc 0 _ rfl
 ·have hxj:xs[j]?=some (xs[j]' zk):=bE _
  have hlj:l[j]?=some l[j]:=bE hj;have:=(h.ok j _ _ hxj hlj w2 (fun k hk=>(hb2.block k (Qc (h1 k hk) (h.fp k hk).2.1)).trans (h1 k hk))).2 (h3.aB (aq.bf (S:=fun _=>False) hb2) id (fun _ _=>id));have e1:xs.getD j #[]=xs[j]' zk:=by simp[hxj]
  have e2:lI l j=l[j].inf:=by simp[lI,hlj]
  rw[e1,e2];exact this
theorem dS.A2{l:List AI}
  (h:dS sb sv ws sc sk w base v l xs F) (w':World) (h1:∀k,(F k∨v.ownBlock=some k)→w'.heap[k]?=w.heap[k]?):
  uJ (fun k=>F k∨v.ownBlock=some k) w' v (trees l).length (fun i=>xs.getD i #[])∧∀(i:Nat) (t:IT),(trees l)[i]?=some t→lO (fun k=>F k∨v.ownBlock=some k) w' (xs.getD i #[]) t:=by
 have hlt:(trees l).length=l.length:=by simp[trees]
 refine⟨?_,fun i t ht=>?_⟩
 ·rw[hlt]
  obtain⟨ad,cap,hv,hc,_⟩:=bo h.row;refine⟨ad,cap,hv,hc,fun i hi=>?_,fun hn=>?_⟩
  ·have hxj:xs[i]?=some (xs[i]' sZ):=bE _
   have e:xs.getD i #[]=xs[i]' sZ:=by simp[hxj]
   show five (xs.getD i #[])
   rw[e];exact h.shape _ (nS _)
  ·rcases h.row.2 with ⟨_,h0⟩|⟨g,cap',cur,nZ,_,hh,_,_,_,h4⟩
   ·omega
   ·have had:ad=some (ai g 0):=by rw[hv]at nZ;simpa using(congrArg (fun u:Value=>match u with|.slice a _ _=>a|_=>none) nZ)
    refine⟨g,cur,had,aA (by rw[nZ];rfl),(h1 g (aA (by rw[nZ];rfl))).trans hh,fun i hi j u hu=>?_⟩;have hxj:xs[i]?=some (xs[i]' sZ):=bE _;have e:xs.getD i #[]=xs[i]' sZ:=by simp[hxj]
    simp only at hu;rw[e]at hu;have:=Dy xs h.shape i j _ u hxj hu;rw[←h4,List.getElem?_take]at this
    split at this
    ·simpa using this
    ·cases this
 ·have hi:i<l.length:=by have:=(cI.1 ht).1;omega
  have hxj:xs[i]?=some (xs[i]' sZ):=bE _;have e:xs.getD i #[]=xs[i]' sZ:=by simp[hxj]
  have et:l[i].tree=t:=by
   unfold trees at ht;rw[iH,bE hi]at ht;simpa using ht
  rw[e,←et];exact(h.ok i _ _ hxj (bE hi) w' (fun k hk=>h1 k (aC hk))).1.mono (fun k _ hk _=>⟨aC hk,rfl⟩)
structure Rd (w:World) (rb sb:Nat) (tv sv:Value) (ar:List Tk) (ws:List RW) (c k:Int):Prop where
 tok:qW w tv ar
 sys:cG w sb sv ws c k
 tr:tv.ownBlock≠some rb
 sr:sv.ownBlock≠some rb
 ne:rb≠sb
 few:ar.length≤1100000
 uD:ws.length≤1100000
 wok:∀x∈ws,x.inf.Wt 1∧∃a n c,x.items=.slice a n c
 tsz:∀i,(aS ar i).size≤1000000000
theorem Rd.aB{rb:Nat}(h:Rd w rb sb tv sv ar ws c k)(hc:aq (fun b=>b=rb) w w'):Rd w' rb sb tv sv ar ws c k:=
 ⟨h.tok.aB hc (fun b hb e=>h.tr uH),h.sys.aB hc (fun e=>h.ne e.symm) (fun b hb e=>h.sr uH),h.tr,h.sr,h.ne,h.few,h.uD,h.wok,h.tsz⟩
def ab1(rb sb:Nat)(tv sv:Value)(ws:List RW)(c k:Int)(fin A:Int)(w:World)(r:PR)(e:Ending)(w':World):Prop:=
 match r with
 |.inl (l,t,I)=>∃v xs F,e=.returned (.tuple #[v,.string t])∧ay w' rb (aO sb tv I fin 0 A) 181∧aq (fun b=>b=rb) w w'∧dS sb sv ws c k w' w.heap.size v l xs F
 |.inr (E,P)=>∃(ad:Option Addr) (n cap I:Nat),e=.returned (.tuple #[.slice ad n cap,.string ⟨#[]⟩])∧E≠0∧ay w' rb (aO sb tv I fin E P) 181∧aq (fun b=>b=rb) w w'
def yy(n:Nat):Prop:=
 ∀(rb sb:Nat) (tv sv:Value) (ar:List Tk) (ws:List RW) (c k:Int) (I f:Nat) (fin A loops:Int) (ends:List ByteArray) (eb BM:Nat) (w:World),
  Rd w rb sb tv sv ar ws c k→ay w rb (aO sb tv I fin 0 A) 181→ar.length+1 - I≤n→ar.length+1 - I≤f→I≤ar.length→
  0≤loops→loops+(ar.length+1 - I:Nat)≤10000000→ends.length≤10→ends.length≤BM→eb≠rb→(∀j (h:j<ends.length),w.cell? (ai eb j)=some (.string ends[j]))→
  Calls prog 129 #[ax rb,aD eb ends.length BM,ae loops] w (ab1 rb sb tv sv ws c k fin A w (pItems ws ar fin f ends loops [] I))
end
section
def fk(F:Nat→Prop)(w:World)(v:Value)(its:List IT):Prop:=∃xs:Nat→Array Value,uJ F w v its.length xs∧∀(i:Nat) (t:IT),its[i]?=some t→lO F w (xs i) t
theorem fk.mono{its:List IT}(h:fk F w v its)(hf:∀k cs,F k→ay w k cs 249→G k∧w'.heap[k]?=w.heap[k]?):fk G w' v its:=by
 obtain⟨xs,h1,h2⟩:=h;exact⟨xs,h1.mono hf,fun i t ht=>(h2 i t ht).mono hf⟩
def fM(F:Nat→Prop)(w:World)(ws:List RW):Prop:=∀x∈ws,x.var<0→fk F w x.items x.its
theorem fM.mono(h:fM F w ws)(hf:∀k cs,F k→ay w k cs 249→G k∧w'.heap[k]?=w.heap[k]?):fM G w' ws:=fun x hx hv=>(h x hx hv).mono hf
theorem fM.nil(F:Nat→Prop)(w:World):fM F w []:=fun x hx=>by simp at hx
theorem fM.aB(h:fM F w ws)(hc:aq S w w')(hs:∀k cs,F k→ay w k cs 249→¬S k):fM F w' ws:=h.mono (fun k cs hk hb=>⟨hk,hc.block k hb.lt (hs k cs hk hb)⟩)
theorem fM.below(h:fM F w ws)(hb:Below w.heap.size w w'):fM F w' ws:=h.aB (aq.bf (S:=fun _=>False) hb) (fun _ _ _ _=>id)
theorem fM.one{b:Nat}{cs:Array Value}{t:TypeId}(h:fM F w ws)(hc:aq (fun k=>k=b) w w')(hb:ay w b cs t)(ht:t≠249):fM F w' ws:=h.aB hc (fun k c _ hk e=>by
 subst e;have:=hb.symm.trans hk;injection this with this
 injection this with _ h2
 exact ht h2)
theorem fM.shrink(h:fM F w ws):fM (fun k=>F k∧∃cs,ay w k cs 249) w ws:=h.mono (fun k cs hk hb=>⟨⟨hk,cs,hb⟩,rfl⟩)
end
section
theorem cJ{xs:List Value}(h:w.ownsRow base e size v n xs){k:Nat}(hk:v.ownBlock=some k):k<w.heap.size:=by
 rcases h.2 with ⟨rfl,_⟩|⟨g,cap,cur,rfl,_,hg,_⟩
 ·cases hk
 ·simp[Value.ownBlock]at hk;subst hk;exact(mD.1 hg).1
theorem aq.qA(h:aq S w w1)(h2:aq (fun k=>w.heap.size≤k) w1 w2):aq S w w2:=
 ⟨h2.os.trans h.os,h2.tape.trans h.tape,h2.output.trans h.output,bB h.size h2.size,fun k hk hn=>(h2.block k (bF hk h.size) ag).trans (h.block k hk hn)⟩
theorem xW(t p:Int)(h0:0≤t)(h1:t≤100)(h2:0≤p)(h3:p≤100):(Inf.plain t p).Wt 1:=Hi
theorem Zf(ws:List RW)(t:ByteArray)(hw:∀x∈ws,x.inf.Wt 1∧∃a n c,x.items=.slice a n c):(wordI ws t).Wt 1:=by
 unfold wordI
 split
 ·split
  ·rename_i x hx
   unfold AP
   split
   ·exact xW 0 1 ag ag ag ag
   ·exact(hw x (mF hx)).1.more
  ·exact Inf.Wt.zero.mono ag
 ·obtain⟨a,b,c,d⟩:=Hd t
  exact xW _ _ a b c d
theorem wS{l:List AI}{q:Nat}(h:fQ l q):(bS l).Wt q:=by
 obtain⟨r,hr,h2⟩:=h.upTo l.length aH;exact h2.mono ag
theorem OE(ar:List Tk)(I:Nat)(ends:List ByteArray)(hE:ck ⟨#[]⟩ ends=false)(h:ck (aS ar I) ends=true):I<ar.length:=by
 rcases kh I ar.length with h1|h1
 ·exact h1
 ·have:aS ar I=⟨#[]⟩:=by simp[aS,List.getD,jh h1]
  rw[this,hE]at h;cases h
theorem BF:ck ⟨#[]⟩ [jm,eC]=false:=dJ
theorem Cq:ck ⟨#[]⟩ [eC]=false:=dJ
theorem CR:ck ⟨#[]⟩ [jV]=false:=dJ
theorem PZ:ck ⟨#[]⟩ [iw]=false:=dJ
theorem wk(ws:List RW)(ar:List Tk)(fin:Int)(hw:∀x∈ws,x.inf.Wt 1∧∃a n c,x.items=.slice a n c):∀(f:Nat) (ends:List ByteArray) (loops:Int) (acc:List AI) (I:Nat) (l:List AI) (t:ByteArray) (I':Nat),
  pItems ws ar fin f ends loops acc I=.inl (l,t,I')→ck ⟨#[]⟩ ends=false→∀{q:Nat},fQ acc q→I<I'∧I'≤ar.length∧l.length≤acc.length+(I' - I)∧fQ l (q+(I' - I)):=by
 intro f
 induction f with
 |zero=>intro ends loops acc I l t I' h;simp[pItems]at h
 |succ f ih=>
  intro ends loops acc I l t I' h hE q hq
  have step:∀(x:AI) (J:Nat),I<J→x.inf.Wt ((J - I:Nat):Int)→pItems ws ar fin f ends loops (acc++[x]) J=.inl (l,t,I')→I<I'∧I'≤ar.length∧l.length≤acc.length+(I' - I)∧fQ l (q+(I' - I)):=by
   intro x J hJ hx h;obtain⟨a,b,c,d⟩:=ih ends loops (acc++[x]) J l t I' h hE (hq.snoc hx);simp at c;exact⟨ag,b,ag,d.mono ag⟩
  unfold pItems at h
  split at h
  ·rename_i hin
   have:=OE ar I ends hE hin;simp at h;obtain⟨rfl,rfl,rfl⟩:=h;exact⟨ag,ag,ag,hq.mono ag⟩
  split at h
  ·simp at h
  split at h
  ·exact step _ _ ag (by have:=xW 0 1 ag ag ag ag;exact this.mono ag) h
  split at h
  ·split at h
   ·simp at h
   ·rename_i la ta I1 hA
    obtain⟨a1,a2,_,a3⟩:=ih _ _ _ _ _ _ _ hA BF (fQ.nil 0);have wa:=wS a3
    split at h
    ·split at h
     ·simp at h
     ·rename_i lb tb I2 hB
      obtain⟨b1,b2,_,b3⟩:=ih _ _ _ _ _ _ _ hB Cq (fQ.nil 0);have wb:=wS b3
      split at h
      ·refine step _ _ ag ?_ h
       have:=(xW 1 0 ag ag ag ag).then (wa.more.ways wb ag ag) ag ag;exact this.mono ag
      ·simp at h
    ·split at h
     ·refine step _ _ ag ?_ h
      have:=(xW 1 0 ag ag ag ag).then (wa.ways Inf.Wt.zero ag ag) ag ag;exact this.mono ag
     ·simp at h
  split at h
  ·split at h
   ·simp at h
   ·rename_i a b hab
    split at h
    ·simp at h
    ·split at h
     ·simp at h
     ·rename_i la ta I1 hA
      obtain⟨a1,a2,_,a3⟩:=ih _ _ _ _ _ _ _ hA CR (fQ.nil 0);have wa:=wS a3
      split at h
      ·refine step _ _ ag ?_ h
       have:=(xW 2 0 ag ag ag ag).then (wa.times (n:=max 0 (a - b)) ag ag) ag ag;exact this.mono ag
      ·simp at h
  split at h
  ·exact step _ _ ag ((Zf ws _ hw).mono ag) h
  ·simp at h
end
section
theorem dS.nil(sb:Nat)(sv:Value)(ws:List RW)(sc sk:Int)(w:World)(base:Nat):dS sb sv ws sc sk w base aI [] [] (fun _=>False):=
 ⟨rfl,qQ _ _ _ _,fun x h=>jC,fun i x a h=>jC,fun k h=>h.elim,fun i x a h=>jC⟩
theorem dS.move{l:List AI}
  (h:dS sb sv ws sc sk w base v l xs F)  (hc:aq S w w') (hs:∀k,base≤k→¬S k):dS sb sv ws sc sk w' base v l xs F:=
 ⟨h.len,aR h.row hc (fun k hk=>hs k (by
   rcases h.row.2 with ⟨rfl,_⟩|⟨g,cap,cur,rfl,hg,_⟩
   ·cases hk
   ·simp[Value.ownBlock]at hk;omega)),h.shape,h.kind,fun k hk=>⟨(h.fp k hk).1,bF (h.fp k hk).2.1 hc.size,(h.fp k hk).2.2⟩,
  fun i x a h1 h2=>(h.ok i x a h1 h2).mono (fun _=>id) (fun k hk=>hc.block k (h.fp k hk).2.1 (hs k (h.fp k hk).1))⟩
theorem dS.snoc{v':Value}{l:List AI}{a:AI}
  (h:dS sb sv ws sc sk w base v l xs F) (hx:five x) (hk:kindOk x a) (hG:∀k,G k→base≤k∧k<w.heap.size∧v.ownBlock≠some k) (bj:uA sb sv ws sc sk G w x a.inf a.tree)
  (hr:w2.ownsRow base 249 5 v' (l.length+1) (xs.flatMap Array.toList++x.toList)) (hg:w.grownBy w2 v.ownBlock) (hat:v'.ownBlock=v.ownBlock∨v'.ownBlock=some w.heap.size):
  dS sb sv ws sc sk w2 base v' (l++[a]) (xs++[x]) (fun k=>F k∨G k):=by
 have hne:∀k,k<w.heap.size→v.ownBlock≠some k→v'.ownBlock≠some k:=by
  intro k h1 h2 e;rcases hat with h3|h3
  ·rw[h3]at e;exact h2 e
  ·rw[h3]at e;simp at e;omega
 have same:∀k,k<w.heap.size→v.ownBlock≠some k→w2.heap[k]?=w.heap[k]?:=fun k h1 h2=>hg.block k h1 (Ne.symm h2)
 refine⟨by simp[h.len],vD,?_,?_,?_,?_⟩
 ·intro y hy
  rcases List.mem_append.1 hy with hy|hy
  ·exact h.shape y hy
  ·simp at hy;subst hy;exact hx
 ·intro i y b h1 h2
  by_cases hi:i<l.length
  ·rw[dH sZ]at h1
   rw[dH hi]at h2;exact h.kind i y b h1 h2
  ·rw[fP (by rw[h.len];omega),h.len]at h1
   rw[fP ag]at h2
   by_cases e:i - l.length=0
   ·rw[e]at h1 h2;simp at h1 h2;subst h1;subst h2;exact hk
   ·rw[jh aK]at h1;cases h1
 ·rintro k (hF|hF)
  ·have:=h.fp k hF;exact⟨this.1,bF this.2.1 hg.size,hne k this.2.1 this.2.2⟩
  ·have:=hG k hF;exact⟨this.1,bF this.2.1 hg.size,hne k this.2.1 this.2.2⟩
 ·intro i y b h1 h2
  by_cases hi:i<l.length
  ·rw[dH sZ]at h1
   rw[dH hi]at h2;exact(h.ok i y b h1 h2).mono (fun _=>aC) (fun k hk=>same k (h.fp k hk).2.1 (h.fp k hk).2.2)
  ·rw[fP (by rw[h.len];omega),h.len]at h1
   rw[fP ag]at h2
   by_cases e:i - l.length=0
   ·rw[e]at h1 h2;simp at h1 h2;subst h1;subst h2
    exact bj.mono (fun _=>aA) (fun k hk=>same k (hG k hk).2.1 (hG k hk).2.2)
   ·rw[jh aK]at h1;cases h1
end
end Go.Proofs.YtcphhbofjkenaaaGreatDoor
