import Derived.Deep.DrawnRows
import Derived.Deep.RegionHeld3
import Derived.Test.YtcphhbofjkenaaaGreatDoorM04
import Derived.Test.YtcphhbofjkenaaaGreatDoorM05
import Derived.Test.YtcphhbofjkenaaaGreatDoorM06
import Derived.Test.YtcphhbofjkenaaaGreatDoorM08
namespace Go.Proofs.YtcphhbofjkenaaaGreatDoor
open Go Go.RowKit
set_option linter.unusedVariables false
set_option linter.unusedSimpArgs false
set_option maxRecDepth 100000
set_option maxHeartbeats 16000000
section
open Go.RowKit
theorem rq(w:World)(o:Obj)(t:TypeId):az ((w.alloc o).alloc (.cells aV t (0,0))) (w.heap.size+1) aV t:=by
 have:=ay (w.alloc o) aV t;simpa using this
theorem GY{w w1:World}{a b:Obj}(h:Below ((w.alloc a).alloc b).heap.size ((w.alloc a).alloc b) w1):Below (w.heap.size+1+1) ((w.alloc a).alloc b) w1:=by simpa using h
theorem wR(s:ByteArray):0≤(ax s).1∧(ax s).1≤100∧0≤(ax s).2.1∧(ax s).2.1≤100:=by
 unfold ax zG
 split
 ·rename_i r hr
  have hm:=List.mem_of_find?_eq_some hr;have:∀r∈tab,0≤r.2.1∧r.2.1≤100∧0≤r.2.2∧r.2.2≤100:=by decide
  exact this r hm
 ·simp
theorem J3(sb:Nat)(n s A B:Value)(hn:n.oneCell'=true)(hs:s.oneCell'=true)(hA:A.oneCell'=true)(hB:B.oneCell'=true)(w:World):
  Calls Tryz.prog 171 #[.pointer (some ⟨sb,0,none⟩),.agg #[.int .i64 1,n,s,A,B]] w fun e w'=>e=.returned (Inf.plain 0 1).val∧Below w.heap.size w w':=by
 go_enter Tryz.func171,Tryz.ntmps171
 go_wp2_with fail
 refine(kF 0 1 _ (by omega) (by omega) (by omega) (by omega)).mono ?_;rintro e w1 ⟨rfl,hb1⟩;have hb':=GY hb1;have hz:=(hb'.block (w.heap.size+1) (by omega)).trans (rq w _ 36);have hz:az w1 (w.heap.size+1) aV 36:=hz;obtain⟨d0,d1,d2,d3,d4⟩:=hz.zero;obtain⟨g0,g1,g2,g3,g4⟩:=hz.free;have HB:=ast hb';clear hz hb' hb1;unfold Inf.val;go_wp2_with fail
 refine bodyPost_ret (v:=(Inf.plain 0 1).val) (by simp[results,Tryz.results171,go_sem,Inf.val,d0,d1,d2,d3,d4]) rfl ⟨rfl,?_⟩;exact((((((mX HB.out).setCell (by simp) _).setCell (by simp) _).setCell (by simp) _).setCell (by simp) _).setCell (by simp) _)
theorem EE(sb:Nat)(n:Value)(s:ByteArray)(A B:Value)(hn:n.oneCell'=true)(hA:A.oneCell'=true)(hB:B.oneCell'=true)(w:World):
  Calls Tryz.prog 171 #[.pointer (some ⟨sb,0,none⟩),.agg #[.int .i64 2,n,.string s,A,B]] w fun e w'=>e=.returned (Inf.plain (ax s).1 (ax s).2.1).val∧Below w.heap.size w w':=by
 have ry:=wR s;have HT:Hid (∀w,Calls Tryz.prog 193 #[.string s] w fun e w'=>e=.returned (.tuple #[.int .i64 (ax s).1,.int .i64 (ax s).2.1,.bool (ax s).2.2])∧w'=w):=bF s;obtain⟨t,p,b,hp⟩:∃t p b,ax s=(t,p,b):=⟨_,_,_,rfl⟩
 have rQ:Hid (∀w,Calls Tryz.prog 193 #[.string s] w fun e w'=>e=.returned (.tuple #[.int .i64 t,.int .i64 p,.bool b])∧w'=w):=by
  have:=HT.out;rw[hp]at this;exact this
 rw[hp]at ry ⊢;obtain⟨b0,b1,b2,b3⟩:=ry;simp only at b0 b1 b2 b3 ⊢;clear HT hp;go_enter Tryz.func171,Tryz.ntmps171
 go_wp2_with fail
 refine(rQ.out _).mono ?_;rintro e w0 ⟨rfl,rfl⟩;go_wp2_with fail
 refine(kF t p _ b0 b1 b2 b3).mono ?_;rintro e w1 ⟨rfl,hb1⟩;have hb':=GY hb1;have hz:=(hb'.block (w.heap.size+1) (by omega)).trans (rq w _ 36);have hz:az w1 (w.heap.size+1) aV 36:=hz;obtain⟨d0,d1,d2,d3,d4⟩:=hz.zero;obtain⟨g0,g1,g2,g3,g4⟩:=hz.free;have HB:=ast hb';clear hz hb' hb1;unfold Inf.val;go_wp2_with fail
 refine bodyPost_ret (v:=(Inf.plain t p).val) (by simp[results,Tryz.results171,go_sem,Inf.val,d0,d1,d2,d3,d4]) rfl ⟨rfl,?_⟩;exact((((((mX HB.out).setCell (by simp) _).setCell (by simp) _).setCell (by simp) _).setCell (by simp) _).setCell (by simp) _)
end
section
open Go.RowKit
attribute [local go_sem ↓] Go.wp_at_zero Go.wp_at_succ
theorem dG{w:World}{a:Addr}{v:Value}(h:w.cell? a=some v):∀o p:Obj,((w.alloc o).alloc p).cell? a=some v:=by
 intro o p;have hlt:a.block<w.heap.size:=World.block_lt_of_cell? w a h;rw[(((aj.refl (fun _=>False) w).alloc o).alloc p).cell hlt id];exact h
theorem J4(sb g cap m:Nat)(i:Nat)(x:RW)(s:Value)(A B:Value)(hs:s.oneCell'=true)(hA:A.oneCell'=true)(hB:B.oneCell'=true)(w:World)
  (hi:i<m) (hm:m≤1100000) (hmc:m≤cap) (hx:∃q a b,x.items=.slice q a b) (gG:x.inf.Ok)
  (h0:w.cell? ⟨sb,0,none⟩=some (.slice (some ⟨g,0,none⟩) m cap))
  (hc:∀(j:Nat) (u:Value),j<8→(x.cells)[j]?=some u→w.cell? ⟨g,i*8+j,none⟩=some u):
  Calls Tryz.prog 171 #[.pointer (some ⟨sb,0,none⟩),.agg #[.int .i64 3,.int .i64 i,s,A,B]] w fun e w'=>e=.returned (if 0≤x.var then Inf.plain 0 1 else{x.inf with steps:=min (x.inf.steps+1) 1000000001}).val∧Below w.heap.size w w':=by
 have H0:=dG h0;have k0:=dG (hc 0 _ (by omega) rfl);have k1:=dG (hc 1 _ (by omega) rfl);have k2:=dG (hc 2 _ (by omega) rfl);have k3:=dG (hc 3 _ (by omega) rfl);have k4:=dG (hc 4 _ (by omega) rfl);have k5:=dG (hc 5 _ (by omega) rfl);have k6:=dG (hc 6 _ (by omega) rfl);have k7:=dG (hc 7 _ (by omega) rfl);have hgs:g<w.heap.size:=World.block_lt_of_cell? w _ (hc 0 _ (by omega) rfl);have Zb:sb<w.heap.size:=World.block_lt_of_cell? w _ h0;obtain⟨nm,vr,it,⟨nd,nt,hg,st,sr⟩⟩:=x;have o1:=gG.s0;have o2:=gG.s1;simp only at o1 o2 hx k0 k1 k2 k3 k4 k5 k6 k7 ⊢;simp only[Nat.add_zero]at k0;obtain⟨iq,ia,ib,rfl⟩:=hx;clear hc h0 gG;have b1:(0:Int)≤(i:Int):=by omega
 have b2:(i:Int)<(m:Int):=by omega
 by_cases hv:0≤vr
 ·rw[if_pos hv]
  go_enter Tryz.func171,Tryz.ntmps171
  go_wp2_with fail
  go_region_held3 (fun w'=>w'.cell? ⟨sb,0,none⟩=some (.slice (some ⟨g,0,none⟩) m cap)∧w'.cell? ⟨w.heap.size,1,none⟩=some (.int .i64 i)∧w'.cell? ⟨g,i*8,none⟩=some (.string nm)∧w'.cell? ⟨g,i*8+1,none⟩=some (.int .i64 vr)∧w'.cell? ⟨g,i*8+2,none⟩=some (.slice iq ia ib)∧w'.cell? ⟨g,i*8+3,none⟩=some (.int .i64 nd)∧w'.cell? ⟨g,i*8+4,none⟩=some (.int .i64 nt)∧w'.cell? ⟨g,i*8+5,none⟩=some (.int .i64 hg)∧w'.cell? ⟨g,i*8+6,none⟩=some (.int .i64 st)∧w'.cell? ⟨g,i*8+7,none⟩=some (.bool sr)) (go_keep) (fail)
  clear k0 k1 k2 k3 k4 k5 k6 k7 H0;go_wp2_with fail
  refine(kF 0 1 _ (by omega) (by omega) (by omega) (by omega)).mono ?_;rintro e w1 ⟨rfl,hb1⟩;have Tf:Below w.heap.size w w1:=((((brq.alloc nrq _).alloc (by simp) _).alloc (by simp;omega) _).drew).trans (hb1.mono (by simp;omega));have hz:az w1 (w.heap.size+1) aV 36:=(hb1.block _ (by simp)).trans (az.drew (az.alloc (rq w _ _) _));obtain⟨d0,d1,d2,d3,d4⟩:=hz.zero;obtain⟨g0,g1,g2,g3,g4⟩:=hz.free;have HB:=ast Tf;clear hz Tf hb1;unfold Inf.val;go_wp2_with fail
  refine bodyPost_ret (v:=(Inf.plain 0 1).val) (by simp[results,Tryz.results171,go_sem,Inf.val,d0,d1,d2,d3,d4]) rfl ⟨rfl,?_⟩;exact(((((HB.out.setCell (by simp) _).setCell (by simp) _).setCell (by simp) _).setCell (by simp) _).setCell (by simp) _)
 ·rw[if_neg hv]
  go_enter Tryz.func171,Tryz.ntmps171
  go_wp2_with fail
  go_region_held3 (fun w'=>w'.cell? ⟨sb,0,none⟩=some (.slice (some ⟨g,0,none⟩) m cap)∧w'.cell? ⟨w.heap.size,1,none⟩=some (.int .i64 i)∧w'.cell? ⟨g,i*8,none⟩=some (.string nm)∧w'.cell? ⟨g,i*8+1,none⟩=some (.int .i64 vr)∧w'.cell? ⟨g,i*8+2,none⟩=some (.slice iq ia ib)∧w'.cell? ⟨g,i*8+3,none⟩=some (.int .i64 nd)∧w'.cell? ⟨g,i*8+4,none⟩=some (.int .i64 nt)∧w'.cell? ⟨g,i*8+5,none⟩=some (.int .i64 hg)∧w'.cell? ⟨g,i*8+6,none⟩=some (.int .i64 st)∧w'.cell? ⟨g,i*8+7,none⟩=some (.bool sr)) (go_keep) (fail)
  clear k0 k1 k2 k3 k4 k5 k6 k7 H0;go_wp2_with fail
  refine(lU _ _).mono ?_;rintro e w1 ⟨rfl,rfl⟩;go_wp2_with fail
  exact bodyPost_ret (v:=(⟨nd,nt,hg,min (st+1) 1000000001,sr⟩:Inf).val) (by simp[results,Tryz.results171,go_sem,Inf.val]) rfl ⟨rfl,((((brq.alloc nrq _).alloc (by simp) _).alloc (by simp;omega) _).alloc (by simp;omega) _).drew⟩
end
section
open Go.RowKit
def Inf.ways(a b:Inf):Inf:=⟨max a.need b.need,a.bu,max a.high b.high,max a.steps b.steps,false⟩
def Inf.more(a:Inf):Inf:=⟨a.need,a.bu,a.high,min (a.steps+1) 1000000001,a.str⟩
theorem Inf.Ok.ways{a b:Inf}(ha:a.Ok)(hb:b.Ok):(a.ways b).Ok:=by
 obtain⟨a1,a2,a3,a4,a5,a6,a7,a8⟩:=ha;obtain⟨b1,b2,b3,b4,b5,b6,b7,b8⟩:=hb
 constructor<;>simp only[Inf.ways]<;>omega
theorem zQ:(Inf.plain 1 0).Ok:=by constructor<;>simp only[Inf.plain]<;>omega
theorem Inf.Ok.more{a:Inf}(ha:a.Ok):a.more.Ok:=by
 obtain⟨a1,a2,a3,a4,a5,a6,a7,a8⟩:=ha
 constructor<;>simp only[Inf.more]<;>omega
theorem OO(sb:Nat)(n s A B:Value)(hn:n.oneCell'=true)(hs:s.oneCell'=true)(hA:A.oneCell'=true)(hB:B.oneCell'=true)(a b:Inf)(ha:a.Ok)(hb:b.Ok)(w:World)
  (NQ:∀w',Below w.heap.size w w'→Calls Tryz.prog 130 #[.pointer (some ⟨sb,0,none⟩),A] w' fun e w''=>e=.returned a.val∧Below w'.heap.size w' w'')
  (hcB:∀w',Below w.heap.size w w'→Calls Tryz.prog 130 #[.pointer (some ⟨sb,0,none⟩),B] w' fun e w''=>e=.returned b.val∧Below w'.heap.size w' w''):
  Calls Tryz.prog 171 #[.pointer (some ⟨sb,0,none⟩),.agg #[.int .i64 4,n,s,A,B]] w fun e w'=>e=.returned ((Inf.plain 1 0).then (Inf.ways a b)).val∧Below w.heap.size w w':=by
 have HA:=ast NQ;have HB:=ast hcB;have HOa:=ast ha;have HOb:=ast hb;have s0:=ha.s0;have s1:=ha.s1;obtain⟨R,hR⟩:=exq ((Inf.plain 1 0).then (Inf.ways a b));rw[←hR];have HR:=ast hR;clear NQ hcB ha hb hR;go_enter Tryz.func171,Tryz.ntmps171
 go_wp2_with fail
 refine(HA.out _ ((brq.alloc nrq _).alloc (by simp) _)).mono ?_;rintro e w1 ⟨rfl,hb1⟩;have l9:=GY hb1;have HB1:=ast l9;have x0:w1.cell? ⟨w.heap.size,0,none⟩=some (.int .i64 4):=by rw[l9.cell (p:=⟨w.heap.size,0,none⟩) (by simp;omega)];simp
 have x4:w1.cell? ⟨w.heap.size,4,none⟩=some B:=by rw[l9.cell (p:=⟨w.heap.size,4,none⟩) (by simp;omega)];simp
 have hz1:az w1 (w.heap.size+1) aV 36:=(l9.block _ (by omega)).trans (rq w _ _);have HZ1:=ast hz1;have Xt:w.heap.size+1<w1.heap.size:=hz1.lt;have uU:w.heap.size<w1.heap.size:=by omega
 clear hb1 l9 hz1;unfold Inf.val;go_wp2_with fail
 refine(HB.out _ ((mX HB1.out).alloc (by omega) _)).mono ?_;rintro e w2 ⟨rfl,hb2⟩;have qC:Below (w1.heap.size+1) (w1.alloc (.cells a.arr 36 (0,0))) w2:=by simpa [Inf.arr]using hb2
 have y0:w2.cell? ⟨w.heap.size,0,none⟩=some (.int .i64 4):=by rw[qC.cell (p:=⟨w.heap.size,0,none⟩) (by simp;omega),((aj.refl (fun _=>False) w1).alloc _).cell (p:=⟨w.heap.size,0,none⟩) uU id];exact x0
 have hz2:az w2 (w.heap.size+1) aV 36:=(qC.block _ (by omega)).trans (HZ1.out.alloc _);have Ti:az w2 w1.heap.size a.arr 36:=(qC.block _ (by omega)).trans (ay w1 _ _);have Tf:Below w.heap.size w w2:=(mX HB1.out).trans ((wP qC).mono (by omega));have HZ2:=ast hz2;have HZA:=ast Ti;have OQ:=ast Tf;have J5:w1.heap.size<w2.heap.size:=Ti.lt;have ajq:w.heap.size<w2.heap.size:=by omega
 have aaC:w.heap.size+1<w2.heap.size:=by omega
 obtain⟨c0,c1,c2,c3,c4⟩:=Ti.inf;obtain⟨f0,f1,f2,f3,f4⟩:=Ti.free;clear hb2 qC hz2 Ti Tf x0 x4;unfold Inf.val;go_wp2_with (go_at_call 195;refine(lU _ _).mono ?_;rintro e w3 ⟨rfl,rfl⟩)
 obtain⟨W,hW⟩:=exq (((w2.alloc (.cells b.arr 36 (0,0))).alloc (.cells (Inf.ways a b).arr 36 (0,0))):World);have hsz:W.heap.size=w2.heap.size+1+1:=by rw[hW];simp
 have hl:=fun (o:Nat) (v:Value) (hv:(Inf.ways a b).arr[o]?=some v)=>(show W.cell? ⟨w2.heap.size+1,o,none⟩=some v by
  have hbk:=ay (w2.alloc (.cells b.arr 36 (0,0))) (Inf.ways a b).arr 36;have e1:(w2.alloc (.cells b.arr 36 (0,0))).heap.size=w2.heap.size+1:=by simp
  rw[e1]at hbk;rw[hW];exact hbk.cell o v hv)
 have Xu:az W (w.heap.size+1) aV 36:=by
  rw[hW];exact(HZ2.out.alloc _).alloc _
 have hbW:Below w.heap.size w W:=by
  rw[hW];exact(OQ.out.alloc (by omega) _).alloc (by simp;omega) _
 have HW:=ast hW;have Zf:=ast Xu;have dX:=ast hbW;have u0:=hl 0 _ rfl;have u1:=hl 1 _ rfl;have u2:=hl 2 _ rfl;have u3:=hl 3 _ rfl;have u4:=hl 4 _ rfl;clear hl Xu hbW c0 c1 c2 c3 c4 f0 f1 f2 f3 f4 y0;have hc:=fun (u:gW (w2.heap.size+1+1) W) (o:Nat)=>u.cell (w2.heap.size+1) o (by omega)
 have hne:=gW.ne;have hle:w2.heap.size+1+1≤W.heap.size:=by omega
 show Code.wp _ _ _ _ ((w2.alloc (.cells b.arr 36 (0,0))).alloc (.cells (Inf.ways a b).arr 36 (0,0)))
 rw[←hW];clear hW hsz;refine aP (w2.heap.size+1+1) 3 (by kernel_rfl) (by kernel_rfl) ?_;simp only[List.take_succ_cons,List.take_zero,List.drop_succ_cons,List.drop_zero]
 repeat (go_big_quiet_step ((first|(go_at_call 194;exact gW.calls hle _ (kF 1 0 _ (by omega) (by omega) (by omega) (by omega)))|(go_at_call 172;exact gW.calls hle _ (uO (Inf.plain 1 0) (Inf.ways a b) _ zQ (Inf.Ok.ways HOa.out HOb.out))))))
 refine wpQuiet_nil ?_;intro u;obtain⟨w3,hb3⟩:=u;have hz3:az w3 (w.heap.size+1) aV 36:=(hb3.block _ (by omega)).trans Zf.out;have WR:Below w.heap.size w w3:=dX.out.trans (hb3.mono (by omega));obtain⟨d0,d1,d2,d3,d4⟩:=hz3.zero;obtain⟨g0,g1,g2,g3,g4⟩:=hz3.free;have GZ:=ast WR;dsimp only;clear hz3 WR hb3 hc hne u0 u1 u2 u3 u4;unfold Inf.val;go_wp2_with fail
 refine bodyPost_ret (v:=R.val) (by rw[HR.out];simp[results,Tryz.results171,go_sem,Inf.val,d0,d1,d2,d3,d4]) rfl ⟨rfl,?_⟩;exact(((((GZ.out.setCell (by simp) _).setCell (by simp) _).setCell (by simp) _).setCell (by simp) _).setCell (by simp) _)
theorem G5(sb:Nat)(n s A B:Value)(hn:n.oneCell'=true)(hs:s.oneCell'=true)(hA:A.oneCell'=true)(hB:B.oneCell'=true)(a b:Inf)(ha:a.Ok)(hb:b.Ok)(w:World)
  (NQ:∀w',Below w.heap.size w w'→Calls Tryz.prog 130 #[.pointer (some ⟨sb,0,none⟩),A] w' fun e w''=>e=.returned a.val∧Below w'.heap.size w' w'')
  (hcB:∀w',Below w.heap.size w w'→Calls Tryz.prog 130 #[.pointer (some ⟨sb,0,none⟩),B] w' fun e w''=>e=.returned b.val∧Below w'.heap.size w' w''):
  Calls Tryz.prog 171 #[.pointer (some ⟨sb,0,none⟩),.agg #[.int .i64 5,n,s,A,B]] w fun e w'=>e=.returned ((Inf.plain 1 0).then (Inf.ways a.more b)).val∧Below w.heap.size w w':=by
 have HA:=ast NQ;have HB:=ast hcB;have HOa:=ast ha;have HOb:=ast hb;have s0:=ha.s0;have s1:=ha.s1;obtain⟨R,hR⟩:=exq ((Inf.plain 1 0).then (Inf.ways a.more b));rw[←hR];have HR:=ast hR;clear NQ hcB ha hb hR;go_enter Tryz.func171,Tryz.ntmps171
 go_wp2_with fail
 refine(HA.out _ ((brq.alloc nrq _).alloc (by simp) _)).mono ?_;rintro e w1 ⟨rfl,hb1⟩;have l9:=GY hb1;have HB1:=ast l9;have x0:w1.cell? ⟨w.heap.size,0,none⟩=some (.int .i64 5):=by rw[l9.cell (p:=⟨w.heap.size,0,none⟩) (by simp;omega)];simp
 have x4:w1.cell? ⟨w.heap.size,4,none⟩=some B:=by rw[l9.cell (p:=⟨w.heap.size,4,none⟩) (by simp;omega)];simp
 have hz1:az w1 (w.heap.size+1) aV 36:=(l9.block _ (by omega)).trans (rq w _ _);have HZ1:=ast hz1;have Xt:w.heap.size+1<w1.heap.size:=hz1.lt;have uU:w.heap.size<w1.heap.size:=by omega
 clear hb1 l9 hz1;unfold Inf.val;go_wp2_with fail
 refine(HB.out _ ((mX HB1.out).alloc (by omega) _)).mono ?_;rintro e w2 ⟨rfl,hb2⟩;have qC:Below (w1.heap.size+1) (w1.alloc (.cells a.arr 36 (0,0))) w2:=by simpa [Inf.arr]using hb2
 have y0:w2.cell? ⟨w.heap.size,0,none⟩=some (.int .i64 5):=by rw[qC.cell (p:=⟨w.heap.size,0,none⟩) (by simp;omega),((aj.refl (fun _=>False) w1).alloc _).cell (p:=⟨w.heap.size,0,none⟩) uU id];exact x0
 have hz2:az w2 (w.heap.size+1) aV 36:=(qC.block _ (by omega)).trans (HZ1.out.alloc _);have Ti:az w2 w1.heap.size a.arr 36:=(qC.block _ (by omega)).trans (ay w1 _ _);have Tf:Below w.heap.size w w2:=(mX HB1.out).trans ((wP qC).mono (by omega));have HZ2:=ast hz2;have HZA:=ast Ti;have OQ:=ast Tf;have J5:w1.heap.size<w2.heap.size:=Ti.lt;have ajq:w.heap.size<w2.heap.size:=by omega
 have aaC:w.heap.size+1<w2.heap.size:=by omega
 obtain⟨c0,c1,c2,c3,c4⟩:=Ti.inf;obtain⟨f0,f1,f2,f3,f4⟩:=Ti.free;clear hb2 qC hz2 Ti Tf x0 x4;unfold Inf.val;go_wp2_with (go_at_call 195;refine(lU _ _).mono ?_;rintro e w3 ⟨rfl,rfl⟩)
 obtain⟨W,hW⟩:=exq ((((w2.setCell ⟨w1.heap.size,3,none⟩ (.int .i64 (min (a.steps+1) 1000000001))).alloc (.cells b.arr 36 (0,0))).alloc (.cells (Inf.ways a.more b).arr 36 (0,0))):World);have hsz:W.heap.size=w2.heap.size+1+1:=by rw[hW];simp
 have hl:=fun (o:Nat) (v:Value) (hv:(Inf.ways a.more b).arr[o]?=some v)=>(show W.cell? ⟨w2.heap.size+1,o,none⟩=some v by
  have hbk:=ay ((w2.setCell ⟨w1.heap.size,3,none⟩ (.int .i64 (min (a.steps+1) 1000000001))).alloc (.cells b.arr 36 (0,0))) (Inf.ways a.more b).arr 36;have e1:((w2.setCell ⟨w1.heap.size,3,none⟩ (.int .i64 (min (a.steps+1) 1000000001))).alloc (.cells b.arr 36 (0,0))).heap.size=w2.heap.size+1:=by simp
  rw[e1]at hbk;rw[hW];exact hbk.cell o v hv)
 have Xu:az W (w.heap.size+1) aV 36:=by
  rw[hW];exact((HZ2.out.setOther (by simp;omega) _).alloc _).alloc _
 have hbW:Below w.heap.size w W:=by
  rw[hW];exact((OQ.out.setCell (by simp;omega) _).alloc (by simp;omega) _).alloc (by simp;omega) _
 have HW:=ast hW;have Zf:=ast Xu;have dX:=ast hbW;have u0:=hl 0 _ rfl;have u1:=hl 1 _ rfl;have u2:=hl 2 _ rfl;have u3:=hl 3 _ rfl;have u4:=hl 4 _ rfl;clear hl Xu hbW c0 c1 c2 c3 c4 f0 f1 f2 f3 f4 y0;have hc:=fun (u:gW (w2.heap.size+1+1) W) (o:Nat)=>u.cell (w2.heap.size+1) o (by omega)
 have hne:=gW.ne;have hle:w2.heap.size+1+1≤W.heap.size:=by omega
 show Code.wp _ _ _ _ (((w2.setCell ⟨w1.heap.size,3,none⟩ (.int .i64 (min (a.steps+1) 1000000001))).alloc (.cells b.arr 36 (0,0))).alloc (.cells (Inf.ways a.more b).arr 36 (0,0)))
 rw[←hW];clear hW hsz;refine aP (w2.heap.size+1+1) 3 (by kernel_rfl) (by kernel_rfl) ?_;simp only[List.take_succ_cons,List.take_zero,List.drop_succ_cons,List.drop_zero]
 repeat (go_big_quiet_step ((first|(go_at_call 194;exact gW.calls hle _ (kF 1 0 _ (by omega) (by omega) (by omega) (by omega)))|(go_at_call 172;exact gW.calls hle _ (uO (Inf.plain 1 0) (Inf.ways a.more b) _ zQ (Inf.Ok.ways HOa.out.more HOb.out))))))
 refine wpQuiet_nil ?_;intro u;obtain⟨w3,hb3⟩:=u;have hz3:az w3 (w.heap.size+1) aV 36:=(hb3.block _ (by omega)).trans Zf.out;have WR:Below w.heap.size w w3:=dX.out.trans (hb3.mono (by omega));obtain⟨d0,d1,d2,d3,d4⟩:=hz3.zero;obtain⟨g0,g1,g2,g3,g4⟩:=hz3.free;have GZ:=ast WR;dsimp only;clear hz3 WR hb3 hc hne u0 u1 u2 u3 u4;unfold Inf.val;go_wp2_with fail
 refine bodyPost_ret (v:=R.val) (by rw[HR.out];simp[results,Tryz.results171,go_sem,Inf.val,d0,d1,d2,d3,d4]) rfl ⟨rfl,?_⟩;exact(((((GZ.out.setCell (by simp) _).setCell (by simp) _).setCell (by simp) _).setCell (by simp) _).setCell (by simp) _)
end
section
open Go.RowKit
theorem aaE(k n s A:Value)(g cap:Nat)(e0:Int)(hk:k.oneCell'=true)(hn:n.oneCell'=true)(hs:s.oneCell'=true)(hA:A.oneCell'=true)(w:World)(hc2:2≤cap)
  (hc:w.cell? ⟨g,1,none⟩=some (.int .i64 e0)):
  Calls Tryz.prog 196 #[.agg #[k,n,s,A,.slice (some ⟨g,0,none⟩) 2 cap]] w fun e w'=>e=.returned (.int .i64 e0)∧Below w.heap.size w w':=by
 have hg:g<w.heap.size:=World.block_lt_of_cell? w _ hc;go_enter Tryz.func196,Tryz.ntmps196
 go_wp2
 go_ret
 exact⟨rfl,brq.alloc nrq _⟩
theorem aaF(k n s A:Value)(g cap:Nat)(e1:Int)(hk:k.oneCell'=true)(hn:n.oneCell'=true)(hs:s.oneCell'=true)(hA:A.oneCell'=true)(w:World)(hc2:2≤cap)
  (hc:w.cell? ⟨g,6,none⟩=some (.int .i64 e1)):
  Calls Tryz.prog 197 #[.agg #[k,n,s,A,.slice (some ⟨g,0,none⟩) 2 cap]] w fun e w'=>e=.returned (.int .i64 e1)∧Below w.heap.size w w':=by
 have hg:g<w.heap.size:=World.block_lt_of_cell? w _ hc;go_enter Tryz.func197,Tryz.ntmps197
 go_wp2
 go_ret
 exact⟨rfl,brq.alloc nrq _⟩
def Inf.times(a:Inf)(n:Int):Inf:=if n=0 then⟨0,0,0,0,a.str⟩else⟨a.need,a.bu,a.high,min (n*min (a.steps+1) 1000000001) 1000000001,a.str⟩
theorem Inf.Ok.times{a:Inf}(ha:a.Ok){n:Int}(h0:0≤n)(h1:n≤1000):(a.times n).Ok:=by
 obtain⟨a1,a2,a3,a4,a5,a6,a7,a8⟩:=ha;have hp:0≤n*min (a.steps+1) 1000000001:=Int.mul_nonneg h0 (by omega);unfold Inf.times
 split<;>constructor<;>simp only<;>omega
theorem zS:(Inf.plain 2 0).Ok:=by constructor<;>simp only[Inf.plain]<;>omega
theorem OT(sb:Nat)(n s A:Value)(g cap:Nat)(e0 e1:Int)(hn:n.oneCell'=true)(hs:s.oneCell'=true)(hA:A.oneCell'=true)(a:Inf)(ha:a.Ok)(w:World)(hc2:2≤cap)
  (x0: -2147483648≤e0) (x1:e0≤2147483647) (x2: -2147483648≤e1) (x3:e1≤2147483647) (x4:e0 - e1≤1000)
  (hb0:w.cell? ⟨g,1,none⟩=some (.int .i64 e0)) (hb1:w.cell? ⟨g,6,none⟩=some (.int .i64 e1))
  (NQ:∀w',Below w.heap.size w w'→Calls Tryz.prog 130 #[.pointer (some ⟨sb,0,none⟩),A] w' fun e w''=>e=.returned a.val∧Below w'.heap.size w' w''):
  Calls Tryz.prog 171 #[.pointer (some ⟨sb,0,none⟩),.agg #[.int .i64 6,n,s,A,.slice (some ⟨g,0,none⟩) 2 cap]] w fun e w'=>e=.returned ((Inf.plain 2 0).then (a.times (max 0 (e0 - e1)))).val∧Below w.heap.size w w':=by
 have hg:g<w.heap.size:=World.block_lt_of_cell? w _ hb0;have HA:=ast NQ;have HOa:=ast ha;have s0:=ha.s0;have s1:=ha.s1;obtain⟨R,hR⟩:=exq ((Inf.plain 2 0).then (a.times (max 0 (e0 - e1))));rw[←hR];have HR:=ast hR;have Zg:=ast hb0;have BI:=ast hb1;clear NQ ha hR hb0 hb1;go_enter Tryz.func171,Tryz.ntmps171
 go_wp2_with fail
 refine(HA.out _ ((brq.alloc nrq _).alloc (by simp) _)).mono ?_;rintro e w1 ⟨rfl,hb1⟩;have l9:=GY hb1;have HB1:=ast l9;have y0:w1.cell? ⟨w.heap.size,0,none⟩=some (.int .i64 6):=by rw[l9.cell (p:=⟨w.heap.size,0,none⟩) (by simp;omega)];simp
 have y1:w1.cell? ⟨w.heap.size,1,none⟩=some n:=by rw[l9.cell (p:=⟨w.heap.size,1,none⟩) (by simp;omega)];simp
 have y2:w1.cell? ⟨w.heap.size,2,none⟩=some s:=by rw[l9.cell (p:=⟨w.heap.size,2,none⟩) (by simp;omega)];simp
 have y3:w1.cell? ⟨w.heap.size,3,none⟩=some A:=by rw[l9.cell (p:=⟨w.heap.size,3,none⟩) (by simp;omega)];simp
 have y4:w1.cell? ⟨w.heap.size,4,none⟩=some (.slice (some ⟨g,0,none⟩) 2 cap):=by rw[l9.cell (p:=⟨w.heap.size,4,none⟩) (by simp;omega)];simp
 have hz1:az w1 (w.heap.size+1) aV 36:=(l9.block _ (by omega)).trans (rq w _ _);have HZ1:=ast hz1;have Xt:w.heap.size+1<w1.heap.size:=hz1.lt;have uU:w.heap.size<w1.heap.size:=by omega
 clear hb1 l9 hz1;unfold Inf.val;go_wp2_with fail
 obtain⟨W,hW⟩:=exq (w1.alloc (.cells a.arr 36 (0,0)):World);have hsz:W.heap.size=w1.heap.size+1:=by rw[hW];simp
 have wJ:az W w1.heap.size a.arr 36:=by rw[hW];exact ay w1 _ _
 have hbr:az W (w.heap.size+1) aV 36:=by rw[hW];exact HZ1.out.alloc _
 have hbW:Below w.heap.size w W:=by rw[hW];exact(mX HB1.out).alloc (by omega) _
 have old:∀o v,w1.cell? ⟨w.heap.size,o,none⟩=some v→∀u:gW (w1.heap.size+1) W,u.val.cell? ⟨w.heap.size,o,none⟩=some v:=by
  intro o v h u;rw[u.cell _ _ (by omega),hW,((aj.refl (fun _=>False) w1).alloc _).cell (p:=⟨w.heap.size,o,none⟩) uU id];exact h
 have v0:=old 0 _ y0;have v1:=old 1 _ y1;have v2:=old 2 _ y2;have v3:=old 3 _ y3;have v4:=old 4 _ y4
 have q0:∀u:gW (w1.heap.size+1) W,u.val.cell? ⟨g,1,none⟩=some (.int .i64 e0):=fun u=>by
  rw[u.cell _ _ (by omega),hbW.cell (p:=⟨g,1,none⟩) hg];exact Zg.out
 have q1:∀u:gW (w1.heap.size+1) W,u.val.cell? ⟨g,6,none⟩=some (.int .i64 e1):=fun u=>by
  rw[u.cell _ _ (by omega),hbW.cell (p:=⟨g,6,none⟩) hg];exact BI.out
 have Q0:=ast q0;have Q1:=ast q1;have OQ:=ast wJ;have uV:=ast hbr;have dX:=ast hbW;have hne:=gW.ne;have hle:w1.heap.size+1≤W.heap.size:=by omega
 clear y0 y1 y2 y3 y4 old wJ hbr hbW q0 q1
 show Code.wp _ _ _ _ (w1.alloc (.cells a.arr 36 (0,0)))
 rw[←hW];clear hW hsz;refine mW (w1.heap.size+1) (by kernel_rfl) (by kernel_rfl) ?_
 repeat (go_big_quiet_step ((first|(go_at_call 196;exact gW.calls hle _ (aaE _ _ _ _ g cap e0 rfl hn hs hA _ hc2 (Q0.out _)))|(go_at_call 197;exact gW.calls hle _ (aaF _ _ _ _ g cap e1 rfl hn hs hA _ hc2 (Q1.out _))))))
 refine wpQuiet_nil ?_;intro u;obtain⟨w2,hb2⟩:=u;dsimp only;have wJ:az w2 w1.heap.size a.arr 36:=(hb2.block _ (by omega)).trans OQ.out;have hbr:az w2 (w.heap.size+1) aV 36:=(hb2.block _ (by omega)).trans uV.out;have hbW:Below w.heap.size w w2:=dX.out.trans (hb2.mono (by omega));have J5:w1.heap.size<w2.heap.size:=wJ.lt;obtain⟨c0,c1,c2,c3,c4⟩:=wJ.inf;obtain⟨f0,f1,f2,f3,f4⟩:=wJ.free;have KA:=ast wJ;have KR:=ast hbr;have KW:=ast hbW;clear wJ hbr hbW hb2 v0 v1 v2 v3 v4 hne;obtain⟨t,ht⟩:=exq (max 0 (e0 - e1));have t0:0≤t:=by omega
 have t1:t≤1000:=by omega
 have HT:=ast ht;rw[←ht];clear ht;obtain⟨ms,hms⟩:=exq (min (a.steps+1) 1000000001);have m0:0≤ms:=by omega
 have m1:ms≤1000000001:=by omega
 have HM:=ast hms;have hm1:∀w,Calls Tryz.prog 195 #[.int .i64 (a.steps+1)] w fun e w'=>e=.returned (.int .i64 ms)∧w'=w:=by rw[hms];exact lU _
 clear hms;have p0:0≤t*ms:=Int.mul_nonneg t0 m0;have p1:t*ms≤1000000001000:=Int.le_trans (Int.mul_le_mul t1 m1 m0 (by omega)) (by decide);have Xv:=ast hm1;clear hm1
 by_cases hz:t=0
 ·have HZ:=ast hz
  have hzb:(t == 0)=true:=by simpa using hz
  clear hz;go_wp2_with fail
  refine(Xv.out _).mono ?_;rintro e w3 ⟨rfl,rfl⟩;go_wp2_with fail
  refine(lU _ _).mono ?_;rintro e w4 ⟨rfl,rfl⟩;go_wp2_with fail
  obtain⟨X,hX⟩:=exq (((((((w4.setCell ⟨w1.heap.size,3,none⟩ (.int .i64 (min (t*ms) 1000000001))).setCell ⟨w1.heap.size,0,none⟩ (.int .i64 0)).setCell ⟨w1.heap.size,1,none⟩ (.int .i64 0)).setCell ⟨w1.heap.size,2,none⟩ (.int .i64 0)).setCell ⟨w1.heap.size,3,none⟩ (.int .i64 0)).setCell ⟨w1.heap.size,4,none⟩ (.bool a.str)):World);have hsz:X.heap.size=w4.heap.size:=by rw[hX];simp[World.setCell]
  have uT:az X w1.heap.size (a.times t).arr 36:=by
   rw[hX];have e:(a.times t).arr= #[.int .i64 0,.int .i64 0,.int .i64 0,.int .i64 0,.bool a.str]:=by rw[Inf.times,if_pos HZ.out];rfl
   rw[e];refine kM (a0:=.int .i64 a.need) (a1:=.int .i64 a.bu) (a2:=.int .i64 a.high) (a3:=.int .i64 (min (t*ms) 1000000001)) (a4:=.bool a.str) ?_ _ _ _ _ _;have:=KA.out.set (o:=3) (.int .i64 (min (t*ms) 1000000001));simpa [Inf.arr]using this
  have hrx:az X (w.heap.size+1) aV 36:=by
   rw[hX];exact((((((KR.out.setOther (by simp;omega) _).setOther (by simp;omega) _).setOther (by simp;omega) _).setOther (by simp;omega) _).setOther (by simp;omega) _).setOther (by simp;omega) _)
  have hwx:Below w.heap.size w X:=by
   rw[hX];exact((((((KW.out.setCell (by simp;omega) _).setCell (by simp;omega) _).setCell (by simp;omega) _).setCell (by simp;omega) _).setCell (by simp;omega) _).setCell (by simp;omega) _)
  obtain⟨u0,u1,u2,u3,u4⟩:=uT.inf;have BZ:=ast hrx;have HWX:=ast hwx;have hc:=fun (u:gW (w4.heap.size) X) (o:Nat)=>u.cell w1.heap.size o J5
  have hne:=gW.ne;have hle:w4.heap.size≤X.heap.size:=by omega
  have hr1:w.heap.size+1<w4.heap.size:=by omega
  clear uT hrx hwx c0 c1 c2 c3 c4 f0 f1 f2 f3 f4
  show Code.wp _ _ _ _ ((((((w4.setCell ⟨w1.heap.size,3,none⟩ (.int .i64 (min (t*ms) 1000000001))).setCell ⟨w1.heap.size,0,none⟩ (.int .i64 0)).setCell ⟨w1.heap.size,1,none⟩ (.int .i64 0)).setCell ⟨w1.heap.size,2,none⟩ (.int .i64 0)).setCell ⟨w1.heap.size,3,none⟩ (.int .i64 0)).setCell ⟨w1.heap.size,4,none⟩ (.bool a.str))
  rw[←hX];clear hX hsz;refine aP (w4.heap.size) 3 (by kernel_rfl) (by kernel_rfl) ?_;simp only[List.take_succ_cons,List.take_zero,List.drop_succ_cons,List.drop_zero]
  repeat (go_big_quiet_step ((first|(go_at_call 194;exact gW.calls hle _ (kF 2 0 _ (by omega) (by omega) (by omega) (by omega)))|(go_at_call 172;exact gW.calls hle _ (uO (Inf.plain 2 0) (a.times t) _ zS (Inf.Ok.times HOa.out t0 t1))))))
  refine wpQuiet_nil ?_;intro u;obtain⟨w5,hb5⟩:=u;dsimp only;have hz5:az w5 (w.heap.size+1) aV 36:=(hb5.block _ (by omega)).trans BZ.out;have mf:Below w.heap.size w w5:=HWX.out.trans (hb5.mono (by omega));obtain⟨d0,d1,d2,d3,d4⟩:=hz5.zero;obtain⟨g0,g1,g2,g3,g4⟩:=hz5.free;have nJ:=ast mf;clear hz5 mf hb5 hc hne u0 u1 u2 u3 u4;unfold Inf.val;go_wp2_with fail
  refine bodyPost_ret (v:=R.val) (by rw[HR.out,←HT.out];simp[results,Tryz.results171,go_sem,Inf.val,d0,d1,d2,d3,d4]) rfl ⟨rfl,?_⟩;exact(((((nJ.out.setCell (by simp) _).setCell (by simp) _).setCell (by simp) _).setCell (by simp) _).setCell (by simp) _)
 ·have hzb:(t == 0)=false:=by simpa using hz
  have HZ:=ast hz;clear hz;go_wp2_with fail
  refine(Xv.out _).mono ?_;rintro e w3 ⟨rfl,rfl⟩;go_wp2_with fail
  refine(lU _ _).mono ?_;rintro e w4 ⟨rfl,rfl⟩;go_wp2_with fail
  obtain⟨X,hX⟩:=exq ((w4.setCell ⟨w1.heap.size,3,none⟩ (.int .i64 (min (t*ms) 1000000001))):World);have hsz:X.heap.size=w4.heap.size:=by rw[hX];simp[World.setCell]
  have uT:az X w1.heap.size (a.times t).arr 36:=by
   rw[hX];have e:(a.times t).arr= #[.int .i64 a.need,.int .i64 a.bu,.int .i64 a.high,.int .i64 (min (t*ms) 1000000001),.bool a.str]:=by rw[Inf.times,if_neg HZ.out,HM.out];rfl
   rw[e];have:=KA.out.set (o:=3) (.int .i64 (min (t*ms) 1000000001));simpa [Inf.arr]using this
  have hrx:az X (w.heap.size+1) aV 36:=by
   rw[hX];exact(KR.out.setOther (by simp;omega) _)
  have hwx:Below w.heap.size w X:=by
   rw[hX];exact(KW.out.setCell (by simp;omega) _)
  obtain⟨u0,u1,u2,u3,u4⟩:=uT.inf;have BZ:=ast hrx;have HWX:=ast hwx;have hc:=fun (u:gW (w4.heap.size) X) (o:Nat)=>u.cell w1.heap.size o J5
  have hne:=gW.ne;have hle:w4.heap.size≤X.heap.size:=by omega
  have hr1:w.heap.size+1<w4.heap.size:=by omega
  clear uT hrx hwx c0 c1 c2 c3 c4 f0 f1 f2 f3 f4
  show Code.wp _ _ _ _ (w4.setCell ⟨w1.heap.size,3,none⟩ (.int .i64 (min (t*ms) 1000000001)))
  rw[←hX];clear hX hsz;refine aP (w4.heap.size) 3 (by kernel_rfl) (by kernel_rfl) ?_;simp only[List.take_succ_cons,List.take_zero,List.drop_succ_cons,List.drop_zero]
  repeat (go_big_quiet_step ((first|(go_at_call 194;exact gW.calls hle _ (kF 2 0 _ (by omega) (by omega) (by omega) (by omega)))|(go_at_call 172;exact gW.calls hle _ (uO (Inf.plain 2 0) (a.times t) _ zS (Inf.Ok.times HOa.out t0 t1))))))
  refine wpQuiet_nil ?_;intro u;obtain⟨w5,hb5⟩:=u;dsimp only;have hz5:az w5 (w.heap.size+1) aV 36:=(hb5.block _ (by omega)).trans BZ.out;have mf:Below w.heap.size w w5:=HWX.out.trans (hb5.mono (by omega));obtain⟨d0,d1,d2,d3,d4⟩:=hz5.zero;obtain⟨g0,g1,g2,g3,g4⟩:=hz5.free;have nJ:=ast mf;clear hz5 mf hb5 hc hne u0 u1 u2 u3 u4;unfold Inf.val;go_wp2_with fail
  refine bodyPost_ret (v:=R.val) (by rw[HR.out,←HT.out];simp[results,Tryz.results171,go_sem,Inf.val,d0,d1,d2,d3,d4]) rfl ⟨rfl,?_⟩;exact(((((nJ.out.setCell (by simp) _).setCell (by simp) _).setCell (by simp) _).setCell (by simp) _).setCell (by simp) _)
end
section
open Go.RowKit
def bK(sb:Nat)(tv:Value)(I fin E A:Int):Array Value:= #[.pointer (some ⟨sb,0,none⟩),tv,.int .i64 I,.int .i64 fin,.int .i64 E,.int .i64 A]
theorem az.bK{w:World}{b:Nat}{t:TypeId}{sb:Nat}{tv:Value}{I fin E A:Int}(h:az w b (bK sb tv I fin E A) t):
  w.cell? ⟨b,0,none⟩=some (.pointer (some ⟨sb,0,none⟩))∧w.cell? ⟨b,1,none⟩=some tv∧w.cell? ⟨b,2,none⟩=some (.int .i64 I)∧w.cell? ⟨b,3,none⟩=some (.int .i64 fin)∧w.cell? ⟨b,4,none⟩=some (.int .i64 E)∧w.cell? ⟨b,5,none⟩=some (.int .i64 A):=
 ⟨h.cell 0 _ rfl,h.cell 1 _ rfl,h.cell 2 _ rfl,h.cell 3 _ rfl,h.cell 4 _ rfl,h.cell 5 _ rfl⟩
def kU(w:World)(tv:Value)(ae:List Tk):Prop:=w.ownsRow 0 213 2 tv ae.length (mD ae)
def aC(ae:List Tk)(i:Nat):ByteArray:=(ae.getD i (⟨#[]⟩,0)).1
def kz(ae:List Tk)(fin:Int)(i:Nat):Int:=if i<ae.length then((ae.getD i (⟨#[]⟩,0)).2:Int)else fin
theorem ag{w:World}{base:Nat}{e:TypeId}{size:Nat}{v:Value}{n:Nat}{xs:List Value}(h:w.ownsRow base e size v n xs):∃ad cap,v=.slice ad n cap∧n≤cap∧cap≤maxLen:=by
 rcases h.2 with ⟨rfl,rfl⟩|⟨g,cap,cur,rfl,_,_,h1,h2,_⟩
 ·exact⟨none,0,rfl,nrq,Nat.zero_le _⟩
 ·exact⟨_,cap,rfl,h1,h2⟩
theorem G6{w:World}{tv:Value}{ae:List Tk}(h:kU w tv ae)(i:Nat)(hi:i<ae.length):∃g cap,tv=.slice (some ⟨g,0,none⟩) ae.length cap∧ae.length≤cap∧g<w.heap.size∧w.cell? ⟨g,i*2,none⟩=some (.string (aC ae i))∧w.cell? ⟨g,i*2+1,none⟩=some (.int .i64 (kz ae 0 i)):=by
 obtain⟨g,cap,hv,_,hg,h1,_,hc⟩:=aB h (by omega);refine⟨g,cap,hv,h1,hg,hc _ _ ?_,hc _ _ ?_⟩
 ·have:=flat_get (fun t:Tk=>[Value.string t.1,.int .i64 t.2]) 2 (fun _=>rfl) ae i 0 hi (by omega)
  rw[Nat.add_zero]at this;rw[mD,this];simp[aC,hi]
 ·have:=flat_get (fun t:Tk=>[Value.string t.1,.int .i64 t.2]) 2 (fun _=>rfl) ae i 1 hi (by omega)
  rw[mD,this];simp[kz,hi]
theorem uX(rb sb:Nat)(tv:Value)(ae:List Tk)(i:Nat)(fin E A:Int)(w:World)(hi:i≤1000000000)(hl:ae.length≤1000000000)
  (hb:az w rb (bK sb tv i fin E A) 181) (ht:kU w tv ae):
  Calls Tryz.prog 88 #[.pointer (some ⟨rb,0,none⟩)] w fun e w'=>e=.returned (.string (aC ae i))∧Below w.heap.size w w':=by
 obtain⟨r0,r1,r2,r3,r4,r5⟩:=hb.bK
 by_cases hlt:i<ae.length
 ·obtain⟨g,cap,rfl,hc,hg,t0,_⟩:=G6 ht i hlt
  obtain⟨x,hx⟩:=exq (aC ae i);rw[←hx]at t0 ⊢;have lD:(i:Int)<(ae.length:Int):=by omega
  have hl0:(0:Int)≤(i:Int):=by omega
  clear hx ht hb;go_enter Tryz.func88,Tryz.ntmps88
  go_wp2
  go_quiet (fail)
  go_wp2
  go_quiet (fail)
  go_wp2
  go_ret
  exact⟨rfl,⟨rfl,rfl,rfl,nrq,fun _ _=>rfl⟩⟩
 ·obtain⟨ad,cap,rfl,hc,_⟩:=ag ht
  have hx:aC ae i=⟨#[]⟩:=by simp[aC,List.getD,List.getElem?_eq_none (by omega:ae.length≤i)]
  rw[hx];have lD:¬(i:Int)<(ae.length:Int):=by omega
  clear hx ht hb;go_enter Tryz.func88,Tryz.ntmps88
  go_wp2
  go_quiet (fail)
  go_wp2
  go_ret
  exact⟨rfl,⟨rfl,rfl,rfl,nrq,fun _ _=>rfl⟩⟩
theorem gz(rb sb:Nat)(tv:Value)(ae:List Tk)(i:Nat)(I fin A e:Int)(w:World)(hi:i≤1000000000)(hl:ae.length≤1000000000)
  (hb:az w rb (bK sb tv I fin 0 A) 181) (ht:kU w tv ae) (hne:tv.ownBlock≠some rb):
  Calls Tryz.prog 91 #[.pointer (some ⟨rb,0,none⟩),.int .i64 e,.int .i64 i] w fun r w'=>r=.returned (.tuple #[])∧az w' rb (bK sb tv I fin e (kz ae fin i)) 181∧aj (fun k=>k=rb) w w':=by
 obtain⟨r0,r1,r2,r3,r4,r5⟩:=hb.bK;have f4:=hb.frozen 4;have f5:=hb.frozen 5;have HB:=ast hb
 by_cases hlt:i<ae.length
 ·obtain⟨g,cap,rfl,hc,hg,_,t1⟩:=G6 ht i hlt
  have hp:kz ae fin i=kz ae 0 i:=by simp[kz,hlt]
  rw[hp];obtain⟨x,hx⟩:=exq (kz ae 0 i);rw[←hx]at t1 ⊢;have hgr:g≠rb:=fun e=>hne (by rw[e];rfl)
  have lD:(i:Int)<(ae.length:Int):=by omega
  have hl0:(0:Int)≤(i:Int):=by omega
  clear hx ht hb hp hne;go_enter Tryz.func91,Tryz.ntmps91
  go_wp2
  go_end0
  refine⟨rfl,?_,?_⟩
  ·have:=((HB.out.set (o:=4) (.int .i64 e)).set (o:=5) (.int .i64 fin)).set (o:=5) (.int .i64 x)
   simpa [bK]using this
  ·exact(((aj.refl (fun k=>k=rb) w).setCell (p:=⟨rb,4,none⟩) rfl _).setCell (p:=⟨rb,5,none⟩) rfl _).setCell (p:=⟨rb,5,none⟩) rfl _
 ·obtain⟨ad,cap,rfl,hc,_⟩:=ag ht
  have hp:kz ae fin i=fin:=by simp[kz,hlt]
  rw[hp];have lD:¬(i:Int)<(ae.length:Int):=by omega
  clear ht hb hp hne;go_enter Tryz.func91,Tryz.ntmps91
  go_wp2
  go_end0
  refine⟨rfl,?_,?_⟩
  ·have:=(HB.out.set (o:=4) (.int .i64 e)).set (o:=5) (.int .i64 fin)
   simpa [bK]using this
  ·exact((aj.refl (fun k=>k=rb) w).setCell (p:=⟨rb,4,none⟩) rfl _).setCell (p:=⟨rb,5,none⟩) rfl _
end
section
open Go.RowKit
def kC(ws:List RW)(t:ByteArray)(loops:Int):Int:=
 if 0≤dB ws t then 0 else if(ax t).2.2=false then 3 else if(t.toList == [105])=true∧loops=0 then 5 else 0
def su(ws:List RW)(t:ByteArray):Array Value:=
 if 0≤dB ws t then #[.int .i64 3,.int .i64 (dB ws t),.string ⟨#[]⟩,.slice none 0 0,.slice none 0 0]
 else #[.int .i64 2,.int .i64 0,.string t,.slice none 0 0,.slice none 0 0]
def cZ:Array Value:= #[.int .i64 0,.int .i64 0,.string ⟨#[]⟩,.slice none 0 0,.slice none 0 0]
theorem kU.aA{S:Nat→Prop}{w w':World}{tv:Value}{ae:List Tk}(h:kU w tv ae)(hc:aj S w w')(hs:∀k,tv.ownBlock=some k→¬S k):kU w' tv ae:=af h hc hs
theorem kU.alloc{w:World}{tv:Value}{ae:List Tk}(h:kU w tv ae)(o:Obj):kU (w.alloc o) tv ae:=h.aA ((aj.refl (fun _=>False) w).alloc o) (fun _ _=>id)
theorem aK.aA{S:Nat→Prop}{w w':World}{sb:Nat}{v:Value}{ws:List RW}{c k:Int}(h:aK w sb v ws c k)(hc:aj S w w')(h1:¬S sb)(h2:∀k,v.ownBlock=some k→¬S k):aK w' sb v ws c k:=
 ⟨h.blk.aA hc h1,af h.row hc h2,h.apart⟩
theorem aK.alloc{w:World}{sb:Nat}{v:Value}{ws:List RW}{c k:Int}(h:aK w sb v ws c k)(o:Obj):aK (w.alloc o) sb v ws c k:=
 h.aA ((aj.refl (fun _=>False) w).alloc o) id (fun _ _=>id)
theorem G7(rb sb:Nat)(tv:Value)(ae:List Tk)(I:Nat)(fin A loops:Int)(v:Value)(ws:List RW)(c k:Int)(t:ByteArray)(w:World)(sS:ws.length≤1100000)
  (hb:az w rb (bK sb tv I fin 0 A) 181) (hS:aK w sb v ws c k) (h0:kC ws t loops=0):
  Calls Tryz.prog 170 #[.pointer (some ⟨rb,0,none⟩),.string t,.int .i64 loops] w fun e w'=>e=.returned (.tuple #[.agg (su ws t),.bool true])∧Below w.heap.size w w':=by
 obtain⟨r0,r1,r2,r3,r4,r5⟩:=hb.bK;have hlt:=hb.lt;have HF:=ast (fun o:Obj=>uN t (w.alloc o) (hS.alloc o) sS);have HT:=ast (bF t);obtain⟨r,hr⟩:=exq (dB ws t);obtain⟨ta,tp,tb,htt⟩:∃a b c,ax t=(a,b,c):=⟨_,_,_,rfl⟩;rw[←hr]at HF;rw[htt]at HT;have HV:Hid (su ws t=if 0≤r then #[.int .i64 3,.int .i64 r,.string ⟨#[]⟩,.slice none 0 0,.slice none 0 0]else #[.int .i64 2,.int .i64 0,.string t,.slice none 0 0,.slice none 0 0]):=by show su ws t=_;rw[su,hr]
 have HE:Hid ((if 0≤r then 0 else if tb=false then 3 else if(t.toList == [105])=true∧loops=0 then 5 else 0)=(0:Int)):=by
  show _=_;rw[kC,htt,←hr]at h0;exact h0
 obtain⟨V,hV⟩:=exq (su ws t);rw[←hV];have Zh:=ast hV;clear hr htt h0 hS hb hV
 by_cases hp:0≤r
 ·have HX:Hid (V= #[.int .i64 3,.int .i64 r,.string ⟨#[]⟩,.slice none 0 0,.slice none 0 0]):=by have:=Zh.out;rw[HV.out,if_pos hp]at this;exact this
  go_enter Tryz.func170,Tryz.ntmps170
  go_wp2_with (go_at_call 93;refine(HF.out _).mono ?_;rintro e w' ⟨rfl,rfl⟩)
  exact bodyPost_ret (v:=.tuple #[.agg V,.bool true]) (by rw[HX.out];simp[results,Tryz.results170,go_sem]) rfl ⟨rfl,brq.alloc nrq _⟩
 ·have HX:Hid (V= #[.int .i64 2,.int .i64 0,.string t,.slice none 0 0,.slice none 0 0]):=by have:=Zh.out;rw[HV.out,if_neg hp]at this;exact this
  have hE:=HE.out;rw[if_neg hp]at hE
  have htb:tb=true:=by
   cases tb with
   |true=>rfl
   |false=>simp at hE
  subst htb
  have hE2:¬((t.toList == [105])=true∧loops=0):=by
   intro h;simp only[Bool.true_eq_false,if_false]at hE;rw[if_pos h]at hE;cases hE
  clear hE HE
  by_cases hi:(t.toList == [105])=true
  ·have hl:(loops == 0)=false:=by
    rw[beq_eq_false_iff_ne];intro e;exact hE2 ⟨hi,e⟩
   clear hE2;go_enter Tryz.func170,Tryz.ntmps170
   go_wp2_with (first|(go_at_call 93;refine(HF.out _).mono ?_;rintro e w' ⟨rfl,rfl⟩)|(go_at_call 193;refine(HT.out _).mono ?_;rintro e w' ⟨rfl,rfl⟩))
   exact bodyPost_ret (v:=.tuple #[.agg V,.bool true]) (by rw[HX.out];simp[results,Tryz.results170,go_sem]) rfl ⟨rfl,brq.alloc nrq _⟩
  ·have hi':(t.toList == [105])=false:=by simpa using hi
   clear hE2 hi;go_enter Tryz.func170,Tryz.ntmps170
   go_wp2_with (first|(go_at_call 93;refine(HF.out _).mono ?_;rintro e w' ⟨rfl,rfl⟩)|(go_at_call 193;refine(HT.out _).mono ?_;rintro e w' ⟨rfl,rfl⟩))
   exact bodyPost_ret (v:=.tuple #[.agg V,.bool true]) (by rw[HX.out];simp[results,Tryz.results170,go_sem]) rfl ⟨rfl,brq.alloc nrq _⟩
theorem aj.Dy{S:Nat→Prop}{w w1 w2:World}{b:Nat}(h:aj S w w1)(hb:b<w.heap.size)(h2:aj (fun k=>k=w.heap.size) w1 w2):aj S w w2:=
 ⟨h2.os.trans h.os,h2.tape.trans h.tape,h2.output.trans h.output,Nat.le_trans h.size h2.size,fun k hk hn=>(h2.block k (Nat.lt_of_lt_of_le hk h.size) (by omega)).trans (h.block k hk hn)⟩
theorem az.cZ{w:World}{b:Nat}{t:TypeId}(h:az w b cZ t):w.cell? ⟨b,0,none⟩=some (.int .i64 0)∧w.cell? ⟨b,1,none⟩=some (.int .i64 0)∧w.cell? ⟨b,2,none⟩=some (.string ⟨#[]⟩)∧w.cell? ⟨b,3,none⟩=some (.slice none 0 0)∧w.cell? ⟨b,4,none⟩=some (.slice none 0 0):=
 ⟨h.cell 0 _ rfl,h.cell 1 _ rfl,h.cell 2 _ rfl,h.cell 3 _ rfl,h.cell 4 _ rfl⟩
theorem EF(rb sb:Nat)(tv:Value)(ae:List Tk)(I:Nat)(fin A loops:Int)(v:Value)(ws:List RW)(c k:Int)(t:ByteArray)(w:World)(sS:ws.length≤1100000)(hI:I≤1000000000)(hl:ae.length≤1000000000)
  (hb:az w rb (bK sb tv I fin 0 A) 181) (ht:kU w tv ae) (hne:tv.ownBlock≠some rb) (hS:aK w sb v ws c k) (h0:kC ws t loops≠0):
  Calls Tryz.prog 170 #[.pointer (some ⟨rb,0,none⟩),.string t,.int .i64 loops] w fun e w'=>e=.returned (.tuple #[.agg cZ,.bool false])∧az w' rb (bK sb tv I fin (kC ws t loops) (kz ae fin I)) 181∧aj (fun k=>k=rb) w w':=by
 obtain⟨r0,r1,r2,r3,r4,r5⟩:=hb.bK;have hlt:=hb.lt;have HF:=ast (fun o:Obj=>uN t (w.alloc o) (hS.alloc o) sS);have HT:=ast (bF t);have HX:=ast (fun (o:Obj) (e:Int)=>gz rb sb tv ae I I fin A e (w.alloc o) hI hl (hb.alloc o) (ht.alloc o) hne);have HB:=ast hb;obtain⟨r,hr⟩:=exq (dB ws t);obtain⟨ta,tp,tb,htt⟩:∃a b c,ax t=(a,b,c):=⟨_,_,_,rfl⟩;rw[←hr]at HF;rw[htt]at HT;obtain⟨E,hE⟩:=exq (kC ws t loops);rw[←hE]at h0 ⊢
 have HE:Hid (E=(if 0≤r then 0 else if tb=false then 3 else if(t.toList == [105])=true∧loops=0 then 5 else 0)):=by
  show _=_;rw[kC,htt,←hr]at hE;exact hE
 clear hr htt hS hb hE;have hp:¬0≤r:=by intro hp;have:=HE.out;rw[if_pos hp]at this;exact h0 this
 have hi0:=fun o:Obj=>hlt
 cases tb with
 |false=>
  obtain rfl:E=3:=by have:=HE.out;rw[if_neg hp]at this;simpa using this
  clear HE h0;go_enter Tryz.func170,Tryz.ntmps170
  go_wp2_with (first|(go_at_call 93;refine(HF.out _).mono ?_;rintro e w' ⟨rfl,rfl⟩)|(go_at_call 193;refine(HT.out _).mono ?_;rintro e w' ⟨rfl,rfl⟩))
  refine(HX.out _ _).mono ?_;rintro e w1 ⟨rfl,hb1,hc1⟩;have hz:az w1 w.heap.size cZ 249:=(ay w cZ 249).aA hc1 (by omega);have hC:aj (fun k=>k=rb) w w1:=((aj.refl (fun k=>k=rb) w).alloc _).trans hc1;obtain⟨d0,d1,d2,d3,d4⟩:=hz.cZ;obtain⟨g0,g1,g2,g3,g4⟩:=hz.free;have HZ:=ast hz;have HC:=ast hC;have HB1:=ast hb1;have hsz:=hz.lt;clear hz hC hb1 hc1;go_wp2_with fail
  refine bodyPost_ret (v:=.tuple #[.agg cZ,.bool false]) (by simp[results,Tryz.results170,go_sem,cZ,d0,d1,d2,d3,d4]) rfl ⟨rfl,?_,?_⟩
  ·exact((((HB1.out.setOther (by simp;omega) _).setOther (by simp;omega) _).setOther (by simp;omega) _).setOther (by simp;omega) _).setOther (by simp;omega) _
  ·refine(HC.out).Dy hlt ?_
   exact(((((aj.refl (fun k=>k=w.heap.size) w1).setCell (p:=⟨w.heap.size,0,none⟩) rfl _).setCell (p:=⟨w.heap.size,1,none⟩) rfl _).setCell (p:=⟨w.heap.size,2,none⟩) rfl _).setCell (p:=⟨w.heap.size,3,none⟩) rfl _).setCell (p:=⟨w.heap.size,4,none⟩) rfl _
 |true=>
  have hE:=HE.out;rw[if_neg hp]at hE;simp only[Bool.true_eq_false,if_false]at hE
  have hc5:(t.toList == [105])=true∧loops=0:=by
   rcases Classical.em ((t.toList == [105])=true∧loops=0)with h|h
   ·exact h
   ·rw[if_neg h]at hE;exact absurd hE h0
  rw[if_pos hc5]at hE;subst hE;obtain⟨hi,hlz⟩:=hc5;subst hlz;clear HE h0;go_enter Tryz.func170,Tryz.ntmps170
  go_wp2_with (first|(go_at_call 93;refine(HF.out _).mono ?_;rintro e w' ⟨rfl,rfl⟩)|(go_at_call 193;refine(HT.out _).mono ?_;rintro e w' ⟨rfl,rfl⟩))
  refine(HX.out _ _).mono ?_;rintro e w1 ⟨rfl,hb1,hc1⟩;have hz:az w1 w.heap.size cZ 249:=(ay w cZ 249).aA hc1 (by omega);have hC:aj (fun k=>k=rb) w w1:=((aj.refl (fun k=>k=rb) w).alloc _).trans hc1;obtain⟨d0,d1,d2,d3,d4⟩:=hz.cZ;obtain⟨g0,g1,g2,g3,g4⟩:=hz.free;have HZ:=ast hz;have HC:=ast hC;have HB1:=ast hb1;have hsz:=hz.lt;clear hz hC hb1 hc1;go_wp2_with fail
  refine bodyPost_ret (v:=.tuple #[.agg cZ,.bool false]) (by simp[results,Tryz.results170,go_sem,cZ,d0,d1,d2,d3,d4]) rfl ⟨rfl,?_,?_⟩
  ·exact((((HB1.out.setOther (by simp;omega) _).setOther (by simp;omega) _).setOther (by simp;omega) _).setOther (by simp;omega) _).setOther (by simp;omega) _
  ·refine(HC.out).Dy hlt ?_
   exact(((((aj.refl (fun k=>k=w.heap.size) w1).setCell (p:=⟨w.heap.size,0,none⟩) rfl _).setCell (p:=⟨w.heap.size,1,none⟩) rfl _).setCell (p:=⟨w.heap.size,2,none⟩) rfl _).setCell (p:=⟨w.heap.size,3,none⟩) rfl _).setCell (p:=⟨w.heap.size,4,none⟩) rfl _
end
section
structure AI where
 num:Option Int
 inf:Inf
 tree:IT
abbrev PR:=(List AI×ByteArray×Nat) ⊕ (Int×Int)
def iQ:ByteArray:=⟨#[101,108,115,101]⟩
def dO:ByteArray:=⟨#[116,104,101,110]⟩
def jg:ByteArray:=⟨#[108,111,111,112]⟩
def ik:ByteArray:=⟨#[59]⟩
def zT:ByteArray:=⟨#[58]⟩
def Tj:ByteArray:=⟨#[118,97,114,105,97,98,108,101]⟩
def fQ:List ByteArray:=[⟨#[]⟩,iQ,dO,jg,ik,zT,Tj]
def kD(l:List AI)(j:Nat):Inf:=((l.map AI.inf).getD j Inf.zero)
def dw(l:List AI):Inf:=upTo (kD l) l.length
def zU(x:RW):Inf:=if 0≤x.var then Inf.plain 0 1 else x.inf.more
def mJ(ws:List RW)(t:ByteArray):Inf:=
 if 0≤dB ws t then
  match ws[(dB ws t).toNat]? with
  |some x=>zU x
  |none=>Inf.zero
 else Inf.plain (ax t).1 (ax t).2.1
def sD(ws:List RW)(t:ByteArray):IT:=if 0≤dB ws t then .own (dB ws t).toNat else .op t
def trees(l:List AI):List IT:=l.map AI.tree
def gp(l:List AI):Option (Int×Int):=
 match l.reverse with
 |⟨some b,_,_⟩ :: ⟨some a,_,_⟩ :: _=>some (a,b)
 |_=>none
section
variable(ws:List RW)(ae:List Tk)(fin:Int)
def aJ:Nat→List ByteArray→Int→List AI→Nat→PR
 |0,_,_,_,_=>.inr (99,0)
 |f+1,ends,loops,acc,I=>
  if jH (aC ae I) ends=true then .inl (acc,aC ae I,I+1)
  else if jH (aC ae I) fQ=true then .inr (5,kz ae fin I)
  else if(fZ (aC ae I)).2=true then aJ f ends loops (acc++[⟨some (fZ (aC ae I)).1,Inf.plain 0 1,.num (fZ (aC ae I)).1⟩]) (I+1)
  else if((aC ae I).toList == [105,102])=true then
   match aJ f [iQ,dO] loops [] (I+1)with
   |.inr r=>.inr r
   |.inl (la,ta,I1)=>
    if(ta.toList == [101,108,115,101])=true then
     match aJ f [dO] loops [] I1 with
     |.inr r=>.inr r
     |.inl (lb,_,I2)=>if(dw la).bu=(dw lb).bu then aJ f ends loops (acc++[⟨none,(Inf.plain 1 0).then ((dw la).more.ways (dw lb)),.els (trees la) (trees lb)⟩]) I2 else .inr (6,kz ae fin (I2 - 1))
    else if(dw la).bu=0 then aJ f ends loops (acc++[⟨none,(Inf.plain 1 0).then ((dw la).ways Inf.zero),.iff (trees la)⟩]) I1 else .inr (6,kz ae fin (I1 - 1))
  else if((aC ae I).toList == [100,111])=true then
   match gp acc with
   |none=>.inr (5,kz ae fin I)
   |some (a,b)=>
    if 1000<a - b then .inr (7,kz ae fin I)else
     match aJ f [jg] (loops+1) [] (I+1)with
     |.inr r=>.inr r
     |.inl (la,_,I1)=>if(dw la).bu=0 then aJ f ends loops (acc++[⟨none,(Inf.plain 2 0).then ((dw la).times (max 0 (a - b))),.Et (trees la)⟩]) I1 else .inr (6,kz ae fin (I1 - 1))
  else if kC ws (aC ae I) loops=0 then aJ f ends loops (acc++[⟨none,mJ ws (aC ae I),sD ws (aC ae I)⟩]) (I+1)
  else .inr (kC ws (aC ae I) loops,kz ae fin I)
end
def five(x:Array Value):Prop:=∃(k n:Int) (s:ByteArray) (a1:Option Addr) (n1 c1:Nat) (a2:Option Addr) (n2 c2:Nat),x= #[.int .i64 k,.int .i64 n,.string s,.slice a1 n1 c1,.slice a2 n2 c2]
def uY(F:Nat→Prop)(w:World)(v:Value)(n:Nat)(xs:Nat→Array Value):Prop:=
 ∃ad cap,v=.slice ad n cap∧n≤cap∧(∀i,i<n→five (xs i))∧(0<n→∃g cs,ad=some ⟨g,0,none⟩∧F g∧w.heap[g]?=some (.cells cs 249 (0,0))∧∀i,i<n→∀(j:Nat) (u:Value),(xs i)[j]?=some u→cs[i*5+j]?=some u)
inductive iR (F:Nat→Prop) (w:World):Array Value→IT→Prop
 |num (n:Int) (h: -2147483648≤n∧n≤2147483647):iR F w #[.int .i64 1,.int .i64 n,.string ⟨#[]⟩,.slice none 0 0,.slice none 0 0] (.num n)
 |op (s:ByteArray):iR F w #[.int .i64 2,.int .i64 0,.string s,.slice none 0 0,.slice none 0 0] (.op s)
 |own (k:Nat):iR F w #[.int .i64 3,.int .i64 k,.string ⟨#[]⟩,.slice none 0 0,.slice none 0 0] (.own k)
 |iff (v:Value) (a:List IT) (xs:Nat→Array Value) (h:uY F w v a.length xs) (h':∀(i:Nat) (t:IT),a[i]?=some t→iR F w (xs i) t):iR F w #[.int .i64 4,.int .i64 0,.string ⟨#[]⟩,v,.slice none 0 0] (.iff a)
 |els (v u:Value) (a b:List IT) (xs ys:Nat→Array Value) (h:uY F w v a.length xs) (h':∀(i:Nat) (t:IT),a[i]?=some t→iR F w (xs i) t) (k:uY F w u b.length ys) (k':∀(i:Nat) (t:IT),b[i]?=some t→iR F w (ys i) t):iR F w #[.int .i64 5,.int .i64 0,.string ⟨#[]⟩,v,u] (.els a b)
 |Et (v:Value) (ad:Option Addr) (n c:Nat) (a:List IT) (xs:Nat→Array Value) (h:uY F w v a.length xs) (h':∀(i:Nat) (t:IT),a[i]?=some t→iR F w (xs i) t):iR F w #[.int .i64 6,.int .i64 0,.string ⟨#[]⟩,v,.slice ad n c] (.Et a)
theorem uY.mono{F G:Nat→Prop}{w w':World}{v:Value}{n:Nat}{xs:Nat→Array Value}(h:uY F w v n xs)(hf:∀k cs,F k→w.heap[k]?=some (.cells cs 249 (0,0))→G k∧w'.heap[k]?=w.heap[k]?):uY G w' v n xs:=by
 obtain⟨ad,cap,h1,h2,h3,h4⟩:=h;refine⟨ad,cap,h1,h2,h3,fun hn=>?_⟩;obtain⟨g,cs,e1,e2,e3,e4⟩:=h4 hn;obtain⟨k1,k2⟩:=hf g cs e2 e3;exact⟨g,cs,e1,k1,k2.trans e3,e4⟩
theorem iR.mono{F G:Nat→Prop}{w w':World}{x:Array Value}{t:IT}(h:iR F w x t)(hf:∀k cs,F k→w.heap[k]?=some (.cells cs 249 (0,0))→G k∧w'.heap[k]?=w.heap[k]?):iR G w' x t:=by
 induction h with
 |num n h=>exact .num n h
 |op s=>exact .op s
 |own k=>exact .own k
 |iff v a xs h _ ih=>exact .iff v a xs (h.mono hf) ih
 |els v u a b xs ys h _ k _ ih ih2=>exact .els v u a b xs ys (h.mono hf) ih (k.mono hf) ih2
 |Et v ad n c a xs h _ ih=>exact .Et v ad n c a xs (h.mono hf) ih
def oI(sb:Nat)(sv:Value)(ws:List RW)(sc sk:Int)(F:Nat→Prop)(w:World)(x:Array Value)(i:Inf)(t:IT):Prop:=
 ∀w',(∀k,F k→w'.heap[k]?=w.heap[k]?)→iR F w' x t∧(aK w' sb sv ws sc sk→
  Calls Tryz.prog 171 #[.pointer (some ⟨sb,0,none⟩),.agg x] w' fun e w''=>e=.returned i.val∧Below w'.heap.size w' w'')
theorem oI.mono{sb:Nat}{sv:Value}{ws:List RW}{sc sk:Int}{F G:Nat→Prop}{w w1:World}{x:Array Value}{i:Inf}{t:IT}(h:oI sb sv ws sc sk F w x i t)(hf:∀k,F k→G k)(hw:∀k,F k→w1.heap[k]?=w.heap[k]?):oI sb sv ws sc sk G w1 x i t:=
 fun w' h1=>⟨(h w' (fun k hk=>(h1 k (hf k hk)).trans (hw k hk))).1.mono (fun k _ hk _=>⟨hf k hk,rfl⟩),(h w' (fun k hk=>(h1 k (hf k hk)).trans (hw k hk))).2⟩
def kindOk(x:Array Value)(a:AI):Prop:=
 match a.num with
 |some n=>x= #[.int .i64 1,.int .i64 n,.string ⟨#[]⟩,.slice none 0 0,.slice none 0 0]∧ -2147483648≤n∧n≤2147483647
 |none=>∃k:Int,x[0]?=some (.int .i64 k)∧k≠1
structure aW (sb:Nat) (sv:Value) (ws:List RW) (sc sk:Int) (w:World) (base:Nat) (v:Value) (l:List AI) (xs:List (Array Value)) (F:Nat→Prop):Prop where
 len:xs.length=l.length
 row:w.ownsRow base 249 5 v l.length (xs.flatMap Array.toList)
 shape:∀x∈xs,five x
 kind:∀(i:Nat) (x:Array Value) (a:AI),xs[i]?=some x→l[i]?=some a→kindOk x a
 fp:∀k,F k→base≤k∧k<w.heap.size∧v.ownBlock≠some k
 ok:∀(i:Nat) (x:Array Value) (a:AI),xs[i]?=some x→l[i]?=some a→oI sb sv ws sc sk F w x a.inf a.tree
structure Inf.Wt (i:Inf) (q:Int):Prop where
 n0: -4000000000*q≤i.need
 n1:i.need≤4000000000*q
 t0: -4000000000*q≤i.bu
 t1:i.bu≤4000000000*q
 h0:0≤i.high
 h1:i.high≤4000000000*q
 s0:0≤i.steps
 s1:i.steps≤1000000001
theorem Inf.Wt.ok{i:Inf}{q:Int}(h:i.Wt q)(h0:0≤q)(h1:q≤10000000):i.Ok:=by
 obtain⟨a1,a2,a3,a4,a5,a6,a7,a8⟩:=h
 constructor<;>omega
theorem Inf.Wt.mono{i:Inf}{q r:Int}(h:i.Wt q)(hq:q≤r):i.Wt r:=by
 obtain⟨a1,a2,a3,a4,a5,a6,a7,a8⟩:=h
 constructor<;>omega
theorem Inf.Wt.zero:Inf.zero.Wt 0:=by constructor<;>simp[Inf.zero]
theorem Inf.Wt.then{a b:Inf}{q r:Int}(ha:a.Wt q)(hb:b.Wt r)(hq:0≤q)(hr:0≤r):(a.then b).Wt (q+r):=by
 obtain⟨a1,a2,a3,a4,a5,a6,a7,a8⟩:=ha;obtain⟨b1,b2,b3,b4,b5,b6,b7,b8⟩:=hb
 constructor<;>simp only[Inf.then]<;>omega
theorem Inf.Wt.more{a:Inf}{q:Int}(ha:a.Wt q):a.more.Wt q:=by
 obtain⟨a1,a2,a3,a4,a5,a6,a7,a8⟩:=ha
 constructor<;>simp only[Inf.more]<;>omega
theorem Inf.Wt.ways{a b:Inf}{q r:Int}(ha:a.Wt q)(hb:b.Wt r)(hq:0≤q)(hr:0≤r):(a.ways b).Wt (q+r):=by
 obtain⟨a1,a2,a3,a4,a5,a6,a7,a8⟩:=ha;obtain⟨b1,b2,b3,b4,b5,b6,b7,b8⟩:=hb
 constructor<;>simp only[Inf.ways]<;>omega
theorem Inf.Wt.times{a:Inf}{q n:Int}(ha:a.Wt q)(hq:0≤q)(h0:0≤n):(a.times n).Wt q:=by
 obtain⟨a1,a2,a3,a4,a5,a6,a7,a8⟩:=ha;have hp:0≤n*min (a.steps+1) 1000000001:=Int.mul_nonneg h0 (by omega);unfold Inf.times
 split<;>constructor<;>simp only<;>omega
theorem mM:∀(a b:List Nat),(a++b).sum=a.sum+b.sum
 |[],b=>by simp
 |x :: a,b=>by simp only[List.cons_append,List.sum_cons];rw[mM a b];omega
theorem G8:∀(a:List Nat) (x:Nat),x∈a→x≤a.sum
 |[],x,h=>by simp at h
 |y :: a,x,h=>by
  simp only[List.sum_cons];rcases List.mem_cons.1 h with rfl|h
  ·omega
  ·have:=G8 a x h;omega
def uo(l:List AI)(q:Nat):Prop:=∃qs:List Nat,qs.length=l.length∧qs.sum≤q∧∀(j:Nat) (a:AI) (n:Nat),l[j]?=some a→qs[j]?=some n→a.inf.Wt n
theorem uo.nil(q:Nat):uo [] q:=⟨[],rfl,by simp,fun j a n h=>by simp at h⟩
theorem uo.mono{l:List AI}{q r:Nat}(h:uo l q)(hq:q≤r):uo l r:=by
 obtain⟨qs,a,b,c⟩:=h;exact⟨qs,a,by omega,c⟩
theorem uo.snoc{l:List AI}{q r:Nat}{x:AI}(h:uo l q)(hx:x.inf.Wt r):uo (l++[x]) (q+r):=by
 obtain⟨qs,a,b,c⟩:=h;refine⟨qs++[r],by simp[a],by rw[mM];simp;omega,fun j y n h1 h2=>?_⟩
 by_cases hj:j<l.length
 ·rw[List.getElem?_append_left hj]at h1
  rw[List.getElem?_append_left (by omega)]at h2;exact c j y n h1 h2
 ·rw[List.getElem?_append_right (by omega)]at h1
  rw[List.getElem?_append_right (by omega)]at h2;rw[a]at h2
  by_cases e:j - l.length=0
  ·rw[e]at h1 h2;simp at h1 h2;subst h1;subst h2;exact hx
  ·rw[List.getElem?_eq_none (by simp;omega)]at h1;cases h1
theorem uo.upTo{l:List AI}{q:Nat}(h:uo l q):∀j,j≤l.length→∃r:Nat,r≤q∧(upTo (kD l) j).Wt r:=by
 obtain⟨qs,a,b,c⟩:=h
 have key:∀j,j≤l.length→(Go.Proofs.YtcphhbofjkenaaaGreatDoor.upTo (kD l) j).Wt ((qs.take j).sum:Nat):=by
  intro j
  induction j with
  |zero=>intro _;simpa [Go.Proofs.YtcphhbofjkenaaaGreatDoor.upTo]using Inf.Wt.zero
  |succ j ih=>
   intro hj;have h1:=ih (by omega);have hl:l[j]?=some l[j]:=List.getElem?_eq_getElem (by omega);have hq:qs[j]?=some qs[j]:=List.getElem?_eq_getElem (by omega);have h2:=c j _ _ hl hq;have e:kD l j=l[j].inf:=by simp[kD,hl]
   rw[Go.Proofs.YtcphhbofjkenaaaGreatDoor.upTo,e];have h3:=h1.then h2 (by omega) (by omega)
   have hs:(qs.take (j+1)).sum=(qs.take j).sum+qs[j]:=by
    rw[List.take_succ_eq_append_getElem (by omega),mM];simp
   rw[hs];simpa using h3
 intro j hj;refine⟨_,?_,key j hj⟩
 have:(qs.take j).sum≤qs.sum:=by
  have e:=List.take_append_drop j qs;have:=congrArg List.sum e;rw[mM]at this;omega
 omega
theorem uo.item{l:List AI}{q:Nat}(h:uo l q)(j:Nat)(hj:j<l.length):∃r:Nat,r≤q∧(kD l j).Wt r:=by
 obtain⟨qs,a,b,c⟩:=h;have hl:l[j]?=some l[j]:=List.getElem?_eq_getElem (by omega);have hq:qs[j]?=some qs[j]:=List.getElem?_eq_getElem (by omega);refine⟨qs[j],?_,?_⟩
 ·have:=G8 qs qs[j] (List.getElem_mem (by omega));omega
 ·have e:kD l j=l[j].inf:=by simp[kD,hl]
  rw[e];exact c j _ _ hl hq
end
section
theorem OU{x:Array Value}(h:five x):x.toList.length=5:=by
 obtain⟨k,n,s,a1,n1,c1,a2,n2,c2,rfl⟩:=h;rfl
theorem G9:∀(xs:List (Array Value)) (_:∀x∈xs,five x) (i j:Nat) (x:Array Value) (u:Value),xs[i]?=some x→x[j]?=some u→(xs.flatMap Array.toList)[i*5+j]?=some u
 |[],_,i,j,x,u,h,_=>by simp at h
 |y :: xs,hs,0,j,x,u,h,hu=>by
  simp at h;subst h;simp only[List.flatMap_cons,Nat.zero_mul,Nat.zero_add]
  rw[List.getElem?_append_left (by
   have:=(Array.getElem?_eq_some_iff.1 hu).1;simpa using this)]
  simpa using hu
 |y :: xs,hs,i+1,j,x,u,h,hu=>by
  simp only[List.flatMap_cons];have hl:=OU (hs y (by simp));rw[List.getElem?_append_right (by omega),hl,show(i+1)*5+j - 5=i*5+j by omega];exact G9 xs (fun z hz=>hs z (by simp[hz])) i j x u (by simpa using h) hu
theorem NR{w w':World}{b:Nat}(h:w'.heap[b]?=w.heap[b]?)(hb:b<w.heap.size):b<w'.heap.size:=by
 rw[Array.getElem?_eq_getElem hb]at h;exact(Array.getElem?_eq_some_iff.1 h).1
theorem aW.all{sb:Nat}{sv:Value}{ws:List RW}{sc sk:Int}{w:World}{base:Nat}{v:Value}{l:List AI}{xs:List (Array Value)}{F:Nat→Prop}{q:Nat}
  (h:aW sb sv ws sc sk w base v l xs F) (hw:uo l q) (hq:q≤10000000) (hl:l.length≤1100000) (w':World)
  (h1:∀k,F k→w'.heap[k]?=w.heap[k]?) (h2:∀k,v.ownBlock=some k→w'.heap[k]?=w.heap[k]?) (hsz:w.heap.size≤w'.heap.size) (h3:aK w' sb sv ws sc sk):
  Calls Tryz.prog 130 #[.pointer (some ⟨sb,0,none⟩),v] w' fun e w''=>e=.returned (dw l).val∧Below w'.heap.size w' w'':=by
 obtain⟨ad,cap,hv,hc1,hc2⟩:=ag h.row;subst hv;have gG:∀i:Inf,(∃r:Nat,r≤q∧i.Wt r)→i.Ok:=fun i ⟨r,hr,hi⟩=>hi.ok (by omega) (by omega)
 refine EC sb l.length cap ad (kD l) (fun j=>xs.getD j #[]) w' hl hc1 (fun j hj=>gG _ (hw.item j hj)) (fun j hj=>gG _ (hw.upTo j hj)) (fun j hj=>?_) (fun j hj w2 hb2=>?_)
 ·have hxj:xs[j]?=some (xs[j]'(by rw[h.len];exact hj)):=List.getElem?_eq_getElem _
  obtain⟨x,hx⟩:∃x,xs[j]?=some x:=⟨_,hxj⟩;obtain⟨k0,k1,k2,p1,n1,c1,p2,n2,c2,hxe⟩:=h.shape x (List.mem_of_getElem? hx);obtain⟨g,cap',JB,_,hg,_,_,hcell⟩:=aB h.row (by omega);have hg2:w'.heap[g]?=w.heap[g]?:=h2 g (by rw[JB];rfl);have had:ad=some ⟨g,0,none⟩:=by simpa using(congrArg (fun u:Value=>match u with|.slice a _ _=>a|_=>none) JB)
  have cc:∀(o:Nat) (u:Value),x[o]?=some u→w'.cell? ⟨g,j*5+o,none⟩=some u:=fun o u hu=>by
   rw[World.cell?_of_block (w:=w) (a:=⟨g,j*5+o,none⟩) hg2];exact hcell _ _ (G9 xs h.shape j o x u hx hu)
  subst hxe;refine⟨g,_,_,_,_,_,had,by omega,by show xs.getD j #[]=_;rw[List.getD,hx];rfl,?_,cc 1 _ rfl,cc 2 _ rfl,cc 3 _ rfl,cc 4 _ rfl⟩;simpa using cc 0 _ rfl
 ·have hxj:xs[j]?=some (xs[j]'(by rw[h.len];exact hj)):=List.getElem?_eq_getElem _
  have hlj:l[j]?=some l[j]:=List.getElem?_eq_getElem hj;have:=(h.ok j _ _ hxj hlj w2 (fun k hk=>(hb2.block k (by have:=(h.fp k hk).2.1;omega)).trans (h1 k hk))).2 (h3.aA (aj.au (S:=fun _=>False) hb2) id (fun _ _=>id));have e1:xs.getD j #[]=xs[j]'(by rw[h.len];exact hj):=by simp[hxj]
  have e2:kD l j=l[j].inf:=by simp[kD,hlj]
  rw[e1,e2];exact this
theorem aW.aek{sb:Nat}{sv:Value}{ws:List RW}{sc sk:Int}{w:World}{base:Nat}{v:Value}{l:List AI}{xs:List (Array Value)}{F:Nat→Prop}{q:Nat}
  (h:aW sb sv ws sc sk w base v l xs F) (hw:uo l q) (hq:q≤10000000) (hl:l.length≤1100000) (w':World)
  (h1:∀k,F k→w'.heap[k]?=w.heap[k]?) (h2:∀k,v.ownBlock=some k→w'.heap[k]?=w.heap[k]?) (h3:aK w' sb sv ws sc sk):
  Calls Tryz.prog 130 #[.pointer (some ⟨sb,0,none⟩),v] w' fun e w''=>e=.returned (dw l).val∧Below w'.heap.size w' w'':=by
 obtain⟨ad,cap,hv,hc1,hc2⟩:=ag h.row;subst hv;have gG:∀i:Inf,(∃r:Nat,r≤q∧i.Wt r)→i.Ok:=fun i ⟨r,hr,hi⟩=>hi.ok (by omega) (by omega)
 refine EC sb l.length cap ad (kD l) (fun j=>xs.getD j #[]) w' hl hc1 (fun j hj=>gG _ (hw.item j hj)) (fun j hj=>gG _ (hw.upTo j hj)) (fun j hj=>?_) (fun j hj w2 hb2=>?_)
 ·have hxj:xs[j]?=some (xs[j]'(by rw[h.len];exact hj)):=List.getElem?_eq_getElem _
  obtain⟨x,hx⟩:∃x,xs[j]?=some x:=⟨_,hxj⟩;obtain⟨k0,k1,k2,p1,n1,c1,p2,n2,c2,hxe⟩:=h.shape x (List.mem_of_getElem? hx);obtain⟨g,cap',JB,_,hg,_,_,hcell⟩:=aB h.row (by omega);have hg2:w'.heap[g]?=w.heap[g]?:=h2 g (by rw[JB];rfl);have had:ad=some ⟨g,0,none⟩:=by simpa using(congrArg (fun u:Value=>match u with|.slice a _ _=>a|_=>none) JB)
  have cc:∀(o:Nat) (u:Value),x[o]?=some u→w'.cell? ⟨g,j*5+o,none⟩=some u:=fun o u hu=>by
   rw[World.cell?_of_block (w:=w) (a:=⟨g,j*5+o,none⟩) hg2];exact hcell _ _ (G9 xs h.shape j o x u hx hu)
  subst hxe;refine⟨g,_,_,_,_,_,had,NR hg2 hg,by show xs.getD j #[]=_;rw[List.getD,hx];rfl,?_,cc 1 _ rfl,cc 2 _ rfl,cc 3 _ rfl,cc 4 _ rfl⟩;simpa using cc 0 _ rfl
 ·have hxj:xs[j]?=some (xs[j]'(by rw[h.len];exact hj)):=List.getElem?_eq_getElem _
  have hlj:l[j]?=some l[j]:=List.getElem?_eq_getElem hj;have:=(h.ok j _ _ hxj hlj w2 (fun k hk=>(hb2.block k (NR (h1 k hk) (h.fp k hk).2.1)).trans (h1 k hk))).2 (h3.aA (aj.au (S:=fun _=>False) hb2) id (fun _ _=>id));have e1:xs.getD j #[]=xs[j]'(by rw[h.len];exact hj):=by simp[hxj]
  have e2:kD l j=l[j].inf:=by simp[kD,hlj]
  rw[e1,e2];exact this
theorem aW.uZ{sb:Nat}{sv:Value}{ws:List RW}{sc sk:Int}{w:World}{base:Nat}{v:Value}{l:List AI}{xs:List (Array Value)}{F:Nat→Prop}
  (h:aW sb sv ws sc sk w base v l xs F) (w':World) (h1:∀k,(F k∨v.ownBlock=some k)→w'.heap[k]?=w.heap[k]?):
  uY (fun k=>F k∨v.ownBlock=some k) w' v (trees l).length (fun i=>xs.getD i #[])∧∀(i:Nat) (t:IT),(trees l)[i]?=some t→iR (fun k=>F k∨v.ownBlock=some k) w' (xs.getD i #[]) t:=by
 have hlt:(trees l).length=l.length:=by simp[trees]
 refine⟨?_,fun i t ht=>?_⟩
 ·rw[hlt]
  obtain⟨ad,cap,hv,hc,_⟩:=ag h.row;refine⟨ad,cap,hv,hc,fun i hi=>?_,fun hn=>?_⟩
  ·have hxj:xs[i]?=some (xs[i]'(by rw[h.len];exact hi)):=List.getElem?_eq_getElem _
   have e:xs.getD i #[]=xs[i]'(by rw[h.len];exact hi):=by simp[hxj]
   show five (xs.getD i #[])
   rw[e];exact h.shape _ (List.getElem_mem _)
  ·rcases h.row.2 with ⟨_,h0⟩|⟨g,cap',cur,JB,_,hh,_,_,_,h4⟩
   ·omega
   ·have had:ad=some ⟨g,0,none⟩:=by rw[hv]at JB;simpa using(congrArg (fun u:Value=>match u with|.slice a _ _=>a|_=>none) JB)
    refine⟨g,cur,had,Or.inr (by rw[JB];rfl),(h1 g (Or.inr (by rw[JB];rfl))).trans hh,fun i hi j u hu=>?_⟩;have hxj:xs[i]?=some (xs[i]'(by rw[h.len];exact hi)):=List.getElem?_eq_getElem _;have e:xs.getD i #[]=xs[i]'(by rw[h.len];exact hi):=by simp[hxj]
    simp only at hu;rw[e]at hu;have:=G9 xs h.shape i j _ u hxj hu;rw[←h4,List.getElem?_take]at this
    split at this
    ·simpa using this
    ·cases this
 ·have hi:i<l.length:=by have:=(List.getElem?_eq_some_iff.1 ht).1;omega
  have hxj:xs[i]?=some (xs[i]'(by rw[h.len];exact hi)):=List.getElem?_eq_getElem _;have e:xs.getD i #[]=xs[i]'(by rw[h.len];exact hi):=by simp[hxj]
  have et:l[i].tree=t:=by
   unfold trees at ht;rw[List.getElem?_map,List.getElem?_eq_getElem hi]at ht;simpa using ht
  rw[e,←et];exact(h.ok i _ _ hxj (List.getElem?_eq_getElem hi) w' (fun k hk=>h1 k (Or.inl hk))).1.mono (fun k _ hk _=>⟨Or.inl hk,rfl⟩)
structure Rd (w:World) (rb sb:Nat) (tv sv:Value) (ae:List Tk) (ws:List RW) (c k:Int):Prop where
 tok:kU w tv ae
 sys:aK w sb sv ws c k
 tr:tv.ownBlock≠some rb
 sr:sv.ownBlock≠some rb
 ne:rb≠sb
 few:ae.length≤1100000
 EG:ws.length≤1100000
 WS:∀x∈ws,x.inf.Wt 1∧∃a n c,x.items=.slice a n c
 tsz:∀i,(aC ae i).size≤1000000000
theorem Rd.aA{w w':World}{rb sb:Nat}{tv sv:Value}{ae:List Tk}{ws:List RW}{c k:Int}(h:Rd w rb sb tv sv ae ws c k)(hc:aj (fun b=>b=rb) w w'):Rd w' rb sb tv sv ae ws c k:=
 ⟨h.tok.aA hc (fun b hb e=>h.tr (by rw[hb,e])),h.sys.aA hc (fun e=>h.ne e.symm) (fun b hb e=>h.sr (by rw[hb,e])),h.tr,h.sr,h.ne,h.few,h.EG,h.WS,h.tsz⟩
def OV(rb sb:Nat)(tv sv:Value)(ws:List RW)(c k:Int)(fin A:Int)(w:World)(r:PR)(e:Ending)(w':World):Prop:=
 match r with
 |.inl (l,t,I)=>∃v xs F,e=.returned (.tuple #[v,.string t])∧az w' rb (bK sb tv I fin 0 A) 181∧aj (fun b=>b=rb) w w'∧aW sb sv ws c k w' w.heap.size v l xs F
 |.inr (E,P)=>∃(ad:Option Addr) (n cap I:Nat),e=.returned (.tuple #[.slice ad n cap,.string ⟨#[]⟩])∧E≠0∧az w' rb (bK sb tv I fin E P) 181∧aj (fun b=>b=rb) w w'
def lJ(n:Nat):Prop:=
 ∀(rb sb:Nat) (tv sv:Value) (ae:List Tk) (ws:List RW) (c k:Int) (I f:Nat) (fin A loops:Int) (ends:List ByteArray) (eb Tm:Nat) (w:World),
  Rd w rb sb tv sv ae ws c k→az w rb (bK sb tv I fin 0 A) 181→ae.length+1 - I≤n→ae.length+1 - I≤f→I≤ae.length→
  0≤loops→loops+(ae.length+1 - I:Nat)≤10000000→ends.length≤10→ends.length≤Tm→eb≠rb→(∀j (h:j<ends.length),w.cell? ⟨eb,j,none⟩=some (.string ends[j]))→
  Calls Tryz.prog 129 #[.pointer (some ⟨rb,0,none⟩),.slice (some ⟨eb,0,none⟩) ends.length Tm,.int .i64 loops] w (OV rb sb tv sv ws c k fin A w (aJ ws ae fin f ends loops [] I))
end
section
def bV(F:Nat→Prop)(w:World)(v:Value)(its:List IT):Prop:=∃xs:Nat→Array Value,uY F w v its.length xs∧∀(i:Nat) (t:IT),its[i]?=some t→iR F w (xs i) t
theorem bV.mono{F G:Nat→Prop}{w w':World}{v:Value}{its:List IT}(h:bV F w v its)(hf:∀k cs,F k→az w k cs 249→G k∧w'.heap[k]?=w.heap[k]?):bV G w' v its:=by
 obtain⟨xs,h1,h2⟩:=h;exact⟨xs,h1.mono hf,fun i t ht=>(h2 i t ht).mono hf⟩
def bM(F:Nat→Prop)(w:World)(ws:List RW):Prop:=∀x∈ws,x.var<0→bV F w x.items x.its
theorem bM.mono{F G:Nat→Prop}{w w':World}{ws:List RW}(h:bM F w ws)(hf:∀k cs,F k→az w k cs 249→G k∧w'.heap[k]?=w.heap[k]?):bM G w' ws:=fun x hx hv=>(h x hx hv).mono hf
theorem bM.nil(F:Nat→Prop)(w:World):bM F w []:=fun x hx=>by simp at hx
theorem bM.aA{F S:Nat→Prop}{w w':World}{ws:List RW}(h:bM F w ws)(hc:aj S w w')(hs:∀k cs,F k→az w k cs 249→¬S k):bM F w' ws:=h.mono (fun k cs hk hb=>⟨hk,hc.block k hb.lt (hs k cs hk hb)⟩)
theorem bM.below{F:Nat→Prop}{w w':World}{ws:List RW}(h:bM F w ws)(hb:Below w.heap.size w w'):bM F w' ws:=h.aA (aj.au (S:=fun _=>False) hb) (fun _ _ _ _=>id)
theorem bM.one{F:Nat→Prop}{w w':World}{ws:List RW}{b:Nat}{cs:Array Value}{t:TypeId}(h:bM F w ws)(hc:aj (fun k=>k=b) w w')(hb:az w b cs t)(ht:t≠249):bM F w' ws:=h.aA hc (fun k c _ hk e=>by
 subst e;have:=hb.symm.trans hk;injection this with this
 injection this with _ h2
 exact ht h2)
theorem bM.shrink{F:Nat→Prop}{w:World}{ws:List RW}(h:bM F w ws):bM (fun k=>F k∧∃cs,az w k cs 249) w ws:=h.mono (fun k cs hk hb=>⟨⟨hk,cs,hb⟩,rfl⟩)
end
section
theorem bg{w:World}{base:Nat}{e:TypeId}{size:Nat}{v:Value}{n:Nat}{xs:List Value}(h:w.ownsRow base e size v n xs){k:Nat}(hk:v.ownBlock=some k):k<w.heap.size:=by
 rcases h.2 with ⟨rfl,_⟩|⟨g,cap,cur,rfl,_,hg,_⟩
 ·cases hk
 ·simp[Value.ownBlock]at hk;subst hk;exact(Array.getElem?_eq_some_iff.1 hg).1
theorem aj.iw{S:Nat→Prop}{w w1 w2:World}(h:aj S w w1)(h2:aj (fun k=>w.heap.size≤k) w1 w2):aj S w w2:=
 ⟨h2.os.trans h.os,h2.tape.trans h.tape,h2.output.trans h.output,Nat.le_trans h.size h2.size,fun k hk hn=>(h2.block k (Nat.lt_of_lt_of_le hk h.size) (by omega)).trans (h.block k hk hn)⟩
theorem nK(t p:Int)(h0:0≤t)(h1:t≤100)(h2:0≤p)(h3:p≤100):(Inf.plain t p).Wt 1:=by constructor<;>simp only[Inf.plain]<;>omega
theorem Tn(ws:List RW)(t:ByteArray)(hw:∀x∈ws,x.inf.Wt 1∧∃a n c,x.items=.slice a n c):(mJ ws t).Wt 1:=by
 unfold mJ
 split
 ·split
  ·rename_i x hx
   unfold zU
   split
   ·exact nK 0 1 (by omega) (by omega) (by omega) (by omega)
   ·exact(hw x (List.mem_of_getElem? hx)).1.more
  ·exact Inf.Wt.zero.mono (by omega)
 ·obtain⟨a,b,c,d⟩:=wR t
  exact nK _ _ a b c d
theorem oJ{l:List AI}{q:Nat}(h:uo l q):(dw l).Wt q:=by
 obtain⟨r,hr,h2⟩:=h.upTo l.length nrq;exact h2.mono (by omega)
theorem NS(ae:List Tk)(I:Nat)(ends:List ByteArray)(hE:jH ⟨#[]⟩ ends=false)(h:jH (aC ae I) ends=true):I<ae.length:=by
 rcases Nat.lt_or_ge I ae.length with h1|h1
 ·exact h1
 ·have:aC ae I=⟨#[]⟩:=by simp[aC,List.getD,List.getElem?_eq_none h1]
  rw[this,hE]at h;cases h
theorem Ha:jH ⟨#[]⟩ [iQ,dO]=false:=by decide +kernel
theorem NT:jH ⟨#[]⟩ [dO]=false:=by decide +kernel
theorem NU:jH ⟨#[]⟩ [jg]=false:=by decide +kernel
theorem Zi:jH ⟨#[]⟩ [ik]=false:=by decide +kernel
theorem jC(ws:List RW)(ae:List Tk)(fin:Int)(hw:∀x∈ws,x.inf.Wt 1∧∃a n c,x.items=.slice a n c):∀(f:Nat) (ends:List ByteArray) (loops:Int) (acc:List AI) (I:Nat) (l:List AI) (t:ByteArray) (I':Nat),
  aJ ws ae fin f ends loops acc I=.inl (l,t,I')→jH ⟨#[]⟩ ends=false→∀{q:Nat},uo acc q→I<I'∧I'≤ae.length∧l.length≤acc.length+(I' - I)∧uo l (q+(I' - I)):=by
 intro f
 induction f with
 |zero=>intro ends loops acc I l t I' h;simp[aJ]at h
 |succ f ih=>
  intro ends loops acc I l t I' h hE q hq
  have step:∀(x:AI) (J:Nat),I<J→x.inf.Wt ((J - I:Nat):Int)→aJ ws ae fin f ends loops (acc++[x]) J=.inl (l,t,I')→I<I'∧I'≤ae.length∧l.length≤acc.length+(I' - I)∧uo l (q+(I' - I)):=by
   intro x J hJ hx h;obtain⟨a,b,c,d⟩:=ih ends loops (acc++[x]) J l t I' h hE (hq.snoc hx);simp at c;exact⟨by omega,b,by omega,d.mono (by omega)⟩
  unfold aJ at h
  split at h
  ·rename_i hin
   have:=NS ae I ends hE hin;simp at h;obtain⟨rfl,rfl,rfl⟩:=h;exact⟨by omega,by omega,by omega,hq.mono (by omega)⟩
  split at h
  ·simp at h
  split at h
  ·exact step _ _ (by omega) (by have:=nK 0 1 (by omega) (by omega) (by omega) (by omega);exact this.mono (by omega)) h
  split at h
  ·split at h
   ·simp at h
   ·rename_i la ta I1 hA
    obtain⟨a1,a2,_,a3⟩:=ih _ _ _ _ _ _ _ hA Ha (uo.nil 0);have wa:=oJ a3
    split at h
    ·split at h
     ·simp at h
     ·rename_i lb tb I2 hB
      obtain⟨b1,b2,_,b3⟩:=ih _ _ _ _ _ _ _ hB NT (uo.nil 0);have wb:=oJ b3
      split at h
      ·refine step _ _ (by omega) ?_ h
       have:=(nK 1 0 (by omega) (by omega) (by omega) (by omega)).then (wa.more.ways wb (by omega) (by omega)) (by omega) (by omega);exact this.mono (by omega)
      ·simp at h
    ·split at h
     ·refine step _ _ (by omega) ?_ h
      have:=(nK 1 0 (by omega) (by omega) (by omega) (by omega)).then (wa.ways Inf.Wt.zero (by omega) (by omega)) (by omega) (by omega);exact this.mono (by omega)
     ·simp at h
  split at h
  ·split at h
   ·simp at h
   ·rename_i a b hab
    split at h
    ·simp at h
    ·split at h
     ·simp at h
     ·rename_i la ta I1 hA
      obtain⟨a1,a2,_,a3⟩:=ih _ _ _ _ _ _ _ hA NU (uo.nil 0);have wa:=oJ a3
      split at h
      ·refine step _ _ (by omega) ?_ h
       have:=(nK 2 0 (by omega) (by omega) (by omega) (by omega)).then (wa.times (n:=max 0 (a - b)) (by omega) (by omega)) (by omega) (by omega);exact this.mono (by omega)
      ·simp at h
  split at h
  ·exact step _ _ (by omega) ((Tn ws _ hw).mono (by omega)) h
  ·simp at h
end
section
theorem aW.nil(sb:Nat)(sv:Value)(ws:List RW)(sc sk:Int)(w:World)(base:Nat):aW sb sv ws sc sk w base (.slice none 0 0) [] [] (fun _=>False):=
 ⟨rfl,World.ownsRow_nil _ _ _ _,fun x h=>by simp at h,fun i x a h=>by simp at h,fun k h=>h.elim,fun i x a h=>by simp at h⟩
theorem aW.move{sb:Nat}{sv:Value}{ws:List RW}{sc sk:Int}{w w':World}{base:Nat}{v:Value}{l:List AI}{xs:List (Array Value)}{F:Nat→Prop}
  (h:aW sb sv ws sc sk w base v l xs F) {S:Nat→Prop} (hc:aj S w w') (hs:∀k,base≤k→¬S k):aW sb sv ws sc sk w' base v l xs F:=
 ⟨h.len,af h.row hc (fun k hk=>hs k (by
   rcases h.row.2 with ⟨rfl,_⟩|⟨g,cap,cur,rfl,hg,_⟩
   ·cases hk
   ·simp[Value.ownBlock]at hk;omega)),h.shape,h.kind,fun k hk=>⟨(h.fp k hk).1,Nat.lt_of_lt_of_le (h.fp k hk).2.1 hc.size,(h.fp k hk).2.2⟩,
  fun i x a h1 h2=>(h.ok i x a h1 h2).mono (fun _=>id) (fun k hk=>hc.block k (h.fp k hk).2.1 (hs k (h.fp k hk).1))⟩
theorem aW.snoc{sb:Nat}{sv:Value}{ws:List RW}{sc sk:Int}{w w2:World}{base:Nat}{v v':Value}{l:List AI}{xs:List (Array Value)}{F G:Nat→Prop}{x:Array Value}{a:AI}
  (h:aW sb sv ws sc sk w base v l xs F) (hx:five x) (hk:kindOk x a) (hG:∀k,G k→base≤k∧k<w.heap.size∧v.ownBlock≠some k) (gG:oI sb sv ws sc sk G w x a.inf a.tree)
  (hr:w2.ownsRow base 249 5 v' (l.length+1) (xs.flatMap Array.toList++x.toList)) (hg:w.grownBy w2 v.ownBlock) (hat:v'.ownBlock=v.ownBlock∨v'.ownBlock=some w.heap.size):
  aW sb sv ws sc sk w2 base v' (l++[a]) (xs++[x]) (fun k=>F k∨G k):=by
 have hne:∀k,k<w.heap.size→v.ownBlock≠some k→v'.ownBlock≠some k:=by
  intro k h1 h2 e;rcases hat with h3|h3
  ·rw[h3]at e;exact h2 e
  ·rw[h3]at e;simp at e;omega
 have same:∀k,k<w.heap.size→v.ownBlock≠some k→w2.heap[k]?=w.heap[k]?:=fun k h1 h2=>hg.block k h1 (Ne.symm h2)
 refine⟨by simp[h.len],by simpa using hr,?_,?_,?_,?_⟩
 ·intro y hy
  rcases List.mem_append.1 hy with hy|hy
  ·exact h.shape y hy
  ·simp at hy;subst hy;exact hx
 ·intro i y b h1 h2
  by_cases hi:i<l.length
  ·rw[List.getElem?_append_left (by rw[h.len];exact hi)]at h1
   rw[List.getElem?_append_left hi]at h2;exact h.kind i y b h1 h2
  ·rw[List.getElem?_append_right (by rw[h.len];omega),h.len]at h1
   rw[List.getElem?_append_right (by omega)]at h2
   by_cases e:i - l.length=0
   ·rw[e]at h1 h2;simp at h1 h2;subst h1;subst h2;exact hk
   ·rw[List.getElem?_eq_none (by simp;omega)]at h1;cases h1
 ·rintro k (hF|hF)
  ·have:=h.fp k hF;exact⟨this.1,Nat.lt_of_lt_of_le this.2.1 hg.size,hne k this.2.1 this.2.2⟩
  ·have:=hG k hF;exact⟨this.1,Nat.lt_of_lt_of_le this.2.1 hg.size,hne k this.2.1 this.2.2⟩
 ·intro i y b h1 h2
  by_cases hi:i<l.length
  ·rw[List.getElem?_append_left (by rw[h.len];exact hi)]at h1
   rw[List.getElem?_append_left hi]at h2;exact(h.ok i y b h1 h2).mono (fun _=>Or.inl) (fun k hk=>same k (h.fp k hk).2.1 (h.fp k hk).2.2)
  ·rw[List.getElem?_append_right (by rw[h.len];omega),h.len]at h1
   rw[List.getElem?_append_right (by omega)]at h2
   by_cases e:i - l.length=0
   ·rw[e]at h1 h2;simp at h1 h2;subst h1;subst h2
    exact gG.mono (fun _=>Or.inr) (fun k hk=>same k (hG k hk).2.1 (hG k hk).2.2)
   ·rw[List.getElem?_eq_none (by simp;omega)]at h1;cases h1
end
end Go.Proofs.YtcphhbofjkenaaaGreatDoor
