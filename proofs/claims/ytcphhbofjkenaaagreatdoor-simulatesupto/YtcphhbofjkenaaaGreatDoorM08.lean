import Derived.Test.YtcphhbofjkenaaaGreatDoorMy
import Derived.Deep.DeepCutAuto
import Derived.Deep.MidRow
import Derived.Test.YtcphhbofjkenaaaGreatDoorM01
import Derived.Test.YtcphhbofjkenaaaGreatDoorM07
namespace Go.Proofs.YtcphhbofjkenaaaGreatDoor
open Go Go.RowKit Proofs.Tryz
set_option linter.unusedVariables false
set_option linter.unusedSimpArgs false
set_option maxRecDepth 100000
set_option maxHeartbeats 16000000
variable{w w':World}{b:Nat}{t:TypeId}
section
open Go.RowKit
structure Inf.Ok (i:Inf):Prop where
 n0: -100000000000000000≤i.need
 n1:i.need≤100000000000000000
 t0: -100000000000000000≤i.aM
 t1:i.aM≤100000000000000000
 h0: -100000000000000000≤i.high
 h1:i.high≤100000000000000000
 s0:0≤i.steps
 s1:i.steps≤1000000001
theorem xw(n:Int)(w:World):
  Calls prog 195 #[ae n] w fun e w'=>e=.returned (ae (min n 1000000001))∧w'=w:=by
 by_cases h:1000000001<n
 ·go_enter func195,ntmps195
  go_wp2
  go_ret
  exact⟨BV ag,rfl⟩
 ·go_enter func195,ntmps195
  go_wp2
  go_ret
  exact⟨BV ag,rfl⟩
theorem N5(n1 t1 h1 s1 n2 t2 h2 s2:Int)(b1 b2:Bool)(w:World)
  (x1: -1000000000000000000≤t1) (x2:t1≤1000000000000000000) (x3: -1000000000000000000≤n2) (x4:n2≤1000000000000000000)
  (x5: -1000000000000000000≤t2) (x6:t2≤1000000000000000000) (x7: -1000000000000000000≤h2) (x8:h2≤1000000000000000000)
  (x9:0≤s1) (y1:s1≤1000000000000000000) (y2:0≤s2) (y3:s2≤1000000000000000000):
  Calls prog 172 #[.agg #[ae n1,ae t1,ae h1,ae s1,.bool b1],.agg #[ae n2,ae t2,ae h2,ae s2,.bool b2]] w
   fun e w'=>e=.returned (.agg #[ae (max n1 (n2 - t1)),ae (t1+t2),ae (max h1 (t1+h2)),ae (min (s1+s2) 1000000001),.bool (b1&&b2)])∧Below w.heap.size w w':=by
 cases b1
 all_goals
  go_enter func172,ntmps172
  go_wp2
  have hc:=fun (B:Nat) (w0:World) (u:bN B w0) (b o:Nat) (h:b<B)=>u.cell b o h
  have hne:=bN.ne;refine vU (w.heap.size+1+1+1) 34 aP aP ?_;simp only[List.take_succ_cons,List.take_zero,List.drop_succ_cons,List.drop_zero]
  repeat (go_big_quiet_step ((go_at_call 195;exact bN.Mw _ (xw _ _))))
  refine wpQuiet_nil ?_;intro u;obtain⟨w1,hb⟩:=u;have hz:=fun o=>hb.cell (p:=ai (w.heap.size+1+1) o) aF
  have hf:=fun o=>hb.frozen (p:=ai (w.heap.size+1+1) o) aF
  have c0:=hz 0;have c1:=hz 1;have c2:=hz 2;have c3:=hz 3;have c4:=hz 4;have f0:=hf 0;have f1:=hf 1;have f2:=hf 2;have f3:=hf 3;have f4:=hf 4;clear hz hf hc hne;simp[go_sem]at c0 c1 c2 c3 c4 f0 f1 f2 f3 f4;go_wp2;refine bodyPost_ret (v:=.agg #[ae (max n1 (n2 - t1)),ae (t1+t2),ae (max h1 (t1+h2)),ae (min (s1+s2) 1000000001),_]) (by simp[results,results172,go_sem,c0,c1,c2,c3,c4];rfl) rfl ⟨aF,?_⟩;exact((((((Iu hb).setCell aK _).setCell aK _).setCell aK _).setCell aK _).setCell aK _)
theorem GN(a b:Inf)(w:World)(ha:a.Ok)(hb:b.Ok):
  Calls prog 172 #[a.val,b.val] w fun e w'=>e=.returned (a.then b).val∧Below w.heap.size w w':=
 N5 a.need a.aM a.high a.steps b.need b.aM b.high b.steps a.str b.str w (by have:=ha.t0;omega) (by have:=ha.t1;omega) (by have:=hb.n0;omega) (by have:=hb.n1;omega)
  (by have:=hb.t0;omega) (by have:=hb.t1;omega) (by have:=hb.h0;omega) (by have:=hb.h1;omega) (by have:=ha.s0;omega) (by have:=ha.s1;omega) (by have:=hb.s0;omega) (by have:=hb.s1;omega)
def upTo(f:Nat→Inf):Nat→Inf
 |0=>Inf.zero
 |k+1=>(upTo f k).then (f k)
def Inf.arr(i:Inf):Array Value:= #[ae i.need,ae i.aM,ae i.high,ae i.steps,.bool i.str]
theorem vR{a0 a1 a2 a3 a4:Value}(h:ay w b #[a0,a1,a2,a3,a4] t)(b0 b1 b2 b3 b4:Value):
  ay (((((w.setCell (ai b 0) b0).setCell (ai b 1) b1).setCell (ai b 2) b2).setCell (ai b 3) b3).setCell (ai b 4) b4) b #[b0,b1,b2,b3,b4] t:=by
 have:=((((h.set (o:=0) b0).set (o:=1) b1).set (o:=2) b2).set (o:=3) b3).set (o:=4) b4;simpa using this
theorem ay.inf{i:Inf}(h:ay w b i.arr t):w.cell? (ai b 0)=some (ae i.need)∧w.cell? (ai b 1)=some (ae i.aM)∧w.cell? (ai b 2)=some (ae i.high)∧w.cell? (ai b 3)=some (ae i.steps)∧w.cell? (ai b 4)=some (.bool i.str):=
 ⟨h.cell 0 _ rfl,h.cell 1 _ rfl,h.cell 2 _ rfl,h.cell 3 _ rfl,h.cell 4 _ rfl⟩
theorem bJ(w:World)(cs:Array Value)(t:TypeId):ay (w.alloc (.cells cs t (0,0))) w.heap.size cs t:=by
 show(w.heap.push _)[w.heap.size]?=_
 simp
theorem Sv(w:World)(o:Obj)(t:TypeId):ay ((w.alloc o).alloc (.cells Inf.zero.arr t (0,0))) (w.heap.size+1) Inf.zero.arr t:=by
 have:=bJ (w.alloc o) Inf.zero.arr t;simpa using this
def bR:Array Value:= #[ae 0,ae 0,ae 0,ae 0,.bool false]
theorem ay.zero(h:ay w b bR t):w.cell? (ai b 0)=some (ae 0)∧w.cell? (ai b 1)=some (ae 0)∧w.cell? (ai b 2)=some (ae 0)∧w.cell? (ai b 3)=some (ae 0)∧w.cell? (ai b 4)=some (.bool false):=
 ⟨h.cell 0 _ rfl,h.cell 1 _ rfl,h.cell 2 _ rfl,h.cell 3 _ rfl,h.cell 4 _ rfl⟩
theorem ay.free{cs:Array Value}(h:ay w b cs t):w.frozen? (ai b 0)=false∧w.frozen? (ai b 1)=false∧w.frozen? (ai b 2)=false∧w.frozen? (ai b 3)=false∧w.frozen? (ai b 4)=false:=
 ⟨h.frozen 0,h.frozen 1,h.frozen 2,h.frozen 3,h.frozen 4⟩
theorem Hj(sb:Nat)(m cap:Nat)(ad:Option Addr)(f:Nat→Inf)(x:Nat→Array Value)(w:World)(hm:m≤1100000)(hmc:m≤cap)
  (hf:∀j,j<m→(f j).Ok) (hu:∀j,j≤m→(upTo f j).Ok)
  (hc:∀j,j<m→∃g a0 a1 a2 a3 a4,ad=some (ai g 0)∧g<w.heap.size∧x j= #[a0,a1,a2,a3,a4]∧w.cell? (ai g (j*5))=some a0∧w.cell? (ai g (j*5+1))=some a1∧w.cell? (ai g (j*5+2))=some a2∧w.cell? (ai g (j*5+3))=some a3∧w.cell? (ai g (j*5+4))=some a4)
  (ho:∀j,j<m→∀w',Below w.heap.size w w'→Calls prog 171 #[ax sb,.agg (x j)] w' fun e w''=>e=.returned (f j).val∧Below w'.heap.size w' w''):
  Calls prog 130 #[ax sb,.slice ad m cap] w fun e w'=>e=.returned (upTo f m).val∧Below w.heap.size w w':=by
 obtain⟨R,hR⟩:=ak (upTo f m);rw[←hR];have HR:=af hR;have HF:=af hf;have HU:=af hu;have HC:=af hc;have HO:=af ho;clear hR hf hu hc ho;go_enter func130,ntmps130;go_wp2;go_loopw[6] (fun i wr=>∃j:Nat,j≤m∧i=ae j∧ay wr (w.heap.size+1) (upTo f j).arr 36∧ay wr w.heap.size bR 36∧Below w.heap.size w wr) (fun i _=>m - (intOf i).toNat)
 case atStart=>
  refine⟨0,bU _,rfl,?_,?_,(aQ.alloc aH _).alloc aF _⟩
  ·exact Sv _ _ _
  ·exact(bJ w _ _).alloc _
 case round=>
  obtain⟨j,hj,rfl,hB1,hB0,bL⟩:=hrel
  by_cases hlt:j<m
  ·obtain⟨g,a0,a1,a2,a3,a4,rfl,hg,hx,e0,e1,e2,e3,e4⟩:=HC j hlt
   have q0:=(bL.cell (p:=ai g (j*5)) hg).trans e0;have q1:=(bL.cell (p:=ai g (j*5+1)) hg).trans e1;have q2:=(bL.cell (p:=ai g (j*5+2)) hg).trans e2;have q3:=(bL.cell (p:=ai g (j*5+3)) hg).trans e3;have q4:=(bL.cell (p:=ai g (j*5+4)) hg).trans e4;have hof:=HO.out j hlt wr bL;rw[hx]at hof;have HOF:=af hof;have hz1:=hB1.lt;have HB:=af bL;have nj:=af hB0;have HB1:=af hB1;have HX:=af hx;clear hof e0 e1 e2 e3 e4 hB0 hB1 bL hx;go_wp2_with fail;refine HOF.mono ?_;rintro e w1 ⟨rfl,hb1⟩;clear q0 q1 q2 q3 q4;have Ba:ay w1 (w.heap.size+1) (upTo f j).arr 36:=(hb1.block _ hz1).trans HB1;obtain⟨c0,c1,c2,c3,c4⟩:=Ba.inf;obtain⟨g0,g1,g2,g3,g4⟩:=Ba.free;have hz2:w.heap.size+1<w1.heap.size:=Ba.lt;have ZN:=af Ba;have Hb1:=af hb1;clear Ba hb1;unfold Inf.val;go_wp2_with fail;have ha:=HU.out j ag;have hb:=HF.out j hlt
   refine(N5 (upTo f j).need (upTo f j).aM (upTo f j).high (upTo f j).steps (f j).need (f j).aM (f j).high (f j).steps (upTo f j).str (f j).str _ (by have:=ha.t0;omega) (by have:=ha.t1;omega) (by have:=hb.n0;omega) (by have:=hb.n1;omega)
    (by have:=hb.t0;omega) (by have:=hb.t1;omega) (by have:=hb.h0;omega) (by have:=hb.h1;omega) (by have:=ha.s0;omega) (by have:=ha.s1;omega) (by have:=hb.s0;omega) (by have:=hb.s1;omega)).mono ?_
   rintro e w2 ⟨rfl,hb2⟩;clear ha hb c0 c1 c2 c3 c4 g0 g1 g2 g3 g4;have hB2:ay w2 (w.heap.size+1) (upTo f j).arr 36:=(hb2.block _ aK).trans (ZN.alloc _);have KL:ay w2 w.heap.size bR 36:=(hb2.block _ aK).trans (ay.alloc ((Hb1.block _ ag).trans nj) _);have qg:Below w.heap.size w w2:=(HB.trans (Hb1.mono (by have:=HB.size;omega))).trans ((((Below.refl w1.heap.size w1).alloc aH _).trans (hb2.mono aF)).mono ag);obtain⟨c0,c1,c2,c3,c4⟩:=hB2.inf;obtain⟨g0,g1,g2,g3,g4⟩:=hB2.free;have HZ:=af hB2;have HZ0:=af KL;have HZB:=af qg;clear hB2 KL qg hb2;go_wp2_with fail;go_roundw
   case rel=>
    refine⟨j+1,ag,bO,?_,?_,?_⟩
    ·exact vR HZ _ _ _ _ _
    ·exact((((HZ0.setOther aF _).setOther aF _).setOther aF _).setOther aF _).setOther aF _
    ·exact(((((HZB.setCell aF _).setCell aF _).setCell aF _).setCell aF _).setCell aF _)
   case measure=>simp[intOf];omega
  ·obtain rfl:j=m:=by omega
   obtain⟨c0,c1,c2,c3,c4⟩:=hB1.inf;obtain⟨d0,d1,d2,d3,d4⟩:=hB0.zero;obtain⟨g0,g1,g2,g3,g4⟩:=hB0.free;have HB:=af bL;clear hB0 hB1 bL;go_wp2_with fail;refine bodyPost_ret (v:=R.val) (by rw[HR.out];simp[results,results130,go_sem,Inf.val,d0,d1,d2,d3,d4]) rfl ⟨rfl,?_⟩;exact(((((HB.setCell aH _).setCell aH _).setCell aH _).setCell aH _).setCell aH _)
end
section
open Go.RowKit
def Inf.tm(i:Inf):Value:=.agg #[ae i.need,ae i.aM,ae i.high,ae i.steps,.bool (!i.str)]
theorem Kw(w:World)(a b c:Obj):w.heap.size+1+1+1=(((w.alloc a).alloc b).alloc c).heap.size:=aF
theorem aaK(t p:Int)(w:World)(h0:0≤t)(h1:t≤100)(h2:0≤p)(h3:p≤100):
  Calls prog 202 #[ae t,ae p] w fun e w'=>e=.returned (.agg #[ae t,ae (p - t),ae (max 0 (p - t))])∧Below w.heap.size w w':=by
 go_enter func202,ntmps202
 go_wp2
 refine bodyPost_ret (v:=.agg #[ae t,ae (p - t),ae (max 0 (p - t))]) (by simp[results,results202,go_sem]) rfl ⟨rfl,?_⟩;exact aQ.alloc aH _
theorem Zu(t p:Int)(w:World)(h0:0≤t)(h1:t≤100)(h2:0≤p)(h3:p≤100):
  Calls prog 177 #[ae t,ae p] w fun e w'=>e=.returned (Inf.plain t p).tm∧Below w.heap.size w w':=by
 go_enter func177,ntmps177
 go_wp2_with fail
 refine(aaK t p _ h0 h1 h2 h3).mono ?_;rintro e w1 ⟨rfl,hb⟩;have hb1:Below (w.heap.size+1) (w.alloc (.cells #[ae 0,ae 0,ae 0,ae 0,.bool false] 151 (0,0))) w1:=xy;have hz:=fun o=>hb1.cell (p:=ai w.heap.size o) aF
 have hf:=fun o=>hb1.frozen (p:=ai w.heap.size o) aF
 have c0:=hz 0;have c1:=hz 1;have c2:=hz 2;have c3:=hz 3;have c4:=hz 4;have f0:=hf 0;have f1:=hf 1;have f2:=hf 2;have f3:=hf 3;have f4:=hf 4;clear hz hf hb;simp[go_sem]at c0 c1 c2 c3 c4 f0 f1 f2 f3 f4;go_wp2;refine bodyPost_ret (v:=(Inf.plain t p).tm) (by simp[results,results177,go_sem,c0,c1,c2,c3,c4];rfl) rfl ⟨rfl,?_⟩;exact(((((zE hb1).setCell aF _).setCell aF _).setCell aF _).setCell aF _).setCell aF _
theorem Ka(n t h:Int)(w:World):
  Calls prog 188 #[.agg #[ae n,ae t,ae h]] w fun e w'=>e=.returned (.bool (t == 0))∧Below w.heap.size w w':=by
 go_enter func188,ntmps188
 go_wp2
 go_ret
 exact⟨rfl,aQ.alloc aH _⟩
theorem PQ(n t h n2 t2 h2:Int)(w:World):
  Calls prog 186 #[.agg #[ae n,ae t,ae h],.agg #[ae n2,ae t2,ae h2]] w fun e w'=>e=.returned (.bool (t == t2))∧Below w.heap.size w w':=by
 go_enter func186,ntmps186
 go_wp2
 go_ret
 exact⟨rfl,(aQ.alloc aH _).alloc aF _⟩
theorem Vg(n:Int)(w:World):
  Calls prog 205 #[ae n] w fun e w'=>e=.returned (ae (min n 1000000001))∧w'=w:=by
 go_enter func205,ntmps205
 go_wp2
 go_ret
 exact⟨rfl,rfl⟩
theorem V6(n t h s:Int)(b:Bool)(w:World):
  Calls prog 183 #[.agg #[ae n,ae t,ae h,ae s,.bool b]] w fun e w'=>e=.returned (.bool (decide (1000000000<s)))∧Below w.heap.size w w':=by
 go_enter func183,ntmps183
 go_wp2
 go_ret
 exact⟨rfl,aQ.alloc aH _⟩
theorem abW(n1 t1 h1 n2 t2 h2:Int)(w:World)
  (x1: -1000000000000000000≤t1) (x2:t1≤1000000000000000000) (x3: -1000000000000000000≤n2) (x4:n2≤1000000000000000000)
  (x5: -1000000000000000000≤t2) (x6:t2≤1000000000000000000) (x7: -1000000000000000000≤h2) (x8:h2≤1000000000000000000):
  Calls prog 212 #[.agg #[ae n1,ae t1,ae h1],.agg #[ae n2,ae t2,ae h2]] w
   fun e w'=>e=.returned (.agg #[ae (max n1 (n2 - t1)),ae (t1+t2),ae (max h1 (t1+h2))])∧Below w.heap.size w w':=by
 go_enter func212,ntmps212
 go_wp2
 refine bodyPost_ret (v:=.agg #[ae (max n1 (n2 - t1)),ae (t1+t2),ae (max h1 (t1+h2))]) (by simp[results,results212,go_sem]) rfl ⟨rfl,?_⟩;exact((aQ.alloc aH _).alloc aF _).alloc aK _
theorem adb(n1 t1 h1 n2 t2 h2:Int)(w:World):
  Calls prog 204 #[.agg #[ae n1,ae t1,ae h1],.agg #[ae n2,ae t2,ae h2]] w
   fun e w'=>e=.returned (.agg #[ae (max n1 n2),ae t1,ae (max h1 h2)])∧Below w.heap.size w w':=by
 go_enter func204,ntmps204
 go_wp2
 refine bodyPost_ret (v:=.agg #[ae (max n1 n2),ae t1,ae (max h1 h2)]) (by simp[results,results204,go_sem]) rfl ⟨rfl,?_⟩;exact((aQ.alloc aH _).alloc aF _).alloc aK _
theorem U8(n1 t1 h1 s1 n2 t2 h2 s2:Int)(b1 b2:Bool)(w:World)
  (x1: -1000000000000000000≤t1) (x2:t1≤1000000000000000000) (x3: -1000000000000000000≤n2) (x4:n2≤1000000000000000000)
  (x5: -1000000000000000000≤t2) (x6:t2≤1000000000000000000) (x7: -1000000000000000000≤h2) (x8:h2≤1000000000000000000)
  (x9:0≤s1) (y1:s1≤1000000000000000000) (y2:0≤s2) (y3:s2≤1000000000000000000):
  Calls prog 203 #[.agg #[ae n1,ae t1,ae h1,ae s1,.bool b1],.agg #[ae n2,ae t2,ae h2,ae s2,.bool b2]] w
   fun e w'=>e=.returned (.agg #[ae (max n1 (n2 - t1)),ae (t1+t2),ae (max h1 (t1+h2)),ae (min (s1+s2) 1000000001),.bool (b1||b2)])∧Below w.heap.size w w':=by
 cases b1
 all_goals
  go_enter func203,ntmps203
  go_wp2_with fail
  have hc:=fun (B:Nat) (w0:World) (u:bN B w0) (b o:Nat) (h:b<B)=>u.cell b o h
  have hne:=bN.ne;refine vU (w.heap.size+1+1+1) 18 aP aP ?_;simp only[List.take_succ_cons,List.take_zero,List.drop_succ_cons,List.drop_zero]
  repeat (go_big_quiet_step ((first|(go_at_call 205;exact bN.Mw _ (Vg _ _))|(go_at_call 212;exact bN.calls (Nat.le_of_eq (Kw _ _ _ _)) _ (abW n1 t1 h1 n2 t2 h2 _ x1 x2 x3 x4 x5 x6 x7 x8)))))
  refine wpQuiet_nil ?_;intro u;obtain⟨w1,hb⟩:=u;have hz:=fun o=>hb.cell (p:=ai (w.heap.size+1+1) o) aF
  have hf:=fun o=>hb.frozen (p:=ai (w.heap.size+1+1) o) aF
  have c0:=hz 0;have c1:=hz 1;have c2:=hz 2;have c3:=hz 3;have c4:=hz 4;have f0:=hf 0;have f1:=hf 1;have f2:=hf 2;have f3:=hf 3;have f4:=hf 4;clear hz hf hc hne;simp[go_sem]at c0 c1 c2 c3 c4 f0 f1 f2 f3 f4;go_wp2;refine bodyPost_ret (v:=.agg #[ae (max n1 (n2 - t1)),ae (t1+t2),ae (max h1 (t1+h2)),ae (min (s1+s2) 1000000001),_]) (by simp[results,results203,go_sem,c0,c1,c2,c3,c4];rfl) rfl ⟨aF,?_⟩;exact((((((Iu hb).setCell aK _).setCell aK _).setCell aK _).setCell aK _).setCell aK _)
theorem Oz(a b:Inf)(ha:a.Ok)(hb:b.Ok)(w:World):
  Calls prog 203 #[a.tm,b.tm] w fun e w'=>e=.returned (a.then b).tm∧Below w.heap.size w w':=by
 obtain⟨a1,a2,a3,a4,a5,a6,a7,a8⟩:=ha;obtain⟨b1,b2,b3,b4,b5,b6,b7,b8⟩:=hb;refine(U8 a.need a.aM a.high a.steps b.need b.aM b.high b.steps (!a.str) (!b.str) w ag ag ag ag ag ag ag ag ag ag ag ag).mono ?_;rintro e w1 ⟨rfl,h⟩;exact⟨by simp[Inf.then,Inf.tm],h⟩
theorem Xr(n1 t1 h1 s1 n2 t2 h2 s2:Int)(b1 b2:Bool)(w:World):
  Calls prog 187 #[.agg #[ae n1,ae t1,ae h1,ae s1,.bool b1],.agg #[ae n2,ae t2,ae h2,ae s2,.bool b2]] w
   fun e w'=>e=.returned (.agg #[ae (max n1 n2),ae t1,ae (max h1 h2),ae (max s1 s2),.bool (b1||b2)])∧Below w.heap.size w w':=by
 cases b1
 all_goals
  go_enter func187,ntmps187
  go_wp2_with fail
  have hc:=fun (B:Nat) (w0:World) (u:bN B w0) (b o:Nat) (h:b<B)=>u.cell b o h
  have hne:=bN.ne;refine vU (w.heap.size+1+1+1) 17 aP aP ?_;simp only[List.take_succ_cons,List.take_zero,List.drop_succ_cons,List.drop_zero]
  repeat (go_big_quiet_step ((go_at_call 204;exact bN.calls (Nat.le_of_eq (Kw _ _ _ _)) _ (adb n1 t1 h1 n2 t2 h2 _))))
  refine wpQuiet_nil ?_;intro u;obtain⟨w1,hb⟩:=u;have hz:=fun o=>hb.cell (p:=ai (w.heap.size+1+1) o) aF
  have hf:=fun o=>hb.frozen (p:=ai (w.heap.size+1+1) o) aF
  have c0:=hz 0;have c1:=hz 1;have c2:=hz 2;have c3:=hz 3;have c4:=hz 4;have f0:=hf 0;have f1:=hf 1;have f2:=hf 2;have f3:=hf 3;have f4:=hf 4;clear hz hf hc hne;simp[go_sem]at c0 c1 c2 c3 c4 f0 f1 f2 f3 f4;go_wp2;refine bodyPost_ret (v:=.agg #[ae (max n1 n2),ae t1,ae (max h1 h2),ae (max s1 s2),_]) (by simp[results,results187,go_sem,c0,c1,c2,c3,c4];rfl) rfl ⟨aF,?_⟩;exact((((((Iu hb).setCell aK _).setCell aK _).setCell aK _).setCell aK _).setCell aK _)
theorem X9(n1 t1 h1 s1 k:Int)(b1:Bool)(w:World)(hk:k≠0)(k0:0≤k)(k1:k≤1000)(s0:0≤s1)(s2:s1≤1000000001):
  Calls prog 189 #[.agg #[ae n1,ae t1,ae h1,ae s1,.bool b1],ae k] w
   fun e w'=>e=.returned (.agg #[ae n1,ae t1,ae h1,ae (min (s1*k) 1000000001),.bool b1])∧Below w.heap.size w w':=by
 have hp:0≤s1*k:=Int.mul_nonneg s0 k0;have hq:s1*k≤1000000001*1000:=Int.mul_le_mul s2 k1 k0 ag;go_enter func189,ntmps189;go_wp2;refine bodyPost_ret (v:=.agg #[ae n1,ae t1,ae h1,ae (min (s1*k) 1000000001),.bool b1]) (by simp[results,results189,go_sem]) rfl ⟨rfl,?_⟩;exact(aQ.alloc aH _).alloc aF _
theorem V8(n1 t1 h1 s1:Int)(b1:Bool)(w:World):
  Calls prog 189 #[.agg #[ae n1,ae t1,ae h1,ae s1,.bool b1],ae 0] w
   fun e w'=>e=.returned (.agg #[ae 0,ae 0,ae 0,ae 0,.bool b1])∧Below w.heap.size w w':=by
 go_enter func189,ntmps189
 go_wp2
 refine bodyPost_ret (v:=.agg #[ae 0,ae 0,ae 0,ae 0,.bool b1]) (by simp[results,results189,go_sem]) rfl ⟨rfl,?_⟩;exact(aQ.alloc aH _).alloc aF _
end
section
open Go.RowKit
def cP:List (ByteArray×Int×Int):=
 [(⟨#[43]⟩,2,1),(⟨#[45]⟩,2,1),(⟨#[42]⟩,2,1),(⟨#[97,110,100]⟩,2,1),(⟨#[111,114]⟩,2,1),(⟨#[120,111,114]⟩,2,1),(⟨#[47]⟩,2,1),(⟨#[109,111,100]⟩,2,1),(⟨#[61]⟩,2,1),(⟨#[60]⟩,2,1),(⟨#[62]⟩,2,1),(⟨#[109,105,110]⟩,2,1),(⟨#[109,97,120]⟩,2,1),(⟨#[110,101,103,97,116,101]⟩,1,1),(⟨#[97,98,115]⟩,1,1),(⟨#[48,61]⟩,1,1),(⟨#[100,117,112]⟩,1,2),(⟨#[100,114,111,112]⟩,1,0),(⟨#[115,119,97,112]⟩,2,2),(⟨#[111,118,101,114]⟩,2,3),(⟨#[114,111,116]⟩,3,3),(⟨#[110,105,112]⟩,2,1),(⟨#[116,117,99,107]⟩,2,3),(⟨#[64]⟩,1,1),(⟨#[33]⟩,2,0),(⟨#[105,110]⟩,0,1),(⟨#[111,117,116]⟩,1,0),(⟨#[105]⟩,0,1),(⟨#[]⟩,0,1),(⟨#[]⟩,1,0),(⟨#[]⟩,0,0),(⟨#[]⟩,2,0),(⟨#[]⟩,0,0),(⟨#[]⟩,0,0),(⟨#[]⟩,0,0)]
def nH:List Value:=cP.flatMap fun x=>[.string x.1,ae x.2.1,ae x.2.2]
def A6(w:World)(g:Nat):Prop:=∃ev,w.cell? (ai g 0)=some ev∧(ev=.nilIface∨∃te pe,ev=.iface te pe)
def cQ(w:World):Prop:=(∃t f,w.heap[(0:Nat)]?=some (.cells nH.toArray t f))∧A6 w 1∧A6 w 2
theorem A6.lt{g:Nat}(h:A6 w g):g<w.heap.size:=by
 obtain⟨ev,h1,_⟩:=h;exact dD w (ai g 0) h1
theorem cQ.lt(h:cQ w):3≤w.heap.size:=by
 obtain⟨⟨t,f,h1⟩,h2,h3⟩:=h;have a:=(mD.1 h1).1;have b:=h2.lt;have c:=h3.lt;omega
theorem cQ.aB{S:Nat→Prop}(h:cQ w)(hc:aq S w w')(hn:∀k,S k→3≤k):cQ w':=by
 obtain⟨⟨t,f,h1⟩,h2,h3⟩:=h;have key:∀k,k<3→¬S k:=fun k hk hs=>by have:=hn k hs;omega
 refine⟨⟨t,f,(hc.block _ (mD.1 h1).1 (key _ ag)).trans h1⟩,?_,?_⟩
 ·have hl:=h2.lt
  obtain⟨ev,a,b⟩:=h2;exact⟨ev,(hc.cell (p:=ai 1 0) hl (key 1 ag)).trans a,b⟩
 ·have hl:=h3.lt
  obtain⟨ev,a,b⟩:=h3;exact⟨ev,(hc.cell (p:=ai 2 0) hl (key 2 ag)).trans a,b⟩
theorem cQ.below(h:cQ w)(hc:Below w.heap.size w w'):cQ w':=h.aB (aq.bf (S:=fun _=>False) hc) (fun _ e=>e.elim)
theorem cQ.cell(h:cQ w)(o:Nat)(v:Value)(hv:nH[o]?=some v):w.cell? (ai 0 o)=some v:=by
 obtain⟨⟨t,f,h⟩,_⟩:=h;simp[World.cell?,h,hv]
def aL(k:Nat):Inf:=⟨(cP.getD k (⟨#[]⟩,0,0)).2.1,(cP.getD k (⟨#[]⟩,0,0)).2.2 - (cP.getD k (⟨#[]⟩,0,0)).2.1,max 0 ((cP.getD k (⟨#[]⟩,0,0)).2.2 - (cP.getD k (⟨#[]⟩,0,0)).2.1),1,!(k == 29)⟩
theorem Lj(k:Nat)(h:k<35):nH[k*3+0]?=some (.string (cP.getD k (⟨#[]⟩,0,0)).1)∧nH[k*3+1]?=some (ae (cP.getD k (⟨#[]⟩,0,0)).2.1)∧nH[k*3+2]?=some (ae (cP.getD k (⟨#[]⟩,0,0)).2.2):=by
 have hl:k<cP.length:=h;have key:=fun j hj=>flat_get (fun x:ByteArray×Int×Int=>[Value.string x.1,ae x.2.1,ae x.2.2]) 3 (fun _=>rfl) cP k j hl hj
 refine⟨?_,?_,?_⟩
 ·rw[nH,key 0 ag];simp[hl]
 ·rw[nH,key 1 ag];simp[hl]
 ·rw[nH,key 2 ag];simp[hl]
theorem Bz:∀k,k<35→0≤(cP.getD k (⟨#[]⟩,0,0)).2.1∧(cP.getD k (⟨#[]⟩,0,0)).2.1≤3∧0≤(cP.getD k (⟨#[]⟩,0,0)).2.2∧(cP.getD k (⟨#[]⟩,0,0)).2.2≤3:=dJ
attribute [local go_sem] ui
theorem UH(k:Nat)(t p:Int)(w:World)(fD:(k:Int)<35)(hk0:(0:Int)≤(k:Int))(hl:0<w.heap.size)
  (r1:w.cell? (ai 0 (k*3+1))=some (ae t)) (r2:w.cell? (ai 0 (k*3+2))=some (ae p))
  (d1:0≤t) (d2:t≤3) (d3:0≤p) (d4:p≤3):
  Calls prog 137 #[ae k] w fun e w'=>e=.returned (.agg #[ae t,ae (p - t),ae (max 0 (p - t)),ae 1,.bool ((k:Int) == 29)])∧Below w.heap.size w w':=by
 have hst:=fun w0=>Zu t p w0 d1 ag d3 ag
 simp only[Inf.tm,Inf.plain]at hst;have HST:=af hst;clear hst;go_enter func137,ntmps137;go_wp2_with fail;obtain⟨W,hW⟩:=ak (w.alloc (.cells bR 151 (0,0)):World);have hB0:Below w.heap.size w W:=Aa;have Ih:ay W w.heap.size bR 151:=by rw[hW];exact bJ w bR _
 have q1:=(hB0.cell (p:=ai 0 (k*3+1)) hl).trans r1;have q2:=(hB0.cell (p:=ai 0 (k*3+2)) hl).trans r2;have hB:=af hB0;have hbk:=af Ih;have hne:=cz.ne W.heap.size W bR 151 aH;have hlW:=Ih.lt;have hcr:∀(S:Option Nat) (u:cz W.heap.size W bR 151 S),u.val.cell? (ai 0 (k*3+1))=some (ae t):=fun S u=>u.cell q1 (dD W _ q1)
 have oK:∀(S:Option Nat) (u:cz W.heap.size W bR 151 S),u.val.cell? (ai 0 (k*3+2))=some (ae p):=fun S u=>u.cell q2 (dD W _ q2)
 clear hB0 Ih
 show Code.wp _ _ _ _ (w.alloc (.cells bR 151 (0,0)))
 rw[←hW];clear hW;refine ur bR 151 9 aP aP rfl (fun _=>rfl) (fun a w=>zS) ?_;simp only[List.take_succ_cons,List.take_zero,List.drop_succ_cons,List.drop_zero]
 repeat (refine uB (fun K hK=>?_);go_simp;first|(refine hK _ ?_;clear hK K)|(apply Exists.intro;refine⟨fun S u=>?_,hK _ ?_⟩;(go_at_call 177;exact cz.calls aH u (HST _));clear hK K))
 refine uU ?_;intro b1 w2 hb1 qg hblk;obtain⟨c0,c1,c2,c3,c4⟩:=hblk.zero;obtain⟨f0,f1,f2,f3,f4⟩:=hblk.free;have hlt2:=hblk.lt;have J2:ay w2 w.heap.size bR 151:=(qg.block _ hlW).trans hbk;have oZ:b1≠w.heap.size:=ag;have adI:w.heap.size≠b1:=ag;have aW:=af qg;have aah:=af hblk;have UQ:=af J2;clear hcr oK hne qg hblk J2;obtain⟨W2,hW2⟩:=ak (((((w2.setCell (ai b1 0) (ae t)).setCell (ai b1 1) (ae (p - t))).setCell (ai b1 2) (ae (max 0 (p - t)))).setCell (ai b1 3) (ae 1)).setCell (ai b1 4) (.bool false):World);have xr:ay W2 b1 #[ae t,ae (p - t),ae (max 0 (p - t)),ae 1,.bool false] 151:=by rw[hW2];exact vR aah _ _ _ _ _
 have vp:ay W2 w.heap.size bR 151:=by
  rw[hW2];exact((((UQ.setOther oZ _).setOther oZ _).setOther oZ _).setOther oZ _).setOther oZ _
 have BL:Below W.heap.size W W2:=by
  rw[hW2];exact((((aW.setCell hb1 _).setCell hb1 _).setCell hb1 _).setCell hb1 _).setCell hb1 _
 have eR:=af BL;go_simp;go_upto_region 2 with fail
 rw[←hW2];clear hW2 c0 c1 c2 c3 c4 f0 f1 f2 f3 f4 BL;obtain⟨W3,hW3⟩:=ak (W2.setCell (ai b1 4) (.bool ((k:Int) == 29)):World)
 have rP:ay W3 b1 #[ae t,ae (p - t),ae (max 0 (p - t)),ae 1,.bool ((k:Int) == 29)] 151:=by
  rw[hW3];have:=xr.set (o:=4) (.bool ((k:Int) == 29));simpa using this
 have Jd:ay W3 w.heap.size bR 151:=by rw[hW3];exact vp.setOther oZ _
 have MM:Below W.heap.size W W3:=by rw[hW3];exact eR.setCell hb1 _
 have HB4:=af MM;have f4:=xr.frozen 4;have c4:=xr.cell 4 _ rfl;simp only[List.getElem_toArray,List.getElem_cons_succ,List.getElem_cons_zero]at c4;clear xr vp MM;go_upto_region 3 with fail
 rw[←hW3];clear hW3 f4 c4;have c0:=rP.cell 0 _ rfl;have c1:=rP.cell 1 _ rfl;have c2:=rP.cell 2 _ rfl;have c3:=rP.cell 3 _ rfl;have c4:=rP.cell 4 _ rfl;simp only[List.getElem_toArray,List.getElem_cons_succ,List.getElem_cons_zero]at c0 c1 c2 c3 c4;obtain⟨g0,g1,g2,g3,g4⟩:=Jd.free;obtain⟨z0,z1,z2,z3,z4⟩:=Jd.zero;clear rP Jd;go_wp2_with fail;refine bodyPost_ret (v:=.agg #[ae t,ae (p - t),ae (max 0 (p - t)),ae 1,.bool ((k:Int) == 29)]) (by simp[results,results137,go_sem,z0,z1,z2,z3,z4]) rfl ⟨rfl,?_⟩;have hs:=hB.size;exact((((((hB.trans (HB4.mono hs)).setCell aF _).setCell aF _).setCell aF _).setCell aF _).setCell aF _)
theorem sD(k:Nat)(w:World)(h1:k<35)(ht:cQ w):
  Calls prog 137 #[ae k] w fun e w'=>e=.returned (aL k).tm∧Below w.heap.size w w':=by
 obtain⟨_,e1,e2⟩:=Lj k h1;obtain⟨d1,d2,d3,d4⟩:=Bz k h1;refine(UH k _ _ w ag ag (by have:=ht.lt;omega) (ht.cell _ _ e1) (ht.cell _ _ e2) d1 d2 d3 d4).mono ?_;rintro e w1 ⟨rfl,h⟩;refine⟨?_,h⟩;have hb:((k:Int) == 29)=(k == 29):=by rw[Bool.eq_iff_iff,beq_iff_eq,beq_iff_eq];omega
 simp[aL,Inf.tm,hb]
end
section
open Go.RowKit
def opFrom(s:ByteArray):List (ByteArray×Int×Int)→Nat→Option Nat
 |[],_=>none
 |x :: l,k=>if(x.1.toList == s.toList)=true∧(s.toList == [])=false then some k else opFrom s l (k+1)
def jT(s:ByteArray):Option Nat:=opFrom s cP 0
def opRes:Option Nat→Value
 |some k=>.tuple #[ae k,.bool true]
 |none=>.tuple #[ae 0,.bool false]
theorem Z7{P:Program}{ops:Array Oper}{rest:List Oper}{op:Oper}{a:Act}{Q:Exit→Act→World→Prop}(hgd:op.guard=none)(ty:TypeId)(x y:Operand)(ho:op.op=.index ty x y)
  (V:Array Value) (j:Nat) (hx:a.eval x=.agg V) (hy:a.eval y=ae j) (n:Nat) (e:TypeId) (d:TypeDesc) (hu:P.underlying ty=some (.array n e)) (hj:j<n)
  (k:Nat) (hk:(P.info? e).map (·.size)=some k) (he:P.underlying e=some d) (hd:d.isRow=true) (cs:Array Value) (hc:V.extract (j*k) (j*k+k)=cs) (hs:cs.size=k)
  (h:wpList P ops Q rest (a.put op.dst (.agg cs)) w):wpList P ops Q (op :: rest) a w:=by
 refine wpList_plain hgd fun K hK=>?_
 have h0:(0:Int)≤(j:Int)∧(j:Int)<(n:Int):=ag
 have hr:(Instr.index ty (.agg V) (ae j)).run P w=.ok (.agg cs) w:=by
  cases hq:P.info? e with
  |none=>simp[hq]at hk
  |some i=>
   have hsz:i.size=k:=by simpa [hq]using hk
   unfold Instr.index;simp[asIntOf,Sem.run_bind,run_underlying hu,h0,part,isAgg,run_underlying he,sizeOf,typeInfo,hq,hsz,hc,hs];rw[aG hj]
   cases d<;>simp_all
 unfold Oper.wp execOp;simp only[ho,hx,hy,Sem.run_bind,hr];exact hK _ _ h
theorem acs(j:Nat)(h:j<35):nH.toArray.extract (j*3) (j*3+3)= #[.string (cP.getD j (⟨#[]⟩,0,0)).1,ae (cP.getD j (⟨#[]⟩,0,0)).2.1,ae (cP.getD j (⟨#[]⟩,0,0)).2.2]:=by
 obtain⟨e0,e1,e2⟩:=Lj j h;have hl:nH.length=105:=dJ;apply Array.ext_getElem?;intro i;rw[Array.getElem?_extract]
 by_cases hi:i<3
 ·rw[aG (by simp[hl];omega)]
  match i,hi with
  |0,_=>simpa using e0
  |1,_=>simpa using e1
  |2,_=>simpa using e2
 ·rw[az (by simp[hl];omega),Array.getElem?_eq_none aK]
theorem Je(s:ByteArray)(w:World)(ht:cQ w):
  Calls prog 192 #[.string s] w fun e w'=>e=.returned (opRes (jT s))∧Below w.heap.size w w':=by
 obtain⟨R,hR⟩:=ak (jT s);rw[←hR];have hrg:w.rangeAt 0 0 nH:=fun j v hv=>by simpa using ht.cell j v hv
 have HT:=af ht;have HG:=af hrg;have HR:=af hR;clear hR ht hrg;go_enter func192,ntmps192;go_upto_region 1 with fail
 refine wp_region_list ?_;refine wpList_load_mid rfl _ _ rfl 0 0 rfl nH _ HG underlying263 rfl aP ?_;generalize hV:nH.toArray=V;have HV:=af hV;clear hV;go_wp2_with fail;go_loopw[7] (fun i wr=>∃j:Nat,j≤35∧i=ae j∧Below w.heap.size w wr∧Hid (R=opFrom s (cP.drop j) j)) (fun i _=>35 - (intOf i).toNat)
 case atStart=>exact⟨0,ag,rfl,aQ,HR⟩
 case round=>
  clear HR;obtain⟨j,hj,rfl,hb,HR⟩:=hrel;have HB:=af hb;clear hb
  by_cases hz:j=35
  ·subst hz
   go_wp2_with fail
   refine bodyPost_ret (v:=.tuple #[ae 0,.bool false]) (by simp[results,results192,go_sem]) rfl ⟨?_,HB⟩;have hRn:R=none:=HR.out;rw[hRn];rfl
  ·have rq:(j:Int)<35:=by omega
   have hj0:(0:Int)≤(j:Int):=ag;obtain⟨x,hx⟩:=ak (cP.getD j (⟨#[]⟩,0,0));have HX:=af hx;have HJ:=af hj;have HZ:=af hz;clear hx hj hz;go_upto_region 3 with fail
   refine wp_region_list ?_;refine wpList_plain rfl fun K hK=>?_
   go_simp
   refine hK _ _ ?_;clear hK K;have hjn:j<35:=E0;have hex:V.extract (j*3) (j*3+3)= #[.string x.1,ae x.2.1,ae x.2.2]:=by rw[←HV.out,HX.out];exact acs j hjn
   refine Z7 rfl _ _ _ rfl V j rfl rfl 35 _ _ underlying263 hjn 3 aP underlying262 rfl _ hex rfl ?_
   have hdr:cP.drop j=x :: cP.drop (j+1):=by
    have h1:j<cP.length:=hjn;rw[HX.out,qh h1];simp[h1]
   have hst:R=if(x.1.toList == s.toList)=true∧(s.toList == [])=false then some j else opFrom s (cP.drop (j+1)) (j+1):=by
    rw[HR.out,hdr,opFrom]
   have HS:=af hst;have hj5:(j:Int)≤34:=ag;clear hst hdr hex hjn HR HX;obtain⟨n,t,p⟩:=x;simp only[]at HS ⊢;go_simp
   by_cases hn:(n.toList == s.toList)=true
   ·by_cases he:(s.toList == [])=true
    ·go_wp2_with fail
     go_round
     case rel=>exact⟨j+1,E0,bO,HB.alloc HB.size _,by have:=HS.out;rw[az (by simp[he])]at this;exact this⟩
     case measure=>simp[intOf];omega
    ·have he2:(s.toList == [])=false:=by simpa using he
     clear he;go_wp2_with fail;refine bodyPost_ret (v:=.tuple #[ae j,.bool true]) (by simp[results,results192,go_sem]) rfl ⟨?_,HB.alloc HB.size _⟩;have hRn:R=some j:=by have:=HS.out;rw[aG ⟨hn,he2⟩]at this;exact this
     rw[hRn];rfl
   ·have hn2:(n.toList == s.toList)=false:=by simpa using hn
    clear hn;go_wp2_with fail;go_round
    case rel=>exact⟨j+1,E0,bO,HB.alloc HB.size _,by have:=HS.out;rw[az (by simp[hn2])]at this;exact this⟩
    case measure=>simp[intOf];omega
end
end Go.Proofs.YtcphhbofjkenaaaGreatDoor
