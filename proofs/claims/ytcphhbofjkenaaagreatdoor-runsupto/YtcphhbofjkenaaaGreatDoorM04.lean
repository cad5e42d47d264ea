import Derived.Test.YtcphhbofjkenaaaGreatDoorM02
import Derived.Test.YtcphhbofjkenaaaGreatDoorM03
namespace Go.Proofs.YtcphhbofjkenaaaGreatDoor
open Go Go.RowKit
set_option linter.unusedVariables false
set_option linter.unusedSimpArgs false
set_option maxRecDepth 100000
set_option maxHeartbeats 16000000
section
open Go.RowKit
structure Inf.Ok (i:Inf):Prop where
 n0: -100000000000000000≤i.need
 n1:i.need≤100000000000000000
 t0: -100000000000000000≤i.bu
 t1:i.bu≤100000000000000000
 h0: -100000000000000000≤i.high
 h1:i.high≤100000000000000000
 s0:0≤i.steps
 s1:i.steps≤1000000001
theorem lU(n:Int)(w:World):
  Calls Tryz.prog 195 #[.int .i64 n] w fun e w'=>e=.returned (.int .i64 (min n 1000000001))∧w'=w:=by
 by_cases h:1000000001<n
 ·go_enter Tryz.func195,Tryz.ntmps195
  go_wp2
  go_ret
  exact⟨zg (by omega),rfl⟩
 ·go_enter Tryz.func195,Tryz.ntmps195
  go_wp2
  go_ret
  exact⟨zg (by omega),rfl⟩
theorem Dt(n1 t1 h1 s1 n2 t2 h2 s2:Int)(b1 b2:Bool)(w:World)
  (x1: -1000000000000000000≤t1) (x2:t1≤1000000000000000000) (x3: -1000000000000000000≤n2) (x4:n2≤1000000000000000000)
  (x5: -1000000000000000000≤t2) (x6:t2≤1000000000000000000) (x7: -1000000000000000000≤h2) (x8:h2≤1000000000000000000)
  (x9:0≤s1) (y1:s1≤1000000000000000000) (y2:0≤s2) (y3:s2≤1000000000000000000):
  Calls Tryz.prog 172 #[.agg #[.int .i64 n1,.int .i64 t1,.int .i64 h1,.int .i64 s1,.bool b1],.agg #[.int .i64 n2,.int .i64 t2,.int .i64 h2,.int .i64 s2,.bool b2]] w
   fun e w'=>e=.returned (.agg #[.int .i64 (max n1 (n2 - t1)),.int .i64 (t1+t2),.int .i64 (max h1 (t1+h2)),.int .i64 (min (s1+s2) 1000000001),.bool (b1&&b2)])∧Below w.heap.size w w':=by
 cases b1
 all_goals
  go_enter Tryz.func172,Tryz.ntmps172
  go_wp2
  have hc:=fun (B:Nat) (w0:World) (u:gW B w0) (b o:Nat) (h:b<B)=>u.cell b o h
  have hne:=gW.ne;refine aP (w.heap.size+1+1+1) 34 (by kernel_rfl) (by kernel_rfl) ?_;simp only[List.take_succ_cons,List.take_zero,List.drop_succ_cons,List.drop_zero]
  repeat (go_big_quiet_step ((go_at_call 195;exact gW.zJ _ (lU _ _))))
  refine wpQuiet_nil ?_;intro u;obtain⟨w1,hb⟩:=u;have hz:=fun o=>hb.cell (p:=⟨w.heap.size+1+1,o,none⟩) (by simp)
  have hf:=fun o=>hb.frozen (p:=⟨w.heap.size+1+1,o,none⟩) (by simp)
  have c0:=hz 0;have c1:=hz 1;have c2:=hz 2;have c3:=hz 3;have c4:=hz 4;have f0:=hf 0;have f1:=hf 1;have f2:=hf 2;have f3:=hf 3;have f4:=hf 4;clear hz hf hc hne;simp[go_sem]at c0 c1 c2 c3 c4 f0 f1 f2 f3 f4;go_wp2
  refine bodyPost_ret (v:=.agg #[.int .i64 (max n1 (n2 - t1)),.int .i64 (t1+t2),.int .i64 (max h1 (t1+h2)),.int .i64 (min (s1+s2) 1000000001),_]) (by simp[results,Tryz.results172,go_sem,c0,c1,c2,c3,c4];rfl) rfl ⟨by simp,?_⟩;exact((((((JS hb).setCell (by simp;omega) _).setCell (by simp;omega) _).setCell (by simp;omega) _).setCell (by simp;omega) _).setCell (by simp;omega) _)
theorem uO(a b:Inf)(w:World)(ha:a.Ok)(hb:b.Ok):
  Calls Tryz.prog 172 #[a.val,b.val] w fun e w'=>e=.returned (a.then b).val∧Below w.heap.size w w':=
 Dt a.need a.bu a.high a.steps b.need b.bu b.high b.steps a.str b.str w (by have:=ha.t0;omega) (by have:=ha.t1;omega) (by have:=hb.n0;omega) (by have:=hb.n1;omega)
  (by have:=hb.t0;omega) (by have:=hb.t1;omega) (by have:=hb.h0;omega) (by have:=hb.h1;omega) (by have:=ha.s0;omega) (by have:=ha.s1;omega) (by have:=hb.s0;omega) (by have:=hb.s1;omega)
def upTo(f:Nat→Inf):Nat→Inf
 |0=>Inf.zero
 |k+1=>(upTo f k).then (f k)
def Inf.arr(i:Inf):Array Value:= #[.int .i64 i.need,.int .i64 i.bu,.int .i64 i.high,.int .i64 i.steps,.bool i.str]
theorem kM{w:World}{b:Nat}{t:TypeId}{a0 a1 a2 a3 a4:Value}(h:az w b #[a0,a1,a2,a3,a4] t)(b0 b1 b2 b3 b4:Value):
  az (((((w.setCell ⟨b,0,none⟩ b0).setCell ⟨b,1,none⟩ b1).setCell ⟨b,2,none⟩ b2).setCell ⟨b,3,none⟩ b3).setCell ⟨b,4,none⟩ b4) b #[b0,b1,b2,b3,b4] t:=by
 have:=((((h.set (o:=0) b0).set (o:=1) b1).set (o:=2) b2).set (o:=3) b3).set (o:=4) b4;simpa using this
theorem az.inf{w:World}{b:Nat}{t:TypeId}{i:Inf}(h:az w b i.arr t):w.cell? ⟨b,0,none⟩=some (.int .i64 i.need)∧w.cell? ⟨b,1,none⟩=some (.int .i64 i.bu)∧w.cell? ⟨b,2,none⟩=some (.int .i64 i.high)∧w.cell? ⟨b,3,none⟩=some (.int .i64 i.steps)∧w.cell? ⟨b,4,none⟩=some (.bool i.str):=
 ⟨h.cell 0 _ rfl,h.cell 1 _ rfl,h.cell 2 _ rfl,h.cell 3 _ rfl,h.cell 4 _ rfl⟩
theorem ay(w:World)(cs:Array Value)(t:TypeId):az (w.alloc (.cells cs t (0,0))) w.heap.size cs t:=by
 show(w.heap.push _)[w.heap.size]?=_
 simp
theorem RZ(w:World)(o:Obj)(t:TypeId):az ((w.alloc o).alloc (.cells Inf.zero.arr t (0,0))) (w.heap.size+1) Inf.zero.arr t:=by
 have:=ay (w.alloc o) Inf.zero.arr t;simpa using this
def aV:Array Value:= #[.int .i64 0,.int .i64 0,.int .i64 0,.int .i64 0,.bool false]
theorem az.zero{w:World}{b:Nat}{t:TypeId}(h:az w b aV t):w.cell? ⟨b,0,none⟩=some (.int .i64 0)∧w.cell? ⟨b,1,none⟩=some (.int .i64 0)∧w.cell? ⟨b,2,none⟩=some (.int .i64 0)∧w.cell? ⟨b,3,none⟩=some (.int .i64 0)∧w.cell? ⟨b,4,none⟩=some (.bool false):=
 ⟨h.cell 0 _ rfl,h.cell 1 _ rfl,h.cell 2 _ rfl,h.cell 3 _ rfl,h.cell 4 _ rfl⟩
theorem az.free{w:World}{b:Nat}{t:TypeId}{cs:Array Value}(h:az w b cs t):w.frozen? ⟨b,0,none⟩=false∧w.frozen? ⟨b,1,none⟩=false∧w.frozen? ⟨b,2,none⟩=false∧w.frozen? ⟨b,3,none⟩=false∧w.frozen? ⟨b,4,none⟩=false:=
 ⟨h.frozen 0,h.frozen 1,h.frozen 2,h.frozen 3,h.frozen 4⟩
theorem EC(sb:Nat)(m cap:Nat)(ad:Option Addr)(f:Nat→Inf)(x:Nat→Array Value)(w:World)(hm:m≤1100000)(hmc:m≤cap)
  (hf:∀j,j<m→(f j).Ok) (hu:∀j,j≤m→(upTo f j).Ok)
  (hc:∀j,j<m→∃g a0 a1 a2 a3 a4,ad=some ⟨g,0,none⟩∧g<w.heap.size∧x j= #[a0,a1,a2,a3,a4]∧w.cell? ⟨g,j*5,none⟩=some a0∧w.cell? ⟨g,j*5+1,none⟩=some a1∧w.cell? ⟨g,j*5+2,none⟩=some a2∧w.cell? ⟨g,j*5+3,none⟩=some a3∧w.cell? ⟨g,j*5+4,none⟩=some a4)
  (ho:∀j,j<m→∀w',Below w.heap.size w w'→Calls Tryz.prog 171 #[.pointer (some ⟨sb,0,none⟩),.agg (x j)] w' fun e w''=>e=.returned (f j).val∧Below w'.heap.size w' w''):
  Calls Tryz.prog 130 #[.pointer (some ⟨sb,0,none⟩),.slice ad m cap] w fun e w'=>e=.returned (upTo f m).val∧Below w.heap.size w w':=by
 obtain⟨R,hR⟩:=exq (upTo f m);rw[←hR];have HR:=ast hR;have HF:=ast hf;have HU:=ast hu;have HC:=ast hc;have HO:=ast ho;clear hR hf hu hc ho;go_enter Tryz.func130,Tryz.ntmps130
 go_wp2
 go_loopw[6] (fun i wr=>∃j:Nat,j≤m∧i=.int .i64 j∧az wr (w.heap.size+1) (upTo f j).arr 36∧az wr w.heap.size aV 36∧Below w.heap.size w wr) (fun i _=>m - (intOf i).toNat)
 case atStart=>
  refine⟨0,Nat.zero_le _,rfl,?_,?_,(brq.alloc nrq _).alloc (by simp) _⟩
  ·exact RZ _ _ _
  ·exact(ay w _ _).alloc _
 case round=>
  obtain⟨j,hj,rfl,hB1,hB0,bT⟩:=hrel
  by_cases hlt:j<m
  ·obtain⟨g,a0,a1,a2,a3,a4,rfl,hg,hx,e0,e1,e2,e3,e4⟩:=HC.out j hlt
   have q0:=(bT.cell (p:=⟨g,j*5,none⟩) hg).trans e0;have q1:=(bT.cell (p:=⟨g,j*5+1,none⟩) hg).trans e1;have q2:=(bT.cell (p:=⟨g,j*5+2,none⟩) hg).trans e2;have q3:=(bT.cell (p:=⟨g,j*5+3,none⟩) hg).trans e3;have q4:=(bT.cell (p:=⟨g,j*5+4,none⟩) hg).trans e4;have hof:=HO.out j hlt wr bT;rw[hx]at hof;have HOF:=ast hof;have hz1:=hB1.lt;have HB:=ast bT;have HB0:=ast hB0;have HB1:=ast hB1;have HX:=ast hx;clear hof e0 e1 e2 e3 e4 hB0 hB1 bT hx;go_wp2_with fail
   refine HOF.out.mono ?_;rintro e w1 ⟨rfl,hb1⟩;clear q0 q1 q2 q3 q4;have Si:az w1 (w.heap.size+1) (upTo f j).arr 36:=(hb1.block _ hz1).trans HB1.out;obtain⟨c0,c1,c2,c3,c4⟩:=Si.inf;obtain⟨g0,g1,g2,g3,g4⟩:=Si.free;have hz2:w.heap.size+1<w1.heap.size:=Si.lt;have ai9:=ast Si;have Hb1:=ast hb1;clear Si hb1;unfold Inf.val;go_wp2_with fail
   have ha:=HU.out j (by omega);have hb:=HF.out j hlt
   refine(Dt (upTo f j).need (upTo f j).bu (upTo f j).high (upTo f j).steps (f j).need (f j).bu (f j).high (f j).steps (upTo f j).str (f j).str _ (by have:=ha.t0;omega) (by have:=ha.t1;omega) (by have:=hb.n0;omega) (by have:=hb.n1;omega)
    (by have:=hb.t0;omega) (by have:=hb.t1;omega) (by have:=hb.h0;omega) (by have:=hb.h1;omega) (by have:=ha.s0;omega) (by have:=ha.s1;omega) (by have:=hb.s0;omega) (by have:=hb.s1;omega)).mono ?_
   rintro e w2 ⟨rfl,hb2⟩;clear ha hb c0 c1 c2 c3 c4 g0 g1 g2 g3 g4;have hB2:az w2 (w.heap.size+1) (upTo f j).arr 36:=(hb2.block _ (by simp;omega)).trans (ai9.out.alloc _);have aea:az w2 w.heap.size aV 36:=(hb2.block _ (by simp;omega)).trans (az.alloc ((Hb1.out.block _ (by omega)).trans HB0.out) _);have pM:Below w.heap.size w w2:=(HB.out.trans (Hb1.out.mono (by have:=HB.out.size;omega))).trans ((((Below.refl w1.heap.size w1).alloc nrq _).trans (hb2.mono (by simp))).mono (by omega));obtain⟨c0,c1,c2,c3,c4⟩:=hB2.inf;obtain⟨g0,g1,g2,g3,g4⟩:=hB2.free;have HZ:=ast hB2;have HZ0:=ast aea;have HZB:=ast pM;clear hB2 aea pM hb2;go_wp2_with fail
   go_roundw
   case rel=>
    refine⟨j+1,by omega,by go_num,?_,?_,?_⟩
    ·exact kM HZ.out _ _ _ _ _
    ·exact((((HZ0.out.setOther (by simp) _).setOther (by simp) _).setOther (by simp) _).setOther (by simp) _).setOther (by simp) _
    ·exact(((((HZB.out.setCell (by simp) _).setCell (by simp) _).setCell (by simp) _).setCell (by simp) _).setCell (by simp) _)
   case measure=>simp[intOf];omega
  ·obtain rfl:j=m:=by omega
   obtain⟨c0,c1,c2,c3,c4⟩:=hB1.inf;obtain⟨d0,d1,d2,d3,d4⟩:=hB0.zero;obtain⟨g0,g1,g2,g3,g4⟩:=hB0.free;have HB:=ast bT;clear hB0 hB1 bT;go_wp2_with fail
   refine bodyPost_ret (v:=R.val) (by rw[HR.out];simp[results,Tryz.results130,go_sem,Inf.val,d0,d1,d2,d3,d4]) rfl ⟨rfl,?_⟩;exact(((((HB.out.setCell nrq _).setCell nrq _).setCell nrq _).setCell nrq _).setCell nrq _)
end
section
open Go.RowKit
def Inf.tm(i:Inf):Value:=.agg #[.int .i64 i.need,.int .i64 i.bu,.int .i64 i.high,.int .i64 i.steps,.bool (!i.str)]
theorem uP(w:World)(a b c:Obj):w.heap.size+1+1+1=(((w.alloc a).alloc b).alloc c).heap.size:=by simp
theorem aaw(t p:Int)(w:World)(h0:0≤t)(h1:t≤100)(h2:0≤p)(h3:p≤100):
  Calls Tryz.prog 202 #[.int .i64 t,.int .i64 p] w fun e w'=>e=.returned (.agg #[.int .i64 t,.int .i64 (p - t),.int .i64 (max 0 (p - t))])∧Below w.heap.size w w':=by
 go_enter Tryz.func202,Tryz.ntmps202
 go_wp2
 refine bodyPost_ret (v:=.agg #[.int .i64 t,.int .i64 (p - t),.int .i64 (max 0 (p - t))]) (by simp[results,Tryz.results202,go_sem]) rfl ⟨rfl,?_⟩;exact brq.alloc nrq _
theorem Sj(t p:Int)(w:World)(h0:0≤t)(h1:t≤100)(h2:0≤p)(h3:p≤100):
  Calls Tryz.prog 177 #[.int .i64 t,.int .i64 p] w fun e w'=>e=.returned (Inf.plain t p).tm∧Below w.heap.size w w':=by
 go_enter Tryz.func177,Tryz.ntmps177
 go_wp2_with fail
 refine(aaw t p _ h0 h1 h2 h3).mono ?_;rintro e w1 ⟨rfl,hb⟩;have hb1:Below (w.heap.size+1) (w.alloc (.cells #[.int .i64 0,.int .i64 0,.int .i64 0,.int .i64 0,.bool false] 151 (0,0))) w1:=by simpa using hb
 have hz:=fun o=>hb1.cell (p:=⟨w.heap.size,o,none⟩) (by simp)
 have hf:=fun o=>hb1.frozen (p:=⟨w.heap.size,o,none⟩) (by simp)
 have c0:=hz 0;have c1:=hz 1;have c2:=hz 2;have c3:=hz 3;have c4:=hz 4;have f0:=hf 0;have f1:=hf 1;have f2:=hf 2;have f3:=hf 3;have f4:=hf 4;clear hz hf hb;simp[go_sem]at c0 c1 c2 c3 c4 f0 f1 f2 f3 f4;go_wp2
 refine bodyPost_ret (v:=(Inf.plain t p).tm) (by simp[results,Tryz.results177,go_sem,c0,c1,c2,c3,c4];rfl) rfl ⟨rfl,?_⟩;exact(((((wP hb1).setCell (by simp) _).setCell (by simp) _).setCell (by simp) _).setCell (by simp) _).setCell (by simp) _
theorem Du(n t h:Int)(w:World):
  Calls Tryz.prog 188 #[.agg #[.int .i64 n,.int .i64 t,.int .i64 h]] w fun e w'=>e=.returned (.bool (t == 0))∧Below w.heap.size w w':=by
 go_enter Tryz.func188,Tryz.ntmps188
 go_wp2
 go_ret
 exact⟨rfl,brq.alloc nrq _⟩
theorem zK(n t h n2 t2 h2:Int)(w:World):
  Calls Tryz.prog 186 #[.agg #[.int .i64 n,.int .i64 t,.int .i64 h],.agg #[.int .i64 n2,.int .i64 t2,.int .i64 h2]] w fun e w'=>e=.returned (.bool (t == t2))∧Below w.heap.size w w':=by
 go_enter Tryz.func186,Tryz.ntmps186
 go_wp2
 go_ret
 exact⟨rfl,(brq.alloc nrq _).alloc (by simp) _⟩
theorem JU(n:Int)(w:World):
  Calls Tryz.prog 205 #[.int .i64 n] w fun e w'=>e=.returned (.int .i64 (min n 1000000001))∧w'=w:=by
 go_enter Tryz.func205,Tryz.ntmps205
 go_wp2
 go_ret
 exact⟨rfl,rfl⟩
theorem Sl(n t h s:Int)(b:Bool)(w:World):
  Calls Tryz.prog 183 #[.agg #[.int .i64 n,.int .i64 t,.int .i64 h,.int .i64 s,.bool b]] w fun e w'=>e=.returned (.bool (decide (1000000000<s)))∧Below w.heap.size w w':=by
 go_enter Tryz.func183,Tryz.ntmps183
 go_wp2
 go_ret
 exact⟨rfl,brq.alloc nrq _⟩
theorem OJ(n1 t1 h1 n2 t2 h2:Int)(w:World)
  (x1: -1000000000000000000≤t1) (x2:t1≤1000000000000000000) (x3: -1000000000000000000≤n2) (x4:n2≤1000000000000000000)
  (x5: -1000000000000000000≤t2) (x6:t2≤1000000000000000000) (x7: -1000000000000000000≤h2) (x8:h2≤1000000000000000000):
  Calls Tryz.prog 212 #[.agg #[.int .i64 n1,.int .i64 t1,.int .i64 h1],.agg #[.int .i64 n2,.int .i64 t2,.int .i64 h2]] w
   fun e w'=>e=.returned (.agg #[.int .i64 (max n1 (n2 - t1)),.int .i64 (t1+t2),.int .i64 (max h1 (t1+h2))])∧Below w.heap.size w w':=by
 go_enter Tryz.func212,Tryz.ntmps212
 go_wp2
 refine bodyPost_ret (v:=.agg #[.int .i64 (max n1 (n2 - t1)),.int .i64 (t1+t2),.int .i64 (max h1 (t1+h2))]) (by simp[results,Tryz.results212,go_sem]) rfl ⟨rfl,?_⟩;exact((brq.alloc nrq _).alloc (by simp) _).alloc (by simp;omega) _
theorem Xf(n1 t1 h1 n2 t2 h2:Int)(w:World):
  Calls Tryz.prog 204 #[.agg #[.int .i64 n1,.int .i64 t1,.int .i64 h1],.agg #[.int .i64 n2,.int .i64 t2,.int .i64 h2]] w
   fun e w'=>e=.returned (.agg #[.int .i64 (max n1 n2),.int .i64 t1,.int .i64 (max h1 h2)])∧Below w.heap.size w w':=by
 go_enter Tryz.func204,Tryz.ntmps204
 go_wp2
 refine bodyPost_ret (v:=.agg #[.int .i64 (max n1 n2),.int .i64 t1,.int .i64 (max h1 h2)]) (by simp[results,Tryz.results204,go_sem]) rfl ⟨rfl,?_⟩;exact((brq.alloc nrq _).alloc (by simp) _).alloc (by simp;omega) _
theorem OL(n1 t1 h1 s1 n2 t2 h2 s2:Int)(b1 b2:Bool)(w:World)
  (x1: -1000000000000000000≤t1) (x2:t1≤1000000000000000000) (x3: -1000000000000000000≤n2) (x4:n2≤1000000000000000000)
  (x5: -1000000000000000000≤t2) (x6:t2≤1000000000000000000) (x7: -1000000000000000000≤h2) (x8:h2≤1000000000000000000)
  (x9:0≤s1) (y1:s1≤1000000000000000000) (y2:0≤s2) (y3:s2≤1000000000000000000):
  Calls Tryz.prog 203 #[.agg #[.int .i64 n1,.int .i64 t1,.int .i64 h1,.int .i64 s1,.bool b1],.agg #[.int .i64 n2,.int .i64 t2,.int .i64 h2,.int .i64 s2,.bool b2]] w
   fun e w'=>e=.returned (.agg #[.int .i64 (max n1 (n2 - t1)),.int .i64 (t1+t2),.int .i64 (max h1 (t1+h2)),.int .i64 (min (s1+s2) 1000000001),.bool (b1||b2)])∧Below w.heap.size w w':=by
 cases b1
 all_goals
  go_enter Tryz.func203,Tryz.ntmps203
  go_wp2_with fail
  have hc:=fun (B:Nat) (w0:World) (u:gW B w0) (b o:Nat) (h:b<B)=>u.cell b o h
  have hne:=gW.ne;refine aP (w.heap.size+1+1+1) 18 (by kernel_rfl) (by kernel_rfl) ?_;simp only[List.take_succ_cons,List.take_zero,List.drop_succ_cons,List.drop_zero]
  repeat (go_big_quiet_step ((first|(go_at_call 205;exact gW.zJ _ (JU _ _))|(go_at_call 212;exact gW.calls (Nat.le_of_eq (uP _ _ _ _)) _ (OJ n1 t1 h1 n2 t2 h2 _ x1 x2 x3 x4 x5 x6 x7 x8)))))
  refine wpQuiet_nil ?_;intro u;obtain⟨w1,hb⟩:=u;have hz:=fun o=>hb.cell (p:=⟨w.heap.size+1+1,o,none⟩) (by simp)
  have hf:=fun o=>hb.frozen (p:=⟨w.heap.size+1+1,o,none⟩) (by simp)
  have c0:=hz 0;have c1:=hz 1;have c2:=hz 2;have c3:=hz 3;have c4:=hz 4;have f0:=hf 0;have f1:=hf 1;have f2:=hf 2;have f3:=hf 3;have f4:=hf 4;clear hz hf hc hne;simp[go_sem]at c0 c1 c2 c3 c4 f0 f1 f2 f3 f4;go_wp2
  refine bodyPost_ret (v:=.agg #[.int .i64 (max n1 (n2 - t1)),.int .i64 (t1+t2),.int .i64 (max h1 (t1+h2)),.int .i64 (min (s1+s2) 1000000001),_]) (by simp[results,Tryz.results203,go_sem,c0,c1,c2,c3,c4];rfl) rfl ⟨by simp,?_⟩;exact((((((JS hb).setCell (by simp;omega) _).setCell (by simp;omega) _).setCell (by simp;omega) _).setCell (by simp;omega) _).setCell (by simp;omega) _)
theorem GG(a b:Inf)(ha:a.Ok)(hb:b.Ok)(w:World):
  Calls Tryz.prog 203 #[a.tm,b.tm] w fun e w'=>e=.returned (a.then b).tm∧Below w.heap.size w w':=by
 obtain⟨a1,a2,a3,a4,a5,a6,a7,a8⟩:=ha;obtain⟨b1,b2,b3,b4,b5,b6,b7,b8⟩:=hb;refine(OL a.need a.bu a.high a.steps b.need b.bu b.high b.steps (!a.str) (!b.str) w (by omega) (by omega) (by omega) (by omega) (by omega) (by omega) (by omega) (by omega) (by omega) (by omega) (by omega) (by omega)).mono ?_;rintro e w1 ⟨rfl,h⟩;exact⟨by simp[Inf.then,Inf.tm],h⟩
theorem Xg(n1 t1 h1 s1 n2 t2 h2 s2:Int)(b1 b2:Bool)(w:World):
  Calls Tryz.prog 187 #[.agg #[.int .i64 n1,.int .i64 t1,.int .i64 h1,.int .i64 s1,.bool b1],.agg #[.int .i64 n2,.int .i64 t2,.int .i64 h2,.int .i64 s2,.bool b2]] w
   fun e w'=>e=.returned (.agg #[.int .i64 (max n1 n2),.int .i64 t1,.int .i64 (max h1 h2),.int .i64 (max s1 s2),.bool (b1||b2)])∧Below w.heap.size w w':=by
 cases b1
 all_goals
  go_enter Tryz.func187,Tryz.ntmps187
  go_wp2_with fail
  have hc:=fun (B:Nat) (w0:World) (u:gW B w0) (b o:Nat) (h:b<B)=>u.cell b o h
  have hne:=gW.ne;refine aP (w.heap.size+1+1+1) 17 (by kernel_rfl) (by kernel_rfl) ?_;simp only[List.take_succ_cons,List.take_zero,List.drop_succ_cons,List.drop_zero]
  repeat (go_big_quiet_step ((go_at_call 204;exact gW.calls (Nat.le_of_eq (uP _ _ _ _)) _ (Xf n1 t1 h1 n2 t2 h2 _))))
  refine wpQuiet_nil ?_;intro u;obtain⟨w1,hb⟩:=u;have hz:=fun o=>hb.cell (p:=⟨w.heap.size+1+1,o,none⟩) (by simp)
  have hf:=fun o=>hb.frozen (p:=⟨w.heap.size+1+1,o,none⟩) (by simp)
  have c0:=hz 0;have c1:=hz 1;have c2:=hz 2;have c3:=hz 3;have c4:=hz 4;have f0:=hf 0;have f1:=hf 1;have f2:=hf 2;have f3:=hf 3;have f4:=hf 4;clear hz hf hc hne;simp[go_sem]at c0 c1 c2 c3 c4 f0 f1 f2 f3 f4;go_wp2
  refine bodyPost_ret (v:=.agg #[.int .i64 (max n1 n2),.int .i64 t1,.int .i64 (max h1 h2),.int .i64 (max s1 s2),_]) (by simp[results,Tryz.results187,go_sem,c0,c1,c2,c3,c4];rfl) rfl ⟨by simp,?_⟩;exact((((((JS hb).setCell (by simp;omega) _).setCell (by simp;omega) _).setCell (by simp;omega) _).setCell (by simp;omega) _).setCell (by simp;omega) _)
theorem JV(n1 t1 h1 s1 k:Int)(b1:Bool)(w:World)(hk:k≠0)(k0:0≤k)(k1:k≤1000)(s0:0≤s1)(s2:s1≤1000000001):
  Calls Tryz.prog 189 #[.agg #[.int .i64 n1,.int .i64 t1,.int .i64 h1,.int .i64 s1,.bool b1],.int .i64 k] w
   fun e w'=>e=.returned (.agg #[.int .i64 n1,.int .i64 t1,.int .i64 h1,.int .i64 (min (s1*k) 1000000001),.bool b1])∧Below w.heap.size w w':=by
 have hp:0≤s1*k:=Int.mul_nonneg s0 k0;have hq:s1*k≤1000000001*1000:=Int.mul_le_mul s2 k1 k0 (by omega);go_enter Tryz.func189,Tryz.ntmps189
 go_wp2
 refine bodyPost_ret (v:=.agg #[.int .i64 n1,.int .i64 t1,.int .i64 h1,.int .i64 (min (s1*k) 1000000001),.bool b1]) (by simp[results,Tryz.results189,go_sem]) rfl ⟨rfl,?_⟩;exact(brq.alloc nrq _).alloc (by simp) _
theorem JW(n1 t1 h1 s1:Int)(b1:Bool)(w:World):
  Calls Tryz.prog 189 #[.agg #[.int .i64 n1,.int .i64 t1,.int .i64 h1,.int .i64 s1,.bool b1],.int .i64 0] w
   fun e w'=>e=.returned (.agg #[.int .i64 0,.int .i64 0,.int .i64 0,.int .i64 0,.bool b1])∧Below w.heap.size w w':=by
 go_enter Tryz.func189,Tryz.ntmps189
 go_wp2
 refine bodyPost_ret (v:=.agg #[.int .i64 0,.int .i64 0,.int .i64 0,.int .i64 0,.bool b1]) (by simp[results,Tryz.results189,go_sem]) rfl ⟨rfl,?_⟩;exact(brq.alloc nrq _).alloc (by simp) _
end
end Go.Proofs.YtcphhbofjkenaaaGreatDoor
