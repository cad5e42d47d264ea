import Derived.Test.YtcphhbofjkenaaaGreatDoorM09
import Derived.Test.YtcphhbofjkenaaaGreatDoorM15
namespace Go.Proofs.YtcphhbofjkenaaaGreatDoor
open Go Go.RowKit
set_option linter.unusedVariables false
set_option linter.unusedSimpArgs false
set_option maxRecDepth 100000
set_option maxHeartbeats 16000000
section
open Go.RowKit
structure PE where
 name:ByteArray
 var:Bool
 place:Int
 inf:Inf
def PE.cells(e:PE):List Value:=[.string e.name,.bool e.var,.int .i64 e.place,.int .i64 e.inf.need,.int .i64 e.inf.bu,.int .i64 e.inf.high,.int .i64 e.inf.steps,.bool (!e.inf.str)]
def PE.val(e:PE):Value:=.agg #[.string e.name,.bool e.var,.int .i64 e.place,.int .i64 e.inf.need,.int .i64 e.inf.bu,.int .i64 e.inf.high,.int .i64 e.inf.steps,.bool (!e.inf.str)]
def PE.zero:PE:=⟨⟨#[]⟩,false,0,Inf.zero⟩
structure iC (w:World) (bb:Nat) (ev cv:Value) (es:List PE) (nv nt:Int) (code:List Int):Prop where
 blk:az w bb #[ev,.int .i64 nv,.int .i64 nt,cv] 122
 row:w.ownsRow 3 153 8 ev es.length (es.flatMap PE.cells)
 iO:w.ownsRow 3 3 1 cv code.length (code.map (Value.int .i64))
 up:3≤bb
def eH(es:List PE)(s:ByteArray):Nat→Option PE
 |0=>none
 |k+1=>if((es.getD k PE.zero).name.toList == s.toList)=true then some (es.getD k PE.zero)else eH es s k
def rD:Option PE→Value
 |some e=>.tuple #[e.val,.bool true]
 |none=>.tuple #[PE.zero.val,.bool false]
theorem TZ{w:World}{bb:Nat}{ev cv:Value}{es:List PE}{nv nt:Int}{code:List Int}(h:iC w bb ev cv es nv nt code)(i:Nat)(hi:i<es.length):
  ∃g cap,ev=.slice (some ⟨g,0,none⟩) es.length cap∧es.length≤cap∧g<w.heap.size∧∀j,j<8→w.cell? ⟨g,i*8+j,none⟩=(es.getD i PE.zero).cells[j]?:=by
 obtain⟨g,cap,hv,_,hg,h1,_,hc⟩:=aB h.row (by omega);refine⟨g,cap,hv,h1,hg,fun j hj=>?_⟩;have e:=flat_get PE.cells 8 (fun _=>rfl) es i j hi hj;have hx:es.getD i PE.zero=es[i]:=by simp[hi]
 rw[hx];have hlt:j<(es[i]).cells.length:=hj;rw[List.getElem?_eq_getElem hlt]at e ⊢;exact hc _ _ e
theorem nS{w:World}{bb:Nat}{ev cv:Value}{es:List PE}{nv nt:Int}{code:List Int}(s:ByteArray)(h:iC w bb ev cv es nv nt code)(hl:es.length≤1000):
  Calls Tryz.prog 105 #[.pointer (some ⟨bb,0,none⟩),.string s] w fun e w'=>e=.returned (rD (eH es s es.length))∧Below w.heap.size w w':=by
 obtain⟨R,hR⟩:=exq (eH es s es.length);rw[←hR];have c0:w.cell? ⟨bb,0,none⟩=some ev:=h.blk.cell 0 _ rfl;obtain⟨ad,cap,rfl,hcap,_⟩:=ag h.row;have hlt:=h.blk.lt;have HP:=ast h;have HR:=ast hR;clear h hR;go_enter Tryz.func105,Tryz.ntmps105
 go_wp2_with fail
 go_loop [6] (fun i=>∃j:Nat,j≤es.length∧i=.int .i64 ((j:Int) - 1)∧Hid (R=eH es s j)) (fun i=>(intOf i+1).toNat)
 case atStart=>exact⟨es.length,nrq,rfl,HR⟩
 case round=>
  clear HR;obtain⟨j,hj,rfl,HR⟩:=hrel
  by_cases hz:j=0
  ·have HX:Hid (R=none):=by have:=HR.out;rw[hz]at this;exact this
   subst hz;go_wp2_with fail
   refine bodyPost_ret (v:=.tuple #[PE.zero.val,.bool false]) (by simp[results,Tryz.results105,go_sem];rfl) rfl ⟨?_,brq.alloc nrq _⟩;rw[HX.out];rfl
  ·obtain⟨k,rfl⟩:∃k,j=k+1:=⟨j - 1,by omega⟩
   have e1:((k+1:Nat):Int) - 1=(k:Int):=by omega
   rw[e1];obtain⟨x,hx⟩:=exq (es.getD k PE.zero);obtain⟨g,cap',JB,_,hg,hcell⟩:=TZ HP.out k (by omega);obtain⟨rfl,rfl⟩:ad=some ⟨g,0,none⟩∧cap=cap':=by simpa using JB
   rw[←hx]at hcell;have d0:w.cell? ⟨g,k*8,none⟩=some (.string x.name):=by simpa [PE.cells]using hcell 0 (by omega)
   have d1:w.cell? ⟨g,k*8+1,none⟩=some (.bool x.var):=by simpa [PE.cells]using hcell 1 (by omega)
   have d2:w.cell? ⟨g,k*8+2,none⟩=some (.int .i64 x.place):=by simpa [PE.cells]using hcell 2 (by omega)
   have d3:w.cell? ⟨g,k*8+3,none⟩=some (.int .i64 x.inf.need):=by simpa [PE.cells]using hcell 3 (by omega)
   have d4:w.cell? ⟨g,k*8+4,none⟩=some (.int .i64 x.inf.bu):=by simpa [PE.cells]using hcell 4 (by omega)
   have d5:w.cell? ⟨g,k*8+5,none⟩=some (.int .i64 x.inf.high):=by simpa [PE.cells]using hcell 5 (by omega)
   have d6:w.cell? ⟨g,k*8+6,none⟩=some (.int .i64 x.inf.steps):=by simpa [PE.cells]using hcell 6 (by omega)
   have d7:w.cell? ⟨g,k*8+7,none⟩=some (.bool (!x.inf.str)):=by simpa [PE.cells]using hcell 7 (by omega)
   clear e1 hz hcell JB
   by_cases he:(x.name.toList == s.toList)=true
   ·have HX:Hid (R=some x):=by have:=HR.out;rw[eH,←hx,if_pos he]at this;exact this
    clear hx;go_wp2_with fail
    refine bodyPost_ret (v:=.tuple #[x.val,.bool true]) (by simp[results,Tryz.results105,go_sem];rfl) rfl ⟨?_,brq.alloc nrq _⟩;rw[HX.out];rfl
   ·have HX:Hid (R=eH es s k):=by have:=HR.out;rw[eH,←hx,if_neg he]at this;exact this
    have he':(x.name.toList == s.toList)=false:=by simpa using he
    clear hx he;go_wp2_with fail
    go_round
    case rel=>exact⟨k,by omega,by go_num,HX⟩
    case measure=>simp[intOf]
end
section
open Go.RowKit
theorem iC.aA{S:Nat→Prop}{w w':World}{bb:Nat}{ev cv:Value}{es:List PE}{nv nt:Int}{code:List Int}(h:iC w bb ev cv es nv nt code)(hc:aj S w w')(h1:¬S bb)(h2:∀k,ev.ownBlock=some k→¬S k)(h3:∀k,cv.ownBlock=some k→¬S k):iC w' bb ev cv es nv nt code:=
 ⟨h.blk.aA hc h1,af h.row hc h2,af h.iO hc h3,h.up⟩
theorem iC.below{w w':World}{bb:Nat}{ev cv:Value}{es:List PE}{nv nt:Int}{code:List Int}(h:iC w bb ev cv es nv nt code)(hb:Below w.heap.size w w'):iC w' bb ev cv es nv nt code:=
 h.aA (aj.au (S:=fun _=>False) hb) id (fun _ _=>id) (fun _ _=>id)
def Zy:Array Value:= #[.string ⟨#[]⟩,.bool false,.int .i64 0,.int .i64 0,.int .i64 0,.int .i64 0,.int .i64 0,.bool false]
theorem az.Zy{w:World}{b:Nat}{t:TypeId}(h:az w b Zy t):w.cell? ⟨b,0,none⟩=some (.string ⟨#[]⟩)∧w.cell? ⟨b,1,none⟩=some (.bool false)∧w.cell? ⟨b,2,none⟩=some (.int .i64 0)∧w.cell? ⟨b,3,none⟩=some (.int .i64 0)∧w.cell? ⟨b,4,none⟩=some (.int .i64 0)∧w.cell? ⟨b,5,none⟩=some (.int .i64 0)∧w.cell? ⟨b,6,none⟩=some (.int .i64 0)∧w.cell? ⟨b,7,none⟩=some (.bool false):=
 ⟨h.cell 0 _ rfl,h.cell 1 _ rfl,h.cell 2 _ rfl,h.cell 3 _ rfl,h.cell 4 _ rfl,h.cell 5 _ rfl,h.cell 6 _ rfl,h.cell 7 _ rfl⟩
theorem az.Zz{w:World}{b:Nat}{t:TypeId}{cs:Array Value}(h:az w b cs t):w.frozen? ⟨b,0,none⟩=false∧w.frozen? ⟨b,1,none⟩=false∧w.frozen? ⟨b,2,none⟩=false∧w.frozen? ⟨b,3,none⟩=false∧w.frozen? ⟨b,4,none⟩=false∧w.frozen? ⟨b,5,none⟩=false∧w.frozen? ⟨b,6,none⟩=false∧w.frozen? ⟨b,7,none⟩=false:=
 ⟨h.frozen 0,h.frozen 1,h.frozen 2,h.frozen 3,h.frozen 4,h.frozen 5,h.frozen 6,h.frozen 7⟩
theorem az.sub{w w':World}{b:Nat}{cs:Array Value}{t:TypeId}{B:Nat}(h:az w b cs t)(hb:Below B w w')(hB:b<B):az w' b cs t:=(hb.block b hB).trans h
def EU:Option PE→Value
 |some e=>.tuple #[e.val,.bool (!e.var)]
 |none=>.tuple #[PE.zero.val,.bool false]
theorem Pv{w:World}{bb:Nat}{ev cv:Value}{es:List PE}{nv nt:Int}{code:List Int}(s:ByteArray)(h:iC w bb ev cv es nv nt code)(hl:es.length≤1000):
  Calls Tryz.prog 72 #[.pointer (some ⟨bb,0,none⟩),.string s] w fun e w'=>e=.returned (EU (eH es s es.length))∧Below w.heap.size w w':=by
 have HL:=ast (fun w' hb=>nS s (h.below (w':=w') hb) hl);obtain⟨R,hR⟩:=exq (eH es s es.length);rw[←hR]at HL ⊢;clear h hR
 obtain⟨n,v,p,a1,a2,a3,a4,a5,f,hl1,hl2⟩:∃(n:ByteArray) (v:Bool) (p a1 a2 a3 a4:Int) (a5 f:Bool),rD R=.tuple #[.agg #[.string n,.bool v,.int .i64 p,.int .i64 a1,.int .i64 a2,.int .i64 a3,.int .i64 a4,.bool a5],.bool f]∧EU R=.tuple #[.agg #[.string n,.bool v,.int .i64 p,.int .i64 a1,.int .i64 a2,.int .i64 a3,.int .i64 a4,.bool a5],.bool (f&&!v)]:=by
  rcases R with _|x
  ·exact⟨_,_,_,_,_,_,_,_,_,rfl,rfl⟩
  ·exact⟨_,_,_,_,_,_,_,_,_,rfl,rfl⟩
 rw[hl1]at HL;rw[hl2];clear hl1 hl2;go_enter Tryz.func72,Tryz.ntmps72
 go_wp2_with fail
 have hb0:Below w.heap.size w (w.alloc (.cells Zy 153 (0,0))):=brq.alloc nrq _;have hk0:=ay w Zy 153;refine(HL.out _ hb0).mono ?_;rintro e w1 ⟨rfl,hb1⟩;have dM:=hk0.sub hb1 (by simp);have iD:=dM.lt;have lK:Below w.heap.size w w1:=hb0.trans (hb1.mono (by simp));have dX:=ast lK;have pU:=ast dM;clear hb0 hk0 hb1 dM lK HL
 cases f
 ·obtain⟨W,hW⟩:=exq (w1.alloc (.cells #[.string n,.bool v,.int .i64 p,.int .i64 a1,.int .i64 a2,.int .i64 a3,.int .i64 a4,.bool a5] 153 (0,0)):World)
  obtain⟨E,hE⟩:=exq (w1.heap.size);have sF:az W E #[.string n,.bool v,.int .i64 p,.int .i64 a1,.int .i64 a2,.int .i64 a3,.int .i64 a4,.bool a5] 153:=by rw[hW,hE];exact ay w1 _ _
  have Px:az W w.heap.size Zy 153:=by rw[hW];exact pU.out.alloc _
  have hbW:Below w.heap.size w W:=by rw[hW];exact dX.out.alloc dX.out.size _
  have hne:E≠w.heap.size:=by omega
  have XG:w.heap.size≠E:=by omega
  obtain⟨g0,g1,g2,g3,g4,g5,g6,g7⟩:=Px.Zz;obtain⟨z0,z1,z2,z3,z4,z5,z6,z7⟩:=Px.Zy;have e0:=sF.cell 0 _ rfl;have e1:=sF.cell 1 _ rfl;have e2:=sF.cell 2 _ rfl;have e3:=sF.cell 3 _ rfl;have e4:=sF.cell 4 _ rfl;have e5:=sF.cell 5 _ rfl;have e6:=sF.cell 6 _ rfl;have e7:=sF.cell 7 _ rfl;simp only[List.getElem_toArray,List.getElem_cons_succ,List.getElem_cons_zero]at e0 e1 e2 e3 e4 e5 e6 e7;have HKR:=ast Px;have EW:=ast hbW;clear sF Px hbW;go_upto_region 2 with fail
  rw[←hW];rw[←hE];clear hW hE dX pU iD;go_region
  go_wp2_with fail
  refine bodyPost_ret (v:=.tuple #[.agg #[.string n,.bool v,.int .i64 p,.int .i64 a1,.int .i64 a2,.int .i64 a3,.int .i64 a4,.bool a5],.bool (false&&!v)]) (by simp[results,Tryz.results72,go_sem,z0,z1,z2,z3,z4,z5,z6,z7]) rfl ⟨rfl,?_⟩;exact((((((((EW.out.setCell nrq _).setCell nrq _).setCell nrq _).setCell nrq _).setCell nrq _).setCell nrq _).setCell nrq _).setCell nrq _).drew
 ·obtain⟨W,hW⟩:=exq (w1.alloc (.cells #[.string n,.bool v,.int .i64 p,.int .i64 a1,.int .i64 a2,.int .i64 a3,.int .i64 a4,.bool a5] 153 (0,0)):World)
  obtain⟨E,hE⟩:=exq (w1.heap.size);have sF:az W E #[.string n,.bool v,.int .i64 p,.int .i64 a1,.int .i64 a2,.int .i64 a3,.int .i64 a4,.bool a5] 153:=by rw[hW,hE];exact ay w1 _ _
  have Px:az W w.heap.size Zy 153:=by rw[hW];exact pU.out.alloc _
  have hbW:Below w.heap.size w W:=by rw[hW];exact dX.out.alloc dX.out.size _
  have hne:E≠w.heap.size:=by omega
  have XG:w.heap.size≠E:=by omega
  obtain⟨g0,g1,g2,g3,g4,g5,g6,g7⟩:=Px.Zz;obtain⟨z0,z1,z2,z3,z4,z5,z6,z7⟩:=Px.Zy;have e0:=sF.cell 0 _ rfl;have e1:=sF.cell 1 _ rfl;have e2:=sF.cell 2 _ rfl;have e3:=sF.cell 3 _ rfl;have e4:=sF.cell 4 _ rfl;have e5:=sF.cell 5 _ rfl;have e6:=sF.cell 6 _ rfl;have e7:=sF.cell 7 _ rfl;simp only[List.getElem_toArray,List.getElem_cons_succ,List.getElem_cons_zero]at e0 e1 e2 e3 e4 e5 e6 e7;have HKR:=ast Px;have EW:=ast hbW;clear sF Px hbW;go_upto_region 2 with fail
  rw[←hW];rw[←hE];clear hW hE dX pU iD;go_region_held3 (fun w'=>w'.cell? ⟨E,0,none⟩=some (.string n)∧w'.cell? ⟨E,1,none⟩=some (.bool v)∧w'.cell? ⟨E,2,none⟩=some (.int .i64 p)∧w'.cell? ⟨E,3,none⟩=some (.int .i64 a1)∧w'.cell? ⟨E,4,none⟩=some (.int .i64 a2)∧w'.cell? ⟨E,5,none⟩=some (.int .i64 a3)∧w'.cell? ⟨E,6,none⟩=some (.int .i64 a4)∧w'.cell? ⟨E,7,none⟩=some (.bool a5)) (go_keep) (fail)
  go_wp2_with fail
  refine bodyPost_ret (v:=.tuple #[.agg #[.string n,.bool v,.int .i64 p,.int .i64 a1,.int .i64 a2,.int .i64 a3,.int .i64 a4,.bool a5],.bool (true&&!v)]) (by simp[results,Tryz.results72,go_sem,z0,z1,z2,z3,z4,z5,z6,z7]) rfl ⟨rfl,?_⟩;exact((((((((EW.out.setCell nrq _).setCell nrq _).setCell nrq _).setCell nrq _).setCell nrq _).setCell nrq _).setCell nrq _).setCell nrq _).drew
end
section
open Go.RowKit
def aid:Option PE→Value
 |some e=>if e.var=true then .tuple #[.agg aV,.int .i64 3]else .tuple #[e.inf.val,.int .i64 0]
 |none=>.tuple #[.agg aV,.int .i64 3]
def iT:Option PE→Value
 |some e=>if e.var=true then .tuple #[.int .i64 0,.int .i64 3]else .tuple #[.int .i64 e.place,.int .i64 0]
 |none=>.tuple #[.int .i64 0,.int .i64 3]
theorem Aq{w:World}{bb:Nat}{ev cv:Value}{es:List PE}{nv nt:Int}{code:List Int}(s:ByteArray)(h:iC w bb ev cv es nv nt code)(hl:es.length≤1000):
  Calls Tryz.prog 43 #[.pointer (some ⟨bb,0,none⟩),.string s] w fun e w'=>e=.returned (iT (eH es s es.length))∧Below w.heap.size w w':=by
 have HL:=ast (fun w' hb=>Pv s (h.below (w':=w') hb) hl);obtain⟨R,hR⟩:=exq (eH es s es.length);rw[←hR]at HL ⊢;clear h hR
 obtain⟨n,v,p,a1,a2,a3,a4,a5,f,hl1,hl2⟩:∃(n:ByteArray) (v:Bool) (p a1 a2 a3 a4:Int) (a5 f:Bool),EU R=.tuple #[.agg #[.string n,.bool v,.int .i64 p,.int .i64 a1,.int .i64 a2,.int .i64 a3,.int .i64 a4,.bool a5],.bool f]∧iT R=.tuple #[.int .i64 (if f=true then p else 0),.int .i64 (if f=true then 0 else 3)]:=by
  rcases R with _|⟨n,v,p,i⟩
  ·exact⟨_,_,_,_,_,_,_,_,_,rfl,rfl⟩
  ·cases v
   ·exact⟨_,_,_,_,_,_,_,_,_,rfl,by simp[iT]⟩
   ·exact⟨_,_,_,_,_,_,_,_,_,rfl,by simp[iT]⟩
 rw[hl1]at HL;rw[hl2];clear hl1 hl2;go_enter Tryz.func43,Tryz.ntmps43
 go_wp2_with fail
 refine(HL.out _ brq).mono ?_;rintro e w1 ⟨rfl,hb1⟩;have HB:=ast hb1;clear hb1 HL
 cases f
 ·go_wp2_with fail
  refine bodyPost_ret (v:=.tuple #[.int .i64 0,.int .i64 3]) (by simp[results,Tryz.results43,go_sem]) rfl ⟨rfl,?_⟩;exact HB.out.alloc HB.out.size _
 ·go_wp2_with fail
  refine bodyPost_ret (v:=.tuple #[.int .i64 p,.int .i64 0]) (by simp[results,Tryz.results43,go_sem]) rfl ⟨rfl,?_⟩;exact HB.out.alloc HB.out.size _
theorem Ar{w:World}{bb:Nat}{ev cv:Value}{es:List PE}{nv nt:Int}{code:List Int}(h:iC w bb ev cv es nv nt code):
  Calls Tryz.prog 46 #[.pointer (some ⟨bb,0,none⟩)] w fun e w'=>e=.returned (.int .i64 nv)∧w'=w:=by
 have c1:w.cell? ⟨bb,1,none⟩=some (.int .i64 nv):=h.blk.cell 1 _ rfl;clear h;go_enter Tryz.func46,Tryz.ntmps46
 go_wp2
 go_ret
 exact⟨rfl,rfl⟩
theorem Py{w:World}{bb:Nat}{ev cv:Value}{es:List PE}{nv nt:Int}{code:List Int}(h:iC w bb ev cv es nv nt code):
  Calls Tryz.prog 48 #[.pointer (some ⟨bb,0,none⟩)] w fun e w'=>e=.returned cv∧w'=w:=by
 have c3:w.cell? ⟨bb,3,none⟩=some cv:=h.blk.cell 3 _ rfl;obtain⟨ad,cap,rfl,_⟩:=ag h.iO;clear h;go_enter Tryz.func48,Tryz.ntmps48
 go_wp2
 go_ret
 exact⟨rfl,rfl⟩
theorem XH:ai 28=⟨0,1,1,1,true⟩:=rfl
theorem Ob:ai 33=⟨0,0,0,1,true⟩:=rfl
theorem Pz(e:PE)(w:World)(ht:lh w)(he:e.inf.Ok):
  Calls Tryz.prog 191 #[e.val] w fun r w'=>r=.returned (.tuple #[.int .i64 (if e.var then 28 else 33),(if e.var then ai 28 else(ai 33).then e.inf).tm])∧Below w.heap.size w w':=by
 obtain⟨n,v,p,i⟩:=e;have BN:(ai 33).Ok:=by rw[Ob];constructor<;>decide
 have H28:=ast (fun w' (hb:Below w.heap.size w w')=>dV 28 w' (by omega) (ht.below hb));have ZA:=ast (fun w' (hb:Below w.heap.size w w')=>dV 33 w' (by omega) (ht.below hb));have HT:=ast (fun w'=>GG (ai 33) i BN he w');clear ht he BN;rw[XH]at H28 ⊢;rw[Ob]at ZA HT ⊢;unfold PE.val
 cases v
 ·simp only[Bool.false_eq_true,if_false]
  simp only[Inf.tm]at ZA HT ⊢;obtain⟨j,hj⟩:=exq (Inf.then ⟨0,0,0,1,true⟩ i);rw[←hj]at HT ⊢;clear hj;go_enter Tryz.func191,Tryz.ntmps191
  go_wp2_with fail
  have hc:=fun (B:Nat) (w0:World) (u:gW B w0) (b o:Nat) (h:b<B)=>u.cell b o h
  have hne:=gW.ne;refine aP (w.heap.size+1+1) 4 (by kernel_rfl) (by kernel_rfl) ?_;simp only[List.take_succ_cons,List.take_zero,List.drop_succ_cons,List.drop_zero]
  repeat (go_big_quiet_step ((first|(go_at_call 137;exact gW.calls (Nat.le_of_eq (by simp)) _ (ZA.out _ (mX (gW.below _))))|(go_at_call 203;exact gW.calls (Nat.le_of_eq (by simp)) _ (HT.out _)))))
  refine wpQuiet_nil ?_;intro u;obtain⟨w1,hb⟩:=u;have hz:=fun o=>hb.cell (p:=⟨w.heap.size+1,o,none⟩) (by simp)
  have hf:=fun o=>hb.frozen (p:=⟨w.heap.size+1,o,none⟩) (by simp)
  have c0:=hz 0;have c1:=hz 1;have c2:=hz 2;have c3:=hz 3;have c4:=hz 4;have f0:=hf 0;have f1:=hf 1;have f2:=hf 2;have f3:=hf 3;have f4:=hf 4;clear hz hf hc hne;simp[go_sem]at c0 c1 c2 c3 c4 f0 f1 f2 f3 f4;go_wp2
  refine bodyPost_ret (v:=.tuple #[.int .i64 33,.agg #[.int .i64 j.need,.int .i64 j.bu,.int .i64 j.high,.int .i64 j.steps,.bool (!j.str)]]) (by simp[results,Tryz.results191,go_sem,c0,c1,c2,c3,c4]) rfl ⟨rfl,?_⟩;exact((((((mX hb).setCell (Nat.le_succ _) _).setCell (Nat.le_succ _) _).setCell (Nat.le_succ _) _).setCell (Nat.le_succ _) _).setCell (Nat.le_succ _) _)
 ·simp only[if_true]
  simp only[Inf.tm]at H28 ⊢;go_enter Tryz.func191,Tryz.ntmps191
  go_wp2_with fail
  refine(H28.out _ ((brq.alloc nrq _).alloc (by simp) _)).mono ?_;rintro e w1 ⟨rfl,hb⟩;have hz:=fun o=>hb.cell (p:=⟨w.heap.size+1,o,none⟩) (by simp)
  have hf:=fun o=>hb.frozen (p:=⟨w.heap.size+1,o,none⟩) (by simp)
  have c0:=hz 0;have c1:=hz 1;have c2:=hz 2;have c3:=hz 3;have c4:=hz 4;have f0:=hf 0;have f1:=hf 1;have f2:=hf 2;have f3:=hf 3;have f4:=hf 4;have HB:=ast (Below.trans ((brq.alloc nrq _).alloc (by simp) _) (hb.mono (by simp;omega)));clear hz hf hb;simp[go_sem]at c0 c1 c2 c3 c4 f0 f1 f2 f3 f4;go_wp2
  refine bodyPost_ret (v:=.tuple #[.int .i64 28,.agg #[.int .i64 0,.int .i64 1,.int .i64 1,.int .i64 1,.bool (!true)]]) (by simp[results,Tryz.results191,go_sem,c0,c1,c2,c3,c4]) rfl ⟨rfl,?_⟩;exact(((((HB.out.setCell (Nat.le_succ _) _).setCell (Nat.le_succ _) _).setCell (Nat.le_succ _) _).setCell (Nat.le_succ _) _).setCell (Nat.le_succ _) _)
end
section
open Go.RowKit
structure PB where
 opener:Int
 lF:Bool
 hole:Int
 times:Int
 does:Inf
 other:Inf
 numbers:Int
 a0:Int
 a1:Int
def PB.cells(b:PB):List Value:=[.int .i64 b.opener,.bool b.lF,.int .i64 b.hole,.int .i64 b.times,.int .i64 b.does.need,.int .i64 b.does.bu,.int .i64 b.does.high,.int .i64 b.does.steps,.bool (!b.does.str),.int .i64 b.other.need,.int .i64 b.other.bu,.int .i64 b.other.high,.int .i64 b.other.steps,.bool (!b.other.str),.int .i64 b.numbers,.int .i64 b.a0,.int .i64 b.a1]
def qN(l:List Int):List Value:=l.map (Value.int .i64)
def oN(bb:Nat)(tk:Int)(cv bv:Value)(k:Inf):Array Value:= #[.pointer (some ⟨bb,0,none⟩),.int .i64 tk,cv,bv,.int .i64 k.need,.int .i64 k.bu,.int .i64 k.high,.int .i64 k.steps,.bool (!k.str)]
abbrev RC:=Array Value×Nat×Array Value
def Rdg(w:World)(rb:Nat)(rc:RC):Prop:=az w rb rc.1 199∧az w rc.2.1 rc.2.2 163
structure DS (w0 w:World) (rb:Nat) (rc:RC) (bb db:Nat) (ev bI bC bv:Value) (es:List PE) (nv nt:Int) (pc dc:List Int) (tk:Int) (bs:List PB) (kn:Inf):Prop where
 sys:iC w bb ev bI es nv nt pc
 blk:az w db (oN bb tk bC bv kn) 209
 iO:w.ownsRow 3 3 1 bC dc.length (qN dc)
 row:w.ownsRow w0.heap.size 244 17 bv bs.length (bs.flatMap PB.cells)
 tab:lh w
 bK:Rdg w rb rc
 ru:3≤rb
 tl:3≤w0.heap.size
 pre:∃l,dc=pc++l
 new:w0.heap.size≤db
 loc:bC.ownBlock=bI.ownBlock∨∃k,bC.ownBlock=some k∧w0.heap.size≤k
 Cf:aj (fun b=>b=rb∨bI.ownBlock=some b) w0 w
theorem bH{w:World}{b:Nat}{cs cs':Array Value}{t t':TypeId}(h:az w b cs t)(h':az w b cs' t'):t=t':=by
 unfold az at h h';rw[h]at h';simp at h';exact h'.2
theorem kG{w:World}{b b':Nat}{cs cs':Array Value}{t t':TypeId}(h:az w b cs t)(h':az w b' cs' t')(hne:t≠t'):b≠b':=by
 rintro rfl;exact hne (bH h h')
theorem ah{w:World}{base:Nat}{e t:TypeId}{size n b:Nat}{v:Value}{xs:List Value}{cs:Array Value}(h:w.ownsRow base e size v n xs)(hb:az w b cs t)(hne:t≠e):v.ownBlock≠some b:=by
 intro hv;rcases h.2 with ⟨rfl,_⟩|⟨g,cap,cur,rfl,_,hg,_⟩
 ·cases hv
 ·obtain rfl:g=b:=by simpa [Value.ownBlock]using hv
  exact hne (bH hb hg)
theorem bQ{w:World}{base base':Nat}{e e':TypeId}{size size' n n':Nat}{v v':Value}{xs xs':List Value}(h:w.ownsRow base e size v n xs)(h':w.ownsRow base' e' size' v' n' xs')(hne:e≠e'){k:Nat}(hk:v.ownBlock=some k):v'.ownBlock≠some k:=by
 rcases h.2 with ⟨rfl,_⟩|⟨g,cap,cur,rfl,_,hg,_⟩
 ·cases hk
 ·obtain rfl:g=k:=by simpa [Value.ownBlock]using hk
  exact ah h' (show az w g cur e from hg) hne
theorem DS.aA{w0 w w':World}{rb bb db:Nat}{rc:RC}{ev bI bC bv:Value}{es:List PE}{nv nt:Int}{pc dc:List Int}{tk:Int}{bs:List PB}{kn:Inf}
  (h:DS w0 w rb rc bb db ev bI bC bv es nv nt pc dc tk bs kn) (hc:aj (fun b=>b=rb) w w') {rc1:Array Value} (hr:az w' rb rc1 199):DS w0 w' rb (rc1,rc.2) bb db ev bI bC bv es nv nt pc dc tk bs kn:=by
 have hrb:=h.bK.1;have hgb:=h.bK.2;have n1:bb≠rb:=by rintro rfl;exact absurd (bH h.sys.blk hrb) (by decide)
 have n2:db≠rb:=by rintro rfl;exact absurd (bH h.blk hrb) (by decide)
 have no:∀{base:Nat} {e:TypeId} {size n:Nat} {v:Value} {xs:List Value},w.ownsRow base e size v n xs→199≠e→∀k,v.ownBlock=some k→¬k=rb:=fun ho hne k hk e=>ah ho hrb hne (by rw[hk,e])
 refine⟨h.sys.aA hc n1 (no h.sys.row (by decide)) (no h.sys.iO (by decide)),h.blk.aA hc n2,af h.iO hc (no h.iO (by decide)),af h.row hc (no h.row (by decide)),h.tab.aA hc (fun k e=>by have:=h.ru;omega),⟨hr,hgb.aA hc (kG hgb hrb (by decide))⟩,h.ru,h.tl,h.pre,h.new,h.loc,h.Cf.trans (hc.mono (fun k _ e=>Or.inl e))⟩
theorem DS.ZB{w0 w:World}{rb bb db:Nat}{rc:RC}{ev bI bC bv:Value}{es:List PE}{nv nt:Int}{pc dc:List Int}{tk:Int}{bs:List PB}{kn:Inf}
  (h:DS w0 w rb rc bb db ev bI bC bv es nv nt pc dc tk bs kn) (xb:Nat) (xc:Array Value) (hx:az w xb xc 163):DS w0 w rb (rc.1,xb,xc) bb db ev bI bC bv es nv nt pc dc tk bs kn:=
 {h with bK:=⟨h.bK.1,hx⟩}
theorem DS.below{w0 w w':World}{rb bb db:Nat}{rc:RC}{ev bI bC bv:Value}{es:List PE}{nv nt:Int}{pc dc:List Int}{tk:Int}{bs:List PB}{kn:Inf}
  (h:DS w0 w rb rc bb db ev bI bC bv es nv nt pc dc tk bs kn) (hb:Below w.heap.size w w'):DS w0 w' rb rc bb db ev bI bC bv es nv nt pc dc tk bs kn:=
 h.aA (aj.au hb) ((hb.block rb h.bK.1.lt).trans h.bK.1)
theorem DS.def{w0 w:World}{rb bb db:Nat}{rc:RC}{ev bI bC bv:Value}{es:List PE}{nv nt:Int}{pc dc:List Int}{tk:Int}{bs:List PB}{kn:Inf}
  (h:DS w0 w rb rc bb db ev bI bC bv es nv nt pc dc tk bs kn):w.cell? ⟨db,0,none⟩=some (.pointer (some ⟨bb,0,none⟩))∧w.cell? ⟨db,1,none⟩=some (.int .i64 tk)∧w.cell? ⟨db,2,none⟩=some bC∧w.cell? ⟨db,3,none⟩=some bv:=
 ⟨h.blk.cell 0 _ rfl,h.blk.cell 1 _ rfl,h.blk.cell 2 _ rfl,h.blk.cell 3 _ rfl⟩
theorem DS.last{w0 w:World}{rb bb db:Nat}{rc:RC}{ev bI bC bv:Value}{es:List PE}{nv nt:Int}{pc dc:List Int}{tk:Int}{bs:List PB}{b:PB}{kn:Inf}
  (h:DS w0 w rb rc bb db ev bI bC bv es nv nt pc dc tk (bs++[b]) kn):∃g cap,bv=.slice (some ⟨g,0,none⟩) (bs.length+1) cap∧bs.length+1≤cap∧w0.heap.size≤g∧g<w.heap.size∧(∀o,w.frozen? ⟨g,o,none⟩=false)∧∀j u,b.cells[j]?=some u→w.cell? ⟨g,bs.length*17+j,none⟩=some u:=by
 have hr:=h.row;rw[List.length_append,List.length_singleton]at hr;obtain⟨g,cap,hv,hb,hg,h1,_,hc⟩:=aB hr (by omega);refine⟨g,cap,hv,h1,hb,hg,fun o=>?_,fun j u hu=>hc _ _ ?_⟩
 ·rcases hr.2 with ⟨_,h0⟩|⟨g',cap',cur,hv',_,hh,_⟩
  ·omega
  ·obtain⟨rfl,rfl⟩:g=g'∧cap=cap':=by rw[hv]at hv';simpa using hv'
   simp[World.frozen?,hh]
 ·have hl:=flat_length PB.cells 17 (fun _=>rfl) bs
  rw[List.flatMap_append,List.getElem?_append_right (by omega),hl,Nat.add_sub_cancel_left];simpa using hu
theorem bZ{w0 w:World}{rb bb db:Nat}{rc:RC}{ev bI bC bv:Value}{es:List PE}{nv nt:Int}{pc dc:List Int}{tk:Int}{bs:List PB}{b:PB}{kn:Inf}
  (h:DS w0 w rb rc bb db ev bI bC bv es nv nt pc dc tk (bs++[b]) kn) (hl:bs.length≤1000000000) (g cap:Nat) (hg:bv=.slice (some ⟨g,0,none⟩) (bs.length+1) cap) (hcap:bs.length+1≤cap):
  Calls Tryz.prog 180 #[.pointer (some ⟨db,0,none⟩)] w fun e w'=>e=.returned (.pointer (some ⟨g,bs.length*17,none⟩))∧Below w.heap.size w w':=by
 obtain⟨c0,c1,c2,c3⟩:=h.def;rw[hg]at c3;clear h hg c0 c1 c2;generalize bs.length=m at *;have h1:(m:Int)<(m:Int)+1:=by omega
 have h2:(0:Int)≤(m:Int):=by omega
 have h3:(m:Int)≤1000000000:=by omega
 clear hl;go_enter Tryz.func180,Tryz.ntmps180
 go_wp2
 go_quiet (fail)
 go_wp2
 go_ret
 exact⟨rfl,⟨rfl,rfl,rfl,nrq,fun _ _=>rfl⟩⟩
end
section
open Go.RowKit
structure CU (w w1:World) (bC v1 bI:Value) (pc dc:List Int):Prop where
 row:w1.ownsRow 3 3 1 v1 dc.length (qN dc)
 sys:w1.ownsRow 3 3 1 bI pc.length (qN pc)
 len:pc.length≤dc.length
 aA:aj (fun b=>bC.ownBlock=some b) w w1
 loc:v1.ownBlock=bC.ownBlock∨∃k,v1.ownBlock=some k∧w.heap.size≤k
theorem CU.alloc{w w1:World}{bC v1 bI:Value}{pc dc:List Int}(h:CU w w1 bC v1 bI pc dc)(o:Obj):CU w (w1.alloc o) bC v1 bI pc dc:=
 ⟨af h.row ((aj.refl (fun _=>False) w1).alloc o) (fun _ _=>id),af h.sys ((aj.refl (fun _=>False) w1).alloc o) (fun _ _=>id),h.len,h.aA.alloc o,h.loc⟩
theorem CU.more{w w1 w2:World}{bC v1 v2 bI:Value}{pc dc l:List Int}(h:CU w w1 bC v1 bI pc dc)
  (h2:w2.ownsRow 3 3 1 v2 (dc.length+l.length) (qN dc++qN l)) (hg:w1.grownBy w2 v1.ownBlock) (hat:v2.ownBlock=v1.ownBlock∨v2.ownBlock=some w1.heap.size) (hk:NM w1 w2 3 1 dc.length v1):
  CU w w2 bC v2 bI pc (dc++l):=by
 refine⟨by simpa [qN]using h2,Eu h.row h.sys hg hk (fun _ _=>⟨rfl,rfl,h.len⟩),by have:=h.len;simp;omega,?_,?_⟩
 ·refine⟨hg.os.trans h.aA.os,hg.tape.trans h.aA.tape,hg.output.trans h.aA.output,Nat.le_trans h.aA.size hg.size,fun k dM hn=>?_⟩
  refine(hg.block k (Nat.lt_of_lt_of_le dM h.aA.size) (fun e=>?_)).trans (h.aA.block k dM hn);rcases h.loc with h1|⟨k',h1,h3⟩
  ·exact hn (by rw[←h1,←e])
  ·rw[h1]at e;simp at e;omega
 ·rcases hat with h1|h1
  ·rw[h1];exact h.loc
  ·exact Or.inr ⟨_,h1,h.aA.size⟩
theorem aj.jG{S T:Nat→Prop}{w0 w w':World}(h:aj S w0 w)(h2:aj T w w')(ht:∀k,k<w0.heap.size→T k→S k):aj S w0 w':=
 ⟨h2.os.trans h.os,h2.tape.trans h.tape,h2.output.trans h.output,Nat.le_trans h.size h2.size,fun k hk hn=>(h2.block k (Nat.lt_of_lt_of_le hk h.size) (fun e=>hn (ht k hk e))).trans (h.block k hk hn)⟩
theorem DS.cu{w0 w:World}{rb bb db:Nat}{rc:RC}{ev bI bC bv:Value}{es:List PE}{nv nt:Int}{pc dc:List Int}{tk:Int}{bs:List PB}{kn:Inf}
  (h:DS w0 w rb rc bb db ev bI bC bv es nv nt pc dc tk bs kn):CU w w bC bC bI pc dc:=
 ⟨h.iO,h.sys.iO,by obtain⟨l,rfl⟩:=h.pre;simp,aj.refl _ _,Or.inl rfl⟩
theorem DS.emit{w0 w w2:World}{rb bb db:Nat}{rc:RC}{ev bI bC v2 bv:Value}{es:List PE}{nv nt:Int}{pc dc l:List Int}{tk:Int}{bs:List PB}{kn:Inf}
  (h:DS w0 w rb rc bb db ev bI bC bv es nv nt pc dc tk bs kn) (hc:CU w w2 bC v2 bI pc (dc++l)):DS w0 (w2.setCell ⟨db,2,none⟩ v2) rb rc bb db ev bI v2 bv es nv nt pc (dc++l) tk bs kn:=by
 have hrb:=h.bK.1;have hgb:=h.bK.2;have nb:bC.ownBlock≠some bb:=ah h.iO h.sys.blk (by decide);have nd:bC.ownBlock≠some db:=ah h.iO h.blk (by decide);have nr:bC.ownBlock≠some rb:=ah h.iO hrb (by decide);have n1:db≠bb:=by rintro rfl;exact absurd (bH h.blk h.sys.blk) (by decide)
 have n2:db≠rb:=by rintro rfl;exact absurd (bH h.blk hrb) (by decide)
 have hb2:az w2 db (oN bb tk bC bv kn) 209:=h.blk.aA hc.aA nd
 have EX:∀{base:Nat} {e:TypeId} {size n:Nat} {v:Value} {xs:List Value},w2.ownsRow base e size v n xs→209≠e→(w2.setCell ⟨db,2,none⟩ v2).ownsRow base e size v n xs:=fun ho hne=>
  af ho ((aj.refl (fun b=>b=db) w2).setCell (p:=⟨db,2,none⟩) rfl _) (fun k hk e=>ah ho hb2 hne (by rw[hk,e]))
 refine⟨⟨(h.sys.blk.aA hc.aA nb).setOther n1 _,EX (af h.sys.row hc.aA (fun k hk e=>bQ h.sys.row h.iO (by decide) hk e)) (by decide),EX hc.sys (by decide),h.sys.up⟩,?_,EX hc.row (by decide),
  EX (af h.row hc.aA (fun k hk e=>bQ h.row h.iO (by decide) hk e)) (by decide),?_,⟨(hrb.aA hc.aA nr).setOther n2 _,(hgb.aA hc.aA (ah h.iO hgb (by decide))).setOther (kG h.blk hgb (by decide)) _⟩,h.ru,h.tl,?_,h.new,?_,?_⟩
 ·have:=hb2.set (o:=2) v2;simpa [oN]using this
 ·refine(h.tab.aA hc.aA ?_).aA ((aj.refl (fun b=>b=db) w2).setCell (p:=⟨db,2,none⟩) rfl _) (fun k e=>by have:=h.new;have:=h.tl;omega)
  intro k e;rcases h.iO.2 with ⟨rfl,_⟩|⟨g,cap,cur,rfl,hg,_⟩
  ·cases e
  ·simp[Value.ownBlock]at e;omega
 ·obtain⟨l0,rfl⟩:=h.pre;exact⟨l0++l,by simp⟩
 ·rcases hc.loc with h1|⟨k,h1,h2⟩
  ·rw[h1];exact h.loc
  ·exact Or.inr ⟨k,h1,Nat.le_trans h.Cf.size h2⟩
 ·refine(h.Cf.jG hc.aA ?_).jG ((aj.refl (fun b=>b=db) w2).setCell (p:=⟨db,2,none⟩) rfl _) (fun k hk e=>by have:=h.new;omega)
  intro k hk e;rcases h.loc with h1|⟨k',h1,h2⟩
  ·exact Or.inr (by rw[←h1,e])
  ·rw[h1]at e;simp at e;omega
theorem ae4(w:World)(a:Value)(t:TypeId):∀j u,[a][j]?=some u→(w.alloc (.cells #[a] t)).cell? ((⟨w.heap.size,0,none⟩:Addr).add j)=some u:=by
 intro k u hu
 match k,hu with
 |0,hu=>simp at hu;subst hu;simp[Addr.add]
theorem ae5(k:IntKind)(b:Int):∀u∈[Value.int k b],u.oneCell'=true:=by
 intro u hu;simp at hu;subst hu;rfl
theorem Tryz.XI:(Tryz.prog.info? 3).map (fun i=>(i.zero,i.size,i.bytes))=some (some (.int .i64 0),1,8):=by kernel_rfl
def ae6(w:World)(bC sv:Value)(l:List Int):Prop:=
 (sv=.slice none 0 0∧l=[])∨∃vb x,sv=.slice (some ⟨vb,0,none⟩) 1 1∧l=[x]∧w.cell? ⟨vb,0,none⟩=some (.int .i64 x)∧vb<w.heap.size∧bC.ownBlock≠some vb
theorem jM{w0 w:World}{rb bb db:Nat}{rc:RC}{ev bI bC bv:Value}{es:List PE}{nv nt:Int}{pc dc:List Int}{tk:Int}{bs:List PB}{kn:Inf}
  (h:DS w0 w rb rc bb db ev bI bC bv es nv nt pc dc tk bs kn) (op:Int) (sv:Value) (l:List Int) (hs:ae6 w bC sv l) (hl:dc.length≤100000000):
  Calls Tryz.prog 181 #[.pointer (some ⟨db,0,none⟩),.int .i64 op,sv] w fun e w'=>e=.returned (.tuple #[])∧(∃v2,DS w0 w' rb rc bb db ev bI v2 bv es nv nt pc (dc++op :: l) tk bs kn)∧aj (fun b=>b=db∨bC.ownBlock=some b) w w':=by
 obtain⟨c0,c1,c2,c3⟩:=h.def;have f2:=h.blk.frozen 2;have hdl:=h.blk.lt;have hcu:=ast (h.cu.alloc (.cells #[.int .i64 op] 3 (0,0)));have nd:bC.ownBlock≠some db:=ah h.iO h.blk (by decide);obtain⟨ad,cap,hdv,hcap,_⟩:=ag h.iO;obtain⟨i0,hi,hz0,hz1,hz2⟩:=info_parts Tryz.XI;have wJ:3≤(w.alloc (.cells #[.int .i64 op] 3 (0,0))).heap.size:=by have:=h.tab.lt;simp;omega
 have OQ:=ast wJ;have HD:=ast h;have HN:=ast nd;have HS:=ast hs;clear h c0 c1 c3 nd hs wJ;subst hdv;go_enter Tryz.func181,Tryz.ntmps181
 go_wp2_with (at_builtin;refine jr _ rfl _ _ 24 rfl 3 3 i0 (.int .i64 0) 1 8 Tryz.underlying24 hi hz0 hz1 hz2 rfl (by decide) _ _ _ rfl hcu.out.row ⟨w.heap.size,0,none⟩ 1 1 [.int .i64 op] rfl rfl (ae4 _ _ _) (ae5 _ _) (by unfold maxLen;omega) (by omega) OQ.out ?_)
 intro v1 w1 h2 hg hat hk;have cu1:=hcu.out.more (l:=[op]) (by simpa [qN]using h2) hg (by simpa using hat) hk;have hlen1:(dc++[op]).length=dc.length+1:=by simp
 have Oc:=cu1.row;rw[hlen1]at Oc;obtain⟨g1,oO,ZC,_,hg1,hc1,hm1,_⟩:=aB Oc (by omega);have uQ:az w1 db (oN bb tk (.slice ad dc.length cap) bv kn) 209:=HD.out.blk.aA cu1.aA HN.out;have Au:=ast uQ;have e2:w1.cell? ⟨db,2,none⟩=some (.slice ad dc.length cap):=uQ.cell 2 _ rfl;have q2:=uQ.frozen 2;have HCU:=ast cu1;have Xt:w.heap.size≤w1.heap.size:=cu1.aA.size;have ae8:3≤w1.heap.size:=Nat.le_trans HD.out.tab.lt Xt;have ae9:=ast ae8;have JG:=ast Oc;subst ZC;clear h2 hg hat hk cu1 Oc uQ hcu OQ c2 f2 ae8;rcases HS.out with ⟨rfl,rfl⟩|⟨vb,x,rfl,rfl,hvb,EY,hvn⟩
 ·clear HS
  go_wp2_with (at_builtin;refine lS _ rfl _ _ 24 rfl 3 i0 Tryz.underlying24 hi ⟨g1,0,none⟩ (dc.length+1) oO rfl hc1 rfl ?_)
  go_wp2_with fail
  go_end0
  refine⟨rfl,⟨_,HD.out.emit (l:=[op]) HCU.out⟩,?_⟩;exact(HCU.out.aA.mono (fun k _ e=>Or.inr e)).trans ((aj.refl (fun b=>b=db∨(Value.slice ad dc.length cap).ownBlock=some b) w1).setCell (p:=⟨db,2,none⟩) (Or.inl rfl) _)
 ·have afa:w1.cell? ⟨vb,0,none⟩=some (.int .i64 x):=(HCU.out.aA.cell (p:=⟨vb,0,none⟩) EY hvn).trans hvb
  have hnew:∀j u,[Value.int .i64 x][j]?=some u→w1.cell? ((⟨vb,0,none⟩:Addr).add j)=some u:=by
   intro k u hu
   match k,hu with
   |0,hu=>simp at hu;subst hu;simpa [Addr.add]using afa
  have JH:=ast hnew;clear HS afa hnew hvb;go_wp2_with (at_builtin;refine jr _ rfl _ _ 24 rfl 3 3 i0 (.int .i64 0) 1 8 Tryz.underlying24 hi hz0 hz1 hz2 rfl (by decide) _ _ _ rfl JG.out ⟨vb,0,none⟩ 1 1 [.int .i64 x] rfl rfl JH.out (ae5 _ _) (by unfold maxLen;omega) (by omega) ae9.out ?_)
  intro v2 w2 h2 hg hat hk;have cu2:=HCU.out.more (l:=[x]) (by simpa [qN]using h2) hg hat (by rw[hlen1];exact hk);have hlen2:(dc++[op]++[x]).length=dc.length+1+1:=by simp
  have hrow2:=cu2.row;rw[hlen2]at hrow2;obtain⟨g2,bf,hv2,_⟩:=aB hrow2 (by omega);have Aw:az w2 db (oN bb tk (.slice ad dc.length cap) bv kn) 209:=HD.out.blk.aA cu2.aA HN.out;have e3:w2.cell? ⟨db,2,none⟩=some (.slice ad dc.length cap):=Aw.cell 2 _ rfl;have q3:=Aw.frozen 2;have afb:=ast cu2;subst hv2;clear h2 hg hat hk cu2 hrow2 Aw ae9 e2 q2;go_wp2_with fail
  have hap:dc++op :: [x]=dc++[op]++[x]:=by simp
  go_end0
  refine⟨rfl,⟨_,HD.out.emit (l:=[op,x]) (by rw[hap];exact afb.out)⟩,?_⟩;exact(afb.out.aA.mono (fun k _ e=>Or.inr e)).trans ((aj.refl (fun b=>b=db∨(Value.slice ad dc.length cap).ownBlock=some b) w2).setCell (p:=⟨db,2,none⟩) (Or.inl rfl) _)
end
section
open Go.RowKit
theorem dA{w:World}{base:Nat}{e:TypeId}{size g n cap k:Nat}{F cs:List Value}(h:w.ownsRow base e size (.slice (some ⟨g,0,none⟩) n cap) n (F++cs))(hF:F.length=k)(j:Nat)(u:Value):
  (w.setCell ⟨g,k+j,none⟩ u).ownsRow base e size (.slice (some ⟨g,0,none⟩) n cap) n (F++cs.set j u):=by
 have:=fO h (k+j) u;rw[List.set_append_right _ _ (by omega),hF,Nat.add_sub_cancel_left]at this;exact this
theorem DS.setLast{w0 w w':World}{rb bb db:Nat}{rc:RC}{ev bI bC:Value}{es:List PE}{nv nt:Int}{pc dc:List Int}{tk:Int}{bs:List PB}{b b':PB}{kn:Inf}{g n cap:Nat}
  (h:DS w0 w rb rc bb db ev bI bC (.slice (some ⟨g,0,none⟩) n cap) es nv nt pc dc tk (bs++[b]) kn) (hc:aj (fun k=>k=g) w w')
  (hr:w'.ownsRow w0.heap.size 244 17 (.slice (some ⟨g,0,none⟩) n cap) (bs.length+1) (bs.flatMap PB.cells++b'.cells)):
  DS w0 w' rb rc bb db ev bI bC (.slice (some ⟨g,0,none⟩) n cap) es nv nt pc dc tk (bs++[b']) kn:=by
 have hrb:=h.bK.1;have hgb:=h.bK.2;have no:∀{c:Array Value} {t:TypeId} {k:Nat},az w k c t→t≠244→¬k=g:=fun hb hne e=>ah h.row hb hne (by rw[e];rfl)
 have n2:∀{base:Nat} {e:TypeId} {size n:Nat} {v:Value} {xs:List Value},w.ownsRow base e size v n xs→e≠244→∀k,v.ownBlock=some k→¬k=g:=fun ho hne k hk e=>bQ ho h.row hne hk (by rw[e];rfl)
 have hge:w0.heap.size≤g:=by
  rcases h.row.2 with ⟨hx,_⟩|⟨g',cap',cur,hv,hb,_⟩
  ·cases hx
  ·obtain⟨rfl,rfl⟩:g=g'∧cap=cap':=by simp at hv;exact⟨hv.1,hv.2.2⟩
   exact hb
 refine⟨h.sys.aA hc (no h.sys.blk (by decide)) (n2 h.sys.row (by decide)) (n2 h.sys.iO (by decide)),h.blk.aA hc (no h.blk (by decide)),af h.iO hc (n2 h.iO (by decide)),by simpa using hr,h.tab.aA hc (fun k e=>by have:=h.tl;omega),⟨hrb.aA hc (no hrb (by decide)),hgb.aA hc (no hgb (by decide))⟩,h.ru,h.tl,h.pre,h.new,h.loc,h.Cf.jG hc (fun k hk e=>by omega)⟩
def PB.add(b:PB)(i:Inf):PB:={b with does:=b.does.then i,numbers:=0}
theorem jO{w0 w:World}{rb bb db:Nat}{rc:RC}{ev bI bC bv:Value}{es:List PE}{nv nt:Int}{pc dc:List Int}{tk:Int}{bs:List PB}{b:PB}{kn:Inf}
  (h:DS w0 w rb rc bb db ev bI bC bv es nv nt pc dc tk (bs++[b]) kn) (i:Inf) (hi:i.Ok) (hd:b.does.Ok) (hl:bs.length≤1000000000):
  Calls Tryz.prog 182 #[.pointer (some ⟨db,0,none⟩),i.tm] w fun e w'=>e=.returned (.tuple #[])∧DS w0 w' rb rc bb db ev bI bC bv es nv nt pc dc tk (bs++[b.add i]) kn∧aj (fun k=>bv.ownBlock=some k) w w':=by
 obtain⟨g,cap,hv,hcap,hge,hg,hfr,hcell⟩:=h.last;have HI:=ast (fun w' (hb:Below w.heap.size w w')=>bZ (h.below (w':=w') hb) hl g cap hv hcap);have HT:=ast (fun w'=>GG b.does i hd hi w');have d4:w.cell? ⟨g,bs.length*17+4,none⟩=some (.int .i64 b.does.need):=hcell 4 _ rfl;have d5:w.cell? ⟨g,bs.length*17+5,none⟩=some (.int .i64 b.does.bu):=hcell 5 _ rfl;have d6:w.cell? ⟨g,bs.length*17+6,none⟩=some (.int .i64 b.does.high):=hcell 6 _ rfl;have d7:w.cell? ⟨g,bs.length*17+7,none⟩=some (.int .i64 b.does.steps):=hcell 7 _ rfl;have d8:w.cell? ⟨g,bs.length*17+8,none⟩=some (.bool (!b.does.str)):=hcell 8 _ rfl;have d14:w.cell? ⟨g,bs.length*17+14,none⟩=some (.int .i64 b.numbers):=hcell 14 _ rfl;subst hv;have HD:=ast h;clear h hcell;simp only[Inf.tm]at HT ⊢;go_enter Tryz.func182,Tryz.ntmps182
 go_wp2_with fail
 have hb0:Below w.heap.size w (w.alloc (.cells #[.int .i64 i.need,.int .i64 i.bu,.int .i64 i.high,.int .i64 i.steps,.bool (!i.str)] 151 (0,0))):=brq.alloc nrq _;have hk0:=ay w #[.int .i64 i.need,.int .i64 i.bu,.int .i64 i.high,.int .i64 i.steps,.bool (!i.str)] 151;refine(HI.out _ hb0).mono ?_;rintro e w1 ⟨rfl,hb1⟩;have dM:=hk0.sub hb1 (by simp);have iD:=dM.lt;have lK:Below w.heap.size w w1:=hb0.trans (hb1.mono (by simp));have i0:=dM.cell 0 _ rfl;have i1:=dM.cell 1 _ rfl;have i2:=dM.cell 2 _ rfl;have i3:=dM.cell 3 _ rfl;have i4:=dM.cell 4 _ rfl;simp only[List.getElem_toArray,List.getElem_cons_succ,List.getElem_cons_zero]at i0 i1 i2 i3 i4;replace d4:=(lK.cell (p:=⟨g,bs.length*17+4,none⟩) hg).trans d4;replace d5:=(lK.cell (p:=⟨g,bs.length*17+5,none⟩) hg).trans d5;replace d6:=(lK.cell (p:=⟨g,bs.length*17+6,none⟩) hg).trans d6;replace d7:=(lK.cell (p:=⟨g,bs.length*17+7,none⟩) hg).trans d7;replace d8:=(lK.cell (p:=⟨g,bs.length*17+8,none⟩) hg).trans d8;replace d14:=(lK.cell (p:=⟨g,bs.length*17+14,none⟩) hg).trans d14;have dX:=ast lK;have PG:g<w1.heap.size:=Nat.lt_of_lt_of_le hg lK.size;clear hb0 hk0 hb1 dM lK HI;go_wp2_with fail
 have hc:=fun (B:Nat) (w0:World) (u:gW B w0) (b o:Nat) (h:b<B)=>u.cell b o h
 have hne:=gW.ne;refine aP w1.heap.size 7 (by kernel_rfl) (by kernel_rfl) ?_;simp only[List.take_succ_cons,List.take_zero,List.drop_succ_cons,List.drop_zero]
 repeat (go_big_quiet_step ((go_at_call 203;exact gW.calls nrq _ (HT.out _))))
 refine wpQuiet_nil ?_;intro u;obtain⟨w2,hb2⟩:=u;dsimp only;replace d4:=(hb2.cell (p:=⟨g,bs.length*17+4,none⟩) PG).trans d4;replace d5:=(hb2.cell (p:=⟨g,bs.length*17+5,none⟩) PG).trans d5;replace d6:=(hb2.cell (p:=⟨g,bs.length*17+6,none⟩) PG).trans d6;replace d7:=(hb2.cell (p:=⟨g,bs.length*17+7,none⟩) PG).trans d7;replace d8:=(hb2.cell (p:=⟨g,bs.length*17+8,none⟩) PG).trans d8;replace d14:=(hb2.cell (p:=⟨g,bs.length*17+14,none⟩) PG).trans d14;have aa3:Below w.heap.size w w2:=dX.out.trans (hb2.mono dX.out.size);have hfr2:∀o,w2.frozen? ⟨g,o,none⟩=false:=fun o=>(aa3.frozen (p:=⟨g,o,none⟩) hg).trans (hfr o)
 have q4:=hfr2 (bs.length*17+4);have q5:=hfr2 (bs.length*17+5);have q6:=hfr2 (bs.length*17+6);have q7:=hfr2 (bs.length*17+7);have q8:=hfr2 (bs.length*17+8);have q14:=hfr2 (bs.length*17+14);have gK:=ast aa3;clear hc hne hb2 aa3 hfr2 hfr i0 i1 i2 i3 i4 HT;obtain⟨r,hr⟩:=exq (b.does.then i);have HRR:=ast hr;rw[←hr];clear hr;go_wp2_with fail
 go_end0
 have jf:=HD.out.below gK.out;have hrow:=jf.row;rw[List.length_append,List.length_singleton,List.flatMap_append,List.flatMap_singleton]at hrow;have hF:=flat_length PB.cells 17 (fun _=>rfl) bs;have s1:=dA hrow hF 4 (.int .i64 r.need);have s2:=dA s1 hF 5 (.int .i64 r.bu);have s3:=dA s2 hF 6 (.int .i64 r.high);have s4:=dA s3 hF 7 (.int .i64 r.steps);have s5:=dA s4 hF 8 (.bool (!r.str));have s6:=dA s5 hF 14 (.int .i64 0)
 have hch:∀{V:World},V=(((((w2.setCell ⟨g,bs.length*17+4,none⟩ (.int .i64 r.need)).setCell ⟨g,bs.length*17+5,none⟩ (.int .i64 r.bu)).setCell ⟨g,bs.length*17+6,none⟩ (.int .i64 r.high)).setCell ⟨g,bs.length*17+7,none⟩ (.int .i64 r.steps)).setCell ⟨g,bs.length*17+8,none⟩ (.bool (!r.str))).setCell ⟨g,bs.length*17+14,none⟩ (.int .i64 0)→aj (fun k=>k=g) w2 V:=by
  rintro V rfl;exact((((((aj.refl (fun k=>k=g) w2).setCell (p:=⟨g,bs.length*17+4,none⟩) rfl _).setCell (p:=⟨g,bs.length*17+5,none⟩) rfl _).setCell (p:=⟨g,bs.length*17+6,none⟩) rfl _).setCell (p:=⟨g,bs.length*17+7,none⟩) rfl _).setCell (p:=⟨g,bs.length*17+8,none⟩) rfl _).setCell (p:=⟨g,bs.length*17+14,none⟩) rfl _
 refine⟨rfl,jf.setLast (b':=b.add i) (hch rfl) ?_,?_⟩
 ·have e:(((((b.cells.set 4 (.int .i64 r.need)).set 5 (.int .i64 r.bu)).set 6 (.int .i64 r.high)).set 7 (.int .i64 r.steps)).set 8 (.bool (!r.str))).set 14 (.int .i64 0)=(b.add i).cells:=by
   rw[HRR.out];rfl
  rw[e]at s6;exact s6
 ·exact(aj.au gK.out).trans ((hch rfl).mono (fun k _ e=>by rw[e];rfl))
end
end Go.Proofs.YtcphhbofjkenaaaGreatDoor
