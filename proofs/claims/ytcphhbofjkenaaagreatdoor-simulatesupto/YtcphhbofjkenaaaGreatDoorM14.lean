import Derived.Test.YtcphhbofjkenaaaGreatDoorMy
import Derived.Test.YtcphhbofjkenaaaGreatDoorM09
import Derived.Test.YtcphhbofjkenaaaGreatDoorSh
namespace Go.Proofs.YtcphhbofjkenaaaGreatDoor
open Go Go.RowKit Proofs.Tryz
set_option linter.unusedVariables false
set_option linter.unusedSimpArgs false
set_option maxRecDepth 100000
set_option maxHeartbeats 16000000
variable{w w' w0 w1 w2:World}{bb b base size n k rb db g cap:Nat}{ev cv v aX aT bv v1 v2:Value}{nv nt tk:Int}{code pc dc l:List Int}{S:Nat→Prop}{t t' e:TypeId}{cs cs':Array Value}{xs:List Value}{kn:Inf}
theorem RL{p:Prop}(h:p:=by
  go_wp2_with fail
  refine H1.mono ?_;rintro e w1 ⟨n,rfl,_,_,hb⟩;have HB:=af hb;clear hb H1;go_wp2_with fail;refine bodyPost_ret (v:=.tuple #[ae 0,.bool false]) FE rfl ⟨rfl,HB⟩):p:=h
section
open Go.RowKit
structure PE where
 name:ByteArray
 var:Bool
 place:Int
 inf:Inf
def PE.cells(e:PE):List Value:=[.string e.name,.bool e.var,ae e.place,ae e.inf.need,ae e.inf.aM,ae e.inf.high,ae e.inf.steps,.bool (!e.inf.str)]
def PE.val(e:PE):Value:=.agg #[.string e.name,.bool e.var,ae e.place,ae e.inf.need,ae e.inf.aM,ae e.inf.high,ae e.inf.steps,.bool (!e.inf.str)]
def PE.zero:PE:=⟨⟨#[]⟩,false,0,Inf.zero⟩
structure dF (w:World) (bb:Nat) (ev cv:Value) (es:List PE) (nv nt:Int) (code:List Int):Prop where
 blk:ay w bb #[ev,ae nv,ae nt,cv] 122
 row:w.ownsRow 3 153 8 ev es.length (es.flatMap PE.cells)
 bG:w.ownsRow 3 3 1 cv code.length (code.map (Value.int .i64))
 up:3≤bb
def lastP(es:List PE)(s:ByteArray):Nat→Option PE
 |0=>none
 |k+1=>if((es.getD k PE.zero).name.toList == s.toList)=true then some (es.getD k PE.zero)else lastP es s k
def lastRes:Option PE→Value
 |some e=>.tuple #[e.val,.bool true]
 |none=>.tuple #[PE.zero.val,.bool false]
theorem Y5{es:List PE}(h:dF w bb ev cv es nv nt code)(i:Nat)(hi:i<es.length):
  ∃g cap,ev=aD g es.length cap∧es.length≤cap∧g<w.heap.size∧∀j,j<8→w.cell? (ai g (i*8+j))=(es.getD i PE.zero).cells[j]?:=by
 obtain⟨g,cap,hv,_,hg,h1,_,hc⟩:=cd h.row ag;refine⟨g,cap,hv,h1,hg,fun j hj=>?_⟩;have e:=flat_get PE.cells 8 (fun _=>rfl) es i j hi hj;have hx:es.getD i PE.zero=es[i]:=by simp[hi]
 rw[hx];have hlt:j<(es[i]).cells.length:=hj;rw[bE hlt]at e ⊢;exact hc _ _ e
theorem Bd{es:List PE}(s:ByteArray)(h:dF w bb ev cv es nv nt code)(hl:es.length≤1000):
  Calls prog 105 #[ax bb,.string s] w fun e w'=>e=.returned (lastRes (lastP es s es.length))∧Below w.heap.size w w':=by
 obtain⟨R,hR⟩:=ak (lastP es s es.length);rw[←hR];have c0:w.cell? (ai bb 0)=some ev:=h.blk.cell 0 _ rfl;obtain⟨ad,cap,rfl,hcap,_⟩:=bo h.row;have hlt:=h.blk.lt;have HP:=af h;have HR:=af hR;clear h hR;go_enter func105,ntmps105;go_wp2_with fail;go_loop [6] (fun i=>∃j:Nat,j≤es.length∧i=ae ((j:Int) - 1)∧Hid (R=lastP es s j)) (fun i=>(intOf i+1).toNat)
 case atStart=>exact⟨es.length,aH,rfl,HR⟩
 case round=>
  clear HR;obtain⟨j,hj,rfl,HR⟩:=hrel
  by_cases hz:j=0
  ·have HX:Hid (R=none):=by have:=HR.out;rw[hz]at this;exact this
   subst hz;go_wp2_with fail;refine bodyPost_ret (v:=.tuple #[PE.zero.val,.bool false]) (by simp[results,results105,go_sem];rfl) rfl ⟨?_,aQ.alloc aH _⟩;rw[HX.out];rfl
  ·obtain⟨k,rfl⟩:∃k,j=k+1:=⟨j - 1,ag⟩
   have e1:((k+1:Nat):Int) - 1=(k:Int):=ag;rw[e1];obtain⟨x,hx⟩:=ak (es.getD k PE.zero);obtain⟨g,cap',nZ,_,hg,hcell⟩:=Y5 HP k ag;obtain⟨rfl,rfl⟩:ad=some (ai g 0)∧cap=cap':=by simpa using nZ
   rw[←hx]at hcell;have d0:w.cell? (ai g (k*8))=some (.string x.name):=by simpa [PE.cells]using hcell 0 ag
   have d1:w.cell? (ai g (k*8+1))=some (.bool x.var):=by simpa [PE.cells]using hcell 1 ag
   have d2:w.cell? (ai g (k*8+2))=some (ae x.place):=by simpa [PE.cells]using hcell 2 ag
   have d3:w.cell? (ai g (k*8+3))=some (ae x.inf.need):=by simpa [PE.cells]using hcell 3 ag
   have d4:w.cell? (ai g (k*8+4))=some (ae x.inf.aM):=by simpa [PE.cells]using hcell 4 ag
   have d5:w.cell? (ai g (k*8+5))=some (ae x.inf.high):=by simpa [PE.cells]using hcell 5 ag
   have d6:w.cell? (ai g (k*8+6))=some (ae x.inf.steps):=by simpa [PE.cells]using hcell 6 ag
   have d7:w.cell? (ai g (k*8+7))=some (.bool (!x.inf.str)):=by simpa [PE.cells]using hcell 7 ag
   clear e1 hz hcell nZ
   by_cases he:(x.name.toList == s.toList)=true
   ·have HX:Hid (R=some x):=by have:=HR.out;rw[lastP,←hx,aG he]at this;exact this
    clear hx;go_wp2_with fail;refine bodyPost_ret (v:=.tuple #[x.val,.bool true]) (by simp[results,results105,go_sem];rfl) rfl ⟨?_,aQ.alloc aH _⟩;rw[HX.out];rfl
   ·have HX:Hid (R=lastP es s k):=by have:=HR.out;rw[lastP,←hx,az he]at this;exact this
    have he':(x.name.toList == s.toList)=false:=by simpa using he
    clear hx he;go_wp2_with fail;go_round
    case rel=>exact⟨k,ag,bO,HX⟩
    case measure=>simp[intOf]
end
section
open Go.RowKit
theorem dF.aB{es:List PE}(h:dF w bb ev cv es nv nt code)(hc:aq S w w')(h1:¬S bb)(h2:∀k,ev.ownBlock=some k→¬S k)(h3:∀k,cv.ownBlock=some k→¬S k):dF w' bb ev cv es nv nt code:=
 ⟨h.blk.aB hc h1,aR h.row hc h2,aR h.bG hc h3,h.up⟩
theorem dF.below{es:List PE}(h:dF w bb ev cv es nv nt code)(hb:Below w.heap.size w w'):dF w' bb ev cv es nv nt code:=
 h.aB (aq.bf (S:=fun _=>False) hb) id (fun _ _=>id) (fun _ _=>id)
def pe0:Array Value:= #[.string ⟨#[]⟩,.bool false,ae 0,ae 0,ae 0,ae 0,ae 0,.bool false]
theorem ay.pe0{w:World}{b:Nat}{t:TypeId}(h:ay w b pe0 t):w.cell? (ai b 0)=some (.string ⟨#[]⟩)∧w.cell? (ai b 1)=some (.bool false)∧w.cell? (ai b 2)=some (ae 0)∧w.cell? (ai b 3)=some (ae 0)∧w.cell? (ai b 4)=some (ae 0)∧w.cell? (ai b 5)=some (ae 0)∧w.cell? (ai b 6)=some (ae 0)∧w.cell? (ai b 7)=some (.bool false):=
 ⟨h.cell 0 _ rfl,h.cell 1 _ rfl,h.cell 2 _ rfl,h.cell 3 _ rfl,h.cell 4 _ rfl,h.cell 5 _ rfl,h.cell 6 _ rfl,h.cell 7 _ rfl⟩
theorem ay.QK(h:ay w b cs t):w.frozen? (ai b 0)=false∧w.frozen? (ai b 1)=false∧w.frozen? (ai b 2)=false∧w.frozen? (ai b 3)=false∧w.frozen? (ai b 4)=false∧w.frozen? (ai b 5)=false∧w.frozen? (ai b 6)=false∧w.frozen? (ai b 7)=false:=
 ⟨h.frozen 0,h.frozen 1,h.frozen 2,h.frozen 3,h.frozen 4,h.frozen 5,h.frozen 6,h.frozen 7⟩
theorem ay.sub{B:Nat}(h:ay w b cs t)(hb:Below B w w')(hB:b<B):ay w' b cs t:=(hb.block b hB).trans h
def Di:Option PE→Value
 |some e=>.tuple #[e.val,.bool (!e.var)]
 |none=>.tuple #[PE.zero.val,.bool false]
theorem Lf{es:List PE}(s:ByteArray)(h:dF w bb ev cv es nv nt code)(hl:es.length≤1000):
  Calls prog 72 #[ax bb,.string s] w fun e w'=>e=.returned (Di (lastP es s es.length))∧Below w.heap.size w w':=by
 have HL:=af (fun w' hb=>Bd s (h.below (w':=w') hb) hl);obtain⟨R,hR⟩:=ak (lastP es s es.length);rw[←hR]at HL ⊢;clear h hR
 obtain⟨n,v,p,a1,a2,a3,a4,a5,f,hl1,hl2⟩:∃(n:ByteArray) (v:Bool) (p a1 a2 a3 a4:Int) (a5 f:Bool),lastRes R=.tuple #[.agg #[.string n,.bool v,ae p,ae a1,ae a2,ae a3,ae a4,.bool a5],.bool f]∧Di R=.tuple #[.agg #[.string n,.bool v,ae p,ae a1,ae a2,ae a3,ae a4,.bool a5],.bool (f&&!v)]:=by
  rcases R with _|x
  ·exact⟨_,_,_,_,_,_,_,_,_,rfl,rfl⟩
  ·exact⟨_,_,_,_,_,_,_,_,_,rfl,rfl⟩
 rw[hl1]at HL;rw[hl2];clear hl1 hl2;go_enter func72,ntmps72;go_wp2_with fail;have hb0:Below w.heap.size w (w.alloc (.cells pe0 153 (0,0))):=aQ.alloc aH _;have hk0:=bJ w pe0 153;refine(HL _ hb0).mono ?_;rintro e w1 ⟨rfl,hb1⟩;have bA:=hk0.sub hb1 aF;have j9:=bA.lt;have ct:Below w.heap.size w w1:=hb0.trans (hb1.mono aF);have bu:=af ct;have ft:=af bA;clear hb0 hk0 hb1 bA ct HL
 cases f
 ·obtain⟨W,hW⟩:=ak (w1.alloc (.cells #[.string n,.bool v,ae p,ae a1,ae a2,ae a3,ae a4,.bool a5] 153 (0,0)):World)
  obtain⟨E,hE⟩:=ak (w1.heap.size);have fh:ay W E #[.string n,.bool v,ae p,ae a1,ae a2,ae a3,ae a4,.bool a5] 153:=Fx;have pT:ay W w.heap.size pe0 153:=by rw[hW];exact ft.alloc _
  have hbW:Below w.heap.size w W:=Io;have hne:E≠w.heap.size:=ag;have CP:w.heap.size≠E:=ag;obtain⟨g0,g1,g2,g3,g4,g5,g6,g7⟩:=pT.QK;obtain⟨z0,z1,z2,z3,z4,z5,z6,z7⟩:=pT.pe0;have e0:=fh.cell 0 _ rfl;have e1:=fh.cell 1 _ rfl;have e2:=fh.cell 2 _ rfl;have e3:=fh.cell 3 _ rfl;have e4:=fh.cell 4 _ rfl;have e5:=fh.cell 5 _ rfl;have e6:=fh.cell 6 _ rfl;have e7:=fh.cell 7 _ rfl;simp only[List.getElem_toArray,List.getElem_cons_succ,List.getElem_cons_zero]at e0 e1 e2 e3 e4 e5 e6 e7;have HKR:=af pT;have uQ:=af hbW;clear fh pT hbW;go_upto_region 2 with fail
  rw[←hW];rw[←hE];clear hW hE bu ft j9;go_region;go_wp2_with fail;refine bodyPost_ret (v:=.tuple #[.agg #[.string n,.bool v,ae p,ae a1,ae a2,ae a3,ae a4,.bool a5],.bool (false&&!v)]) Kl rfl ⟨rfl,?_⟩;exact((((((((uQ.setCell aH _).setCell aH _).setCell aH _).setCell aH _).setCell aH _).setCell aH _).setCell aH _).setCell aH _).drew
 ·obtain⟨W,hW⟩:=ak (w1.alloc (.cells #[.string n,.bool v,ae p,ae a1,ae a2,ae a3,ae a4,.bool a5] 153 (0,0)):World)
  obtain⟨E,hE⟩:=ak (w1.heap.size);have fh:ay W E #[.string n,.bool v,ae p,ae a1,ae a2,ae a3,ae a4,.bool a5] 153:=Fx;have pT:ay W w.heap.size pe0 153:=by rw[hW];exact ft.alloc _
  have hbW:Below w.heap.size w W:=Io;have hne:E≠w.heap.size:=ag;have CP:w.heap.size≠E:=ag;obtain⟨g0,g1,g2,g3,g4,g5,g6,g7⟩:=pT.QK;obtain⟨z0,z1,z2,z3,z4,z5,z6,z7⟩:=pT.pe0;have e0:=fh.cell 0 _ rfl;have e1:=fh.cell 1 _ rfl;have e2:=fh.cell 2 _ rfl;have e3:=fh.cell 3 _ rfl;have e4:=fh.cell 4 _ rfl;have e5:=fh.cell 5 _ rfl;have e6:=fh.cell 6 _ rfl;have e7:=fh.cell 7 _ rfl;simp only[List.getElem_toArray,List.getElem_cons_succ,List.getElem_cons_zero]at e0 e1 e2 e3 e4 e5 e6 e7;have HKR:=af pT;have uQ:=af hbW;clear fh pT hbW;go_upto_region 2 with fail
  rw[←hW];rw[←hE];clear hW hE bu ft j9;go_region_held3 (fun w'=>w'.cell? (ai E 0)=some (.string n)∧w'.cell? (ai E 1)=some (.bool v)∧w'.cell? (ai E 2)=some (ae p)∧w'.cell? (ai E 3)=some (ae a1)∧w'.cell? (ai E 4)=some (ae a2)∧w'.cell? (ai E 5)=some (ae a3)∧w'.cell? (ai E 6)=some (ae a4)∧w'.cell? (ai E 7)=some (.bool a5)) (go_keep) (fail);go_wp2_with fail;refine bodyPost_ret (v:=.tuple #[.agg #[.string n,.bool v,ae p,ae a1,ae a2,ae a3,ae a4,.bool a5],.bool (true&&!v)]) Kl rfl ⟨rfl,?_⟩;exact((((((((uQ.setCell aH _).setCell aH _).setCell aH _).setCell aH _).setCell aH _).setCell aH _).setCell aH _).setCell aH _).drew
end
section
open Go.RowKit
def findRes:Option PE→Value
 |some e=>if e.var=true then .tuple #[.agg bR,ae 3]else .tuple #[e.inf.val,ae 0]
 |none=>.tuple #[.agg bR,ae 3]
def zD:Option PE→Value
 |some e=>if e.var=true then .tuple #[ae 0,ae 3]else .tuple #[ae e.place,ae 0]
 |none=>.tuple #[ae 0,ae 3]
theorem Y6{es:List PE}(s:ByteArray)(h:dF w bb ev cv es nv nt code)(hl:es.length≤1000):
  Calls prog 42 #[ax bb,.string s] w fun e w'=>e=.returned (findRes (lastP es s es.length))∧Below w.heap.size w w':=by
 have HL:=af (fun w' hb=>Lf s (h.below (w':=w') hb) hl);obtain⟨R,hR⟩:=ak (lastP es s es.length);rw[←hR]at HL ⊢;clear h hR
 obtain⟨n,v,p,a1,a2,a3,a4,a5,f,hl1,hl2⟩:∃(n:ByteArray) (v:Bool) (p a1 a2 a3 a4:Int) (a5 f:Bool),Di R=.tuple #[.agg #[.string n,.bool v,ae p,ae a1,ae a2,ae a3,ae a4,.bool a5],.bool f]∧findRes R=.tuple #[.agg (if f=true then #[ae a1,ae a2,ae a3,ae a4,.bool (!a5)]else bR),ae (if f=true then 0 else 3)]:=by
  rcases R with _|⟨n,v,p,i⟩
  ·exact⟨_,_,_,_,_,_,_,_,_,rfl,rfl⟩
  ·cases v
   ·exact⟨_,_,_,_,_,_,_,_,_,rfl,by simp[findRes,Inf.val]⟩
   ·exact⟨_,_,_,_,_,_,_,_,_,rfl,by simp[findRes]⟩
 rw[hl1]at HL;rw[hl2];clear hl1 hl2;go_enter func42,ntmps42;go_wp2_with fail;have hb0:Below w.heap.size w (w.alloc (.cells bR 36 (0,0))):=aQ.alloc aH _;have hk0:=bJ w bR 36;refine(HL _ hb0).mono ?_;rintro e w1 ⟨rfl,hb1⟩;have bA:=hk0.sub hb1 aF;have j9:=bA.lt;have ct:Below w.heap.size w w1:=hb0.trans (hb1.mono aF);have bu:=af ct;have ft:=af bA;clear hb0 hk0 hb1 bA ct HL;obtain⟨g0,g1,g2,g3,g4⟩:=ft.free;obtain⟨z0,z1,z2,z3,z4⟩:=ft.zero
 cases f
 ·go_wp2_with fail
  refine bodyPost_ret (v:=.tuple #[.agg bR,ae 3]) (by simp[results,results42,go_sem,z0,z1,z2,z3,z4,bR,j9]) rfl ⟨rfl,?_⟩;exact(((((bu.setCell aH _).setCell aH _).setCell aH _).setCell aH _).setCell aH _).alloc RP _
 ·go_wp2_with fail
  refine bodyPost_ret (v:=.tuple #[.agg #[ae a1,ae a2,ae a3,ae a4,.bool (!a5)],ae 0]) (by simp[results,results42,go_sem,z0,z1,z2,z3,z4,j9]) rfl ⟨rfl,?_⟩;exact(((((bu.setCell aH _).setCell aH _).setCell aH _).setCell aH _).setCell aH _).alloc RP _
theorem acw{es:List PE}(s:ByteArray)(h:dF w bb ev cv es nv nt code)(hl:es.length≤1000):
  Calls prog 43 #[ax bb,.string s] w fun e w'=>e=.returned (zD (lastP es s es.length))∧Below w.heap.size w w':=by
 have HL:=af (fun w' hb=>Lf s (h.below (w':=w') hb) hl);obtain⟨R,hR⟩:=ak (lastP es s es.length);rw[←hR]at HL ⊢;clear h hR
 obtain⟨n,v,p,a1,a2,a3,a4,a5,f,hl1,hl2⟩:∃(n:ByteArray) (v:Bool) (p a1 a2 a3 a4:Int) (a5 f:Bool),Di R=.tuple #[.agg #[.string n,.bool v,ae p,ae a1,ae a2,ae a3,ae a4,.bool a5],.bool f]∧zD R=.tuple #[ae (if f=true then p else 0),ae (if f=true then 0 else 3)]:=by
  rcases R with _|⟨n,v,p,i⟩
  ·exact⟨_,_,_,_,_,_,_,_,_,rfl,rfl⟩
  ·cases v
   ·exact⟨_,_,_,_,_,_,_,_,_,rfl,by simp[zD]⟩
   ·exact⟨_,_,_,_,_,_,_,_,_,rfl,by simp[zD]⟩
 rw[hl1]at HL;rw[hl2];clear hl1 hl2;go_enter func43,ntmps43;go_wp2_with fail;refine(HL _ aQ).mono ?_;rintro e w1 ⟨rfl,hb1⟩;have HB:=af hb1;clear hb1 HL
 cases f
 ·go_wp2_with fail
  refine bodyPost_ret (v:=.tuple #[ae 0,ae 3]) (by simp[results,results43,go_sem]) rfl ⟨rfl,?_⟩;exact HB.alloc HB.size _
 ·go_wp2_with fail
  refine bodyPost_ret (v:=.tuple #[ae p,ae 0]) (by simp[results,results43,go_sem]) rfl ⟨rfl,?_⟩;exact HB.alloc HB.size _
theorem XY{es:List PE}(h:dF w bb ev cv es nv nt code):
  Calls prog 46 #[ax bb] w fun e w'=>e=.returned (ae nv)∧w'=w:=by
 have c1:w.cell? (ai bb 1)=some (ae nv):=h.blk.cell 1 _ rfl;clear h;go_enter func46,ntmps46;go_wp2;go_ret;exact⟨rfl,rfl⟩
theorem Tx{es:List PE}(h:dF w bb ev cv es nv nt code):
  Calls prog 48 #[ax bb] w fun e w'=>e=.returned cv∧w'=w:=by
 have c3:w.cell? (ai bb 3)=some cv:=h.blk.cell 3 _ rfl;obtain⟨ad,cap,rfl,_⟩:=bo h.bG;clear h;go_enter func48,ntmps48;go_wp2;go_ret;exact⟨rfl,rfl⟩
theorem aap:aL 28=⟨0,1,1,1,true⟩:=rfl
theorem Ky:aL 33=⟨0,0,0,1,true⟩:=rfl
theorem TZ(e:PE)(w:World)(ht:cQ w)(he:e.inf.Ok):
  Calls prog 191 #[e.val] w fun r w'=>r=.returned (.tuple #[ae (if e.var then 28 else 33),(if e.var then aL 28 else(aL 33).then e.inf).tm])∧Below w.heap.size w w':=by
 obtain⟨n,v,p,i⟩:=e;have jE:(aL 33).Ok:=by rw[Ky];constructor<;>decide
 have H28:=af (fun w' (hb:Below w.heap.size w w')=>sD 28 w' ag (ht.below hb));have H33:=af (fun w' (hb:Below w.heap.size w w')=>sD 33 w' ag (ht.below hb));have HT:=af (fun w'=>Oz (aL 33) i jE he w');clear ht he jE;rw[aap]at H28 ⊢;rw[Ky]at H33 HT ⊢;unfold PE.val
 cases v
 ·simp only[Bool.false_eq_true,if_false]
  simp only[Inf.tm]at H33 HT ⊢;obtain⟨j,hj⟩:=ak (Inf.then ⟨0,0,0,1,true⟩ i);rw[←hj]at HT ⊢;clear hj;go_enter func191,ntmps191;go_wp2_with fail;have hc:=fun (B:Nat) (w0:World) (u:bN B w0) (b o:Nat) (h:b<B)=>u.cell b o h
  have hne:=bN.ne;refine vU (w.heap.size+1+1) 4 aP aP ?_;simp only[List.take_succ_cons,List.take_zero,List.drop_succ_cons,List.drop_zero]
  repeat (go_big_quiet_step ((first|(go_at_call 137;exact bN.calls (Nat.le_of_eq aF) _ (H33 _ (tz (bN.below _))))|(go_at_call 203;exact bN.calls (Nat.le_of_eq aF) _ (HT _)))))
  refine wpQuiet_nil ?_;intro u;obtain⟨w1,hb⟩:=u;have hz:=fun o=>hb.cell (p:=ai (w.heap.size+1) o) aF
  have hf:=fun o=>hb.frozen (p:=ai (w.heap.size+1) o) aF
  have c0:=hz 0;have c1:=hz 1;have c2:=hz 2;have c3:=hz 3;have c4:=hz 4;have f0:=hf 0;have f1:=hf 1;have f2:=hf 2;have f3:=hf 3;have f4:=hf 4;clear hz hf hc hne;simp[go_sem]at c0 c1 c2 c3 c4 f0 f1 f2 f3 f4;go_wp2;refine bodyPost_ret (v:=.tuple #[ae 33,.agg #[ae j.need,ae j.aM,ae j.high,ae j.steps,.bool (!j.str)]]) QP rfl ⟨rfl,?_⟩;exact((((((tz hb).setCell (Nat.le_succ _) _).setCell (Nat.le_succ _) _).setCell (Nat.le_succ _) _).setCell (Nat.le_succ _) _).setCell (Nat.le_succ _) _)
 ·simp only[if_true]
  simp only[Inf.tm]at H28 ⊢;go_enter func191,ntmps191;go_wp2_with fail;refine(H28 _ ((aQ.alloc aH _).alloc aF _)).mono ?_;rintro e w1 ⟨rfl,hb⟩;have hz:=fun o=>hb.cell (p:=ai (w.heap.size+1) o) aF
  have hf:=fun o=>hb.frozen (p:=ai (w.heap.size+1) o) aF
  have c0:=hz 0;have c1:=hz 1;have c2:=hz 2;have c3:=hz 3;have c4:=hz 4;have f0:=hf 0;have f1:=hf 1;have f2:=hf 2;have f3:=hf 3;have f4:=hf 4;have HB:=af (Below.trans ((aQ.alloc aH _).alloc aF _) (hb.mono aK));clear hz hf hb;simp[go_sem]at c0 c1 c2 c3 c4 f0 f1 f2 f3 f4;go_wp2;refine bodyPost_ret (v:=.tuple #[ae 28,.agg #[ae 0,ae 1,ae 1,ae 1,.bool (!true)]]) QP rfl ⟨rfl,?_⟩;exact(((((HB.setCell (Nat.le_succ _) _).setCell (Nat.le_succ _) _).setCell (Nat.le_succ _) _).setCell (Nat.le_succ _) _).setCell (Nat.le_succ _) _)
end
section
open Go.RowKit
structure PB where
 opener:Int
 iN:Bool
 hole:Int
 times:Int
 does:Inf
 other:Inf
 numbers:Int
 a0:Int
 a1:Int
def PB.cells(b:PB):List Value:=[ae b.opener,.bool b.iN,ae b.hole,ae b.times,ae b.does.need,ae b.does.aM,ae b.does.high,ae b.does.steps,.bool (!b.does.str),ae b.other.need,ae b.other.aM,ae b.other.high,ae b.other.steps,.bool (!b.other.str),ae b.numbers,ae b.a0,ae b.a1]
def sM(l:List Int):List Value:=l.map (Value.int .i64)
def kV(bb:Nat)(tk:Int)(cv bv:Value)(k:Inf):Array Value:= #[ax bb,ae tk,cv,bv,ae k.need,ae k.aM,ae k.high,ae k.steps,.bool (!k.str)]
abbrev RC:=Array Value×Nat×Array Value
def Rdg(w:World)(rb:Nat)(rc:RC):Prop:=ay w rb rc.1 199∧ay w rc.2.1 rc.2.2 163
structure DS (w0 w:World) (rb:Nat) (rc:RC) (bb db:Nat) (ev aX aT bv:Value) (es:List PE) (nv nt:Int) (pc dc:List Int) (tk:Int) (bs:List PB) (kn:Inf):Prop where
 sys:dF w bb ev aX es nv nt pc
 blk:ay w db (kV bb tk aT bv kn) 209
 bG:w.ownsRow 3 3 1 aT dc.length (sM dc)
 row:w.ownsRow w0.heap.size 244 17 bv bs.length (bs.flatMap PB.cells)
 tab:cQ w
 aO:Rdg w rb rc
 ru:3≤rb
 tl:3≤w0.heap.size
 pre:∃l,dc=pc++l
 new:w0.heap.size≤db
 loc:aT.ownBlock=aX.ownBlock∨∃k,aT.ownBlock=some k∧w0.heap.size≤k
 jS:aq (fun b=>b=rb∨aX.ownBlock=some b) w0 w
theorem kE(h:ay w b cs t)(h':ay w b cs' t'):t=t':=by
 unfold ay at h h';rw[h]at h';simp at h';exact h'.2
theorem pK{b':Nat}(h:ay w b cs t)(h':ay w b' cs' t')(hne:t≠t'):b≠b':=by
 rintro rfl;exact hne (kE h h')
theorem aZ(h:w.ownsRow base e size v n xs)(hb:ay w b cs t)(hne:t≠e):v.ownBlock≠some b:=by
 intro hv;rcases h.2 with ⟨rfl,_⟩|⟨g,cap,cur,rfl,_,hg,_⟩
 ·cases hv
 ·obtain rfl:g=b:=by simpa [Value.ownBlock]using hv
  exact hne (kE hb hg)
theorem fw{base':Nat}{e':TypeId}{size' n':Nat}{v':Value}{xs':List Value}(h:w.ownsRow base e size v n xs)(h':w.ownsRow base' e' size' v' n' xs')(hne:e≠e')(hk:v.ownBlock=some k):v'.ownBlock≠some k:=by
 rcases h.2 with ⟨rfl,_⟩|⟨g,cap,cur,rfl,_,hg,_⟩
 ·cases hk
 ·obtain rfl:g=k:=by simpa [Value.ownBlock]using hk
  exact aZ h' (show ay w g cur e from hg) hne
theorem DS.aB{rc:RC}{es:List PE}{bs:List PB}
  (h:DS w0 w rb rc bb db ev aX aT bv es nv nt pc dc tk bs kn) (hc:aq (fun b=>b=rb) w w') {rc1:Array Value} (hr:ay w' rb rc1 199):DS w0 w' rb (rc1,rc.2) bb db ev aX aT bv es nv nt pc dc tk bs kn:=by
 have hrb:=h.aO.1;have hgb:=h.aO.2;have n1:bb≠rb:=by rintro rfl;exact absurd (kE h.sys.blk hrb) aj
 have n2:db≠rb:=Cm;have no:∀{base:Nat} {e:TypeId} {size n:Nat} {v:Value} {xs:List Value},w.ownsRow base e size v n xs→199≠e→∀k,v.ownBlock=some k→¬k=rb:=fun ho hne k hk e=>aZ ho hrb hne jr
 refine⟨h.sys.aB hc n1 (no h.sys.row aj) (no h.sys.bG aj),h.blk.aB hc n2,aR h.bG hc (no h.bG aj),aR h.row hc (no h.row aj),h.tab.aB hc (fun k e=>by have:=h.ru;omega),⟨hr,hgb.aB hc (pK hgb hrb aj)⟩,h.ru,h.tl,h.pre,h.new,h.loc,h.jS.trans (hc.mono (fun k _ e=>aC e))⟩
theorem DS.Ni{rc:RC}{es:List PE}{bs:List PB}
  (h:DS w0 w rb rc bb db ev aX aT bv es nv nt pc dc tk bs kn) (xb:Nat) (xc:Array Value) (hx:ay w xb xc 163):DS w0 w rb (rc.1,xb,xc) bb db ev aX aT bv es nv nt pc dc tk bs kn:=
 {h with aO:=⟨h.aO.1,hx⟩}
theorem DS.below{rc:RC}{es:List PE}{bs:List PB}
  (h:DS w0 w rb rc bb db ev aX aT bv es nv nt pc dc tk bs kn) (hb:Below w.heap.size w w'):DS w0 w' rb rc bb db ev aX aT bv es nv nt pc dc tk bs kn:=
 h.aB (aq.bf hb) ((hb.block rb h.aO.1.lt).trans h.aO.1)
theorem DS.def{rc:RC}{es:List PE}{bs:List PB}
  (h:DS w0 w rb rc bb db ev aX aT bv es nv nt pc dc tk bs kn):w.cell? (ai db 0)=some (ax bb)∧w.cell? (ai db 1)=some (ae tk)∧w.cell? (ai db 2)=some aT∧w.cell? (ai db 3)=some bv:=
 ⟨h.blk.cell 0 _ rfl,h.blk.cell 1 _ rfl,h.blk.cell 2 _ rfl,h.blk.cell 3 _ rfl⟩
theorem DS.last{rc:RC}{es:List PE}{bs:List PB}{b:PB}
  (h:DS w0 w rb rc bb db ev aX aT bv es nv nt pc dc tk (bs++[b]) kn):∃g cap,bv=aD g (bs.length+1) cap∧bs.length+1≤cap∧w0.heap.size≤g∧g<w.heap.size∧(∀o,w.frozen? (ai g o)=false)∧∀j u,b.cells[j]?=some u→w.cell? (ai g (bs.length*17+j))=some u:=by
 have hr:=h.row;rw[cF,gJ]at hr;obtain⟨g,cap,hv,hb,hg,h1,_,hc⟩:=cd hr ag;refine⟨g,cap,hv,h1,hb,hg,fun o=>?_,fun j u hu=>hc _ _ ?_⟩
 ·rcases hr.2 with ⟨_,h0⟩|⟨g',cap',cur,hv',_,hh,_⟩
  ·omega
  ·obtain⟨rfl,rfl⟩:g=g'∧cap=cap':=by rw[hv]at hv';simpa using hv'
   simp[World.frozen?,hh]
 ·have hl:=flat_length PB.cells 17 (fun _=>rfl) bs
  rw[kS,fP ag,hl,Nat.add_sub_cancel_left];simpa using hu
theorem ko{rc:RC}{es:List PE}{bs:List PB}{b:PB}
  (h:DS w0 w rb rc bb db ev aX aT bv es nv nt pc dc tk (bs++[b]) kn) (hl:bs.length≤1000000000) (g cap:Nat) (hg:bv=aD g (bs.length+1) cap) (hcap:bs.length+1≤cap):
  Calls prog 180 #[ax db] w fun e w'=>e=.returned (.pointer (some (ai g (bs.length*17))))∧Below w.heap.size w w':=by
 obtain⟨c0,c1,c2,c3⟩:=h.def;rw[hg]at c3;clear h hg c0 c1 c2;generalize bs.length=m at *;have h1:(m:Int)<(m:Int)+1:=ag;have h2:(0:Int)≤(m:Int):=ag;have h3:(m:Int)≤1000000000:=ag;clear hl;go_enter func180,ntmps180;go_wp2;go_quiet (fail);go_wp2;go_ret;exact⟨rfl,⟨rfl,rfl,rfl,aH,fun _ _=>rfl⟩⟩
end
section
open Go.RowKit
structure CU (w w1:World) (aT v1 aX:Value) (pc dc:List Int):Prop where
 row:w1.ownsRow 3 3 1 v1 dc.length (sM dc)
 sys:w1.ownsRow 3 3 1 aX pc.length (sM pc)
 len:pc.length≤dc.length
 aB:aq (fun b=>aT.ownBlock=some b) w w1
 loc:v1.ownBlock=aT.ownBlock∨∃k,v1.ownBlock=some k∧w.heap.size≤k
theorem CU.alloc(h:CU w w1 aT v1 aX pc dc)(o:Obj):CU w (w1.alloc o) aT v1 aX pc dc:=
 ⟨aR h.row ((aq.refl (fun _=>False) w1).alloc o) (fun _ _=>id),aR h.sys ((aq.refl (fun _=>False) w1).alloc o) (fun _ _=>id),h.len,h.aB.alloc o,h.loc⟩
theorem CU.more(h:CU w w1 aT v1 aX pc dc)
  (h2:w2.ownsRow 3 3 1 v2 (dc.length+l.length) (sM dc++sM l)) (hg:w1.grownBy w2 v1.ownBlock) (hat:v2.ownBlock=v1.ownBlock∨v2.ownBlock=some w1.heap.size) (hk:En w1 w2 3 1 dc.length v1):
  CU w w2 aT v2 aX pc (dc++l):=by
 refine⟨by simpa [sM]using h2,ZL h.row h.sys hg hk (fun _ _=>⟨rfl,rfl,h.len⟩),by have:=h.len;simp;omega,?_,?_⟩
 ·refine⟨hg.os.trans h.aB.os,hg.tape.trans h.aB.tape,hg.output.trans h.aB.output,bB h.aB.size hg.size,fun k bA hn=>?_⟩
  refine(hg.block k (bF bA h.aB.size) (fun e=>?_)).trans (h.aB.block k bA hn);rcases h.loc with h1|⟨k',h1,h3⟩
  ·exact hn (by rw[←h1,←e])
  ·rw[h1]at e;simp at e;omega
 ·rcases hat with h1|h1
  ·rw[h1];exact h.loc
  ·exact aA ⟨_,h1,h.aB.size⟩
theorem aq.fz{T:Nat→Prop}(h:aq S w0 w)(h2:aq T w w')(ht:∀k,k<w0.heap.size→T k→S k):aq S w0 w':=
 ⟨h2.os.trans h.os,h2.tape.trans h.tape,h2.output.trans h.output,bB h.size h2.size,fun k hk hn=>(h2.block k (bF hk h.size) (fun e=>hn (ht k hk e))).trans (h.block k hk hn)⟩
theorem DS.cu{rc:RC}{es:List PE}{bs:List PB}
  (h:DS w0 w rb rc bb db ev aX aT bv es nv nt pc dc tk bs kn):CU w w aT aT aX pc dc:=
 ⟨h.bG,h.sys.bG,by obtain⟨l,rfl⟩:=h.pre;simp,aq.refl _ _,aC rfl⟩
theorem DS.emit{rc:RC}{es:List PE}{bs:List PB}
  (h:DS w0 w rb rc bb db ev aX aT bv es nv nt pc dc tk bs kn) (hc:CU w w2 aT v2 aX pc (dc++l)):DS w0 (w2.setCell (ai db 2) v2) rb rc bb db ev aX v2 bv es nv nt pc (dc++l) tk bs kn:=by
 have hrb:=h.aO.1;have hgb:=h.aO.2;have nb:aT.ownBlock≠some bb:=aZ h.bG h.sys.blk aj;have nd:aT.ownBlock≠some db:=aZ h.bG h.blk aj;have nr:aT.ownBlock≠some rb:=aZ h.bG hrb aj;have n1:db≠bb:=Fu;have n2:db≠rb:=Cm;have hb2:ay w2 db (kV bb tk aT bv kn) 209:=h.blk.aB hc.aB nd
 have jU:∀{base:Nat} {e:TypeId} {size n:Nat} {v:Value} {xs:List Value},w2.ownsRow base e size v n xs→209≠e→(w2.setCell (ai db 2) v2).ownsRow base e size v n xs:=fun ho hne=>
  aR ho ((aq.refl (fun b=>b=db) w2).setCell (p:=ai db 2) rfl _) (fun k hk e=>aZ ho hb2 hne jr)
 refine⟨⟨(h.sys.blk.aB hc.aB nb).setOther n1 _,jU (aR h.sys.row hc.aB (fun k hk e=>fw h.sys.row h.bG aj hk e)) aj,jU hc.sys aj,h.sys.up⟩,?_,jU hc.row aj,
  jU (aR h.row hc.aB (fun k hk e=>fw h.row h.bG aj hk e)) aj,?_,⟨(hrb.aB hc.aB nr).setOther n2 _,(hgb.aB hc.aB (aZ h.bG hgb aj)).setOther (pK h.blk hgb aj) _⟩,h.ru,h.tl,?_,h.new,?_,?_⟩
 ·have:=hb2.set (o:=2) v2;simpa [kV]using this
 ·refine(h.tab.aB hc.aB ?_).aB ((aq.refl (fun b=>b=db) w2).setCell (p:=ai db 2) rfl _) (fun k e=>zM)
  intro k e;rcases h.bG.2 with ⟨rfl,_⟩|⟨g,cap,cur,rfl,hg,_⟩
  ·cases e
  ·simp[Value.ownBlock]at e;omega
 ·obtain⟨l0,rfl⟩:=h.pre;exact⟨l0++l,aF⟩
 ·rcases hc.loc with h1|⟨k,h1,h2⟩
  ·rw[h1];exact h.loc
  ·exact aA ⟨k,h1,bB h.jS.size h2⟩
 ·refine(h.jS.fz hc.aB ?_).fz ((aq.refl (fun b=>b=db) w2).setCell (p:=ai db 2) rfl _) (fun k hk e=>zj)
  intro k hk e;rcases h.loc with h1|⟨k',h1,h2⟩
  ·exact aA (by rw[←h1,e])
  ·rw[h1]at e;simp at e;omega
theorem ac6(w:World)(a:Value)(t:TypeId):∀j u,[a][j]?=some u→(w.alloc (.cells #[a] t)).cell? (((ai w.heap.size 0):Addr).add j)=some u:=by
 intro k u hu
 match k,hu with
 |0,hu=>simp at hu;subst hu;simp[Addr.add]
theorem Sa(k:IntKind)(b:Int):∀u∈[Value.int k b],u.oneCell'=true:=by
 intro u hu;simp at hu;subst hu;rfl
theorem Tryz.Tc:(prog.info? 3).map (fun i=>(i.zero,i.size,i.bytes))=some (some (ae 0),1,8):=aP
def R9(w:World)(aT sv:Value)(l:List Int):Prop:=
 (sv=aI∧l=[])∨∃vb x,sv=aD vb 1 1∧l=[x]∧w.cell? (ai vb 0)=some (ae x)∧vb<w.heap.size∧aT.ownBlock≠some vb
theorem uV{rc:RC}{es:List PE}{bs:List PB}
  (h:DS w0 w rb rc bb db ev aX aT bv es nv nt pc dc tk bs kn) (op:Int) (sv:Value) (l:List Int) (hs:R9 w aT sv l) (hl:dc.length≤100000000):
  Calls prog 181 #[ax db,ae op,sv] w fun e w'=>e=.returned (.tuple #[])∧(∃v2,DS w0 w' rb rc bb db ev aX v2 bv es nv nt pc (dc++op :: l) tk bs kn)∧aq (fun b=>b=db∨aT.ownBlock=some b) w w':=by
 obtain⟨c0,c1,c2,c3⟩:=h.def;have f2:=h.blk.frozen 2;have hdl:=h.blk.lt;have hcu:=af (h.cu.alloc (.cells #[ae op] 3 (0,0)));have nd:aT.ownBlock≠some db:=aZ h.bG h.blk aj;obtain⟨ad,cap,hdv,hcap,_⟩:=bo h.bG;obtain⟨i0,hi,hz0,hz1,hz2⟩:=info_parts Tryz.Tc;have gA:3≤(w.alloc (.cells #[ae op] 3 (0,0))).heap.size:=by have:=h.tab.lt;simp;omega
 have pO:=af gA;have HD:=af h;have HN:=af nd;have HS:=af hs;clear h c0 c1 c3 nd hs gA;subst hdv;go_enter func181,ntmps181;go_wp2_with (at_builtin;refine I4 _ rfl _ _ 24 rfl 3 3 i0 (ae 0) 1 8 underlying24 hi hz0 hz1 hz2 rfl aj _ _ _ rfl hcu.row (ai w.heap.size 0) 1 1 [ae op] rfl rfl (ac6 _ _ _) (Sa _ _) lu ag pO ?_);intro v1 w1 h2 hg hat hk;have cu1:=hcu.more (l:=[op]) (by simpa [sM]using h2) hg (by simpa using hat) hk;have hlen1:(dc++[op]).length=dc.length+1:=aF;have Cf:=cu1.row;rw[hlen1]at Cf;obtain⟨g1,gX,hv1,_,hg1,hc1,hm1,_⟩:=cd Cf ag;have iC:ay w1 db (kV bb tk (.slice ad dc.length cap) bv kn) 209:=HD.blk.aB cu1.aB HN;have nV:=af iC;have e2:w1.cell? (ai db 2)=some (.slice ad dc.length cap):=iC.cell 2 _ rfl;have q2:=iC.frozen 2;have HCU:=af cu1;have DK:w.heap.size≤w1.heap.size:=cu1.aB.size;have P0:3≤w1.heap.size:=bB HD.tab.lt DK;have NZ:=af P0;have kj:=af Cf;subst hv1;clear h2 hg hat hk cu1 Cf iC hcu pO c2 f2 P0;rcases HS.out with ⟨rfl,rfl⟩|⟨vb,x,rfl,rfl,hvb,kQ,hvn⟩
 ·clear HS
  go_wp2_with (at_builtin;refine Ld _ rfl _ _ 24 rfl 3 i0 underlying24 hi (ai g1 0) (dc.length+1) gX rfl hc1 rfl ?_)
  go_wp2_with fail
  go_end0
  refine⟨rfl,⟨_,HD.emit (l:=[op]) HCU⟩,?_⟩;exact(HCU.aB.mono (fun k _ e=>aA e)).trans ((aq.refl (fun b=>b=db∨(Value.slice ad dc.length cap).ownBlock=some b) w1).setCell (p:=ai db 2) (aC rfl) _)
 ·have N7:w1.cell? (ai vb 0)=some (ae x):=(HCU.aB.cell (p:=ai vb 0) kQ hvn).trans hvb
  have hnew:∀j u,[ae x][j]?=some u→w1.cell? (((ai vb 0):Addr).add j)=some u:=by
   intro k u hu
   match k,hu with
   |0,hu=>simp at hu;subst hu;simpa [Addr.add]using N7
  have jL:=af hnew;clear HS N7 hnew hvb;go_wp2_with (at_builtin;refine I4 _ rfl _ _ 24 rfl 3 3 i0 (ae 0) 1 8 underlying24 hi hz0 hz1 hz2 rfl aj _ _ _ rfl kj (ai vb 0) 1 1 [ae x] rfl rfl jL (Sa _ _) lu ag NZ ?_);intro v2 w2 h2 hg hat hk;have cu2:=HCU.more (l:=[x]) (by simpa [sM]using h2) hg hat (by rw[hlen1];exact hk);have hlen2:(dc++[op]++[x]).length=dc.length+1+1:=aF;have hrow2:=cu2.row;rw[hlen2]at hrow2;obtain⟨g2,bq,hv2,_⟩:=cd hrow2 ag;have fT:ay w2 db (kV bb tk (.slice ad dc.length cap) bv kn) 209:=HD.blk.aB cu2.aB HN;have e3:w2.cell? (ai db 2)=some (.slice ad dc.length cap):=fT.cell 2 _ rfl;have q3:=fT.frozen 2;have P9:=af cu2;subst hv2;clear h2 hg hat hk cu2 hrow2 fT NZ e2 q2;go_wp2_with fail;have hap:dc++op :: [x]=dc++[op]++[x]:=aF;go_end0;refine⟨rfl,⟨_,HD.emit (l:=[op,x]) (by rw[hap];exact P9)⟩,?_⟩;exact(P9.aB.mono (fun k _ e=>aA e)).trans ((aq.refl (fun b=>b=db∨(Value.slice ad dc.length cap).ownBlock=some b) w2).setCell (p:=ai db 2) (aC rfl) _)
end
section
open Go.RowKit
theorem rz{F cs:List Value}(h:w.ownsRow base e size (aD g n cap) n (F++cs))(hF:F.length=k)(j:Nat)(u:Value):
  (w.setCell (ai g (k+j)) u).ownsRow base e size (aD g n cap) n (F++cs.set j u):=by
 have:=iJ h (k+j) u;rw[List.set_append_right _ _ ag,hF,Nat.add_sub_cancel_left]at this;exact this
theorem DS.setLast{rc:RC}{es:List PE}{bs:List PB}{b b':PB}
  (h:DS w0 w rb rc bb db ev aX aT (aD g n cap) es nv nt pc dc tk (bs++[b]) kn) (hc:aq (fun k=>k=g) w w')
  (hr:w'.ownsRow w0.heap.size 244 17 (aD g n cap) (bs.length+1) (bs.flatMap PB.cells++b'.cells)):
  DS w0 w' rb rc bb db ev aX aT (aD g n cap) es nv nt pc dc tk (bs++[b']) kn:=by
 have hrb:=h.aO.1;have hgb:=h.aO.2;have no:∀{c:Array Value} {t:TypeId} {k:Nat},ay w k c t→t≠244→¬k=g:=fun hb hne e=>aZ h.row hb hne xA
 have n2:∀{base:Nat} {e:TypeId} {size n:Nat} {v:Value} {xs:List Value},w.ownsRow base e size v n xs→e≠244→∀k,v.ownBlock=some k→¬k=g:=fun ho hne k hk e=>fw ho h.row hne hk xA
 have hge:w0.heap.size≤g:=by
  rcases h.row.2 with ⟨hx,_⟩|⟨g',cap',cur,hv,hb,_⟩
  ·cases hx
  ·obtain⟨rfl,rfl⟩:g=g'∧cap=cap':=by simp at hv;exact⟨hv.1,hv.2.2⟩
   exact hb
 refine⟨h.sys.aB hc (no h.sys.blk aj) (n2 h.sys.row aj) (n2 h.sys.bG aj),h.blk.aB hc (no h.blk aj),aR h.bG hc (n2 h.bG aj),vD,h.tab.aB hc (fun k e=>by have:=h.tl;omega),⟨hrb.aB hc (no hrb aj),hgb.aB hc (no hgb aj)⟩,h.ru,h.tl,h.pre,h.new,h.loc,h.jS.fz hc (fun k hk e=>ag)⟩
def PB.add(b:PB)(i:Inf):PB:={b with does:=b.does.then i,numbers:=0}
theorem rS{rc:RC}{es:List PE}{bs:List PB}{b:PB}
  (h:DS w0 w rb rc bb db ev aX aT bv es nv nt pc dc tk (bs++[b]) kn) (i:Inf) (hi:i.Ok) (hd:b.does.Ok) (hl:bs.length≤1000000000):
  Calls prog 182 #[ax db,i.tm] w fun e w'=>e=.returned (.tuple #[])∧DS w0 w' rb rc bb db ev aX aT bv es nv nt pc dc tk (bs++[b.add i]) kn∧aq (fun k=>bv.ownBlock=some k) w w':=by
 obtain⟨g,cap,hv,hcap,hge,hg,hfr,hcell⟩:=h.last;have HI:=af (fun w' (hb:Below w.heap.size w w')=>ko (h.below (w':=w') hb) hl g cap hv hcap);have HT:=af (fun w'=>Oz b.does i hd hi w');have d4:w.cell? (ai g (bs.length*17+4))=some (ae b.does.need):=hcell 4 _ rfl;have d5:w.cell? (ai g (bs.length*17+5))=some (ae b.does.aM):=hcell 5 _ rfl;have d6:w.cell? (ai g (bs.length*17+6))=some (ae b.does.high):=hcell 6 _ rfl;have d7:w.cell? (ai g (bs.length*17+7))=some (ae b.does.steps):=hcell 7 _ rfl;have d8:w.cell? (ai g (bs.length*17+8))=some (.bool (!b.does.str)):=hcell 8 _ rfl;have d14:w.cell? (ai g (bs.length*17+14))=some (ae b.numbers):=hcell 14 _ rfl;subst hv;have HD:=af h;clear h hcell;simp only[Inf.tm]at HT ⊢;go_enter func182,ntmps182;go_wp2_with fail;have hb0:Below w.heap.size w (w.alloc (.cells #[ae i.need,ae i.aM,ae i.high,ae i.steps,.bool (!i.str)] 151 (0,0))):=aQ.alloc aH _;have hk0:=bJ w #[ae i.need,ae i.aM,ae i.high,ae i.steps,.bool (!i.str)] 151;refine(HI _ hb0).mono ?_;rintro e w1 ⟨rfl,hb1⟩;have bA:=hk0.sub hb1 aF;have j9:=bA.lt;have ct:Below w.heap.size w w1:=hb0.trans (hb1.mono aF);have i0:=bA.cell 0 _ rfl;have i1:=bA.cell 1 _ rfl;have i2:=bA.cell 2 _ rfl;have i3:=bA.cell 3 _ rfl;have i4:=bA.cell 4 _ rfl;simp only[List.getElem_toArray,List.getElem_cons_succ,List.getElem_cons_zero]at i0 i1 i2 i3 i4;replace d4:=(ct.cell (p:=ai g (bs.length*17+4)) hg).trans d4;replace d5:=(ct.cell (p:=ai g (bs.length*17+5)) hg).trans d5;replace d6:=(ct.cell (p:=ai g (bs.length*17+6)) hg).trans d6;replace d7:=(ct.cell (p:=ai g (bs.length*17+7)) hg).trans d7;replace d8:=(ct.cell (p:=ai g (bs.length*17+8)) hg).trans d8;replace d14:=(ct.cell (p:=ai g (bs.length*17+14)) hg).trans d14;have bu:=af ct;have yZ:g<w1.heap.size:=bF hg ct.size;clear hb0 hk0 hb1 bA ct HI;go_wp2_with fail
 have hc:=fun (B:Nat) (w0:World) (u:bN B w0) (b o:Nat) (h:b<B)=>u.cell b o h
 have hne:=bN.ne;refine vU w1.heap.size 7 aP aP ?_;simp only[List.take_succ_cons,List.take_zero,List.drop_succ_cons,List.drop_zero]
 repeat (go_big_quiet_step ((go_at_call 203;exact bN.calls aH _ (HT _))))
 refine wpQuiet_nil ?_;intro u;obtain⟨w2,hb2⟩:=u;dsimp only;replace d4:=(hb2.cell (p:=ai g (bs.length*17+4)) yZ).trans d4;replace d5:=(hb2.cell (p:=ai g (bs.length*17+5)) yZ).trans d5;replace d6:=(hb2.cell (p:=ai g (bs.length*17+6)) yZ).trans d6;replace d7:=(hb2.cell (p:=ai g (bs.length*17+7)) yZ).trans d7;replace d8:=(hb2.cell (p:=ai g (bs.length*17+8)) yZ).trans d8;replace d14:=(hb2.cell (p:=ai g (bs.length*17+14)) yZ).trans d14;have xZ:Below w.heap.size w w2:=bu.trans (hb2.mono bu.size);have hfr2:∀o,w2.frozen? (ai g o)=false:=fun o=>(xZ.frozen (p:=ai g o) hg).trans (hfr o)
 have q4:=hfr2 (bs.length*17+4);have q5:=hfr2 (bs.length*17+5);have q6:=hfr2 (bs.length*17+6);have q7:=hfr2 (bs.length*17+7);have q8:=hfr2 (bs.length*17+8);have q14:=hfr2 (bs.length*17+14);have aW:=af xZ;clear hc hne hb2 xZ hfr2 hfr i0 i1 i2 i3 i4 HT;obtain⟨r,hr⟩:=ak (b.does.then i);have HRR:=af hr;rw[←hr];clear hr;go_wp2_with fail;go_end0;have cq:=HD.below aW;have hrow:=cq.row;rw[cF,gJ,kS,List.flatMap_singleton]at hrow;have hF:=flat_length PB.cells 17 (fun _=>rfl) bs;have s1:=rz hrow hF 4 (ae r.need);have s2:=rz s1 hF 5 (ae r.aM);have s3:=rz s2 hF 6 (ae r.high);have s4:=rz s3 hF 7 (ae r.steps);have s5:=rz s4 hF 8 (.bool (!r.str));have s6:=rz s5 hF 14 (ae 0)
 have hch:∀{V:World},V=(((((w2.setCell (ai g (bs.length*17+4)) (ae r.need)).setCell (ai g (bs.length*17+5)) (ae r.aM)).setCell (ai g (bs.length*17+6)) (ae r.high)).setCell (ai g (bs.length*17+7)) (ae r.steps)).setCell (ai g (bs.length*17+8)) (.bool (!r.str))).setCell (ai g (bs.length*17+14)) (ae 0)→aq (fun k=>k=g) w2 V:=by
  rintro V rfl;exact((((((aq.refl (fun k=>k=g) w2).setCell (p:=ai g (bs.length*17+4)) rfl _).setCell (p:=ai g (bs.length*17+5)) rfl _).setCell (p:=ai g (bs.length*17+6)) rfl _).setCell (p:=ai g (bs.length*17+7)) rfl _).setCell (p:=ai g (bs.length*17+8)) rfl _).setCell (p:=ai g (bs.length*17+14)) rfl _
 refine⟨rfl,cq.setLast (b':=b.add i) (hch rfl) ?_,?_⟩
 ·have e:(((((b.cells.set 4 (ae r.need)).set 5 (ae r.aM)).set 6 (ae r.high)).set 7 (ae r.steps)).set 8 (.bool (!r.str))).set 14 (ae 0)=(b.add i).cells:=by
   rw[HRR.out];rfl
  rw[e]at s6;exact s6
 ·exact(aq.bf aW).trans ((hch rfl).mono (fun k _ e=>xA))
end
section
def numP(s:ByteArray):Int×Bool:=
 match Lib.parseIntB 32 s.data.toList with
 |.ok v=>if Lib.hasPrefix s.data.toList [43]=true then(0,false)else(v,true)
 |_=>(0,false)
theorem Ip(s:ByteArray)(w:World)(hs:s.size≤100000000)(ht:cQ w):
  Calls prog 162 #[.string s] w fun e w'=>e=.returned (.tuple #[ae (numP s).1,.bool (numP s).2])∧Below w.heap.size w w':=by
 obtain⟨R,hR⟩:=ak (numP s);rw[←hR];have HP:=af (fun w'=>Tryz.strings_HasPrefix s ⟨#[43]⟩ w');obtain⟨_,⟨e1,a1,b1⟩,⟨e2,a2,b2⟩⟩:=ht;unfold numP at hR
 cases hp:Lib.parseIntB 32 s.data.toList with
 |«syntax»=>
  rw[hp]at hR;have H1:=af (Tryz.strconv_ParseInt_10_at32_syntax s ag hp e1 w a1 b1);clear hp a1 b1 a2 b2 HP hs;subst hR;go_enter func162,ntmps162;exact RL
 |range=>
  rw[hp]at hR;have H1:=af (Tryz.strconv_ParseInt_10_at32_range s ag hp e2 w a2 b2);clear hp a1 b1 a2 b2 HP hs;subst hR;go_enter func162,ntmps162;exact RL
 |ok v=>
  rw[hp]at hR;simp only at hR;have H1:=af (Tryz.strconv_ParseInt_10_at32_ok s ag v hp w);clear hp a1 b1 a2 b2 hs;obtain⟨q,hq⟩:=ak (Lib.hasPrefix s.data.toList [43]);have hq2:Lib.hasPrefix s.data.toList (⟨#[43]⟩:ByteArray).data.toList=q:=hq.symm;rw[hq2]at HP;rw[←hq]at hR;clear hq hq2;go_enter func162,ntmps162;go_wp2_with fail;refine H1.mono ?_;rintro e w1 ⟨rfl,hw⟩
  have hb:Below w.heap.size w w1:=by
   rcases hw with rfl|⟨t,rfl⟩
   ·exact aQ
   ·exact Lib.bytesWorld_below w _ t
  have HB:=af hb;clear hb H1 hw;go_wp2_with fail;refine(HP w1).mono ?_;rintro e w2 ⟨rfl,rfl⟩
  cases q
  ·simp only[Bool.false_eq_true,if_false]at hR
   subst hR;go_wp2_with fail;refine bodyPost_ret (v:=.tuple #[ae v,.bool true]) FE rfl ⟨rfl,HB⟩
  ·simp only[if_true]at hR
   subst hR;go_wp2_with fail;refine bodyPost_ret (v:=.tuple #[ae 0,.bool false]) FE rfl ⟨rfl,HB⟩
end
end Go.Proofs.YtcphhbofjkenaaaGreatDoor
