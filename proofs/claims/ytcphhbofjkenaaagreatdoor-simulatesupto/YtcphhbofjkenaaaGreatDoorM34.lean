import Derived.Test.YtcphhbofjkenaaaGreatDoorMy
import Derived.Test.YtcphhbofjkenaaaGreatDoorM27
import Derived.Test.YtcphhbofjkenaaaGreatDoorM33
namespace Go.Proofs.YtcphhbofjkenaaaGreatDoor
open Go Go.RowKit Proofs.Tryz
set_option linter.unusedVariables false
set_option linter.unusedSimpArgs false
set_option maxRecDepth 100000
set_option maxHeartbeats 16000000
variable{P:Program}{ys xs:List Value}{k n c base cap B:Nat}{a ta:Option Addr}{b d:Value}{w:World}{ts:List TK}
theorem Pb{p:Prop}(h:p:=by
  have c0:Z.cell? (ai tg (k*4))=some (.string t.word):=hcc _ _ (rR 0 _ ag rfl);have c1:Z.cell? (ai tg (k*4+1))=some (ae t.bZ):=hcc _ _ (rR 1 _ ag rfl);have c2:Z.cell? (ai tg (k*4+2))=some (ae t.dl):=hcc _ _ (rR 2 _ ag rfl);have c3:Z.cell? (ai tg (k*4+3))=some (ae t.off):=hcc _ _ (rR 3 _ ag rfl);clear hv hcc;go_wp2_with fail;go_quiet (fail);have hbq:Below Z.heap.size Z (Z.drewN nq):=dz;obtain⟨V,hV⟩:=ak (Z.drewN nq:World);rw[←hV]at hbq;rw[←hV];have iY:=aR qO (aq.bf (S:=fun _=>False) hbq) (fun _ _=>id);have hcV:=HCZ.trans (aq.bf hbq);have v0:V.cell? (ai tg (k*4))=some (.string t.word):=(hbq.cell (p:=ai tg (k*4)) uI).trans c0;have v1:V.cell? (ai tg (k*4+1))=some (ae t.bZ):=(hbq.cell (p:=ai tg (k*4+1)) uI).trans c1;have v2:V.cell? (ai tg (k*4+2))=some (ae t.dl):=(hbq.cell (p:=ai tg (k*4+2)) uI).trans c2;have v3:V.cell? (ai tg (k*4+3))=some (ae t.off):=(hbq.cell (p:=ai tg (k*4+3)) uI).trans c3;have f0:=oW iY (k*4);have f1:=oW iY (k*4+1);have f2:=oW iY (k*4+2);have f3:=oW iY (k*4+3);have lr:=af iY;have gB:=af hcV;clear hV hbq iY hcV w0 w1 w2 w3 c0 c1 c2 c3;go_wp2_with fail;go_roundw
  case rel=>
   refine⟨rfl,k+1,(((ys.set (k*4) (.string ⟨#[111,116,104,101,114]⟩)).set (k*4+1) (ae 0)).set (k*4+2) (ae 0)).set (k*4+3) (ae 0),ag,bO,af ⟨iJ (iJ (iJ (iJ lr (k*4) _) (k*4+1) _) (k*4+2) _) (k*4+3) _,Xz HY2⟩,af ((((gB.setCell (p:=ai tg (k*4)) rfl _).setCell (p:=ai tg (k*4+1)) rfl _).setCell (p:=ai tg (k*4+2)) rfl _).setCell (p:=ai tg (k*4+3)) rfl _)⟩
  case measure=>simp[intOf];omega):p:=h
section
def AH:TK:=⟨⟨#[98,101,121,111,110,100]⟩,0,0,0⟩
def pG(l:List TK):List Value:=(l++List.replicate 8 AH).flatMap TK.cells
theorem YP(l:List TK):(pG l).length=(l.length+8)*4:=by unfold pG;rw[vL];simp
theorem Ln(l:List TK)(j:Nat)(h:j<l.length*4):(pG l)[j]?=(l.flatMap TK.cells)[j]?:=by
 unfold pG;rw[kS,dH (by rw[vL];exact h)]
theorem Q4(l:List TK)(k m:Nat)(hk:k<l.length+8)(hm:m<4):(pG l)[k*4+m]?=(if h:k<l.length then l[k].cells else AH.cells)[m]?:=by
 unfold pG;rw[flat_get TK.cells 4 (fun _=>rfl) (l++List.replicate 8 AH) k m aK hm]
 split
 ·rename_i h;rw[List.getElem_append_left h]
 ·rename_i h;rw[List.getElem_append_right ag,List.getElem_replicate]
theorem Vh(w:World)(dT sT ty elem:TypeId)(g CB I8:Nat)(a:Addr)(OH X5:Nat)(cur:Array Value)(t:TypeId)(cs:List Value)(size m:Nat)
  (hu:P.underlying dT=some (.slice elem)) (hs:(P.info? elem).map (·.size)=some size)
  (hg:w.heap[g]?=some (.cells cur t (0,0))) (hm:Nat.min OH CB=m) (hn:cs.length=m*size)
  (Xj:∀j v,cs[j]?=some v→w.cell? (a.add j)=some v) (jz:cs.length≤cur.size) (h1:∀v∈cs,v.oneCell'=true):
  (Builtin.copy_ #[dT,sT] ty #[aD g CB I8,.slice (some a) OH X5]).run P w =
   .ok (goInt m) (w.setRow g (cs++cur.toList.drop cs.length).toArray):=by
 have hl:=run_loadCells_list (P:=P) w a cs Xj;have hst:=run_storeCells_at P g 0 t cs 0 cur w hg (by simpa using jz) h1
 cases hq:P.info? elem with
 |none=>simp[hq]at hs
 |some i=>
  have hi:i.size=size:=by simpa [hq]using hs
  simp[Builtin.copy_,run_underlying hu,Builtin.lenOf,Builtin.firstCells,sizeOf,typeInfo,hq,hi,hm,←hn,hl,hst]
theorem add_block(p:Addr)(n:Nat):(p.add n).block=p.block:=by unfold Addr.add;split<;>rfl
def tkz:Value:=.agg #[.string ByteArray.empty,ae 0,ae 0,ae 0]
theorem Tryz.O9:(prog.info? 67).map (fun i=>(i.zero,i.size,i.bytes))=some (some tkz,4,40):=aP
theorem Uj(t e:TypeId)(z:Value)(zc:Array Value)(size bytes:Nat)(hzc:z.cells=zc)(ht:P.underlying t=some (.slice e))(zW:(P.info? e).map (fun i=>(i.zero,i.size,i.bytes))=some (some z,size,bytes))(n:Nat)(hbytes:bytes*(n+8)≤281474976710656)(h63:n+8≤9223372036854775807)(w:World):
  (Instr.makeSlice t (ae ((n:Int)+8)) (ae ((n:Int)+8))).run P w=.ok (aD w.heap.size (n+8) (n+8)) (w.alloc (.cells (madeCells zc ((n+8)*size)) e)):=
 Dm t e z zc size bytes hzc ht zW (n+8) hbytes h63 w
theorem acn(l:List TK):∀u∈l.flatMap TK.cells,u.oneCell'=true:=by
 intro u hu;obtain⟨x,_,hu⟩:=List.mem_flatMap.1 hu;simp[TK.cells]at hu;rcases hu with rfl|rfl|rfl|rfl<;>rfl
theorem XJ{a c:Value}(hk:k<n)(hl:ys.length=n*4)(h:∀j,j<k*4→ys[j]?=xs[j]?)(ha:xs[k*4]?=some a)(hb:xs[k*4+1]?=some b)(hc:xs[k*4+2]?=some c)(hd:xs[k*4+3]?=some d):
  ∀j,j<(k+1)*4→((((ys.set (k*4) a).set (k*4+1) b).set (k*4+2) c).set (k*4+3) d)[j]?=xs[j]?:=by
 intro j hj
 by_cases e3:j=k*4+3
 ·subst e3;rw[eL aK,hd]
 ·rw[dr ag]
  by_cases e2:j=k*4+2
  ·subst e2;rw[eL aK,hc]
  ·rw[dr ag]
   by_cases e1:j=k*4+1
   ·subst e1;rw[eL aK,hb]
   ·rw[dr ag]
    by_cases e0:j=k*4
    ·subst e0;rw[eL ag,ha]
    ·rw[dr ag];exact h j ag
theorem Xz{a c:Value}(h:∀j,k*4≤j→ys[j]?=xs[j]?):
  ∀j,(k+1)*4≤j→((((ys.set (k*4) a).set (k*4+1) b).set (k*4+2) c).set (k*4+3) d)[j]?=xs[j]?:=by
 intro j hj;rw[dr ag,dr ag,dr ag,dr ag];exact h j ag
theorem ZJ(w:World)(p:Addr)(n cap:Nat)(l:List TK)(hn:n=l.length)(hb:n≤1100000)(ir:n≤cap)(hs:∀(j:Nat) (u:Value),(l.flatMap TK.cells)[j]?=some u→p.block<w.heap.size∧w.cell? (p.add j)=some u):
  Calls prog 99 #[.slice (some p) n cap] w fun e w'=>∃tg,e=.returned (aD tg n (n+8))∧w.heap.size≤tg∧w'.ownsRow w.heap.size 67 4 (aD tg (n+8) (n+8)) (n+8) (pG l)∧Below w.heap.size w w':=by
 have hmk:=Uj (P:=prog) 55 67 tkz #[.string ByteArray.empty,ae 0,ae 0,ae 0] 4 40 rfl underlying55 Tryz.O9 n ag ag;obtain⟨tg,n9⟩:=ak (w.heap.size);obtain⟨X,hX⟩:=ak (w.alloc (.cells (madeCells #[.string ByteArray.empty,ae 0,ae 0,ae 0] ((n+8)*4)) 67 (0,0)):World);have hbX:Below w.heap.size w X:=jo;have hgX:X.heap[tg]?=some (.cells (madeCells #[.string ByteArray.empty,ae 0,ae 0,ae 0] ((n+8)*4)) 67 (0,0)):=by rw[hX,n9];exact heap_alloc_new w _
 have nO:∀(j:Nat) (u:Value),(l.flatMap TK.cells)[j]?=some u→X.cell? (p.add j)=some u:=fun j u hu=>by
  rw[hbX.cell (by rw[add_block];exact(hs j u hu).1)];exact(hs j u hu).2
 have hsz:(prog.info? 67).map (·.size)=some 4:=by
  obtain⟨i,hi,_,h4,_⟩:=info_parts Tryz.O9;rw[hi];simp[h4]
 have vE:=af n9;have HX:=af hX;have bT:=af hbX;have HGX:=af hgX;have jq:=af nO;have jF:=af hsz;have HN:=af hn;have pN:=af (show(l.flatMap TK.cells).length=n*4 by rw[vL,hn]);have iM:=af (show(l.flatMap TK.cells).length≤(madeCells #[.string ByteArray.empty,ae 0,ae 0,ae 0] ((n+8)*4)).size by rw[size_madeCells,vL,←hn];omega);have fB:=af (acn l);have HMM:=af (show Nat.min n (n+8)=n from Nat.min_eq_left ag);obtain⟨lc,hlc⟩:=ak (l.flatMap TK.cells);rw[←hlc]at jq pN iM fB;have iR:=af hlc;clear n9 hX hbX hgX nO hsz hs hn hlc;have hnl:=fun w=>Lib.run_eql_slice_nil (P:=prog) w 55 67 (some p) n cap 0 0 underlying55
 simp only[Option.isNone_some]at hnl;go_enter func99,ntmps99;go_upto_region 5 with fail
 rw[←HX.out,←vE.out];clear hmk hnl;obtain⟨w2,hw2⟩:=ak (X.setRow tg (lc++(madeCells #[.string ByteArray.empty,ae 0,ae 0,ae 0] ((n+8)*4)).toList.drop lc.length).toArray:World);have mU:=Vh (P:=prog) X 55 55 3 67 tg (n+8) (n+8) p n cap _ 67 lc 4 n underlying55 jF HGX HMM pN jq iM fB;rw[←hw2]at mU;have hg2:w2.heap[tg]?=some (.cells (lc++(madeCells #[.string ByteArray.empty,ae 0,ae 0,ae 0] ((n+8)*4)).toList.drop lc.length).toArray 67 (0,0)):=LN;have hc2:aq (fun b=>b=tg) X w2:=KY;clear hw2;have hb2:Below w.heap.size w w2:=bT.trans (hc2.toBelow (by rw[←vE.out];exact Nat.le_of_lt (mD.1 HGX).1) (fun b hb e=>tC))
 have hrow2:w2.ownsRow w.heap.size 67 4 (aD tg (n+8) (n+8)) (n+8) (lc++(madeCells #[.string ByteArray.empty,ae 0,ae 0,ae 0] ((n+8)*4)).toList.drop lc.length):=by
  have nk:(lc++(madeCells #[.string ByteArray.empty,ae 0,ae 0,ae 0] ((n+8)*4)).toList.drop lc.length).length=(n+8)*4:=by
   have e1:(madeCells #[.string ByteArray.empty,ae 0,ae 0,ae 0] ((n+8)*4)).toList.length=(n+8)*4:=by rw[kP,size_madeCells]
   rw[cF,List.length_drop,e1,pN.out];omega
  refine⟨nk,aA ⟨tg,n+8,_,rfl,tC,hg2,aH,lu,by rw[List.size_toArray];exact nk,?_⟩⟩;rw[List.toList_toArray];exact List.take_of_length_le ag
 have hpre:∀j,j<n*4→(lc++(madeCells #[.string ByteArray.empty,ae 0,ae 0,ae 0] ((n+8)*4)).toList.drop lc.length)[j]?=(pG l)[j]?:=fun j hj=>by
  rw[dH (by rw[pN.out];exact hj),iR.out,Ln l j (by rw[←HN.out];exact hj)]
 have aW:=af hb2;have HR2:=af hrow2;have nA:=af hpre;clear hg2 hc2 hb2 hrow2 hpre HGX jq;go_wp2_with fail;clear mU;go_loopw[5] (fun i wr=>∃(k:Nat) (ys:List Value),n≤k∧k≤n+8∧i=ae k∧Hid (wr.ownsRow w.heap.size 67 4 (aD tg (n+8) (n+8)) (n+8) ys∧∀j,j<k*4→ys[j]?=(pG l)[j]?)∧Hid (Below w.heap.size w wr)) (fun i _=>n+8 - (intOf i).toNat)
 case atStart=>exact⟨n,_,aH,ag,rfl,af ⟨HR2,nA⟩,aW⟩
 case round=>
  clear HR2 nA aW;obtain⟨k,ys,bA,hk2,rfl,HY,HB⟩:=hrel
  by_cases hlt:k<n+8
  ·have bV:(k:Int)<(n:Int)+8:=by omega
   have hl0:(0:Int)≤(k:Int):=ag;have hkn:(k:Int)≤2000000:=ag;obtain⟨sN,cap',hv,_,uI,_,_,hcc⟩:=cd HY.out.1 ag;obtain⟨rfl,rfl⟩:tg=sN∧n+8=cap':=gW;have pM:ys.length=(n+8)*4:=HY.out.1.1;obtain⟨y0,hy0⟩:∃x,ys[k*4]?=some x:=⟨_,bE ag⟩;obtain⟨y1,hy1⟩:∃x,ys[k*4+1]?=some x:=⟨_,bE ag⟩;obtain⟨y2,hy2⟩:∃x,ys[k*4+2]?=some x:=⟨_,bE ag⟩;obtain⟨y3,hy3⟩:∃x,ys[k*4+3]?=some x:=⟨_,bE ag⟩;have e0:wr.cell? (ai tg (k*4))=some y0:=hcc _ _ hy0;have e1:wr.cell? (ai tg (k*4+1))=some y1:=hcc _ _ hy1;have e2:wr.cell? (ai tg (k*4+2))=some y2:=hcc _ _ hy2;have e3:wr.cell? (ai tg (k*4+3))=some y3:=hcc _ _ hy3;have f0:=oW HY.out.1 (k*4);have f1:=oW HY.out.1 (k*4+1);have f2:=oW HY.out.1 (k*4+2);have f3:=oW HY.out.1 (k*4+3);have HYL:=af pM;clear hv hcc hy0 hy1 hy2 hy3 pM;go_wp2_with fail;go_roundw
   case rel=>
    have q:=fun m (hm:m<4)=>Q4 l k m uj hm
    have hnl:¬k<l.length:=by rw[←HN.out];omega
    simp only[dif_neg hnl]at q;have hwt:w.heap.size≤tg:=tC;refine⟨k+1,(((ys.set (k*4) (.string ⟨#[98,101,121,111,110,100]⟩)).set (k*4+1) (ae 0)).set (k*4+2) (ae 0)).set (k*4+3) (ae 0),ag,ag,bO,af ⟨iJ (iJ (iJ (iJ HY.out.1 (k*4) _) (k*4+1) _) (k*4+2) _) (k*4+3) _,XJ hlt HYL HY.out.2 (q 0 ag) (q 1 ag) (q 2 ag) (q 3 ag)⟩,af ((((HB.setCell hwt _).setCell hwt _).setCell hwt _).setCell hwt _)⟩
   case measure=>simp[intOf];omega
  ·obtain rfl:k=n+8:=by omega
   have hys:ys=pG l:=FQ HY.out.1.1 (by rw[YP,←HN.out]) HY.out.2;have hrow:=HY.out.1;rw[hys]at hrow;have fc:=af hrow;clear hys hrow HY;have bV:¬((n:Int)+8<(n:Int)+8):=ag;go_wp2_with fail;go_ret;exact⟨tg,rfl,tC,fc,HB⟩
theorem Tp(w:World):Calls prog 99 #[aI] w fun e w'=>e=.returned aI∧Below w.heap.size w w':=by
 have hnl:=fun w=>Lib.run_eql_slice_nil (P:=prog) w 55 67 none 0 0 0 0 underlying55
 simp only[Option.isNone_none]at hnl;go_enter func99,ntmps99;go_wp2_with fail;go_ret;exact⟨rfl,aQ⟩
theorem ac3(w:World)(o:Value):Calls prog 101 #[o,aI] w fun e w'=>e=.returned (.bool true)∧Below w.heap.size w w':=by
 have hnl:=fun w=>Lib.run_eql_slice_nil (P:=prog) w 55 67 none 0 0 0 0 underlying55
 simp only[Option.isNone_none]at hnl;go_enter func101,ntmps101;go_wp2_with fail;go_ret;exact⟨rfl,aQ⟩
theorem UX(w:World)(base tg B:Nat)(p:Addr)(n cap:Nat)(l:List TK)(hn:n=l.length)(hb:n≤1100000)(ir:n≤cap)(hBt:B≤tg)(mi:B≤w.heap.size)(hs:∀(j:Nat) (u:Value),(l.flatMap TK.cells)[j]?=some u→p.block<B∧w.cell? (p.add j)=some u)
  (hr:w.ownsRow base 67 4 (aD tg (n+8) (n+8)) (n+8) (pG l)):
  Calls prog 101 #[aD tg n (n+8),.slice (some p) n cap] w fun e w'=>e=.returned (.bool true)∧aq (fun b=>b=tg) w w':=by
 have hnl:=fun w=>Lib.run_eql_slice_nil (P:=prog) w 55 67 (some p) n cap 0 0 underlying55
 simp only[Option.isNone_some]at hnl
 have hsp:0<n→p.spot=none∧p.block<B:=fun h0=>by
  have h4:(l.flatMap TK.cells).length=l.length*4:=vL l;obtain⟨u,hu⟩:∃u,(l.flatMap TK.cells)[0]?=some u:=⟨_,bE ag⟩;obtain⟨pB,this⟩:=hs 0 u hu;have h0:p.add 0=p:=DU;rw[h0]at this;refine⟨?_,pB⟩;unfold World.cell? at this
  split at this
  ·split at this
   ·cases this
   ·rename_i h;simpa using h
  ·cases this
 obtain⟨pb,po,ps⟩:=p;simp only at hsp
 have mv:0<n→∀(w':World),aq (fun b=>b=tg) w w'→∀k (hk:k<l.length),w'.cell? (ai pb (po+k*4))=some (.string l[k].word)∧w'.cell? (ai pb (po+k*4+1))=some (ae l[k].bZ)∧w'.cell? (ai pb (po+k*4+2))=some (ae l[k].dl)∧w'.cell? (ai pb (po+k*4+3))=some (ae l[k].off):=fun h0 w' hc k hk=>by
  obtain⟨e,pB⟩:=hsp h0;subst e;have hp:pb<w.heap.size:=ag;have hpt:pb≠tg:=ag;have ht:oq w pb po l:=⟨hp,fun j u hu=>by have:=(hs j u hu).2;rwa [Addr.add_lit]at this⟩;obtain⟨a0,a1,a2,a3⟩:=ht.cells k hk;exact⟨(hc.cell (p:=ai pb (po+k*4)) hp hpt).trans a0,(hc.cell (p:=ai pb (po+k*4+1)) hp hpt).trans a1,(hc.cell (p:=ai pb (po+k*4+2)) hp hpt).trans a2,(hc.cell (p:=ai pb (po+k*4+3)) hp hpt).trans a3⟩
 have htl:tg<w.heap.size:=cJ hr (k:=tg) rfl;have HTA:=af mv;have HSP:=af hsp;have HN:=af hn;have HR:=af hr;clear mv hsp hn hr hs;go_enter func101,ntmps101;go_wp2_with fail;go_loopw[7,8] (fun o i wr=>o=.bool true∧∃(k:Nat) (ys:List Value),k≤n+8∧i=ae k∧Hid (wr.ownsRow base 67 4 (aD tg (n+8) (n+8)) (n+8) ys∧∀j,k*4≤j→ys[j]?=(pG l)[j]?)∧Hid (aq (fun b=>b=tg) w wr)) (fun _ i _=>n+8 - (intOf i).toNat)
 case atStart=>exact⟨rfl,0,_,ag,rfl,af ⟨HR,fun j _=>rfl⟩,af (aq.refl _ _)⟩
 case round=>
  clear HR;obtain⟨rfl,k,ys,hk,rfl,HY,HC⟩:=hrel
  by_cases hlt:k<n+8
  ·have bV:(k:Int)<(n:Int)+8:=by omega
   have hl0:(0:Int)≤(k:Int):=ag;have hkn:(k:Int)≤2000000:=ag;obtain⟨t,ht⟩:=ak (if h:k<l.length then l[k]else AH:TK)
   have hcell:∀m u,m<4→t.cells[m]?=some u→ys[k*4+m]?=some u:=fun m u hm hu=>by
    rw[HY.out.2 _ ag,Q4 l k m uj hm,←hu,ht]
    split<;>rfl
   obtain⟨sN,cap',hv,_,uI,_,_,hcc⟩:=cd HY.out.1 ag;obtain⟨rfl,rfl⟩:tg=sN∧n+8=cap':=gW;obtain⟨X,hX⟩:=ak (wr.alloc (.cells #[.string ⟨#[98,101,121,111,110,100]⟩,ae 0,ae 0,ae 0] 67 (0,0)):World);obtain⟨wb,hwb⟩:=ak (wr.heap.size);have fo:aq (fun b=>b=tg) w X:=by rw[hX];exact HC.alloc _
   have aN:ay X wb #[.string ⟨#[98,101,121,111,110,100]⟩,ae 0,ae 0,ae 0] 67:=by rw[hX,hwb];exact bJ wr _ _
   have ki:X.ownsRow base 67 4 (aD tg (n+8) (n+8)) (n+8) ys:=IL;have hne:tg≠wb:=ag;have HX:=af hX;have xx:=af hwb;have eN:=af fo;have bz:=af aN;have eZ:=af ki;have HY2:=af HY.out.2;have rR:=af hcell;clear hX hwb fo aN ki hcell hcc hv HY;go_upto_region 10 with fail
   rw[←HX.out,←xx.out]
   by_cases hkl:k<n
   ·have FA:(k:Int)<(n:Int):=by omega
    have Be:k<l.length:=Kr;obtain⟨k9,pB⟩:=HSP.out ag;subst k9;have hp:pb<w.heap.size:=ag;have hpt:pb≠tg:=ag;have htk:t=l[k]:=by rw[ht,dif_pos Be]
    have q:=HTA.out ag X eN k Be;rw[←htk]at q;obtain⟨q0,q1,q2,q3⟩:=q;have x0:X.cell? (ai wb 0)=some (.string ⟨#[98,101,121,111,110,100]⟩):=bz.cell 0 _ rfl;have x1:X.cell? (ai wb 1)=some (ae 0):=bz.cell 1 _ rfl;have x2:X.cell? (ai wb 2)=some (ae 0):=bz.cell 2 _ rfl;have x3:X.cell? (ai wb 3)=some (ae 0):=bz.cell 3 _ rfl;have g0:=bz.frozen 0;have g1:=bz.frozen 1;have g2:=bz.frozen 2;have g3:=bz.frozen 3;obtain⟨Z,hZ⟩:=ak ((((X.setCell (ai wb 0) (.string t.word)).setCell (ai wb 1) (ae t.bZ)).setCell (ai wb 2) (ae t.dl)).setCell (ai wb 3) (ae t.off):World)
    have nG:ay Z wb #[.string t.word,ae t.bZ,ae t.dl,ae t.off] 67:=by
     rw[hZ];have:=(((bz.set (o:=0) (.string t.word)).set (o:=1) (ae t.bZ)).set (o:=2) (ae t.dl)).set (o:=3) (ae t.off);simpa using this
    have EC:aq (fun b=>b=wb) X Z:=by
     rw[hZ];exact((((aq.refl (fun b=>b=wb) X).setCell (p:=ai wb 0) rfl _).setCell (p:=ai wb 1) rfl _).setCell (p:=ai wb 2) rfl _).setCell (p:=ai wb 3) rfl _
    have hrZ:=aR eZ EC (fun b hb e=>hne (by have h:tg=b:=DV;exact h.trans e));have adK:w.heap.size≤wb:=by have:=HC.size;have:=xx.out;omega
    have iQ:aq (fun b=>b=tg) w Z:=eN.fz EC (fun b hb e=>ag);have HZ:=af hZ;have lL:=af nG;have qO:=af hrZ;have HCZ:=af iQ;have adP:=bz.lt;clear hZ nG EC hrZ iQ ht htk;go_upto_region 12 with fail
    rw[←HZ.out];clear q0 q1 q2 q3 x0 x1 x2 x3 g0 g1 g2 g3;have w0:Z.cell? (ai wb 0)=some (.string t.word):=lL.cell 0 _ rfl;have w1:Z.cell? (ai wb 1)=some (ae t.bZ):=lL.cell 1 _ rfl;have w2:Z.cell? (ai wb 2)=some (ae t.dl):=lL.cell 2 _ rfl;have w3:Z.cell? (ai wb 3)=some (ae t.off):=lL.cell 3 _ rfl;obtain⟨sN,cap',hv,_,uI,_,_,hcc⟩:=cd qO ag;obtain⟨rfl,rfl⟩:tg=sN∧n+8=cap':=gW;exact Pb
   ·have FA:¬(k:Int)<(n:Int):=by omega
    have htk:t=AH:=LV;obtain⟨Z,hZ⟩:=ak (X:World);have lL:Hid (ay Z wb #[.string t.word,ae t.bZ,ae t.dl,ae t.off] 67):=by show ay _ _ _ _;rw[hZ,htk];exact bz
    have qO:Hid (Z.ownsRow base 67 4 (aD tg (n+8) (n+8)) (n+8) ys):=by show World.ownsRow _ _ _ _ _ _ _;rw[hZ];exact eZ
    have HCZ:Hid (aq (fun b=>b=tg) w Z):=by show aq _ _ _;rw[hZ];exact eN
    rw[←hZ];clear hZ htk ht;go_upto_region 12 with fail
    have w0:Z.cell? (ai wb 0)=some (.string t.word):=lL.cell 0 _ rfl;have w1:Z.cell? (ai wb 1)=some (ae t.bZ):=lL.cell 1 _ rfl;have w2:Z.cell? (ai wb 2)=some (ae t.dl):=lL.cell 2 _ rfl;have w3:Z.cell? (ai wb 3)=some (ae t.off):=lL.cell 3 _ rfl;obtain⟨sN,cap',hv,_,uI,_,_,hcc⟩:=cd qO ag;obtain⟨rfl,rfl⟩:tg=sN∧n+8=cap':=gW;exact Pb
  ·obtain rfl:k=n+8:=by omega
   have bV:¬((n:Int)+8<(n:Int)+8):=ag;go_wp2_with fail;go_ret;exact⟨rfl,HC⟩
end
section
def uE(base:Nat)(w:World)(a:Option Addr)(n:Nat)(ta:Option Addr)(cap:Nat)(ts:List TK):Prop:=
 (a=none∧ta=none∧cap=0)∨((∃p,a=some p)∧∃tg,ta=some (ai tg 0)∧cap=n+8∧base≤tg∧w.ownsRow base 67 4 (aD tg (n+8) (n+8)) (n+8) (pG ts))
theorem uE.below{w':World}(h:uE base w a n ta cap ts)(hb:Below w.heap.size w w'):uE base w' a n ta cap ts:=by
 rcases h with h|⟨h1,tg,h2,h3,h4,h5⟩
 ·exact aC h
 ·exact aA ⟨h1,tg,h2,h3,h4,aR h5 (aq.bf (S:=fun _=>False) hb) (fun _ _=>id)⟩
theorem yE(h:ep B w a n c 4 (ts.flatMap TK.cells)):n=ts.length:=by
 have:=h.1;rw[vL]at this;omega
theorem SU(h:ep B w a n c 4 (ts.flatMap TK.cells))(hn:n≤1100000)(hB:B≤w.heap.size):
  Calls prog 99 #[.slice a n c] w fun e w'=>∃ta cap,e=.returned (.slice ta n cap)∧uE w.heap.size w' a n ta cap ts∧Below w.heap.size w w':=by
 have hl:=yE h;obtain⟨_,hc,h|⟨p,rfl,h⟩⟩:=h
 ·obtain⟨rfl,rfl,rfl⟩:=h
  refine(Tp w).mono ?_;rintro e w' ⟨he,hb⟩;exact⟨none,0,he,aC ⟨rfl,rfl,rfl⟩,hb⟩
 ·refine(ZJ w p n c ts hl hn hc (fun j u hu=>⟨bF (h j u hu).1 hB,(h j u hu).2⟩)).mono ?_
  rintro e w' ⟨tg,he,h1,h2,h3⟩;exact⟨_,_,he,aA ⟨⟨p,rfl⟩,tg,rfl,rfl,h1,h2⟩,h3⟩
theorem TJ(h:ep B w a n c 4 (ts.flatMap TK.cells))(hn:n≤1100000)(hB:B≤base)(fU:base≤w.heap.size)(hl:uE base w a n ta cap ts):
  Calls prog 101 #[.slice ta n cap,.slice a n c] w fun e w'=>e=.returned (.bool true)∧aq (fun b=>ta=some (ai b 0)) w w':=by
 have hlen:=yE h;obtain⟨_,hc,h|⟨p,rfl,h⟩⟩:=h
 ·obtain⟨rfl,rfl,rfl⟩:=h
  refine(ac3 w _).mono ?_;rintro e w' ⟨he,hb⟩;exact⟨he,aq.bf hb⟩
 ·rcases hl with ⟨e,_⟩|⟨_,tg,rfl,rfl,h4,h5⟩
  ·cases e
  ·refine(UX w base tg B p n c ts hlen hn hc (bB hB h4) (bB hB fU) h h5).mono ?_
   rintro e w' ⟨he,bP⟩;exact⟨he,bP.mono (fun b _ e=>by rw[e])⟩
theorem uE.tasks{w0:World}(h:ep B w0 a n c 4 (ts.flatMap TK.cells))(hl:uE base w a n ta cap ts):
  n≤cap∧((n=0)∨∃tg,ta=some (ai tg 0)∧tg<w.heap.size∧∀(j:Nat) (u:Value),(ts.flatMap TK.cells)[j]?=some u→w.cell? (ai tg j)=some u):=by
 have hlen:=yE h;obtain⟨_,hc,h0⟩:=h;rcases hl with ⟨e1,e2,e3⟩|⟨⟨p,hp⟩,tg,rfl,rfl,h4,h5⟩
 ·rcases h0 with ⟨_,h0,_⟩|⟨p,h0,_⟩
  ·exact⟨ag,aC h0⟩
  ·rw[e1]at h0;cases h0
 ·refine⟨ag,aA ⟨tg,rfl,cJ h5 (k:=tg) rfl,fun j u hu=>?_⟩⟩
  have hj:j<ts.length*4:=by
   have:=(cI.1 hu).1;rw[vL]at this;exact this
  obtain⟨g',cap',hv,_,_,_,_,hcc⟩:=cd h5 ag;obtain⟨rfl,rfl⟩:tg=g'∧n+8=cap':=gW;exact hcc _ _ (by rw[Ln ts j hj];exact hu)
theorem ep.tasks(h:ep B w a n c 4 (ts.flatMap TK.cells))(hB:B≤w.heap.size):(n=0)∨∃pb po,a=some (ai pb po)∧oq w pb po ts:=by
 have hlen:=yE h;obtain⟨_,hc,⟨_,h0,_⟩|⟨p,rfl,h⟩⟩:=h
 ·exact aC h0
 ·rcases wO n with h0|h0
  ·exact aC h0
  ·right
   obtain⟨u,hu⟩:∃u,(ts.flatMap TK.cells)[0]?=some u:=⟨_,bE (by rw[vL];omega)⟩;obtain⟨pB,h1⟩:=h 0 u hu
   have hsp:p.spot=none:=by
    have h0:p.add 0=p:=DU;rw[h0]at h1;unfold World.cell? at h1
    split at h1
    ·split at h1
     ·cases h1
     ·rename_i h;simpa using h
    ·cases h1
   obtain⟨pb,po,ps⟩:=p;simp only at hsp pB;subst hsp;exact⟨pb,po,rfl,bF pB hB,fun j u hu=>by have:=(h j u hu).2;rwa [Addr.add_lit]at this⟩
end
end Go.Proofs.YtcphhbofjkenaaaGreatDoor
