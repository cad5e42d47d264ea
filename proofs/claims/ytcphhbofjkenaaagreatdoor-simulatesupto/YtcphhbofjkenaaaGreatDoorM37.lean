import Derived.Test.YtcphhbofjkenaaaGreatDoorMy
import Derived.Test.YtcphhbofjkenaaaGreatDoorM36
namespace Go.Proofs.YtcphhbofjkenaaaGreatDoor
open Go Go.RowKit Proofs.Tryz
set_option linter.unusedVariables false
set_option linter.unusedSimpArgs false
set_option maxRecDepth 100000
set_option maxHeartbeats 16000000
section
attribute [local go_sem] ui
theorem Y8{B:Nat}{w:World}{wb:Nat}{lv:Value}{bk:B4}{G:G4}{ds:List PD}(h:eT B w wb lv bk G ds)(hp:0<ds.length)(hl:ds.length≤9000000)(hg:G.e.length≤90000000)
  (A C:Int) (S:ByteArray) (a1 a2 a3:Option Addr) (n1 c1 n2 c2 n3 c3:Nat) (hA0: -9223372036854775808≤A) (hA1:A≤9223372036854775807) (hS:S.size≤1100000) (ms:List Int) (ts:List TK) (fT:ep B w a2 n2 c2 1 (ints ms)) (hdt:ep B w a3 n3 c3 4 (ts.flatMap TK.cells)) (hn2:n2≤1100000) (gT:n3≤1100000):
  Calls prog 35 #[ax wb,.agg #[ae 7,ae A,ae C,.string S,.slice a1 n1 c1,.slice a2 n2 c2,.slice a3 n3 c3]] w (CY B w wb ds G 0):=by
 obtain⟨pR,nE,hlv,hlc,_⟩:=bo h.lA;subst hlv;obtain⟨i,hpi,hil⟩:=Pd A ds.length hp;obtain⟨d,hd⟩:∃d,ds[i]?=some d:=⟨_,bE hil⟩;obtain⟨X,hX⟩:=ak (w.alloc (.cells #[ae 7,ae A,ae C,.string S,.slice a1 n1 c1,.slice a2 n2 c2,.slice a3 n3 c3] 86 (0,0)):World);obtain⟨ob,fV⟩:=ak (w.heap.size);have hbX:Below w.heap.size w X:=jo;have aN:ay X ob #[ae 7,ae A,ae C,.string S,.slice a1 n1 c1,.slice a2 n2 c2,.slice a3 n3 c3] 86:=by rw[hX,fV];exact bJ w _ _
 have hLX:=h.below hbX;have o0:X.cell? (ai ob 0)=some (ae 7):=aN.cell 0 _ rfl;have o1:X.cell? (ai ob 1)=some (ae A):=aN.cell 1 _ rfl;have o3:X.cell? (ai ob 3)=some (.string S):=aN.cell 3 _ rfl;have w0:X.cell? (ai wb 0)=some (.slice pR ds.length nE):=hLX.blk.cell 0 _ rfl;obtain⟨lg,EW,hv,_,Ye,_,_,hcell⟩:=cd hLX.lA hp;obtain⟨rfl,rfl⟩:pR=some (ai lg 0)∧nE=EW:=gW
 have g0:X.cell? (ai lg (i*2))=some (ax d.bb):=by
  refine hcell _ _ ?_;have:=flat_get PD.cells 2 (fun _=>rfl) ds i 0 hil ag;rw[Nat.add_zero]at this;rw[this,(cI.1 hd).2];rfl
 have g1:X.cell? (ai lg (i*2+1))=some (ax d.sb):=by
  refine hcell _ _ ?_;rw[flat_get PD.cells 2 (fun _=>rfl) ds i 1 hil ag,(cI.1 hd).2];rfl
 have HX:=af hX;have HOB:=af fV;have HL:=af h;have rG:=af hLX;have bz:=af aN;have bT:=af hbX;have HD:=af hd;have HDT:=af hdt;have dL:=af fT;have bV:(i:Int)<(ds.length:Int):=ag;have hl0:(0:Int)≤(i:Int):=ag;have hln:(ds.length:Int)≤9000000:=ag;have qo:=af (fun w'=>(PI A ds.length w' ag ag hA0 hA1).mono (fun e w2 (he:e=.returned (ae (qM A ds.length))∧w2=w')=>(show e=.returned (ae i)∧Below w'.heap.size w' w2 by rw[he.1,he.2,hpi];exact⟨rfl,aQ⟩)));clear h hdt fT hX fV hbX aN hLX hd hv hcell hpi;go_enter func35,ntmps35;go_upto_region 1 with fail
 rw[←HX.out,←HOB.out];go_upto_region 3 with fail
 have hne:=cz.ne X.heap.size X #[.pointer none,.pointer none] 143 aH;have k0:∀(S':Option Nat) (u:cz X.heap.size X #[.pointer none,.pointer none] 143 S'),u.val.cell? (ai wb 0)=some (aD lg ds.length nE):=fun S' u=>u.cell w0 (dD X _ w0)
 have k1:∀(S':Option Nat) (u:cz X.heap.size X #[.pointer none,.pointer none] 143 S'),u.val.cell? (ai ob 1)=some (ae A):=fun S' u=>u.cell o1 (dD X _ o1)
 have k2:∀(S':Option Nat) (u:cz X.heap.size X #[.pointer none,.pointer none] 143 S'),u.val.cell? (ai lg (i*2))=some (ax d.bb):=fun S' u=>u.cell g0 (dD X _ g0)
 have k3:∀(S':Option Nat) (u:cz X.heap.size X #[.pointer none,.pointer none] 143 S'),u.val.cell? (ai lg (i*2+1))=some (ax d.sb):=fun S' u=>u.cell g1 (dD X _ g1)
 refine ur #[.pointer none,.pointer none] 143 14 aP aP rfl (fun _=>rfl) (fun a w=>by simp[go_sem]) ?_;simp only[List.take_succ_cons,List.take_zero,List.drop_succ_cons,List.drop_zero]
 repeat (refine uB (fun K hK=>?_);go_simp;first|(refine hK _ ?_;clear hK K)|(apply Exists.intro;refine⟨fun S u=>?_,hK _ ?_⟩;(go_at_call 63;exact cz.calls aH u (qo _));clear hK K))
 refine uU ?_;intro pb w6 hpb bL hblk;have z0:w6.cell? (ai pb 0)=some (.pointer none):=hblk.cell 0 _ rfl;have z1:w6.cell? (ai pb 1)=some (.pointer none):=hblk.cell 1 _ rfl;have y0:=hblk.frozen 0;have y1:=hblk.frozen 1;have NV:=hblk.lt;obtain⟨V,hV⟩:=ak ((w6.setCell (ai pb 0) (ax d.bb)).setCell (ai pb 1) (ax d.sb):World)
 have gQ:ay V pb #[ax d.bb,ax d.sb] 143:=by
  rw[hV];have:=(hblk.set (o:=0) (ax d.bb)).set (o:=1) (ax d.sb);simpa using this
 have fe:Below X.heap.size X V:=Rz;have mS:=af gQ;have cS:=af fe;have HV:=af hV;clear k0 k1 k2 k3 hne hblk bL gQ fe o0 o1 o3 w0 g0 g1 hV;go_simp;go_upto_region 4 with fail
 rw[←HV.out];clear z0 z1 y0 y1;have hLV:=rG.below cS;have pX:=bz.sub cS bz.lt;have o0:V.cell? (ai ob 0)=some (ae 7):=pX.cell 0 _ rfl;have o1:V.cell? (ai ob 1)=some (ae A):=pX.cell 1 _ rfl;have o2:V.cell? (ai ob 2)=some (ae C):=pX.cell 2 _ rfl;have o3:V.cell? (ai ob 3)=some (.string S):=pX.cell 3 _ rfl;have o4:V.cell? (ai ob 4)=some (.slice a1 n1 c1):=pX.cell 4 _ rfl;have o5:V.cell? (ai ob 5)=some (.slice a2 n2 c2):=pX.cell 5 _ rfl;have o6:V.cell? (ai ob 6)=some (.slice a3 n3 c3):=pX.cell 6 _ rfl;have p0:V.cell? (ai pb 0)=some (ax d.bb):=mS.cell 0 _ rfl;have p1:V.cell? (ai pb 1)=some (ax d.sb):=mS.cell 1 _ rfl;have si:=af (WR hLV HD hg 7 A C S a1 a2 a3 n1 c1 n2 c2 n3 c3 ms ts (dL.below ((bT.mono HL.le).trans (cS.mono rG.le))) (HDT.below ((bT.mono HL.le).trans (cS.mono rG.le))) hn2 gT);clear hLV pX;go_wp2_with fail;refine si.mono ?_;rintro e w8 ⟨rfl,jG,G',hL8,hn8,hb8⟩;have H8:=af (aY hL8 (aY hn8 hb8));clear hL8 hn8 hb8 si o0 o1 o2 o3 o4 o5 o6 p0 p1;go_wp2_with fail;go_ret;obtain⟨hL8,hn8,hb8⟩:=H8.out;exact⟨rfl,_,jG,G',ds,hL8,aF,ag,hn8,((bT.mono HL.le).trans (cS.mono rG.le)).trans hb8⟩
theorem XX(all:List gM)(bj:∀o∈all,o.Ok):Ms [1,2,7] all l7:=by
 refine⟨?_,fun B wb w k m h hk=>h.looks hk,fun B wb w w' k m h hb=>h.below hb,l7.init,fun B wb w k m h=>h.size,rfl⟩;rintro B wb o ho hin w k m ⟨lv,bk,G,ds,hL,hm,hmk,hg⟩ hat Jz hk;obtain⟨h1,h2,h3⟩:=bj o ho;have hg2:G.e.length≤12*k:=hg 3 ag
 have hk4:o.k=1∨o.k=2∨o.k=7:=by
  simp only[List.any_cons,List.any_nil,Bool.or_false,Bool.or_eq_true,beq_iff_eq]at hin;omega
 rcases hk4 with e|e|e
 ·have:=acS hL ag o.A o.C o.S o.a1 o.a2 o.a3 o.n1 o.c1 o.n2 o.c2 o.n3 o.c3
  rw[e];refine this.mono (fun e' w' h=>?_);have:=l7.next (o:=o) hm hmk hg (fun _=>rfl) h;rw[e]at this;exact this
 ·have:=VY hL (by have:=Jz ag;omega) ag o.A o.C o.S o.a1 o.a2 o.a3 o.n1 o.c1 o.n2 o.c2 o.n3 o.c3 h1 h2 h3
  rw[e];refine this.mono (fun e' w' h=>?_);have:=l7.next (o:=o) hm hmk hg (fun h=>absurd h ag) h;rw[e]at this;exact this
 ·obtain⟨ls,ms,ts,_,d5,d6,_,b5,b6⟩:=hat
  have:=Y8 hL (by have:=Jz ag;omega) ag ag o.A o.C o.S o.a1 o.a2 o.a3 o.n1 o.c1 o.n2 o.c2 o.n3 o.c3 h1 h2 h3 ms ts d5 d6 b5 b6;rw[e];refine this.mono (fun e' w' h=>?_);have:=l7.next (o:=o) hm hmk hg (fun h=>absurd h ag) h;rw[e]at this;exact this
theorem Wy(w:World)(t:TypeId):∀j (h:j<[1,2,7].length),(w.alloc (.cells #[ae 1,ae 2,ae 7] t)).cell? (ai w.heap.size j)=some (ae ([1,2,7]:List Int)[j]):=by
 intro j h;have h4:j<3:=h
 match j,h4 with
 |0,_=>simp
 |1,_=>simp
 |2,_=>simp
theorem Sp(w:World)(sv:Value)(ops:List gM)(hs:Cu w sv ops)(hat:∀o∈ops,o.At w.heap.size w)(hn:ops.length≤1100000)(ht:cQ w)(bj:∀o∈ops,o.Ok):
  Calls prog 8 #[sv] w fun e w'=>e=.returned (.bool true)∧Below w.heap.size w w':=by
 obtain⟨sa,sn,sc,hsv⟩:∃a n c,sv=.slice a n c:=by
  rcases hs with ⟨e,_⟩|⟨a,c,e,_⟩
  ·exact⟨_,_,_,e⟩
  ·exact⟨_,_,_,e⟩
 subst hsv;have hb0:Below w.heap.size w (w.alloc (.cells #[ae 1,ae 2,ae 7] 3 (0,0))):=aQ.alloc aH _
 have hs0:Cu (w.alloc (.cells #[ae 1,ae 2,ae 7] 3 (0,0))) (.slice sa sn sc) ops:=by
  rcases hs with h|⟨a,c,e,h⟩
  ·exact aC h
  ·refine aA ⟨a,c,e,fun j u hu=>?_⟩
   have h1:=h j u hu;rw[hb0.cell (dD w _ h1)];exact h1
 have Au:∀o∈ops,o.At (w.alloc (.cells #[ae 1,ae 2,ae 7] 3 (0,0))).heap.size (w.alloc (.cells #[ae 1,ae 2,ae 7] 3 (0,0))):=fun o ho=>((hat o ho).below hb0).mono hb0.size
 have HP:=af (Ss (pl:=[1,2,7]) (ops:=ops) (St:=l7) (w.alloc (.cells #[ae 1,ae 2,ae 7] 3 (0,0))) (.slice sa sn sc) w.heap.size 3 (fun tb ib=>XX _ (fun o ho=>(List.mem_append.1 ho).elim (abZ tb ib o) (bj o))) hs0 Au hn (ht.below hb0) aj aj aF (Wy w 3));have HB:=af hb0;clear hs hn ht bj hs0 hb0 hat Au;go_enter func8,ntmps8;go_wp2_with fail;refine HP.mono ?_;rintro e w1 ⟨rfl,hb1⟩;have H1:=af hb1;clear HP hb1;go_wp2_with fail;go_ret;exact⟨rfl,HB.trans (H1.mono aF)⟩
end
end Go.Proofs.YtcphhbofjkenaaaGreatDoor
