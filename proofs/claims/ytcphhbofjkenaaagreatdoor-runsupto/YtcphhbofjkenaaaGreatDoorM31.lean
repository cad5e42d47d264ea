import Derived.Test.YtcphhbofjkenaaaGreatDoorM30
namespace Go.Proofs.YtcphhbofjkenaaaGreatDoor
open Go Go.RowKit
set_option linter.unusedVariables false
set_option linter.unusedSimpArgs false
set_option maxRecDepth 100000
set_option maxHeartbeats 16000000
section
def GLe(G G':G4):Prop:=∀j,j<4→(G'.get j).length≤(G.get j).length+12
theorem GLe.refl(G:G4):GLe G G:=fun j _=>by omega
end
section
attribute [local go_sem] oK
def Oy(B:Nat)(w:World)(wb:Nat)(ds:List PD)(G:G4)(n:Nat)(e:Ending)(w':World):Prop:=
 e=.returned (.bool true)∧∃qx Be G' ds',dP B w' wb qx Be G' ds'∧ds.length+n≤ds'.length∧ds'.length≤ds.length+1∧GLe G G'∧Below B w w'
theorem IP(c:Int)(n:Nat)(hn:0<n):∃i:Nat,qf c n=(i:Int)∧i<n:=by
 obtain⟨h1,h2⟩:=Vh c n (by omega);exact⟨(qf c n).toNat,by omega,by omega⟩
theorem FN{B:Nat}{w:World}{wb:Nat}{lv:Value}{bk:B4}{G:G4}{ds:List PD}(h:dP B w wb lv bk G ds)(hl:ds.length≤9000000)
  (A C:Int) (S:ByteArray) (a1 a2 a3:Option Addr) (n1 c1 n2 c2 n3 c3:Nat):
  Calls Tryz.prog 35 #[.pointer (some ⟨wb,0,none⟩),.agg #[.int .i64 1,.int .i64 A,.int .i64 C,.string S,.slice a1 n1 c1,.slice a2 n2 c2,.slice a3 n3 c3]] w (Oy B w wb ds G 1):=by
 have hb0:∀o,Below w.heap.size w (w.alloc o):=fun o=>brq.alloc nrq _
 have HM:=ast (fun o=>Vm (h.below (hb0 o)) (by omega));have HL:=ast h;clear h hb0;go_enter Tryz.func35,Tryz.ntmps35
 go_wp2_with fail
 refine(HM.out _).mono ?_;rintro e w1 ⟨rfl,qx,d,WZ,hc1⟩;have DU:=ast WZ;have BI:=ast hc1;clear HM WZ hc1;go_wp2_with fail
 go_ret
 have hca:=BI.out;have hbb:∀o,Below w.heap.size w (w.alloc o):=fun o=>brq.alloc nrq _
 refine⟨rfl,qx,bk,G,ds++[d],DU.out,by simp,by simp,GLe.refl _,?_⟩
 ·refine((hbb _).mono HL.out.le).trans (hca.toBelow (by simp;have:=HL.out.le;omega) (fun k hk e=>?_))
  rcases e with e|e
  ·have:=HL.out.Ec.2;omega
  ·have:=aF HL.out.Gv e;omega
theorem C9{B:Nat}{w:World}{wb:Nat}{lv:Value}{bk:B4}{G:G4}{ds:List PD}(h:dP B w wb lv bk G ds)(hp:0<ds.length)(hl:ds.length≤9000000)
  (A C:Int) (S:ByteArray) (a1 a2 a3:Option Addr) (n1 c1 n2 c2 n3 c3:Nat) (hA0: -9223372036854775808≤A) (hA1:A≤9223372036854775807) (hS:S.size≤1100000):
  Calls Tryz.prog 35 #[.pointer (some ⟨wb,0,none⟩),.agg #[.int .i64 2,.int .i64 A,.int .i64 C,.string S,.slice a1 n1 c1,.slice a2 n2 c2,.slice a3 n3 c3]] w (Oy B w wb ds G 0):=by
 obtain⟨Qn,tY,hlv,hlc,_⟩:=ag h.Gv;subst hlv;obtain⟨i,WU,JD⟩:=IP A ds.length hp;obtain⟨d,hd⟩:∃d,ds[i]?=some d:=⟨_,List.getElem?_eq_getElem JD⟩;obtain⟨X,hX⟩:=exq (w.alloc (.cells #[.int .i64 2,.int .i64 A,.int .i64 C,.string S,.slice a1 n1 c1,.slice a2 n2 c2,.slice a3 n3 c3] 86 (0,0)):World);obtain⟨ob,AA⟩:=exq (w.heap.size);have hbX:Below w.heap.size w X:=by rw[hX];exact brq.alloc nrq _
 have bU:az X ob #[.int .i64 2,.int .i64 A,.int .i64 C,.string S,.slice a1 n1 c1,.slice a2 n2 c2,.slice a3 n3 c3] 86:=by rw[hX,AA];exact ay w _ _
 have Yt:=h.below hbX;have o0:X.cell? ⟨ob,0,none⟩=some (.int .i64 2):=bU.cell 0 _ rfl;have o1:X.cell? ⟨ob,1,none⟩=some (.int .i64 A):=bU.cell 1 _ rfl;have o3:X.cell? ⟨ob,3,none⟩=some (.string S):=bU.cell 3 _ rfl;have w0:X.cell? ⟨wb,0,none⟩=some (.slice Qn ds.length tY):=Yt.blk.cell 0 _ rfl;obtain⟨lg,Vo,hv,_,akG,_,_,hcell⟩:=aB Yt.Gv hp;obtain⟨rfl,rfl⟩:Qn=some ⟨lg,0,none⟩∧tY=Vo:=by simpa using hv
 have g0:X.cell? ⟨lg,i*2,none⟩=some (.pointer (some ⟨d.bb,0,none⟩)):=by
  refine hcell _ _ ?_;have:=flat_get PD.cells 2 (fun _=>rfl) ds i 0 JD (by omega);rw[Nat.add_zero]at this;rw[this,(List.getElem?_eq_some_iff.1 hd).2];rfl
 have g1:X.cell? ⟨lg,i*2+1,none⟩=some (.pointer (some ⟨d.sb,0,none⟩)):=by
  refine hcell _ _ ?_;rw[flat_get PD.cells 2 (fun _=>rfl) ds i 1 JD (by omega),(List.getElem?_eq_some_iff.1 hd).2];rfl
 have HX:=ast hX;have Yu:=ast AA;have HL:=ast h;have HLX:=ast Yt;have jX:=ast bU;have lV:=ast hbX;have HD:=ast hd;have lD:(i:Int)<(ds.length:Int):=by omega
 have hl0:(0:Int)≤(i:Int):=by omega
 have hln:(ds.length:Int)≤9000000:=by omega
 have HPK:=ast (fun w'=>(IK A ds.length w' (by omega) (by omega) hA0 hA1).mono (fun e w2 (he:e=.returned (.int .i64 (qf A ds.length))∧w2=w')=>(show e=.returned (.int .i64 i)∧Below w'.heap.size w' w2 by rw[he.1,he.2,WU];exact⟨rfl,brq⟩)));clear h hX AA hbX bU Yt hd hv hcell WU;go_enter Tryz.func35,Tryz.ntmps35
 go_upto_region 1 with fail
 rw[←HX.out,←Yu.out];go_upto_region 3 with fail
 have hne:=dH.ne X.heap.size X #[.pointer none,.pointer none] 143 nrq;have k0:∀(S':Option Nat) (u:dH X.heap.size X #[.pointer none,.pointer none] 143 S'),u.val.cell? ⟨wb,0,none⟩=some (.slice (some ⟨lg,0,none⟩) ds.length tY):=fun S' u=>u.cell w0 (World.block_lt_of_cell? X _ w0)
 have k1:∀(S':Option Nat) (u:dH X.heap.size X #[.pointer none,.pointer none] 143 S'),u.val.cell? ⟨ob,1,none⟩=some (.int .i64 A):=fun S' u=>u.cell o1 (World.block_lt_of_cell? X _ o1)
 have k2:∀(S':Option Nat) (u:dH X.heap.size X #[.pointer none,.pointer none] 143 S'),u.val.cell? ⟨lg,i*2,none⟩=some (.pointer (some ⟨d.bb,0,none⟩)):=fun S' u=>u.cell g0 (World.block_lt_of_cell? X _ g0)
 have k3:∀(S':Option Nat) (u:dH X.heap.size X #[.pointer none,.pointer none] 143 S'),u.val.cell? ⟨lg,i*2+1,none⟩=some (.pointer (some ⟨d.sb,0,none⟩)):=fun S' u=>u.cell g1 (World.block_lt_of_cell? X _ g1)
 refine dR #[.pointer none,.pointer none] 143 14 (by kernel_rfl) (by kernel_rfl) rfl (fun _=>rfl) (fun a w=>by simp[go_sem]) ?_;simp only[List.take_succ_cons,List.take_zero,List.drop_succ_cons,List.drop_zero]
 repeat (refine dQ (fun K hK=>?_);go_simp;first|(refine hK _ ?_;clear hK K)|(apply Exists.intro;refine⟨fun S u=>?_,hK _ ?_⟩;(go_at_call 63;exact dH.calls nrq u (HPK.out _));clear hK K))
 refine eQ ?_;intro pb w6 hpb bT hblk;have z0:w6.cell? ⟨pb,0,none⟩=some (.pointer none):=hblk.cell 0 _ rfl;have z1:w6.cell? ⟨pb,1,none⟩=some (.pointer none):=hblk.cell 1 _ rfl;have y0:=hblk.frozen 0;have y1:=hblk.frozen 1;have ZZ:=hblk.lt;obtain⟨V,hV⟩:=exq ((w6.setCell ⟨pb,0,none⟩ (.pointer (some ⟨d.bb,0,none⟩))).setCell ⟨pb,1,none⟩ (.pointer (some ⟨d.sb,0,none⟩)):World)
 have BU:az V pb #[.pointer (some ⟨d.bb,0,none⟩),.pointer (some ⟨d.sb,0,none⟩)] 143:=by
  rw[hV];have:=(hblk.set (o:=0) (.pointer (some ⟨d.bb,0,none⟩))).set (o:=1) (.pointer (some ⟨d.sb,0,none⟩));simpa using this
 have Bc:Below X.heap.size X V:=by rw[hV];exact(bT.setCell hpb _).setCell hpb _
 have Oz:=ast BU;have rC:=ast Bc;have HV:=ast hV;clear k0 k1 k2 k3 hne hblk bT BU Bc o0 o1 o3 w0 g0 g1 hV;go_simp
 go_upto_region 4 with fail
 rw[←HV.out];clear z0 z1 y0 y1;have hLV:=HLX.out.below rC.out;have Qo:=jX.out.sub rC.out jX.out.lt;have hdV:=hLV.at_ i d HD.out;have o0:V.cell? ⟨ob,0,none⟩=some (.int .i64 2):=Qo.cell 0 _ rfl;have o3:V.cell? ⟨ob,3,none⟩=some (.string S):=Qo.cell 3 _ rfl;have p0:V.cell? ⟨pb,0,none⟩=some (.pointer (some ⟨d.bb,0,none⟩)):=Oz.out.cell 0 _ rfl;have vK:=ast (Lj S hdV.ps hLV.tab hS hdV.li);have HRL:=ast (fun (w':World) (hr:aK w' d.sb d.sv d.ws d.nv d.nt) (Yl:bM d.F w' d.ws)=>Vf S d.sb d.sv w' hr hdV.al Yl hdV.li hdV.ok hS);obtain⟨R,hR⟩:=exq (vN S d.es d.nv d.nt d.code);rw[←hR]at vK HRL;obtain⟨⟨r,q⟩,es',qc,zt,code'⟩:=R;have Qp:=ast hLV;have Z4:=ast Qo;have uD:=ast hdV;clear hLV Qo hdV hR;go_wp2_with fail
 refine vK.out.mono ?_;rintro e w7 ⟨rfl,⟨BO,cv',Bg,agf,Yv,Yw⟩,Vp,sZ⟩;simp only at Bg Vp;have OA:∀k,(k=d.bb∨d.ev.ownBlock=some k∨d.cv.ownBlock=some k)→d.foot k:=fun k e=>e.elim Or.inl (fun e=>e.elim (fun e=>Or.inr (Or.inl e)) (fun e=>Or.inr (Or.inr (Or.inl e))))
 have agh:=Oz.out.aA sZ (fun e=>uD.out.Bf Oz.out (by decide) (by decide) (by decide) (by decide) (by decide) (by decide) (OA _ e));have agi:=Z4.out.aA sZ (fun e=>uD.out.Bf Z4.out (by decide) (by decide) (by decide) (by decide) (by decide) (by decide) (OA _ e))
 have FO:aK w7 d.sb d.sv d.ws d.nv d.nt:=uD.out.rs.aA sZ (fun e=>by
   rcases e with e|e|e
   ·exact kG uD.out.rs.blk uD.out.ps.blk (by decide) e
   ·exact ah uD.out.ps.row uD.out.rs.blk (by decide) e
   ·exact ah uD.out.ps.iO uD.out.rs.blk (by decide) e) (fun k hk e=>by
   rcases e with e|e|e
   ·exact ah uD.out.rs.row uD.out.ps.blk (by decide) (by rw[hk,e])
   ·exact bQ uD.out.rs.row uD.out.ps.row (by decide) hk e
   ·exact bQ uD.out.rs.row uD.out.ps.iO (by decide) hk e)
 have agj:bM d.F w7 d.ws∧∀k,d.F k→∃cs,az w7 k cs 249:=by
  have hn:∀k cs,az V k cs 249→¬(k=d.bb∨d.ev.ownBlock=some k∨d.cv.ownBlock=some k):=fun k cs hb e=>by
   rcases e with e|e|e
   ·subst e;exact absurd (bH uD.out.ps.blk hb) (by decide)
   ·exact ah uD.out.ps.row hb (by decide) e
   ·exact ah uD.out.ps.iO hb (by decide) e
  exact⟨uD.out.tr.aA sZ (fun k cs _ hb=>hn k cs hb),fun k hk=>(uD.out.fi k hk).imp (fun cs hb=>hb.aA sZ (hn k cs hb))⟩
 have akJ:=ast agj;clear agj;have o3':w7.cell? ⟨ob,3,none⟩=some (.string S):=agi.cell 3 _ rfl;have p1':w7.cell? ⟨pb,1,none⟩=some (.pointer (some ⟨d.sb,0,none⟩)):=agh.cell 1 _ rfl;have H7:=ast (And.intro Bg (And.intro Yv (And.intro Yw (And.intro Vp (And.intro sZ FO)))));have HS7:=ast OA;clear Bg agf Yv Yw Vp sZ FO agh agi OA o0 o3 p0 vK;go_wp2_with fail
 refine(HRL.out _ H7.out.2.2.2.2.2 akJ.out.1).mono ?_;rintro e w8 ⟨rfl,⟨qm,tV,Vq,Vr,Yx,Yy,F8,hF8,hT8⟩,TE⟩;simp only at Vq Vr;have HT8:=ast hT8.shrink;have HF8:=ast hF8;clear hT8 hF8;have H8:=ast (And.intro Vq (And.intro Vr (And.intro Yx (And.intro Yy TE))));clear Vq Vr Yx Yy TE HRL o3' p1';go_wp2_with fail
 go_ret
 obtain⟨Bg,Yv,Yw,Vp,sZ,FO⟩:=H7.out;obtain⟨Vq,Vr,Yx,Yy,TE⟩:=H8.out
 have akK:iC w8 d.bb BO cv' es' qc zt code':=Bg.aA TE (fun e=>by
   rcases e with e|e
   ·exact kG Bg.blk FO.blk (by decide) e
   ·exact ah FO.row Bg.blk (by decide) e) (fun k hk e=>by
   rcases e with e|e
   ·exact ah Bg.row FO.blk (by decide) (by rw[hk,e])
   ·exact bQ Bg.row FO.row (by decide) hk e) (fun k hk e=>by
   rcases e with e|e
   ·exact ah Bg.iO FO.blk (by decide) (by rw[hk,e])
   ·exact bQ Bg.iO FO.row (by decide) hk e)
 have hcV:aj d.foot V w8:=(sZ.mono (fun k _ e=>HS7.out k e)).trans (TE.mono (fun k _ e=>e.elim (fun e=>Or.inr (Or.inr (Or.inr (Or.inl e)))) (fun e=>Or.inr (Or.inr (Or.inr (Or.inr (Or.inl e)))))))
 have hf:∀k,(⟨d.bb,BO,cv',es',qc,zt,code',d.sb,qm,tV,fun k=>F8 k∧∃cs,az w8 k cs 249⟩:PD).foot k→d.foot k∨V.heap.size≤k:=fun k hk=>by
  rcases hk with e|e|e|e|e|e
  ·exact Or.inl (Or.inl e)
  ·exact(Yv k e).imp (fun e=>Or.inr (Or.inl e)) id
  ·exact(Yw k e).imp (fun e=>Or.inr (Or.inr (Or.inl e))) id
  ·exact Or.inl (Or.inr (Or.inr (Or.inr (Or.inl e))))
  ·exact(Yy k e).imp (fun e=>Or.inr (Or.inr (Or.inr (Or.inr (Or.inl e))))) (fun e=>Nat.le_trans sZ.size e)
  ·exact(HF8.out k e.1).imp (fun e=>Or.inr (Or.inr (Or.inr (Or.inr (Or.inr e))))) (fun e=>Nat.le_trans sZ.size e)
 have yw:=Qp.out.le;have hfin:=Qp.out.turn HD.out (d':=⟨d.bb,BO,cv',es',qc,zt,code',d.sb,qm,tV,fun k=>F8 k∧∃cs,az w8 k cs 249⟩) rfl rfl hcV ⟨akK,Vp,Vq,Vr,Yx,fun k hk=>(hf k hk).elim (fun e=>uD.out.fp k e) (fun e=>Nat.le_trans yw e),HT8.out,fun k hk=>hk.2⟩ hf;refine⟨rfl,_,bk,G,_,hfin,by simp,by simp,GLe.refl _,?_⟩
 ·exact((lV.out.mono HL.out.le).trans (rC.out.mono HLX.out.le)).trans (hcV.toBelow yw (fun k hk e=>by have:=uD.out.fp k e;omega))
end
section
structure uF where
 k:Int
 A:Int
 C:Int
 S:ByteArray
 a1:Option Addr
 n1:Nat
 c1:Nat
 a2:Option Addr
 n2:Nat
 c2:Nat
 a3:Option Addr
 n3:Nat
 c3:Nat
def uF.cells(o:uF):List Value:=[.int .i64 o.k,.int .i64 o.A,.int .i64 o.C,.string o.S,.slice o.a1 o.n1 o.c1,.slice o.a2 o.n2 o.c2,.slice o.a3 o.n3 o.c3]
def qo(l:List uF):List Value:=l.flatMap uF.cells
def Yz:ByteArray:=⟨#[115,117,109]⟩
def Z5:ByteArray:=⟨#[58,32,115,117,109,32,48,32,53,32,49,32,100,111,32,105,32,43,32,108,111,111,112,32,111,117,116,32,59,32,118,97,114,105,97,98,108,101,32,118]⟩
def tZ(tb ib:Nat):List uF:=[
 ⟨1,0,0,⟨#[]⟩,none,0,0,none,0,0,none,0,0⟩,
 ⟨2,0,0,Z5,none,0,0,none,0,0,none,0,0⟩,
 ⟨4,0,0,Yz,none,0,0,none,0,0,none,0,0⟩,
 ⟨3,0,0,⟨#[]⟩,none,0,0,none,0,0,none,0,0⟩,
 ⟨5,0,100,Yz,some ⟨ib,0,none⟩,1,1,none,0,0,none,0,0⟩,
 ⟨6,0,0,⟨#[]⟩,none,0,0,none,0,0,some ⟨tb,0,none⟩,1,1⟩,
 ⟨7,0,50,⟨#[]⟩,none,0,0,none,0,0,some ⟨tb,0,none⟩,1,1⟩]
def fD(B:Nat)(w:World)(a:Option Addr)(n c size:Nat)(xs:List Value):Prop:=
 xs.length=n*size∧n≤c∧((a=none∧n=0∧c=0)∨∃p,a=some p∧∀(j:Nat) (u:Value),xs[j]?=some u→p.block<B∧w.cell? (p.add j)=some u)
theorem uf(p:Addr)(n:Nat):(p.add n).block=p.block:=by unfold Addr.add;split<;>rfl
theorem fD.below{B:Nat}{w w':World}{a:Option Addr}{n c size:Nat}{xs:List Value}(h:fD B w a n c size xs)(hb:Below B w w'):fD B w' a n c size xs:=by
 obtain⟨h1,h2,h3⟩:=h;refine⟨h1,h2,h3.imp id ?_⟩;rintro ⟨p,e,hc⟩;exact⟨p,e,fun j u hu=>⟨(hc j u hu).1,by rw[hb.cell (by rw[uf];exact(hc j u hu).1)];exact(hc j u hu).2⟩⟩
theorem fD.mono{B B':Nat}{w:World}{a:Option Addr}{n c size:Nat}{xs:List Value}(h:fD B w a n c size xs)(hb:B≤B'):fD B' w a n c size xs:=by
 obtain⟨h1,h2,h3⟩:=h;refine⟨h1,h2,h3.imp id ?_⟩;rintro ⟨p,e,hc⟩;exact⟨p,e,fun j u hu=>⟨Nat.lt_of_lt_of_le (hc j u hu).1 hb,(hc j u hu).2⟩⟩
theorem fD.nil(B:Nat)(w:World)(size:Nat):fD B w none 0 0 size []:=⟨by simp,nrq,Or.inl ⟨rfl,rfl,rfl⟩⟩
theorem fD.blk{B b n size:Nat}{w:World}{cs:Array Value}{t:TypeId}(h:az w b cs t)(hb:b<B)(hs:cs.size=n*size):fD B w (some ⟨b,0,none⟩) n n size cs.toList:=
 ⟨by rw[Array.length_toList];exact hs,nrq,Or.inr ⟨⟨b,0,none⟩,rfl,fun j u hu=>⟨hb,by
  rw[Addr.add_lit,Nat.zero_add];exact h.cell j u (by simpa using hu)⟩⟩⟩
def uF.At(B:Nat)(w:World)(o:uF):Prop:=∃(ls ms:List Int) (ts:List TK),fD B w o.a1 o.n1 o.c1 1 (ls.map (Value.int .i64))∧fD B w o.a2 o.n2 o.c2 1 (ms.map (Value.int .i64))∧fD B w o.a3 o.n3 o.c3 4 (ts.flatMap TK.cells)∧o.n1≤1100000∧o.n2≤1100000∧o.n3≤1100000
theorem uF.At.below{B:Nat}{w w':World}{o:uF}(h:o.At B w)(hb:Below B w w'):o.At B w':=by
 obtain⟨ls,ms,ts,h1,h2,h3,h4⟩:=h;exact⟨ls,ms,ts,h1.below hb,h2.below hb,h3.below hb,h4⟩
theorem uF.At.mono{B B':Nat}{w:World}{o:uF}(h:o.At B w)(hb:B≤B'):o.At B' w:=by
 obtain⟨ls,ms,ts,h1,h2,h3,h4⟩:=h;exact⟨ls,ms,ts,h1.mono hb,h2.mono hb,h3.mono hb,h4⟩
def Vs:TK:=⟨Yz,40,30,0⟩
theorem Qq{B:Nat}{w:World}{tb ib:Nat}(h1:az w tb Vs.cells.toArray 67)(h2:az w ib #[.int .i64 7] 3)(b1:tb<B)(b2:ib<B):∀o∈tZ tb ib,o.At B w:=by
 intro o ho;have z0:0≤1100000:=by decide
 have z1:1≤1100000:=by decide
 have n1:=fD.nil B w 1;have n4:=fD.nil B w 4;have i1:fD B w (some ⟨ib,0,none⟩) 1 1 1 ([7].map (Value.int .i64)):=fD.blk h2 b2 rfl;have t1:fD B w (some ⟨tb,0,none⟩) 1 1 4 ([Vs].flatMap TK.cells):=fD.blk h1 b1 rfl;simp only[tZ,List.mem_cons,List.not_mem_nil,or_false]at ho;rcases ho with rfl|rfl|rfl|rfl|rfl|rfl|rfl
 ·exact⟨[],[],[],n1,n1,n4,z0,z0,z0⟩
 ·exact⟨[],[],[],n1,n1,n4,z0,z0,z0⟩
 ·exact⟨[],[],[],n1,n1,n4,z0,z0,z0⟩
 ·exact⟨[],[],[],n1,n1,n4,z0,z0,z0⟩
 ·exact⟨[7],[],[],i1,n1,n4,z1,z0,z0⟩
 ·exact⟨[],[],[Vs],n1,n1,t1,z0,z0,z1⟩
 ·exact⟨[],[],[Vs],n1,n1,t1,z0,z0,z1⟩
theorem LG(w:World)(o2 o3:Obj)(cs:Array Value)(t:TypeId):az (((w.alloc (.cells cs t (0,0))).alloc o2).alloc o3) w.heap.size cs t:=((ay w cs t).alloc o2).alloc o3
theorem LH(w:World)(o1 o3:Obj)(cs:Array Value)(t:TypeId):az (((w.alloc o1).alloc (.cells cs t (0,0))).alloc o3) (w.heap.size+1) cs t:=by
 have:=(ay (w.alloc o1) cs t).alloc o3;simpa using this
theorem Vt(w:World)(o1 o2:Obj)(cs:Array Value)(t:TypeId):az (((w.alloc o1).alloc o2).alloc (.cells cs t (0,0))) (w.heap.size+1+1) cs t:=by
 have:=ay ((w.alloc o1).alloc o2) cs t;simpa using this
theorem Qr(w:World):
  Calls Tryz.prog 33 #[] w fun e w'=>e=.returned (.slice (some ⟨w.heap.size+1+1,0,none⟩) 7 7)∧az w' (w.heap.size+1+1) (qo (tZ w.heap.size (w.heap.size+1))).toArray 86∧az w' w.heap.size Vs.cells.toArray 67∧az w' (w.heap.size+1) #[.int .i64 7] 3∧Below w.heap.size w w':=by
 go_enter Tryz.func33,Tryz.ntmps33
 go_wp2_with fail
 go_ret
 refine⟨rfl,?_,?_,?_,?_⟩
 ·exact Vt w _ _ _ _
 ·exact LG w _ _ _ _
 ·exact LH w _ _ _ _
 ·exact((brq.alloc nrq _).alloc (by simp) _).alloc (by simp;omega) _
def opz:Value:=.agg #[.int .i64 0,.int .i64 0,.int .i64 0,.string ⟨#[]⟩,.slice none 0 0,.slice none 0 0,.slice none 0 0]
theorem Tryz.abU:(Tryz.prog.info? 86).map (fun i=>(i.zero,i.size,i.bytes))=some (some opz,7,112):=by kernel_rfl
theorem qR(l:List uF):(qo l).length=l.length*7:=flat_length uF.cells 7 (fun _=>rfl) l
theorem Vu(l:List uF):∀u∈qo l,u.oneCell'=true:=by
 intro u hu;unfold qo at hu;obtain⟨o,_,hu⟩:=List.mem_flatMap.1 hu;simp only[uF.cells,List.mem_cons,List.not_mem_nil,or_false]at hu;rcases hu with rfl|rfl|rfl|rfl|rfl|rfl|rfl<;>rfl
def vV(w:World)(v:Value)(ops:List uF):Prop:=
 (v=.slice none 0 0∧ops=[])∨∃a c,v=.slice (some a) ops.length c∧∀(j:Nat) (u:Value),(qo ops)[j]?=some u→w.cell? (a.add j)=some u
structure Z7 (pl:List Int) (all:List uF) (St:Nat→Nat→World→Nat→Nat→Prop):Prop where
 step:∀(B wb:Nat) (o:uF),o∈all→(pl.any (fun x=>x == o.k))=true→∀(w:World) (k m:Nat),St B wb w k m→o.At B w→(o.k≠1→0<m)→k≤2000000→
  Calls Tryz.prog 35 #[.pointer (some ⟨wb,0,none⟩),.agg #[.int .i64 o.k,.int .i64 o.A,.int .i64 o.C,.string o.S,.slice o.a1 o.n1 o.c1,.slice o.a2 o.n2 o.c2,.slice o.a3 o.n3 o.c3]] w fun e w'=>e=.returned (.bool true)∧Below B w w'∧∃m',St B wb w' (k+1) m'∧m≤m'∧(o.k=1→0<m')
 looks:∀(B wb:Nat) (w:World) (k m:Nat),St B wb w k m→k≤2000001→Calls Tryz.prog 36 #[.pointer (some ⟨wb,1,none⟩)] w fun e w'=>e=.returned (.bool true)∧Below w.heap.size w w'
 below:∀(B wb:Nat) (w w':World) (k m:Nat),St B wb w k m→Below w.heap.size w w'→St B wb w' k m
 init:∀(W:World),lh W→St W.heap.size W.heap.size (W.alloc (.cells (lwC lH lH lH lH lH) 84 (0,0))) 0 0
 size:∀(B wb:Nat) (w:World) (k m:Nat),St B wb w k m→B≤wb∧wb<w.heap.size
 one:pl.any (fun x=>x == 1)=true
theorem Qs{pl:List Int}{ops:List uF}{St:Nat→Nat→World→Nat→Nat→Prop}(w:World)(sv:Value)(pb YA:Nat)(hP:∀tb ib,Z7 pl (tZ tb ib++ops) St)(hs:vV w sv ops)(hat:∀o∈ops,o.At w.heap.size w)(hn:ops.length≤1100000)(ht:lh w)
  (hl:pl.length≤10) (YB:pl.length≤YA) (hpb:pb<w.heap.size) (hp:∀j (h:j<pl.length),w.cell? ⟨pb,j,none⟩=some (.int .i64 pl[j])):
  Calls Tryz.prog 13 #[sv,.slice (some ⟨pb,0,none⟩) pl.length YA] w fun e w'=>e=.returned (.bool true)∧Below w.heap.size w w':=by
 have HF:=ast (Qr w);have HP:=ast hP;have HS:=ast hs;have HT:=ast ht;have HPL:=ast hp;have vw:=ast hat
 obtain⟨sa,sn,sc,hsv⟩:∃a n c,sv=.slice a n c:=by
  rcases hs with ⟨e,_⟩|⟨a,c,e,_⟩
  ·exact⟨_,_,_,e⟩
  ·exact⟨_,_,_,e⟩
 subst hsv;clear hP hs ht hp hat;go_enter Tryz.func13,Tryz.ntmps13
 go_wp2_with fail
 refine HF.out.mono ?_;rintro e w1 ⟨rfl,hb1,agk,agl,vC⟩;obtain⟨fb,hfb⟩:=exq (w.heap.size+1+1);rw[←hfb]at hb1;rw[←hfb];obtain⟨F7,hF7⟩:=exq (tZ w.heap.size (w.heap.size+1));have hP:=HP.out w.heap.size (w.heap.size+1);rw[←hF7]at hb1 hP;have IQ:F7.length=7:=by rw[hF7];rfl
 have Z8:∃o r,F7=o :: r∧o.k=1:=by rw[hF7];exact⟨_,_,rfl,rfl⟩
 have agn:∀w2:World,aj (fun b=>b=fb) w1 w2→∀o∈F7,o.At w2.heap.size w2:=fun w2 hc o ho=>by
  have k1:=agk.aA hc (by omega);have k2:=agl.aA hc (by omega);rw[hF7]at ho;exact Qq k1 k2 k1.lt k2.lt o ho
 have HA7:=ast agn
 have hown:w1.ownsRow w.heap.size 86 7 (.slice (some ⟨fb,0,none⟩) 7 7) 7 (qo F7):=by
  refine⟨by rw[qR,IQ],Or.inr ⟨fb,7,_,rfl,by omega,hb1,nrq,by unfold maxLen;omega,?_,?_⟩⟩
  ·simp[qR,IQ]
  ·rw[List.toList_toArray];exact List.take_of_length_le (by rw[qR,IQ];omega)
 obtain⟨i0,hi,hz0,hz1,hz2⟩:=info_parts Tryz.abU;have HI:=ast (And.intro hi (And.intro hz0 (And.intro hz1 hz2)));have HO:=ast hown;have HB1:=ast vC;have qI:=ast hP;have H7:=ast IQ;have HH:=ast Z8;have hs1:=vC.size;clear HF HP hb1 agk agl agn vC hown hP IQ Z8 hi hz0 hz1 hz2 hF7 hfb;obtain⟨N,hN⟩:=exq (7+ops.length);obtain⟨all,hall⟩:=exq (F7++ops);have HN:=ast hN;have sV:=ast hall;clear hN hall;rcases HS.out with ⟨hnil,abV⟩|⟨sa',sc',hsv,hcells⟩
 ·obtain⟨rfl,rfl,rfl⟩:sa=none∧sn=0∧sc=0:=by simpa using hnil
  have HN7:Hid (N=7∧all=F7):=by
   refine⟨?_,?_⟩
   ·rw[HN.out,abV];rfl
   ·rw[sV.out,abV,List.append_nil]
  clear hnil abV HS;go_wp2_with (at_builtin;refine lS _ rfl _ _ 22 rfl 86 i0 Tryz.underlying22 HI.out.1 ⟨fb,0,none⟩ 7 7 rfl nrq rfl ?_)
  obtain⟨w2,hw2⟩:=exq (w1:World);obtain⟨g,hg⟩:=exq (fb);obtain⟨cap,hcap⟩:=exq (7:Nat)
  have zy:Hid (w2.ownsRow w.heap.size 86 7 (.slice (some ⟨g,0,none⟩) N cap) N (qo all)):=by
   show World.ownsRow _ _ _ _ _ _ _
   rw[hw2,hg,hcap,HN7.out.1,HN7.out.2];exact HO.out
  have gK:Hid (Below w.heap.size w w2):=by show Below _ _ _;rw[hw2];exact HB1.out
  have abW:=ast (show ∀o∈all,o.At w2.heap.size w2 from fun o ho=>by
   rw[HN7.out.2]at ho;exact HA7.out w2 (by rw[hw2];exact aj.refl _ _) o ho)
  rw[←hw2,←hg,show Value.slice (some ⟨g,0,none⟩) 7 7=Value.slice (some ⟨g,0,none⟩) N cap by rw[hcap,HN7.out.1]];clear hw2 hg hcap HN7 HO HB1 HI HA7;have IU:=HT.out.below gK.out;have IV:=qI.out.init w2 IU;obtain⟨wb,hwb⟩:=exq (w2.heap.size);obtain⟨W0,hW0⟩:=exq (w2.alloc (.cells #[.slice none 0 0,.slice none 0 0,.slice none 0 0,.slice none 0 0,.slice none 0 0] 84 (0,0)):World);have Vw:St wb wb W0 0 0:=by rw[hW0,hwb];exact IV
  have hbW:Below wb w2 W0:=by rw[hW0,hwb];exact brq.alloc nrq _
  rw[←hW0,←hwb];have jl:=ast Vw;have dX:=ast hbW;have Z9:=ast hwb;have Vx:w.heap.size≤wb:=by rw[hwb];exact gK.out.size
  have Vy:N≤1100007:=by have:=HN.out;omega
  have abX:g<wb:=by rw[hwb];exact bg zy.out rfl
  have agq:N≤cap:=by
   obtain⟨ad,cap',hv,h1,_⟩:=ag zy.out;simp at hv;omega
  have FP:Hid (all.length=N):=by show _=_;rw[sV.out,List.length_append,H7.out,HN.out]
  clear IU IV Vw hbW hW0 hwb;go_loopw[7] (fun i wr=>∃k c m:Nat,k≤N∧i=.int .i64 k∧c≤k∧(1≤k→0<m)∧Hid (St wb wb wr c m)∧Hid (Below wb w2 wr)) (fun i _=>N - (intOf i).toNat)
  case atStart=>exact⟨0,0,0,Nat.zero_le _,rfl,nrq,fun h=>absurd h (by omega),jl,dX⟩
  case round=>
   clear jl dX;obtain⟨k,c,m,hk,rfl,hck,hm,HST,uV⟩:=hrel
   by_cases hlt:k<N
   ·have lD:(k:Int)<(N:Int):=by omega
    have hl0:(0:Int)≤(k:Int):=by omega
    have hl1:(k:Int)≤1100007:=by omega
    have vW:k<all.length:=by rw[FP.out];exact hlt
    obtain⟨o,ho⟩:=exq (all[k]);have hmem:o∈F7++ops:=by rw[ho,←sV.out];exact List.getElem_mem vW
    obtain⟨g',cap',hv,_,_,_,_,hcell⟩:=aB zy.out (by omega);obtain⟨rfl,rfl⟩:g=g'∧cap=cap':=by simpa using hv
    have hcc:∀(j:Nat) (u:Value),j<7→o.cells[j]?=some u→wr.cell? ⟨g,k*7+j,none⟩=some u:=fun j u hj hu=>by
     rw[uV.out.cell (p:=⟨g,k*7+j,none⟩) abX];refine hcell _ _ ?_;unfold qo;rw[flat_get uF.cells 7 (fun _=>rfl) all k j vW hj,←ho];exact hu
    have q0:=hcc 0 _ (by omega) rfl;have q1:=hcc 1 _ (by omega) rfl;have q2:=hcc 2 _ (by omega) rfl;have q3:=hcc 3 _ (by omega) rfl;have q4:=hcc 4 _ (by omega) rfl;have q5:=hcc 5 _ (by omega) rfl;have q6:=hcc 6 _ (by omega) rfl;rw[Nat.add_zero]at q0
    have Bh:k=0→o.k=1:=fun e=>by
     obtain⟨o',r,h1,h2⟩:=HH.out;subst e;have:all[0]?=some o':=by rw[sV.out,h1];rfl
     rw[List.getElem?_eq_getElem vW]at this;rw[ho,Option.some.inj this];exact h2
    obtain⟨X,hX⟩:=exq (wr.alloc (.cells #[.int .i64 o.k,.int .i64 o.A,.int .i64 o.C,.string o.S,.slice o.a1 o.n1 o.c1,.slice o.a2 o.n2 o.c2,.slice o.a3 o.n3 o.c3] 86 (0,0)):World);obtain⟨ob,AA⟩:=exq (wr.heap.size);have hbX:Below wr.heap.size wr X:=by rw[hX];exact brq.alloc nrq _
    have bU:az X ob #[.int .i64 o.k,.int .i64 o.A,.int .i64 o.C,.string o.S,.slice o.a1 o.n1 o.c1,.slice o.a2 o.n2 o.c2,.slice o.a3 o.n3 o.c3] 86:=by rw[hX,AA];exact ay wr _ _
    have Vz:wb≤wr.heap.size:=Nat.le_trans (by have:=Z9.out;omega) uV.out.size;have LJ:Below wb w2 X:=uV.out.trans (hbX.mono Vz)
    have hpX:∀j (h:j<pl.length),X.cell? ⟨pb,j,none⟩=some (.int .i64 pl[j]):=fun j h=>by
     have hpw:pb<wb:=Nat.lt_of_lt_of_le hpb Vx;rw[LJ.cell (p:=⟨pb,j,none⟩) hpw,gK.out.cell (p:=⟨pb,j,none⟩) hpb];exact HPL.out j h
    have TS:=ast (Ea pb YA pl o.k X (by omega) YB hpX);have Kw:=ast (qI.out.below wb wb wr X c m HST.out hbX);have x0:X.cell? ⟨ob,0,none⟩=some (.int .i64 o.k):=bU.cell 0 _ rfl;have x1:X.cell? ⟨ob,1,none⟩=some (.int .i64 o.A):=bU.cell 1 _ rfl;have x2:X.cell? ⟨ob,2,none⟩=some (.int .i64 o.C):=bU.cell 2 _ rfl;have x3:X.cell? ⟨ob,3,none⟩=some (.string o.S):=bU.cell 3 _ rfl;have x4:X.cell? ⟨ob,4,none⟩=some (.slice o.a1 o.n1 o.c1):=bU.cell 4 _ rfl;have x5:X.cell? ⟨ob,5,none⟩=some (.slice o.a2 o.n2 o.c2):=bU.cell 5 _ rfl;have x6:X.cell? ⟨ob,6,none⟩=some (.slice o.a3 o.n3 o.c3):=bU.cell 6 _ rfl;have HX:=ast hX;have Yu:=ast AA;have LK:=ast LJ;have VA:=ast hmem;have Ls:=ast Bh;obtain⟨bi,pV⟩:=exq (pl.any (fun x=>x == o.k));rw[←pV]at TS;have Zu:=ast pV;have hl2:(k:Int)<144115188075855872:=by omega
    have zA:=ast Vy;have Qu:=ast (And.intro hk (And.intro hck hlt));clear hv hcell hcc hbX bU LJ hpX hX AA hmem Bh ho pV Vy hk hck hlt hl1 vW Vz hn hl;go_upto_region 8 with fail
    rw[←HX.out,←Yu.out];clear q0 q1 q2 q3 q4 q5 q6;go_wp2_with fail
    refine TS.out.mono ?_;rintro e w3 ⟨rfl,rfl⟩;clear TS
    cases bi with
    |false=>
     go_wp2_with fail
     go_roundw
     case rel=>
      obtain⟨hk,hck,hlt⟩:=Qu.out;refine⟨k+1,c,m,by omega,by go_num,by omega,fun _=>?_,Kw,LK⟩;rcases Nat.eq_zero_or_pos k with h0|h0
      ·exfalso
       have h1:=Ls.out h0;have h2:=Zu.out;rw[h1,qI.out.one]at h2
       cases h2
      ·exact hm h0
     case measure=>obtain⟨hk,hck,hlt⟩:=Qu.out;simp[intOf];omega
    |true=>
     have IW:=ast (qI.out.step wb wb o VA.out Zu.out.symm w3 c m Kw.out (((abW.out o (by rw[sV.out];exact VA.out)).mono (by have:=Z9.out;omega)).below LK.out) (fun h1=>hm (by
      rcases Nat.eq_zero_or_pos k with h0|h0
      ·exact absurd (Ls.out h0) h1
      ·exact h0)) (by have:=zA.out;obtain⟨hk,hck,hlt⟩:=Qu.out;omega))
     go_wp2_with fail
     refine IW.out.mono ?_;rintro e w4 ⟨rfl,hb4,m',FQ,hmm,hm1⟩;have Rf:=ast (qI.out.looks wb wb w4 (c+1) m' FQ (by have:=zA.out;obtain⟨hk,hck,hlt⟩:=Qu.out;omega));have abY:=ast FQ;have DF:=ast (LK.out.trans hb4);have HMM:=ast (And.intro hmm hm1);have aaC:=(qI.out.size wb wb w4 (c+1) m' FQ).2;clear IW hb4 FQ hmm hm1 x0 x1 x2 x3 x4 x5 x6;go_wp2_with fail
     refine Rf.out.mono ?_;rintro e w5 ⟨rfl,hb5⟩;have ab1:=ast (qI.out.below wb wb w4 w5 (c+1) m' abY.out hb5);have nJ:=ast (DF.out.trans (hb5.mono (by omega)));clear Rf hb5;go_wp2_with fail
     go_roundw
     case rel=>
      obtain⟨hk,hck,hlt⟩:=Qu.out;refine⟨k+1,c+1,m',by omega,by go_num,by omega,fun _=>?_,ab1,nJ⟩;obtain⟨h1,h2⟩:=HMM.out;rcases Nat.eq_zero_or_pos k with h0|h0
      ·exact h2 (Ls.out h0)
      ·exact Nat.lt_of_lt_of_le (hm h0) h1
     case measure=>obtain⟨hk,hck,hlt⟩:=Qu.out;simp[intOf];omega
   ·have lD:¬(k:Int)<(N:Int):=by omega
    go_wp2_with fail
    go_ret
    exact⟨rfl,gK.out.trans (uV.out.mono Vx)⟩
 ·obtain⟨rfl,rfl,rfl⟩:sa=some sa'∧sn=ops.length∧sc=sc':=by simpa using hsv
  have HCE:=ast (show ∀j u,(qo ops)[j]?=some u→w1.cell? (sa'.add j)=some u from fun j u hu=>by
   have h1:=hcells j u hu;have hlt:=World.block_lt_of_cell? w _ h1;rw[HB1.out.cell hlt];exact h1)
  have HU:=ast (And.intro (qR ops) (And.intro (Vu ops) (And.intro (show 7+ops.length≤maxLen by unfold maxLen;omega) (show(7+ops.length)*112≤140737488355328 by omega))));clear hsv hcells HS;go_wp2_with (at_builtin;refine jr _ rfl _ _ 22 rfl w.heap.size 86 i0 opz 7 112 Tryz.underlying22 HI.out.1 HI.out.2.1 HI.out.2.2.1 HI.out.2.2.2 rfl (by decide) (.slice (some ⟨fb,0,none⟩) 7 7) 7 (qo F7) rfl HO.out sa' ops.length sc (qo ops) rfl HU.out.1 HCE.out HU.out.2.1 HU.out.2.2.1 HU.out.2.2.2 hs1 ?_)
  intro v' w2 hr2 hg2 rV _;obtain⟨g,cap,hv',_,_⟩:=hr2.form (by omega);subst hv'
  have zy:Hid (w2.ownsRow w.heap.size 86 7 (.slice (some ⟨g,0,none⟩) N cap) N (qo all)):=by
   show World.ownsRow _ _ _ _ _ _ _
   rw[HN.out,sV.out];have e:qo (F7++ops)=qo F7++qo ops:=by unfold qo;rw[List.flatMap_append]
   rw[e];exact hr2
  have gK:Hid (Below w.heap.size w w2):=HB1.out.grown hg2 hs1 (fun k hk=>aF HO.out hk)
  have abW:=ast (show ∀o∈all,o.At w2.heap.size w2 from fun o ho=>by
   rw[sV.out]at ho;rcases List.mem_append.1 ho with ho|ho
   ·exact HA7.out w2 ((aj.bD hg2).mono (fun b _ e=>by simpa [Value.ownBlock]using e)) o ho
   ·exact((vw.out o ho).below gK.out).mono gK.out.size)
  rw[show Value.slice (some ⟨g,0,none⟩) (7+ops.length) cap=Value.slice (some ⟨g,0,none⟩) N cap by rw[HN.out]];clear hr2 hg2 rV HO HB1 HI HCE HU HA7;go_wp2_with fail
  have IU:=HT.out.below gK.out;have IV:=qI.out.init w2 IU;obtain⟨wb,hwb⟩:=exq (w2.heap.size);obtain⟨W0,hW0⟩:=exq (w2.alloc (.cells #[.slice none 0 0,.slice none 0 0,.slice none 0 0,.slice none 0 0,.slice none 0 0] 84 (0,0)):World);have Vw:St wb wb W0 0 0:=by rw[hW0,hwb];exact IV
  have hbW:Below wb w2 W0:=by rw[hW0,hwb];exact brq.alloc nrq _
  rw[←hW0,←hwb];have jl:=ast Vw;have dX:=ast hbW;have Z9:=ast hwb;have Vx:w.heap.size≤wb:=by rw[hwb];exact gK.out.size
  have Vy:N≤1100007:=by have:=HN.out;omega
  have abX:g<wb:=by rw[hwb];exact bg zy.out rfl
  have agq:N≤cap:=by
   obtain⟨ad,cap',hv,h1,_⟩:=ag zy.out;simp at hv;omega
  have FP:Hid (all.length=N):=by show _=_;rw[sV.out,List.length_append,H7.out,HN.out]
  clear IU IV Vw hbW hW0 hwb;go_loopw[7] (fun i wr=>∃k c m:Nat,k≤N∧i=.int .i64 k∧c≤k∧(1≤k→0<m)∧Hid (St wb wb wr c m)∧Hid (Below wb w2 wr)) (fun i _=>N - (intOf i).toNat)
  case atStart=>exact⟨0,0,0,Nat.zero_le _,rfl,nrq,fun h=>absurd h (by omega),jl,dX⟩
  case round=>
   clear jl dX;obtain⟨k,c,m,hk,rfl,hck,hm,HST,uV⟩:=hrel
   by_cases hlt:k<N
   ·have lD:(k:Int)<(N:Int):=by omega
    have hl0:(0:Int)≤(k:Int):=by omega
    have hl1:(k:Int)≤1100007:=by omega
    have vW:k<all.length:=by rw[FP.out];exact hlt
    obtain⟨o,ho⟩:=exq (all[k]);have hmem:o∈F7++ops:=by rw[ho,←sV.out];exact List.getElem_mem vW
    obtain⟨g',cap',hv,_,_,_,_,hcell⟩:=aB zy.out (by omega);obtain⟨rfl,rfl⟩:g=g'∧cap=cap':=by simpa using hv
    have hcc:∀(j:Nat) (u:Value),j<7→o.cells[j]?=some u→wr.cell? ⟨g,k*7+j,none⟩=some u:=fun j u hj hu=>by
     rw[uV.out.cell (p:=⟨g,k*7+j,none⟩) abX];refine hcell _ _ ?_;unfold qo;rw[flat_get uF.cells 7 (fun _=>rfl) all k j vW hj,←ho];exact hu
    have q0:=hcc 0 _ (by omega) rfl;have q1:=hcc 1 _ (by omega) rfl;have q2:=hcc 2 _ (by omega) rfl;have q3:=hcc 3 _ (by omega) rfl;have q4:=hcc 4 _ (by omega) rfl;have q5:=hcc 5 _ (by omega) rfl;have q6:=hcc 6 _ (by omega) rfl;rw[Nat.add_zero]at q0
    have Bh:k=0→o.k=1:=fun e=>by
     obtain⟨o',r,h1,h2⟩:=HH.out;subst e;have:all[0]?=some o':=by rw[sV.out,h1];rfl
     rw[List.getElem?_eq_getElem vW]at this;rw[ho,Option.some.inj this];exact h2
    obtain⟨X,hX⟩:=exq (wr.alloc (.cells #[.int .i64 o.k,.int .i64 o.A,.int .i64 o.C,.string o.S,.slice o.a1 o.n1 o.c1,.slice o.a2 o.n2 o.c2,.slice o.a3 o.n3 o.c3] 86 (0,0)):World);obtain⟨ob,AA⟩:=exq (wr.heap.size);have hbX:Below wr.heap.size wr X:=by rw[hX];exact brq.alloc nrq _
    have bU:az X ob #[.int .i64 o.k,.int .i64 o.A,.int .i64 o.C,.string o.S,.slice o.a1 o.n1 o.c1,.slice o.a2 o.n2 o.c2,.slice o.a3 o.n3 o.c3] 86:=by rw[hX,AA];exact ay wr _ _
    have Vz:wb≤wr.heap.size:=Nat.le_trans (by have:=Z9.out;omega) uV.out.size;have LJ:Below wb w2 X:=uV.out.trans (hbX.mono Vz)
    have hpX:∀j (h:j<pl.length),X.cell? ⟨pb,j,none⟩=some (.int .i64 pl[j]):=fun j h=>by
     have hpw:pb<wb:=Nat.lt_of_lt_of_le hpb Vx;rw[LJ.cell (p:=⟨pb,j,none⟩) hpw,gK.out.cell (p:=⟨pb,j,none⟩) hpb];exact HPL.out j h
    have TS:=ast (Ea pb YA pl o.k X (by omega) YB hpX);have Kw:=ast (qI.out.below wb wb wr X c m HST.out hbX);have x0:X.cell? ⟨ob,0,none⟩=some (.int .i64 o.k):=bU.cell 0 _ rfl;have x1:X.cell? ⟨ob,1,none⟩=some (.int .i64 o.A):=bU.cell 1 _ rfl;have x2:X.cell? ⟨ob,2,none⟩=some (.int .i64 o.C):=bU.cell 2 _ rfl;have x3:X.cell? ⟨ob,3,none⟩=some (.string o.S):=bU.cell 3 _ rfl;have x4:X.cell? ⟨ob,4,none⟩=some (.slice o.a1 o.n1 o.c1):=bU.cell 4 _ rfl;have x5:X.cell? ⟨ob,5,none⟩=some (.slice o.a2 o.n2 o.c2):=bU.cell 5 _ rfl;have x6:X.cell? ⟨ob,6,none⟩=some (.slice o.a3 o.n3 o.c3):=bU.cell 6 _ rfl;have HX:=ast hX;have Yu:=ast AA;have LK:=ast LJ;have VA:=ast hmem;have Ls:=ast Bh;obtain⟨bi,pV⟩:=exq (pl.any (fun x=>x == o.k));rw[←pV]at TS;have Zu:=ast pV;have hl2:(k:Int)<144115188075855872:=by omega
    have zA:=ast Vy;have Qu:=ast (And.intro hk (And.intro hck hlt));clear hv hcell hcc hbX bU LJ hpX hX AA hmem Bh ho pV Vy hk hck hlt hl1 vW Vz hn hl;go_upto_region 8 with fail
    rw[←HX.out,←Yu.out];clear q0 q1 q2 q3 q4 q5 q6;go_wp2_with fail
    refine TS.out.mono ?_;rintro e w3 ⟨rfl,rfl⟩;clear TS
    cases bi with
    |false=>
     go_wp2_with fail
     go_roundw
     case rel=>
      obtain⟨hk,hck,hlt⟩:=Qu.out;refine⟨k+1,c,m,by omega,by go_num,by omega,fun _=>?_,Kw,LK⟩;rcases Nat.eq_zero_or_pos k with h0|h0
      ·exfalso
       have h1:=Ls.out h0;have h2:=Zu.out;rw[h1,qI.out.one]at h2
       cases h2
      ·exact hm h0
     case measure=>obtain⟨hk,hck,hlt⟩:=Qu.out;simp[intOf];omega
    |true=>
     have IW:=ast (qI.out.step wb wb o VA.out Zu.out.symm w3 c m Kw.out (((abW.out o (by rw[sV.out];exact VA.out)).mono (by have:=Z9.out;omega)).below LK.out) (fun h1=>hm (by
      rcases Nat.eq_zero_or_pos k with h0|h0
      ·exact absurd (Ls.out h0) h1
      ·exact h0)) (by have:=zA.out;obtain⟨hk,hck,hlt⟩:=Qu.out;omega))
     go_wp2_with fail
     refine IW.out.mono ?_;rintro e w4 ⟨rfl,hb4,m',FQ,hmm,hm1⟩;have Rf:=ast (qI.out.looks wb wb w4 (c+1) m' FQ (by have:=zA.out;obtain⟨hk,hck,hlt⟩:=Qu.out;omega));have abY:=ast FQ;have DF:=ast (LK.out.trans hb4);have HMM:=ast (And.intro hmm hm1);have aaC:=(qI.out.size wb wb w4 (c+1) m' FQ).2;clear IW hb4 FQ hmm hm1 x0 x1 x2 x3 x4 x5 x6;go_wp2_with fail
     refine Rf.out.mono ?_;rintro e w5 ⟨rfl,hb5⟩;have ab1:=ast (qI.out.below wb wb w4 w5 (c+1) m' abY.out hb5);have nJ:=ast (DF.out.trans (hb5.mono (by omega)));clear Rf hb5;go_wp2_with fail
     go_roundw
     case rel=>
      obtain⟨hk,hck,hlt⟩:=Qu.out;refine⟨k+1,c+1,m',by omega,by go_num,by omega,fun _=>?_,ab1,nJ⟩;obtain⟨h1,h2⟩:=HMM.out;rcases Nat.eq_zero_or_pos k with h0|h0
      ·exact h2 (Ls.out h0)
      ·exact Nat.lt_of_lt_of_le (hm h0) h1
     case measure=>obtain⟨hk,hck,hlt⟩:=Qu.out;simp[intOf];omega
   ·have lD:¬(k:Int)<(N:Int):=by omega
    go_wp2_with fail
    go_ret
    exact⟨rfl,gK.out.trans (uV.out.mono Vx)⟩
end
section
structure uF.Ok (o:uF):Prop where
 a0: -9223372036854775808≤o.A
 a1:o.A≤9223372036854775807
 s:o.S.size≤1100000
theorem Qv(tb ib:Nat):∀o∈tZ tb ib,o.Ok:=by
 intro o ho;simp only[tZ,List.mem_cons,List.not_mem_nil,or_false]at ho;have k0:(ByteArray.mk #[]).size≤1100000:=by decide
 have k1:Yz.size≤1100000:=by decide
 have k2:Z5.size≤1100000:=by decide
 rcases ho with rfl|rfl|rfl|rfl|rfl|rfl|rfl<;>constructor<;>first|assumption|(dsimp only;omega)
def IX(B wb:Nat)(w:World)(k m:Nat):Prop:=∃lv bk G ds,dP B w wb lv bk G ds∧ds.length=m∧m≤k∧∀j,j<4→(G.get j).length≤12*k
theorem jd.init(B:Nat)(w:World):jd B w ⟨lH,lH,lH,lH⟩ G4.none:=
 ⟨aU ⟨rfl,Or.inl ⟨rfl,rfl⟩⟩ ⟨rfl,Or.inl ⟨rfl,rfl⟩⟩ ⟨rfl,Or.inl ⟨rfl,rfl⟩⟩ ⟨rfl,Or.inl ⟨rfl,rfl⟩⟩,aU (fun i u hu=>by simp[G4.get,G4.none]at hu) (fun i u hu=>by simp[G4.get,G4.none]at hu) (fun i u hu=>by simp[G4.get,G4.none]at hu) (fun i u hu=>by simp[G4.get,G4.none]at hu),aU rfl rfl rfl rfl⟩
theorem dP.init(W:World)(ht:lh W):dP W.heap.size (W.alloc (.cells (lwC lH lH lH lH lH) 84 (0,0))) W.heap.size lH ⟨lH,lH,lH,lH⟩ G4.none []:=
 ⟨ay W _ _,⟨rfl,Or.inl ⟨rfl,rfl⟩⟩,fun i d hd=>by simp at hd,fun i j d d' hd=>by simp at hd,fun i d hd=>by simp at hd,jd.init _ _,ht.below (brq.alloc nrq _),ht.lt,nrq⟩
theorem IX.next{B wb:Nat}{w w':World}{k m n:Nat}{ds:List PD}{G:G4}{e:Ending}{o:uF}(hm:ds.length=m)(hmk:m≤k)(hg:∀j,j<4→(G.get j).length≤12*k)(hn1:o.k=1→n=1)(h:Oy B w wb ds G n e w'):
  e=.returned (.bool true)∧Below B w w'∧∃m',IX B wb w' (k+1) m'∧m≤m'∧(o.k=1→0<m'):=by
 obtain⟨he,qx,Be,G',ds',hL',g1,g2,g3,g4⟩:=h;exact⟨he,g4,ds'.length,⟨qx,Be,G',ds',hL',rfl,by omega,fun j hj=>by have:=g3 j hj;have:=hg j hj;omega⟩,by omega,fun h=>by have:=hn1 h;omega⟩
theorem IX.looks{B wb:Nat}{w:World}{k m:Nat}(h:IX B wb w k m)(hk:k≤2000001):Calls Tryz.prog 36 #[.pointer (some ⟨wb,1,none⟩)] w fun e w'=>e=.returned (.bool true)∧Below w.heap.size w w':=by
 obtain⟨lv,bk,G,ds,hL,hm,hmk,hg⟩:=h;exact Qk B w wb lv bk G hL.blk hL.JL (fun j hj=>by have:=hg j hj;omega)
theorem IX.below{B wb:Nat}{w w':World}{k m:Nat}(h:IX B wb w k m)(hb:Below w.heap.size w w'):IX B wb w' k m:=by
 obtain⟨lv,bk,G,ds,hL,r⟩:=h;exact⟨lv,bk,G,ds,hL.below hb,r⟩
theorem IX.init(W:World)(ht:lh W):IX W.heap.size W.heap.size (W.alloc (.cells (lwC lH lH lH lH lH) 84 (0,0))) 0 0:=
 ⟨_,_,_,_,dP.init W ht,rfl,nrq,aU (by decide) (by decide) (by decide) (by decide)⟩
theorem IX.size{B wb:Nat}{w:World}{k m:Nat}(h:IX B wb w k m):B≤wb∧wb<w.heap.size:=by
 obtain⟨lv,bk,G,ds,hL,r⟩:=h;exact⟨hL.Ec.2,hL.blk.lt⟩
end
end Go.Proofs.YtcphhbofjkenaaaGreatDoor
