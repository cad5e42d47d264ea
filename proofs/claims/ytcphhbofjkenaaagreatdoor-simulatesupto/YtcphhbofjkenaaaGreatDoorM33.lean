import Derived.Test.YtcphhbofjkenaaaGreatDoorMy
import Derived.Test.YtcphhbofjkenaaaGreatDoorM32
namespace Go.Proofs.YtcphhbofjkenaaaGreatDoor
open Go Go.RowKit Proofs.Tryz
set_option linter.unusedVariables false
set_option linter.unusedSimpArgs false
set_option maxRecDepth 100000
set_option maxHeartbeats 16000000
variable{P:Program}{ws:List RW}{l:List TK}{k K n size bb sb:Nat}{w w':World}{e:Ending}{E c nv nt k':Int}{ys xs:List Value}{a b ev cv sv iv:Value}{es:List PE}{code ins:List Int}
theorem Jp{p:Prop}(h:p:=by
  refine wJ rfl rfl 45 #[ae nn,.slice ia il ic] dB ((HN _).mono ?_);rintro e w' ⟨wp,vg,rfl,q1,q2,q3,q4,q5⟩;replace HM:=af (HM.world q1 q3 q4 q5);clear q1 q2 q3 q4 q5;refine⟨_,rfl,trivial,?_⟩;refine Jw ?_;intro w'' hw'';rw[show w''=_ from hw''];simp only[List.drop_succ_cons,List.drop_zero];go_wp2_with fail;go_meet;exact⟨_,wp,vg,gn,gr,rfl,FU _ _ _ _ _ HM⟩):p:=h
theorem N2{p:Prop}(h:p:=by
  refine qH rfl rfl n qb (fun gr w' hg hw'=>?_);replace HM:=af (HM.zb);rw[←hg,←hw']at HM;clear hg hw';refine Jw ?_;intro w'' hw'';rw[show w''=_ from hw''];simp only[List.drop_succ_cons,List.drop_zero];go_wp2_with fail;go_meet;exact⟨_,wp,vg,gn,gr,rfl,FU _ _ _ _ _ HM⟩):p:=h
theorem Oi{p:Prop}(h:p:=by
  refine qH rfl rfl n qb (fun gn w' hg hw'=>?_);replace HM:=af (HM.y7);rw[←hg,←hw']at HM;clear hg hw';refine Jw ?_;intro w'' hw'';rw[show w''=_ from hw''];simp only[List.drop_succ_cons,List.drop_zero];go_wp2_with fail;go_meet;exact⟨_,wp,vg,gn,gr,rfl,FU _ _ _ _ _ HM⟩):p:=h
theorem O2{p:Prop}(h:p:=by
  have HE:Hid (iu ws l ins h=(1,0)):=af (by unfold iu;rw[az ag]);clear HA HAD HJ HS HI HK HT HN HC HIV;go_enter func29,ntmps29;go_wp2_with fail;exact bodyPost_ret (v:=.tuple #[aI,ae 1,ae 0]) Cv rfl (tT.err HE aj rfl aQ)):p:=h
theorem Q9{p:Prop}(h:p:=by
  refine wJ rfl rfl 45 #[ae nn,.slice ia il ic] dB ((HN _).mono ?_);rintro e w' ⟨wp,vg,rfl,q1,q2,q3,q4,q5⟩;replace HM:=af (HM.world q1 q3 q4 q5);clear q1 q2 q3 q4 q5;refine⟨_,rfl,trivial,?_⟩;refine uq ?_
  ·exact N2):p:=h
theorem N1{p:Prop}(h:p:=by
  refine wJ rfl rfl 45 #[ae nn,.slice ia il ic] dB ((HN _).mono ?_);rintro e w' ⟨wp,vg,rfl,q1,q2,q3,q4,q5⟩;replace HM:=af (HM.world q1 q3 q4 q5);clear q1 q2 q3 q4 q5;refine⟨_,rfl,trivial,?_⟩;refine uq ?_
  ·exact Oi):p:=h
theorem J0{p:Prop}(h:p:=by
  refine wJ rfl rfl 46 #[ax bb] dB ((HV _ HM.lQ).mono ?_);rintro e w' ⟨rfl,rfl⟩;refine⟨_,rfl,trivial,?_⟩;refine uq ?_
  ·exact Jp):p:=h
theorem Nf{p:Prop}(h:p:=by
  refine qH rfl rfl n qb (fun gr w' hg hw'=>?_);replace HM:=af (HM.zb);rw[←hg,←hw']at HM;clear hg hw';refine uq ?_
  ·exact Jp):p:=h
theorem Rk{p:Prop}(h:p:=by
  refine qH rfl rfl n qb (fun gn w' hg hw'=>?_);replace HM:=af (HM.y7);rw[←hg,←hw']at HM;clear hg hw';refine uq ?_
  ·exact Jp):p:=h
theorem K0{p:Prop}(h:p:=by
  go_wp2_with fail
  exact bodyPost_ret (v:=.tuple #[aI,ae 1,ae 0]) Ce rfl (tU.err HAD aj rfl aQ)):p:=h
theorem Ma{p:Prop}(h:p:=by
  go_wp2_with fail
  exact bodyPost_ret (v:=.tuple #[aI,ae 1,ae 0]) CM rfl (tU.err HAD aj rfl aQ)):p:=h
section
attribute [local go_sem] fH
theorem Dm(t e:TypeId)(z:Value)(zc:Array Value)(size bytes:Nat)(hzc:z.cells=zc)(ht:P.underlying t=some (.slice e))(zW:(P.info? e).map (fun i=>(i.zero,i.size,i.bytes))=some (some z,size,bytes))(n:Nat)(hbytes:bytes*n≤281474976710656)(h63:n≤9223372036854775807)(w:World):
  (Instr.makeSlice t (ae (n:Int)) (ae (n:Int))).run P w=.ok (aD w.heap.size n n) (w.alloc (.cells (madeCells zc (n*size)) e)):=by
 subst hzc;obtain⟨i,hi,hz,hs,hb⟩:=info_parts zW;have:=run_make (P:=P) w t e i z ht hi hz .i64 .i64 n n ag (Int.le_refl _) (by rw[hb,←Int.natCast_mul];omega) ag;rw[hs]at this;simpa using this
theorem vL(l:List TK):(l.flatMap TK.cells).length=l.length*4:=flat_length TK.cells 4 (fun _=>rfl) l
theorem MN(h:k<l.length):scanW ws (l.drop k) k=if jl ws l[k]≠0 then some (jl ws l[k],k)else scanW ws (l.drop (k+1)) (k+1):=by
 rw[qh h,scanW]
theorem JW(ls:List (Int×Int))(l:List TK)(n k:Nat):tN ls l (n+1) k=if uf ls l k=0 then some k else tN ls l n (k+1):=rfl
def tU(w:World)(ws:List RW)(l:List TK)(e:Ending)(w':World):Prop:=
 (∃pa pn pc,e=.returned (.tuple #[.slice pa pn pc,ae (admitT ws l).1,ae (admitT ws l).2])∧((admitT ws l).1≠0→pa=none∧pn=0∧pc=0)∧
  ((admitT ws l).1=0→pn=l.length∧0<pn∧pn≤8∧w'.ownsRow w.heap.size 133 3 (.slice pa pn pc) pn (qZ (dt ws l) l pn)))∧Below w.heap.size w w'
theorem tU.err(h:admitT ws l=(E,K))(h0:E≠0)(he:e=.returned (.tuple #[aI,ae E,ae K]))(hb:Below w.heap.size w w'):tU w ws l e w':=by
 refine⟨⟨none,0,0,?_,fun _=>⟨rfl,rfl,rfl⟩,fun e=>?_⟩,hb⟩
 ·rw[h];exact he
 ·rw[h]at e;exact absurd e h0
theorem PT:(prog.info? 133).map (fun i=>(i.zero,i.size,i.bytes))=some (some (.agg #[ae 0,ae 0,ae 0]),3,24):=aP
theorem abU(hk:k<n)(hl:ys.length=n*2)(h:∀j,j<k*2→ys[j]?=xs[j]?)(ha:xs[k*2]?=some a)(hb:xs[k*2+1]?=some b):
  ∀j,j<(k+1)*2→((ys.set (k*2) a).set (k*2+1) b)[j]?=xs[j]?:=by
 intro j hj
 by_cases e1:j=k*2+1
 ·subst e1;rw[eL aK,hb]
 ·rw[dr ag]
  by_cases e0:j=k*2
  ·subst e0;rw[eL ag,ha]
  ·rw[dr ag];exact h j ag
theorem aaP{c:Value}(hk:k<n)(hl:ys.length=n*3)(h:∀j,j<k*3→ys[j]?=xs[j]?)(ha:xs[k*3]?=some a)(hb:xs[k*3+1]?=some b)(hc:xs[k*3+2]?=some c):
  ∀j,j<(k+1)*3→(((ys.set (k*3) a).set (k*3+1) b).set (k*3+2) c)[j]?=xs[j]?:=by
 intro j hj
 by_cases e2:j=k*3+2
 ·subst e2;rw[eL aK,hc]
 ·rw[dr ag]
  by_cases e1:j=k*3+1
  ·subst e1;rw[eL aK,hb]
  ·rw[dr ag]
   by_cases e0:j=k*3
   ·subst e0;rw[eL ag,ha]
   ·rw[dr ag];exact h j ag
theorem FQ(h1:ys.length=n)(h2:xs.length=n)(h:∀j,j<n→ys[j]?=xs[j]?):ys=xs:=by
 apply List.ext_getElem?;intro j
 by_cases hj:j<n
 ·exact h j hj
 ·rw[jh ag,jh ag]
theorem Ar(ls:List (Int×Int))(l:List TK):∀n k m,k<n→m<3→(qZ ls l n)[k*3+m]?=(wN ls l k)[m]?
 |n+1,k,m,hk,hm=>by
  rw[qZ]
  by_cases e:k<n
  ·rw[dH (by rw[Dn];omega)];exact Ar ls l n k m e hm
  ·obtain rfl:k=n:=by omega
   rw[fP (by rw[Dn];omega),Dn]
   congr 1;omega
theorem oW{base:Nat}{e:TypeId}{g cap:Nat}(h:w.ownsRow base e size (aD g n cap) n xs)(k:Nat):w.frozen? (ai g k)=false:=by
 rcases h.2 with ⟨h0,_⟩|⟨g',cap',cur,hv,_,hh,_⟩
 ·cases h0
 ·obtain⟨rfl,rfl⟩:g=g'∧cap=cap':=by simpa using hv
  simp[World.frozen?,hh]
theorem rates_admit(l:List TK)(ta:Option Addr)(n cap:Nat)(h:dF w bb ev cv es nv nt code)(hl:es.length≤1000)(hA:Alike es ws)(hn:n=l.length)(ir:n≤cap)(hnb:n≤1100000)
  (hc:(n=0)∨∃tg,ta=some (ai tg 0)∧tg<w.heap.size∧∀(j:Nat) (u:Value),(l.flatMap TK.cells)[j]?=some u→w.cell? (ai tg j)=some u):
  Calls prog 28 #[ax bb,.slice ta n cap] w (tU w ws l):=by
 have fK:=h.blk.lt
 by_cases h0:n=0
 ·have fY:admitT ws l=(1,0):=by unfold admitT;rw[aG (aC ag)]
  have HAD:=af fY;have hz:((n:Int) == 0)=true:=aK;clear h hA hc fY hn;subst h0;go_enter func28,ntmps28;exact K0
 ·have hz:((n:Int) == 0)=false:=by simp;omega
  by_cases h8:8<n
  ·have fY:admitT ws l=(1,0):=by unfold admitT;rw[aG (aA ag)]
   have HAD:=af fY;have h8i:(8:Int)<(n:Int):=ag;clear h hA hc fY hn;go_enter func28,ntmps28;exact K0
  ·have h8i:¬(8:Int)<(n:Int):=by omega
   obtain⟨tg,rfl,n9,hc⟩:∃tg,ta=some (ai tg 0)∧tg<w.heap.size∧∀(j:Nat) (u:Value),(l.flatMap TK.cells)[j]?=some u→w.cell? (ai tg j)=some u:=hc.resolve_left h0
   have fY:admitT ws l=match scanW ws l 0 with
     |some (e,k)=>(e,k)
     |none=>match tN (dt ws l) l l.length 0 with
      |some k=>(11,k)
      |none=>(0,0):=by unfold admitT;rw[az ag];rfl
   have HAD:=af fY;have iE:=af hn;have HAL:=af hA
   have rj:=af (fun (w':World) (hb:Below w.heap.size w w') (k:Nat) (hk:k<l.length)=>(show w'.cell? (ai tg (k*4))=some (.string l[k].word)∧w'.cell? (ai tg (k*4+1))=some (ae l[k].bZ)∧w'.cell? (ai tg (k*4+2))=some (ae l[k].dl)∧w'.cell? (ai tg (k*4+3))=some (ae l[k].off)from by
    have q:∀m u,m<4→(l[k].cells)[m]?=some u→w'.cell? (ai tg (k*4+m))=some u:=fun m u hm hu=>by
     rw[hb.cell (p:=ai tg (k*4+m)) n9];refine hc _ _ ?_;rw[flat_get TK.cells 4 (fun _=>rfl) l k m hk hm];exact hu
    exact⟨Lu,q 1 _ ag rfl,q 2 _ ag rfl,q 3 _ ag rfl⟩))
   have HPR:=af (fun (t:TK) (w':World) (hb:Below w.heap.size w w')=>UC t (h.below hb) hl hA);have hm1:=Dm (P:=prog) 125 128 ldz #[ae 0,ae 0] 2 16 rfl underlying125 Tryz.Mv n ag ag;obtain⟨lg,hlg⟩:=ak (w.heap.size);obtain⟨W,hW⟩:=ak (w.alloc (.cells (madeCells #[ae 0,ae 0] (n*2)) 128 (0,0)):World);have hbW:Below w.heap.size w W:=Aa
   have hrW:W.ownsRow w.heap.size 128 2 (aD lg n n) n (madeCells #[ae 0,ae 0] (n*2)).toList:=by
    rw[hW,hlg];exact World.ownsRow_lit w _ n aH lu (size_madeCells _ _)
   have HW:=af hW;have HLG:=af hlg;have bu:=af hbW;have fc:=af hrW;clear h hA hc fY hn hW hlg hbW hrW;go_enter func28,ntmps28;go_upto_region 4 with fail
   rw[←HW.out,←HLG.out];clear hm1;go_wp2_with fail;go_loopw[32] (fun i wr=>∃(k:Nat) (ys:List Value),k≤n∧i=ae k∧Hid (wr.ownsRow w.heap.size 128 2 (aD lg n n) n ys∧∀j,j<k*2→ys[j]?=((dt ws l).flatMap gL)[j]?)∧Hid (scanW ws l 0=scanW ws (l.drop k) k)∧Hid (Below w.heap.size w wr)) (fun i _=>n - (intOf i).toNat)
   case atStart=>exact⟨0,_,bU _,rfl,af ⟨fc,fun j hj=>ag⟩,af rfl,bu⟩
   case round=>
    clear fc bu HW;obtain⟨k,ys,hk,rfl,HY,HS,HB⟩:=hrel
    by_cases hlt:k<n
    ·have bV:(k:Int)<(n:Int):=by omega
     have hl0:(0:Int)≤(k:Int):=ag;have hkl:k<l.length:=Df;obtain⟨t,ht⟩:=ak (l[k]);have q:=rj.out wr HB k hkl;rw[←ht]at q;obtain⟨q0,q1,q2,q3⟩:=q;obtain⟨X,hX⟩:=ak (wr.alloc (.cells #[.string t.word,ae t.bZ,ae t.dl,ae t.off] 67 (0,0)):World);obtain⟨tb,jO⟩:=ak (wr.heap.size);have hbX:Below w.heap.size w X:=EL;have aN:ay X tb #[.string t.word,ae t.bZ,ae t.dl,ae t.off] 67:=by rw[hX,jO];exact bJ wr _ _
     have ki:X.ownsRow w.heap.size 128 2 (aD lg n n) n ys:=IL;have x0:X.cell? (ai tb 0)=some (.string t.word):=aN.cell 0 _ rfl;have x1:X.cell? (ai tb 1)=some (ae t.bZ):=aN.cell 1 _ rfl;have x2:X.cell? (ai tb 2)=some (ae t.dl):=aN.cell 2 _ rfl;have x3:X.cell? (ai tb 3)=some (ae t.off):=aN.cell 3 _ rfl;have vw:=MN (ws:=ws) hkl;rw[←ht,←HS.out]at vw
     have hlk:((dt ws l).flatMap gL)[k*2]?=some (ae (findI ws t.word).1.steps)∧((dt ws l).flatMap gL)[k*2+1]?=some (ae t.bZ):=by
      have hkL:k<(dt ws l).length:=by simpa [dt]using hkl
      have e:(dt ws l)[k]=((findI ws t.word).1.steps,t.bZ):=by simp[dt,ht]
      have a0:=flat_get gL 2 (fun _=>rfl) (dt ws l) k 0 hkL ag;have a1:=flat_get gL 2 (fun _=>rfl) (dt ws l) k 1 hkL ag;rw[e]at a0 a1;exact⟨by simpa [gL]using a0,by simpa [gL]using a1⟩
     have gC:=af (HPR t X hbX);obtain⟨E,hE⟩:=ak (jl ws t);obtain⟨P,hP⟩:=ak (AW ws t);rw[←hE,←hP]at gC;rw[←hE]at vw;have hPE:E=0→P=(findI ws t.word).1.steps:=fun e=>by rw[hP,AW,aG (by rw[←hE];exact e)]
     have HX:=af hX;have HTB:=af jO;have bT:=af hbX;have bz:=af aN;have eZ:=af ki;have o8:=af vw;have HLK:=af hlk;have HPE:=af hPE;have HY2:=af HY.out.2;unfold TK.val at gC;clear hX jO hbX aN ki vw hlk hPE ht hE hP HY HS;go_upto_region 7 with fail
     rw[←HX.out,←HTB.out];clear q0 q1 q2 q3;go_wp2_with fail;refine gC.mono ?_;rintro e w2 ⟨rfl,hb2⟩;have hk2:=bz.sub hb2 bz.lt;have z1:w2.cell? (ai tb 1)=some (ae t.bZ):=hk2.cell 1 _ rfl;have hr2:=aR eZ (aq.bf (S:=fun _=>False) hb2) (fun _ _=>id);have aW:=af (bT.trans (hb2.mono bT.size));have HR2:=af hr2;have Il:=hk2.lt;clear hb2 hk2 hr2 gC x0 x1 x2 x3
     by_cases hE0:E=0
     ·have hEn:(E != 0)=false:=by simp[hE0]
      obtain⟨lg',cap',hv,_,adE,_,_,hcc⟩:=cd HR2 ag;obtain⟨rfl,rfl⟩:lg=lg'∧n=cap':=gW;have pM:ys.length=n*2:=HR2.out.1;obtain⟨y0,hy0⟩:∃x,ys[k*2]?=some x:=⟨_,bE ag⟩;obtain⟨y1,hy1⟩:∃x,ys[k*2+1]?=some x:=⟨_,bE ag⟩;have e0:w2.cell? (ai lg (k*2))=some y0:=hcc _ _ hy0;have e1:w2.cell? (ai lg (k*2+1))=some y1:=hcc _ _ hy1;have f0:=oW HR2 (k*2);have f1:=oW HR2 (k*2+1);have HYL:=af pM;clear hv hcc hy0 hy1 pM;go_wp2_with fail;go_roundw
      case rel=>
       have hlk:=HLK.out;rw[←HPE.out hE0]at hlk;refine⟨k+1,(ys.set (k*2) (ae P)).set (k*2+1) (ae t.bZ),ag,bO,af ⟨iJ (iJ HR2 (k*2) _) (k*2+1) _,abU hlt HYL HY2 hlk.1 hlk.2⟩,af ?_,af ((aW.setCell Pr _).setCell Pr _)⟩;rw[o8.out,az (by simp[hE0])]
      case measure=>simp[intOf];omega
     ·have hEn:(E != 0)=true:=by simp[hE0]
      have hfin:Hid (admitT ws l=(E,k)):=by
       show admitT ws l=_
       rw[HAD.out,o8.out,aG hE0]
      clear o8 HAD;go_wp2_with fail;exact bodyPost_ret (v:=.tuple #[aI,ae E,ae k]) Ce rfl (tU.err hfin hE0 rfl aW)
    ·obtain rfl:k=n:=by omega
     have bV:¬(k:Int)<(k:Int):=ag;have hsn:scanW ws l 0=none:=R3;have hys:ys=(dt ws l).flatMap gL:=FQ HY.out.1.1 (by rw[flat_length gL 2 (fun _=>rfl)];simp[dt];have:=iE.out;omega) HY.out.2;have hrow:wr.ownsRow w.heap.size 128 2 (aD lg k k) k ((dt ws l).flatMap gL):=Fq;have hwr:=CW hsn;obtain⟨ls,hls⟩:=ak (dt ws l);have bj:∀x∈ls,nz x:=by rw[hls];exact EK HAL hwr
     have wE:ls.length=k:=by rw[hls];simp[dt];exact iE.symm
     have jz:∀t∈l,1≤t.dl∧t.dl≤1000000:=fun t ht=>by
      have:=hwr t ht;unfold jl at this
      split at this
      ·contradiction
      ·split at this
       ·exact absurd this aj
       ·rename_i h1
        have h1:t.Fits:=tq h1;obtain⟨_,_,a,b,_⟩:=h1;omega
     have sG:=HAD.out;rw[hsn]at sG;simp only at sG;rw[←hls]at sG hrow;have uL:=af sG;have HLR:=af hrow;have eP:=af bj;have oM:=af wE;have HFT:=af jz;have oH:=af hls;clear hsn hys hrow hwr bj wE jz sG hls HY HS HAD HPR;have hm2:=Dm (P:=prog) 57 133 (.agg #[ae 0,ae 0,ae 0]) #[ae 0,ae 0,ae 0] 3 24 rfl underlying57 PT k ag ag;obtain⟨pg,hpg⟩:=ak (wr.heap.size);obtain⟨V,hV⟩:=ak (wr.alloc (.cells (madeCells #[ae 0,ae 0,ae 0] (k*3)) 133 (0,0)):World);have fe:Below w.heap.size w V:=by rw[hV];exact HB.alloc HB.size _
     have iY:V.ownsRow w.heap.size 133 3 (aD pg k k) k (madeCells #[ae 0,ae 0,ae 0] (k*3)).toList:=by
      rw[hV,hpg];exact World.ownsRow_lit wr _ k HB.size lu (size_madeCells _ _)
     have hlV:V.ownsRow w.heap.size 128 2 (aD lg k k) k (ls.flatMap gL):=by rw[hV];exact HLR.alloc _
     have HV:=af hV;have HPG:=af hpg;have cS:=af fe;have lr:=af iY;have mo:=af hlV;have ad5:lg<pg:=by have:=cJ HLR (k:=lg) rfl;omega
     have GI:w.heap.size≤pg:=by have:=HB.size;omega
     clear hV hpg fe iY hlV HB HLR;go_upto_region 13 with fail
     rw[←HV.out,←HPG.out];clear hm2;go_wp2_with fail;go_loopw[60] (fun i wr=>∃(m:Nat) (ys:List Value),m≤k∧i=ae m∧Hid (wr.ownsRow w.heap.size 133 3 (aD pg k k) k ys∧∀j,j<m*3→ys[j]?=(qZ ls l k)[j]?)∧Hid (wr.ownsRow w.heap.size 128 2 (aD lg k k) k (ls.flatMap gL))∧Hid (tN ls l l.length 0=tN ls l (k - m) m)∧Hid (Below w.heap.size w wr)) (fun i _=>k - (intOf i).toNat)
     case atStart=>exact⟨0,_,bU _,rfl,af ⟨lr,fun j hj=>ag⟩,mo,af (by rw[←iE.out];rfl),cS⟩
     case round=>
      clear lr cS HV mo;obtain⟨m,ys,hm,rfl,HY,HL2,HS,HB⟩:=hrel
      by_cases hlt:m<k
      ·have bV:(m:Int)<(k:Int):=by omega
       have hl0:(0:Int)≤(m:Int):=ag;have hkl:m<l.length:=Df;obtain⟨t,ht⟩:=ak (l[m]);have q:=rj.out wr HB m hkl;rw[←ht]at q;obtain⟨q0,q1,q2,q3⟩:=q;have hdl:=HFT.out t (by rw[ht];exact nS hkl);obtain⟨X,hX⟩:=ak (wr.alloc (.cells #[.string t.word,ae t.bZ,ae t.dl,ae t.off] 67 (0,0)):World);obtain⟨tb,jO⟩:=ak (wr.heap.size);have hbX:Below w.heap.size w X:=EL;have aN:ay X tb #[.string t.word,ae t.bZ,ae t.dl,ae t.off] 67:=by rw[hX,jO];exact bJ wr _ _
       have ki:X.ownsRow w.heap.size 133 3 (aD pg k k) k ys:=IL;have hlX:X.ownsRow w.heap.size 128 2 (aD lg k k) k (ls.flatMap gL):=by rw[hX];exact HL2.alloc _
       obtain⟨c,hcc⟩:=ak (kC ls m);have e0:=(ET hlX (k:=m) yS oM).1;rw[←hcc]at e0;have hco:=AY eP (k:=m) yS;rw[←hcc]at hco;obtain⟨hc1,hc2,_,_⟩:=hco;simp only at hc1 hc2;have qU:=af (fun (w':World) (hb:Below X.heap.size X w')=>Tv ls lg k k m w' (aR hlX (aq.bf (S:=fun _=>False) hb) (fun _ _=>id)) oM ag hlt);have mV:=JW ls l (k - m - 1) m;rw[show k - m - 1+1=k - m by omega,←HS.out]at mV;have HX:=af hX;have HTB:=af jO;have bT:=af hbX;have bz:=af aN;have eZ:=af ki;have rG:=af hlX;have rQ:=af mV;have kG:=af hcc;have HY2:=af HY.out.2;have HT:=af ht;have aes:=aN.lt;clear hX jO hbX aN ki hlX mV hcc ht HY HS HL2;go_upto_region 16 with fail
       rw[←HX.out,←HTB.out];clear q0 q1 q2 q3;have Uq:lg<X.heap.size:=cJ rG (k:=lg) rfl;have k0:∀u:{w':World // Below X.heap.size X w'},u.val.cell? (ai lg (m*2))=some (ae c):=fun u=>(u.property.cell (p:=ai lg (m*2)) Uq).trans e0
       have hne:Nonempty {w':World // Below X.heap.size X w'}:=⟨⟨X,aQ⟩⟩;clear e0;refine ly (C:=eM fun w'=>Below X.heap.size X w') 8 [7] ⟨X.drew,(Below.refl _ X).drew⟩ aP aP rfl ?_;rw[show List.range 8=[0,1,2,3,4,5,6,7]from rfl]
       repeat (refine eV rfl rfl (fun K hK=>?_);go_simp;refine hK _ ?_;clear hK K)
       refine ja rfl rfl 54 #[aD lg k k,ae m] dB ((qU _ (Below.refl _ X).drew).mono ?_);rintro e w2 ⟨ua,uc,rfl,hr2,hb2⟩;have zu:Below X.heap.size X w2:=(Below.refl _ X).drew.trans hb2;refine⟨_,rfl,zu,iV ?_⟩;intro w' hw';rw[show w'=w2 from hw'];clear hw' w';obtain⟨ah,hah⟩:=ak (aheadP ls m k);rw[←hah]at hr2 ⊢;have Kg:ah.length≤8:=by rw[hah];have:=ym ls m k;omega
       have Oj:∀x∈ah,nz x:=by rw[hah];exact yH eP m k yS
       have hDD:(fun r=>c+within r ah)=oU ls m:=by
        funext r;unfold oU;rw[kG.out,hah,oM.out]
       have HRS:=af (fun (w':World) (hb:Below w2.heap.size w2 w')=>adh c t.dl ah (.slice ua ah.length uc) w' (aR hr2 (aq.bf (S:=fun _=>False) hb) (fun _ _=>id)) Oj Kg hc1 hc2 hdl.1 hdl.2);rw[hDD]at HRS;obtain⟨R,hR⟩:=ak (yF (oU ls m) t.dl);rw[←hR]at HRS
       have hRa:uf ls l m=R:=by
        rw[hR,HT.out];unfold uf;congr 1;simp[hkl]
       have hpl:(wN ls l m)=[ae c,ae (ah.length:Int),ae R]:=by
        unfold wN;rw[hRa,←kG.out,oM.out,←hah]
       have Gl:=bz.sub zu bz.lt;have z2:w2.cell? (ai tb 2)=some (ae t.dl):=Gl.cell 2 _ rfl;have Mb:=aR eZ (aq.bf (S:=fun _=>False) zu) (fun _ _=>id);have Es:=aR rG (aq.bf (S:=fun _=>False) zu) (fun _ _=>id);have xZ:=bT.trans (zu.mono bT.size);have IM:=rQ.out;rw[hRa]at IM;have zq:=af IM;have lG:=af hpl;have nA:=af Mb;have tA:=af Es;have aW:=af xZ;obtain⟨A,hAA⟩:=ak (ah.length);rw[←hAA]at HRS lG ⊢;have hA8:A≤8:=ag;have Il:=Gl.lt;have Qq:=af (HRS w2 aQ);clear hr2 hb2 zu hah Kg Oj hDD hR hRa hpl Gl Mb Es xZ IM hAA HRS k0 hne qU eZ rG rQ bz hdl hc1 hc2;simp only[List.drop_succ_cons,List.drop_zero];go_wp2_with fail;refine Qq.mono ?_;rintro e w3 ⟨rfl,hb3⟩;have Qs:=aR nA (aq.bf (S:=fun _=>False) hb3) (fun _ _=>id);have MG:=aR tA (aq.bf (S:=fun _=>False) hb3) (fun _ _=>id);have HP3:=af Qs;have pN:=af MG;have eR:=af (aW.trans (hb3.mono aW.size));clear Qs MG hb3 Qq nA tA aW z2
       by_cases hR0:R=0
       ·have hd:decide (R≠0)=false:=by simp[hR0]
        have hfin:Hid (admitT ws l=(11,m)):=by
         show admitT ws l=_
         rw[uL.out,zq.out,aG hR0]
        rw[hd];clear zq uL hd;go_wp2_with fail;exact bodyPost_ret (v:=.tuple #[aI,ae 11,ae m]) Ce rfl (tU.err hfin aj rfl eR)
       ·have hd:decide (R≠0)=true:=by simp[hR0]
        rw[hd];obtain⟨pg',cap',hv,_,adA,_,_,hcc⟩:=cd HP3 ag;obtain⟨rfl,rfl⟩:pg=pg'∧k=cap':=gW;have pM:ys.length=k*3:=HP3.out.1;obtain⟨y0,hy0⟩:∃x,ys[m*3]?=some x:=⟨_,bE ag⟩;obtain⟨y1,hy1⟩:∃x,ys[m*3+1]?=some x:=⟨_,bE ag⟩;obtain⟨y2,hy2⟩:∃x,ys[m*3+2]?=some x:=⟨_,bE ag⟩;have e0:w3.cell? (ai pg (m*3))=some y0:=hcc _ _ hy0;have e1:w3.cell? (ai pg (m*3+1))=some y1:=hcc _ _ hy1;have e2:w3.cell? (ai pg (m*3+2))=some y2:=hcc _ _ hy2;have f0:=oW HP3 (m*3);have f1:=oW HP3 (m*3+1);have f2:=oW HP3 (m*3+2);have HYL:=af pM;clear hv hcc hy0 hy1 hy2 pM hd;go_wp2_with fail;go_roundw
        case rel=>
         have p0:=Ar ls l k m 0 hlt ag;have p1:=Ar ls l k m 1 hlt ag;have p2:=Ar ls l k m 2 hlt ag;rw[lG.out]at p0 p1 p2;refine⟨m+1,((ys.set (m*3) (ae c)).set (m*3+1) (ae A)).set (m*3+2) (ae R),ag,bO,af ⟨iJ (iJ (iJ HP3 (m*3) _) (m*3+1) _) (m*3+2) _,aaP hlt HYL HY2 (by simpa using p0) (by simpa using p1) (by simpa using p2)⟩,af ?_,af ?_,af (((eR.setCell GI _).setCell GI _).setCell GI _)⟩
         ·refine aR pN ((((aq.refl (fun b=>b=pg) w3).setCell (p:=ai pg (m*3)) rfl _).setCell (p:=ai pg (m*3+1)) rfl _).setCell (p:=ai pg (m*3+2)) rfl _) (fun b hb e=>?_)
          have:lg=b:=DV;omega
         ·rw[zq.out,az hR0];congr 1
        case measure=>simp[intOf];omega
      ·obtain rfl:m=k:=by omega
       have bV:¬(m:Int)<(m:Int):=ag;have hys:ys=qZ ls l m:=FQ HY.out.1.1 (Dn ls l m) HY.out.2;have hrow:wr.ownsRow w.heap.size 133 3 (aD pg m m) m (qZ ls l m):=Fq;have mV:=HS.out;rw[Nat.sub_self]at mV;have fY:=uL.out;rw[mV]at fY;have fY:admitT ws l=(0,0):=fY;have fc:=af hrow;have lC:=af fY;clear hys hrow mV fY HY HS uL;go_wp2_with fail;refine bodyPost_ret (v:=.tuple #[aD pg m m,ae 0,ae 0]) Ce rfl ⟨⟨some (ai pg 0),m,m,?_,fun e=>?_,fun e=>⟨iE,ag,ag,?_⟩⟩,HB⟩
       ·rw[lC.out];rfl
       ·rw[lC.out]at e;exact absurd rfl e
       ·rw[←oH.out];exact fc
end
section
theorem Xk{t:TK}(h:jl ws t=0):t.Fits:=by
 unfold jl at h
 split at h
 ·contradiction
 ·split at h
  ·exact absurd h aj
  ·rename_i h1;exact tq h1
theorem Wx(l:List TK)(pb po cap k:Nat)(w:World)(h:cG w sb sv ws c k')(hl:ws.length≤1100000)(hA:Alike es ws)(ht:oq w pb po l)(hn:l.length≤cap)(h8:l.length≤8)(hk:k<l.length)(hw:∀t∈l,jl ws t=0):
  Calls prog 135 #[ax sb,.slice (some (ai pb po)) l.length cap,ae k] w fun e w'=>e=.returned (ae (uf (dt ws l) l k))∧Below w.heap.size w w':=by
 obtain⟨ls,hls⟩:=ak (dt ws l);have bj:∀x∈ls,nz x:=by rw[hls];exact EK hA hw
 have hll:ls.length=l.length:=by rw[hls];simp[dt]
 have HDM:=af (fun (r:Int) (w':World) (hb:Below w.heap.size w w') (h0:0≤r) (h1:r≤1000000)=>ZA l pb po cap k r w' (h.aB (aq.bf (S:=fun _=>False) hb) id (fun _ _=>id)) hl hA (ht.below hb ht.1) hn h8 hk hw h0 h1);rw[←hls]at HDM ⊢;have hft:=Xk (hw l[k] (nS hk));have rj:=af (fun (w':World) (hb:Below w.heap.size w w')=>((ht.below hb ht.1).cells k hk).2.2.1);obtain⟨dl,hdl⟩:∃d,d=l[k].dl:=⟨_,rfl⟩;rw[←hdl]at rj;have iC:1≤dl∧dl≤1000000:=by obtain⟨_,a,b,c,_⟩:=hft;omega
 obtain⟨D,hD⟩:=ak (oU ls k);have AQ:∀a b,a≤b→D a≤D b:=fun a b h=>by rw[hD];exact Xy bj k h
 have di:∀r,0≤r→r≤1000000→1≤D r∧D r≤9000000000000000:=fun r a b=>by rw[hD];exact acb bj ag ag a b
 rw[←hD]at HDM;obtain⟨R,hR⟩:=ak (uf ls l k);rw[←hR];have hR2:R=yF D dl:=by rw[hR,hD];unfold uf;congr 1;simp[hk,hdl]
 have hpb:=ht.1;have rJ:=h.blk.lt;have HMO:=af AQ;have HBD:=af di;have HR:=af hR2;obtain⟨n,hnn⟩:=ak (l.length);rw[←hnn]at hn h8 hk HDM ⊢;obtain⟨iC,fT⟩:=iC;have fD:(k:Int)<(n:Int):=ag;have hk0:(0:Int)≤(k:Int):=ag;clear h hA ht hw bj hll hR hR2 hnn hls AQ di hD hdl hft;go_enter func135,ntmps135;go_wp2_with fail;go_loopw[7] (fun i wr=>∃(r:Int) (f:Nat),i=ae r∧1≤r∧r≤9000000000000000∧Hid (R=respG D dl f r∧dl - r<f∧r≤D r)∧Hid (Below w.heap.size w wr)) (fun i _=>(dl+1 - intOf i).toNat)
 case atStart=>
  exact⟨1,dl.toNat+1,rfl,ag,ag,af ⟨HR,ag,(HBD 1 ag ag).1⟩,aQ⟩
 case round=>
  clear HR;obtain⟨r,f,rfl,h1,h2,HF,HB⟩:=hrel;have hc2:=rj.out wr HB
  by_cases hle:r≤dl
  ·have pE:=af (HDM r wr HB ag ag)
   obtain⟨x,hx⟩:=ak (D r);rw[←hx]at pE;have di:=HBD.out r ag ag;rw[←hx]at di;obtain⟨hb1,hb2⟩:=di;have HDX:=af hx.symm;clear hx;go_wp2_with fail;refine pE.mono ?_;rintro e w2 ⟨rfl,hb⟩;have aW:=af (HB.trans (hb.mono HB.size));clear hb pE hc2
   by_cases he:x=r
   ·have hfin:Hid (R=r):=by
     show R=r
     obtain⟨a,b,_⟩:=HF.out;obtain⟨f',rfl⟩:∃f',f=f'+1:=⟨f - 1,ag⟩;rw[a,respG,aG hle,aG Eh]
    have he':(x == r)=true:=by simp[he]
    have HE:=af he;clear he;go_wp2_with fail;rw[hfin.out];go_ret;exact⟨rfl,aW⟩
   ·have he':(x == r)=false:=by simp[he]
    obtain⟨a,b,cc⟩:=HF.out;have hst:=KH HMO b cc hle Eh;rw[HDX.out]at hst;have HST:=af hst;have HA:=af a;clear hst a b cc HF;go_wp2_with fail;go_roundw
    case rel=>
     obtain⟨f',rfl,s1,s2,s3,s4⟩:=HST.out;exact⟨x,f',rfl,hb1,hb2,af ⟨by rw[HA.out,s1],s2,s3⟩,aW⟩
    case measure=>
     obtain⟨f',rfl,s1,s2,s3,s4⟩:=HST.out;simp[intOf];omega
  ·have hfin:Hid (R=0):=by
    show R=0
    obtain⟨a,b,_⟩:=HF.out;rw[a]
    cases f with
    |zero=>rfl
    |succ f=>rw[respG,az hle]
   clear HF;go_wp2_with fail;rw[hfin.out];go_ret;exact⟨rfl,HB⟩
theorem ref_admit(l:List TK)(ta:Option Addr)(n cap:Nat)(w:World)(h:cG w sb sv ws c k')(hl:ws.length≤1100000)(hA:Alike es ws)(hn:n=l.length)(ir:n≤cap)(hnb:n≤1100000)
  (hc:(n=0)∨∃pb po,ta=some (ai pb po)∧oq w pb po l):
  Calls prog 100 #[ax sb,.slice ta n cap] w (tU w ws l):=by
 have fK:=h.blk.lt
 by_cases h0:n=0
 ·have fY:admitT ws l=(1,0):=by unfold admitT;rw[aG (aC ag)]
  have HAD:=af fY;have hz:(n:Int)<1:=ag;clear h hA hc fY hn;subst h0;go_enter func100,ntmps100;exact Ma
 ·have hz:¬(n:Int)<1:=by omega
  by_cases h8:8<n
  ·have fY:admitT ws l=(1,0):=by unfold admitT;rw[aG (aA ag)]
   have HAD:=af fY;have h8i:(8:Int)<(n:Int):=ag;clear h hA hc fY hn;go_enter func100,ntmps100;exact Ma
  ·have h8i:¬(8:Int)<(n:Int):=by omega
   obtain⟨pb,po,rfl,ht⟩:∃pb po,ta=some (ai pb po)∧oq w pb po l:=hc.resolve_left h0
   have fY:admitT ws l=match scanW ws l 0 with
     |some (e,k)=>(e,k)
     |none=>match tN (dt ws l) l l.length 0 with
      |some k=>(11,k)
      |none=>(0,0):=by unfold admitT;rw[az ag];rfl
   have HAD:=af fY;have iE:=af hn;have HAL:=af hA;have rj:=af (fun (w':World) (hb:Below w.heap.size w w') (k:Nat) (hk:k<l.length)=>(ht.below hb ht.1).cells k hk);have pE:=af (fun (t:TK) (w':World) (hb:Below w.heap.size w w')=>ack t w' (h.aB (aq.bf (S:=fun _=>False) hb) id (fun _ _=>id)) hl);have HRS:=af (fun (w':World) (hb:Below w.heap.size w w') (k:Nat) (hk:k<l.length) (hw:∀t∈l,jl ws t=0)=>Wx l pb po cap k w' (h.aB (aq.bf (S:=fun _=>False) hb) id (fun _ _=>id)) hl hA (ht.below hb ht.1) ag ag hk hw)
   have qU:=af (fun (w':World) (hb:Below w.heap.size w w') (i k:Nat) (hi:i<l.length) (hk:k<l.length)=>(show Calls prog 136 #[.slice (some (ai pb po)) l.length cap,ae i,ae k] w' fun e w2=>e=.returned (.bool (eB (dt ws l) i k))∧Below w'.heap.size w' w2 from by
    rw[←IX ws l i k hi hk];exact FZ w' pb po cap l i k (ht.below hb ht.1) ag ag hi hk))
   have iM:=af (fun (w':World) (hb:Below w.heap.size w w') (i:Nat) (hi:i<l.length)=>(show ∃b1 b2 b3 b5 f,Calls prog 66 #[ax sb,.string l[i].word] w' fun e w2=>e=.returned (.tuple #[.agg #[ae b1,ae b2,ae b3,ae (kC (dt ws l) i),.bool b5],ae f])∧Below w'.heap.size w' w2 from by
    have:=Jh l[i].word w' (h.aB (aq.bf (S:=fun _=>False) hb) id (fun _ _=>id)) hl;have hc:(findI ws l[i].word).1.steps=kC (dt ws l) i:=by simp[kC,dt,hi]
    obtain⟨⟨⟨b1,b2,b3,b4,b5⟩,f⟩,hF⟩:∃F,F=findI ws l[i].word:=⟨_,rfl⟩;rw[←hF]at this hc;simp only[Inf.val]at this hc;rw[hc]at this;exact⟨b1,b2,b3,b5,f,this⟩))
   rw[←hn]at HRS qU;have hpb:=ht.1;clear h hA hc fY hn ht;go_enter func100,ntmps100;go_wp2_with fail;go_loopw[7] (fun i wr=>∃(k:Nat),k≤n∧i=ae k∧Hid (scanW ws l 0=scanW ws (l.drop k) k)∧Hid (Below w.heap.size w wr)) (fun i _=>n - (intOf i).toNat)
   case atStart=>exact⟨0,bU _,rfl,af rfl,aQ⟩
   case round=>
    obtain⟨k,hk,rfl,HS,HB⟩:=hrel
    by_cases hlt:k<n
    ·have bV:(k:Int)<(n:Int):=by omega
     have hl0:(0:Int)≤(k:Int):=ag;have hkl:k<l.length:=Df;obtain⟨t,ht⟩:=ak (l[k]);have q:=rj.out wr HB k hkl;rw[←ht]at q;obtain⟨q0,q1,q2,q3⟩:=q;have vw:=MN (ws:=ws) hkl;rw[←ht,←HS.out]at vw;have HWT:=af (pE t wr HB);obtain⟨E,hE⟩:=ak (jl ws t);rw[←hE]at HWT vw;unfold TK.val at HWT;have o8:=af vw;have hpr:pb<wr.heap.size:=bF hpb HB.size;clear vw ht hE HS;go_wp2_with fail;refine HWT.mono ?_;rintro e w2 ⟨rfl,hb2⟩;have aW:=af (HB.trans (hb2.mono HB.size));clear hb2 HWT q0 q1 q2 q3
     by_cases hE0:E=0
     ·have hEn:(E != 0)=false:=by simp[hE0]
      go_wp2_with fail
      go_roundw
      case rel=>exact⟨k+1,ag,bO,af (by rw[o8.out,az (by simp[hE0])]),aW⟩
      case measure=>simp[intOf];omega
     ·have hEn:(E != 0)=true:=by simp[hE0]
      have hfin:Hid (admitT ws l=(E,k)):=by
       show admitT ws l=_
       rw[HAD.out,o8.out,aG hE0]
      clear o8 HAD;go_wp2_with fail;exact bodyPost_ret (v:=.tuple #[aI,ae E,ae k]) CM rfl (tU.err hfin hE0 rfl aW)
    ·obtain rfl:k=n:=by omega
     have bV:¬(k:Int)<(k:Int):=ag;have hsn:scanW ws l 0=none:=R3;have hwr:=CW hsn;obtain⟨ls,hls⟩:=ak (dt ws l);have wE:ls.length=k:=by rw[hls];simp[dt];exact iE.symm
     have sG:=HAD.out;rw[hsn]at sG;simp only at sG;rw[←hls]at sG HRS qU iM;have HRR:=af (fun (w':World) (hb:Below w.heap.size w w') (i:Nat) (hi:i<k)=>HRS w' hb i hi hwr);have uL:=af sG;have oM:=af wE;have oH:=af hls;obtain⟨i0,hi,hz0,hz1,hz2⟩:=info_parts PT;have HI:=af (aY hi (aY hz0 (aY hz1 hz2)));clear hsn hwr wE sG hls HS HAD pE HRS hi hz0 hz1 hz2;go_wp2_with fail;go_loopw[9,10] (fun s i wr=>∃(m:Nat) (ua:Option Addr) (uc:Nat),m≤k∧i=ae m∧s=.slice ua m uc∧Hid (wr.ownsRow w.heap.size 133 3 (.slice ua m uc) m (qZ ls l m))∧Hid (tN ls l l.length 0=tN ls l (k - m) m)∧Hid (Below w.heap.size w wr)) (fun _ i _=>k - (intOf i).toNat)
     case atStart=>exact⟨0,none,0,bU _,rfl,rfl,af ⟨rfl,aC ⟨rfl,rfl⟩⟩,af (by rw[←iE.out];rfl),HB⟩
     case round=>
      clear HB;obtain⟨m,ua,uc,hm,rfl,rfl,HU,HS,HB⟩:=hrel
      by_cases hlt:m<k
      ·have bV:(m:Int)<(k:Int):=by omega
       have hl0:(0:Int)≤(m:Int):=ag;have hml:m<l.length:=Df;have HRM:=af (HRR wr HB m hlt);obtain⟨R,hR⟩:=ak (uf ls l m);have mV:=JW ls l (k - m - 1) m;rw[show k - m - 1+1=k - m by omega,←HS.out]at mV;rw[←hR]at mV HRM;have rQ:=af mV;have ee:=af hR;clear mV hR HS;go_wp2_with fail;refine HRM.mono ?_;rintro e w2 ⟨rfl,hb2⟩;have hU2:=aR HU (aq.bf (S:=fun _=>False) hb2) (fun _ _=>id);have aW:=af (HB.trans (hb2.mono HB.size));have HU2:=af hU2;clear hb2 hU2 HRM HU HB
       by_cases hR0:R=0
       ·have hd:(R == 0)=true:=by simp[hR0]
        have hfin:Hid (admitT ws l=(11,m)):=by
         show admitT ws l=_
         rw[uL.out,rQ.out,aG hR0]
        have HR0:=af hR0;clear rQ uL hR0;go_wp2_with fail;exact bodyPost_ret (v:=.tuple #[aI,ae 11,ae m]) CM rfl (tU.err hfin aj rfl aW)
       ·have hd:(R == 0)=false:=by simp[hR0]
        go_wp2_with fail
        go_loopw[12,13] (fun s i wr=>∃(j A:Nat),j≤k∧i=ae j∧s=ae A∧Hid (A=(aheadP ls m j).length)∧Hid (Below w2.heap.size w2 wr)) (fun _ i _=>k - (intOf i).toNat)
        case atStart=>exact⟨0,0,bU _,rfl,rfl,af rfl,aQ⟩
        case round=>
         obtain⟨j,A,hj,rfl,rfl,lC,gI⟩:=hrel;have mi:=aW.trans (gI.mono aW.size);have hAj:A≤j:=by have:=lC.out;have:=ym ls m j;omega
         by_cases hjk:j<k
         ·have hji:(j:Int)<(k:Int):=by omega
          have hj0:(0:Int)≤(j:Int):=ag;have hjl:j<l.length:=by rw[←iE.out];exact hjk
          have HAJ:=af (qU wr mi j m hjk hlt);obtain⟨g,hg⟩:=ak (eB ls j m);rw[←hg]at HAJ
          have hsu:(aheadP ls m (j+1)).length=if g=true then A+1 else A:=by
           rw[aheadP,←hg,lC.out]
           split<;>simp
          have HSU:=af hsu;clear hg hsu lC;go_wp2_with fail;refine HAJ.mono ?_;rintro e w3 ⟨rfl,hb3⟩;have eR:=af (gI.trans (hb3.mono gI.size));clear hb3 HAJ gI
          cases g with
          |false=>
           go_wp2_with fail
           go_roundw
           case rel=>exact⟨j+1,A,ag,bO,rfl,af (by rw[HSU.out,az aj]),eR⟩
           case measure=>simp[intOf];omega
          |true=>
           go_wp2_with fail
           go_roundw
           case rel=>exact⟨j+1,A+1,ag,bO,bO,af (by rw[HSU.out];simp),eR⟩
           case measure=>simp[intOf];omega
         ·obtain rfl:j=k:=by omega
          have hji:¬(j:Int)<(j:Int):=ag;have q:=(rj wr mi m hml).1;obtain⟨s,hs⟩:=ak (l[m].word);obtain⟨b1,b2,b3,b5,f,hfm⟩:=iM.out wr mi m hml;rw[←hs]at q hfm;obtain⟨cm,hcm⟩:∃c,c=kC ls m:=⟨_,rfl⟩;rw[←hcm]at hfm
          have hpl:wN ls l m=[ae cm,ae (A:Int),ae R]:=by
           unfold wN;rw[oM.out,←lC.out,←hcm,←ee.out]
          have HFM:=af hfm;have lG:=af hpl;have bu:=af mi;have hpr:pb<wr.heap.size:=bF hpb mi.size;clear hs hfm hcm hpl mi lC;go_wp2_with fail;refine HFM.mono ?_;rintro e w3 ⟨rfl,hb3⟩;obtain⟨Y,hY⟩:=ak (w3.alloc (.cells #[ae b1,ae b2,ae b3,ae cm,.bool b5] 36 (0,0)):World);obtain⟨ib,hib⟩:=ak (w3.heap.size);have dV:Below wr.heap.size wr Y:=by rw[hY];exact hb3.alloc hb3.size _
          have eW:ay Y ib #[ae b1,ae b2,ae b3,ae cm,.bool b5] 36:=by rw[hY,hib];exact bJ w3 _ _
          have z3:Y.cell? (ai ib 3)=some (ae cm):=eW.cell 3 _ rfl;have hBY:=bu.trans (dV.mono bu.size);have hUY:=aR HU2 (aq.bf (S:=fun _=>False) (gI.trans (dV.mono gI.size))) (fun _ _=>id);have HY:=af hY;have dU:=af hib;have cx:=af hBY;have HUY:=af (hUY.alloc (.cells #[ae cm,ae A,ae R] 133 (0,0)));have jL:=af (qd Y #[ae cm,ae A,ae R] 133);have jF:=af (show w.heap.size≤(Y.alloc (.cells #[ae cm,ae A,ae R] 133 (0,0))).heap.size by have:=hBY.size;simp;omega);have fB:=af (show ∀u∈([ae cm,ae A,ae R]:List Value),u.oneCell'=true by intro u hu;simp at hu;rcases hu with rfl|rfl|rfl<;>rfl);have ud:=af (aY (show m+1≤maxLen by unfold maxLen;omega) (show(m+1)*24≤140737488355328 by omega));have HHS:=af (show(Y.alloc (.cells #[ae cm,ae A,ae R] 133 (0,0))).heap.size=Y.heap.size+1 by simp);have adU:=eW.lt;clear hY hib dV eW hBY hUY hb3 HFM q;go_upto_region 24 with fail
          rw[←HY.out,←dU.out];go_wp2_with (at_builtin;refine wpList_append_lies _ rfl _ _ 57 rfl w.heap.size 133 i0 (.agg #[ae 0,ae 0,ae 0]) 3 24 underlying57 HI.out.1 HI.out.2.1 HI.out.2.2.1 HI.out.2.2.2 rfl aj (.slice ua m uc) m (qZ ls l m) rfl HUY (ai Y.heap.size 0) 1 1 [ae cm,ae A,ae R] rfl rfl jL fB aj ud.out.1 ud.out.2 jF (Y.heap.size+1) HHS ?_);intro g2 bq w5 vI hg5 TS abE;have hb5:Below w.heap.size w w5:=(cx.alloc cx.size _).grown hg5 jF (fun b hb=>cR HUY hb);have mz:=af vI;have dI:=af hb5;clear vI hg5 TS abE hb5 z3;go_wp2_with fail;go_roundw
          case rel=>
           refine⟨m+1,some (ai g2 0),bq,ag,bO,rfl,af ?_,af ?_,dI⟩
           ·rw[qZ,lG.out];exact mz
           ·rw[rQ.out,az hR0];congr 1
          case measure=>simp[intOf];omega
      ·obtain rfl:m=k:=by omega
       have bV:¬(m:Int)<(m:Int):=ag;have mV:=HS.out;rw[Nat.sub_self]at mV;have fY:=uL.out;rw[mV]at fY;have fY:admitT ws l=(0,0):=fY;have lC:=af fY;clear mV fY HS uL;go_wp2_with fail;refine bodyPost_ret (v:=.tuple #[.slice ua m uc,ae 0,ae 0]) CM rfl ⟨⟨ua,m,uc,?_,fun e=>?_,fun e=>⟨iE,ag,ag,?_⟩⟩,HB⟩
       ·rw[lC.out];rfl
       ·rw[lC.out]at e;exact absurd rfl e
       ·rw[←oH.out];exact HU
end
section
attribute [local go_sem] fH
structure lq (w:World) (n nn:Nat) (iv:Value) (p:Option (Nat×Nat)) (g1 g2:Option Nat) (w':World):Prop where
 lQ:Below w.heap.size w w'
 ij:∀q vg,p=some (q,vg)→w.heap.size≤q∧ay w' q #[aD vg nn nn,aI,iv] 118∧bX w.heap.size w' (aD vg nn nn) (List.replicate nn 0)
 r1:∀g,g1=some g→w.heap.size≤g∧w'.rowIs g 168 n (fun _=>.pointer none)
 r2:∀g,g2=some g→w.heap.size≤g∧w'.rowIs g 168 n (fun _=>.pointer none)
 ne:∀a b,g1=some a→g2=some b→a≠b
section
variable{w w' w2:World}{n nn:Nat}{iv:Value}{p:Option (Nat×Nat)}{g1 g2:Option Nat}
theorem lq.nil(w:World)(n nn:Nat)(iv:Value):lq w n nn iv none none none w.drew:=⟨(Below.refl _ w).drew,fun _ _ h=>kK,fun _ h=>kK,fun _ h=>kK,fun _ _ h=>kK⟩
theorem lq.more(h:lq w n nn iv p g1 g2 w')(hb:Below w'.heap.size w' w2):lq w n nn iv p g1 g2 w2:=
 ⟨h.lQ.trans (hb.mono h.lQ.size),fun q vg e=>by
  obtain⟨a,b,c⟩:=h.ij q vg e;exact⟨a,b.sub hb b.lt,aR c (aq.bf (S:=fun _=>False) hb) (fun _ _=>id)⟩,fun g e=>by
  obtain⟨a,b⟩:=h.r1 g e;exact⟨a,b.of_block (hb.block g b.lt)⟩,fun g e=>by
  obtain⟨a,b⟩:=h.r2 g e;exact⟨a,b.of_block (hb.block g b.lt)⟩,h.ne⟩
theorem lq.world{q vg:Nat}(h:lq w n nn iv none g1 g2 w')(hq:w'.heap.size≤q)(hb:ay w2 q #[aD vg nn nn,aI,iv] 118)(hr:bX w'.heap.size w2 (aD vg nn nn) (List.replicate nn 0))(hw:Below w'.heap.size w' w2):lq w n nn iv (some (q,vg)) g1 g2 w2:=
 ⟨(h.more hw).lQ,fun q' vg' e=>by
  injection e with e
  injection e with e1 e2
  subst e1 e2;exact⟨bB h.lQ.size hq,hb,Fs hr h.lQ.size⟩,(h.more hw).r1,(h.more hw).r2,h.ne⟩
theorem lq.y7(h:lq w n nn iv p none g2 w'):lq w n nn iv p (some w'.heap.size) g2 (w'.alloc (.cells (madeCells #[.pointer none] n) 168)):=by
 have hm:=h.more (w2:=w'.alloc (.cells (madeCells #[.pointer none] n) 168)) ((Below.refl _ w').alloc aH _)
 exact⟨hm.lQ,hm.ij,fun g e=>by
  injection e with e
  subst e;exact⟨h.lQ.size,World.rowIs_made w' _ n _⟩,hm.r2,fun a b e1 e2 e=>by
  injection e1 with e1
  have:=(h.r2 b e2).2.lt;omega⟩
theorem lq.zb(h:lq w n nn iv p g1 none w'):lq w n nn iv p g1 (some w'.heap.size) (w'.alloc (.cells (madeCells #[.pointer none] n) 168)):=by
 have hm:=h.more (w2:=w'.alloc (.cells (madeCells #[.pointer none] n) 168)) ((Below.refl _ w').alloc aH _)
 exact⟨hm.lQ,hm.ij,hm.r1,fun g e=>by
  injection e with e
  subst e;exact⟨h.lQ.size,World.rowIs_made w' _ n _⟩,fun a b e1 e2 e=>by
  injection e2 with e2
  have:=(h.r1 a e1).2.lt;omega⟩
end
theorem qH{ops:Array Oper}{K:{w:World // True}→Act→Prop}{s:{w:World // True}}{a:Act}{o:Oper}(hk:ops[k]?=some o)(hw:Region.wanted o (yielded ops a.tmps)=true)(n:Nat)
  (hr:(execOp a.eval o).run P s.val=.ok (.value (aD s.val.heap.size n n)) (s.val.alloc (.cells (madeCells #[.pointer none] n) 168)))
  (h:∀g W,g=s.val.heap.size→W=s.val.alloc (.cells (madeCells #[.pointer none] n) 168)→K ⟨W,trivial⟩ (a.put o.dst (aD g n n))):j8 P ops (eM fun _=>True) k s K a:=
 TN hk hw _ _ trivial (aC hr) (h _ _ rfl rfl)
theorem Tryz.aaz:(prog.info? 168).map (fun i=>(i.zero,i.size,i.bytes))=some (some (.pointer none),1,8):=aP
def ma(es:List PE)(l:List TK):List JT:=l.map fun t=>⟨t.word,t.bZ,t.dl,t.off,((startOf (lastP es t.word es.length)).getD 0).toNat⟩
def Pu:Tr:=.quiet 0 (.quiet 2 (.quiet 4 (.quiet 5 (.quiet 7 (.quiet 8
 (.three 1 (.three 3 (.two 6 (.one 9 .fin) 9 (.one 6 .fin)) 6 (.two 3 (.one 9 .fin) 9 (.one 3 .fin)) 9 (.two 3 (.one 6 .fin) 6 (.one 3 .fin)))
  6 (.two 1 (.two 3 (.one 9 .fin) 9 (.one 3 .fin)) 9 (.one 1 (.one 3 .fin)))
  9 (.two 1 (.two 3 (.one 6 .fin) 6 (.one 3 .fin)) 6 (.one 1 (.one 3 .fin)))))))))
def L0(B:Nat)(es:List PE)(code:List Int)(nn:Nat)(l:List TK)(ls:List (Int×Int))(ins:List Int)(w:World)(e:Ending)(w':World):Prop:=
 ∃(tb gn gr:Nat) (s:SX) (aU:List Nat) (js:List (JX×MS)),e=.returned (ax tb)∧dO B w' tb gn gr s code ⟨List.replicate nn 0,[],ins⟩ aI aU (ma es l) (fF ls) js (List.replicate l.length false) []∧aU.length=l.length∧js.map Prod.snd=(ma es l).map (fun t=>jR t.st)∧Below w.heap.size w w'
theorem TW{ls:List (Int×Int)}{ta pa:Option Addr}{tc pc:Nat}{tg pg:Nat}(h:dF w bb ev cv es nv nt code)(hi:jP es nv nt code)(hcl:0<code.length)
  (hn:n=l.length) (h8:n≤8) (mv:ta=some (ai tg 0)) (n9:tg<w.heap.size) (htc:n≤tc) (ht:∀(j:Nat) (u:Value),(l.flatMap TK.cells)[j]?=some u→w.cell? (ai tg j)=some u)
  (hpa:pa=some (ai pg 0)) (hpg:pg<w.heap.size) (hpc:n≤pc) (hp:∀k,k<n→w.cell? (ai pg (k*3+1))=some (ae (kW ls k:Int))) (hls:ls.length=n)
  (hst:∀t∈l,∃p:Nat,startOf (lastP es t.word es.length)=some (p:Int)∧p<code.length) (hj:cN w.heap.size w iv ins) (hil:ins.length≤1100000):
  Calls prog 57 #[ax bb,.slice ta n tc,.slice pa n pc,iv] w (L0 w.heap.size es code nv.toNat l ls ins w):=by
 have aen:=hi.v1;have hv0:=hi.v0;obtain⟨nn,rfl⟩:∃nn:Nat,nv=nn:=⟨nv.toNat,ag⟩;simp only[rL]at *;have hV:=fun w' (hb:Below w.heap.size w w')=>XY (h.below (w':=w') hb)
 have hN:=fun w'=>YC (w:=w') (iv:=iv) nn ag (xO hj |>.elim fun a h=>h.elim fun c h=>⟨_,_,_,h⟩)
 have hmk:=Dm (P:=prog) 137 168 (.pointer none) #[.pointer none] 1 8 rfl underlying137 Tryz.aaz n ag ag;rw[Nat.mul_one]at hmk;have HV:=af hV;have HN:=af hN;have yO:=af hmk;obtain⟨ia,ic,E3⟩:=xO hj;have HIV:=af E3;subst mv hpa;have HH:=af h;have HI:=af hi;have HTT:=af ht;have jY:=af hp;have HST:=af hst;have HJ:=af hj;have mQ:=af hn;have oH:=af hls;clear hV hN hmk h hi ht hp hst hj hn hls;generalize ins.length=il at E3;subst E3;go_enter func57,ntmps57;go_upto_region 1 with fail
 go_cut [9] (fun s9 wx=>∃tb wp vg gn gr:Nat,s9=ax tb∧Hid (w.heap.size≤tb∧lq w n nn (.slice ia il ic) (some (wp,vg)) (some gn) (some gr) wx∧ay wx tb #[ax wp,aD gn n n,aD gr n n,aI] 139))
 case first=>
  refine TP (C:=eM fun _=>True) 10 Pu ⟨w.drew,trivial⟩ aP aP rfl ?_;unfold Pu
  iterate 6 (refine abx rfl (fun K hK=>?_);go_simp;refine hK _ ?_;clear hK K)
  have HM:=af (lq.nil w n nn (.slice ia il ic));have FU:Hid (∀(wp vg gn gr:Nat) (W:World),Hid (lq w n nn (.slice ia il ic) (some (wp,vg)) (some gn) (some gr) W)→Hid (w.heap.size≤W.heap.size∧lq w n nn (.slice ia il ic) (some (wp,vg)) (some gn) (some gr) (W.alloc (.cells #[ax wp,aD gn n n,aD gr n n,aI] 139 (0,0)))∧ay (W.alloc (.cells #[ax wp,aD gn n n,aD gr n n,aI] 139 (0,0))) W.heap.size #[ax wp,aD gn n n,aD gr n n,aI] 139)):=af fun wp vg gn gr W h=>af ⟨h.lQ.size,h.more ((Below.refl _ W).alloc aH _),bJ W _ _⟩
  refine LW ?_ ?_ ?_
  ·refine wJ rfl rfl 46 #[ax bb] dB ((HV _ HM.lQ).mono ?_)
   rintro e w' ⟨rfl,rfl⟩;refine⟨_,rfl,trivial,?_⟩;refine LW ?_ ?_ ?_
   ·refine wJ rfl rfl 45 #[ae nn,.slice ia il ic] dB ((HN _).mono ?_)
    rintro e w' ⟨wp,vg,rfl,q1,q2,q3,q4,q5⟩;replace HM:=af (HM.world q1 q3 q4 q5);clear q1 q2 q3 q4 q5;refine⟨_,rfl,trivial,?_⟩;refine xz ?_ ?_
    ·refine qH rfl rfl n qb (fun gn w' hg hw'=>?_)
     replace HM:=af (HM.y7);rw[←hg,←hw']at HM;clear hg hw';refine uq ?_
     ·exact N2
    ·refine qH rfl rfl n qb (fun gr w' hg hw'=>?_)
     replace HM:=af (HM.zb);rw[←hg,←hw']at HM;clear hg hw';refine uq ?_
     ·exact Oi
   ·refine qH rfl rfl n qb (fun gn w' hg hw'=>?_)
    replace HM:=af (HM.y7);rw[←hg,←hw']at HM;clear hg hw';refine xz ?_ ?_
    ·exact Q9
    ·exact Nf
   ·refine qH rfl rfl n qb (fun gr w' hg hw'=>?_)
    replace HM:=af (HM.zb);rw[←hg,←hw']at HM;clear hg hw';refine xz ?_ ?_
    ·exact N1
    ·exact Rk
  ·refine qH rfl rfl n qb (fun gn w' hg hw'=>?_)
   replace HM:=af (HM.y7);rw[←hg,←hw']at HM;clear hg hw';refine xz ?_ ?_
   ·refine wJ rfl rfl 46 #[ax bb] dB ((HV _ HM.lQ).mono ?_)
    rintro e w' ⟨rfl,rfl⟩;refine⟨_,rfl,trivial,?_⟩;refine xz ?_ ?_
    ·exact Q9
    ·exact Nf
   ·refine qH rfl rfl n qb (fun gr w' hg hw'=>?_)
    replace HM:=af (HM.zb);rw[←hg,←hw']at HM;clear hg hw';refine uq ?_
    ·exact J0
  ·refine qH rfl rfl n qb (fun gr w' hg hw'=>?_)
   replace HM:=af (HM.zb);rw[←hg,←hw']at HM;clear hg hw';refine xz ?_ ?_
   ·refine wJ rfl rfl 46 #[ax bb] dB ((HV _ HM.lQ).mono ?_)
    rintro e w' ⟨rfl,rfl⟩;refine⟨_,rfl,trivial,?_⟩;refine xz ?_ ?_
    ·exact N1
    ·exact Rk
   ·refine qH rfl rfl n qb (fun gn w' hg hw'=>?_)
    replace HM:=af (HM.y7);rw[←hg,←hw']at HM;clear hg hw';refine uq ?_
    ·exact J0
 case rest=>
  obtain⟨tb,wp,vg,gn,gr,rfl,HC⟩:=hcut;obtain⟨u,hu⟩:=ak (⟨List.replicate nn 0,[],ins⟩:MW);obtain⟨sx,hsx⟩:=ak (⟨wp,cv,aD vg nn nn,aI,.slice ia il ic⟩:SX);have nD:=Tf HH hcl;have rT:=HI.c;have ht4:=HI.t1
  have PO:TB w.heap.size wc tb gn gr n sx code u [] (ma es l) (kW ls) []:=by
   obtain⟨c1,c2,c3⟩:=HC.out;obtain⟨d1,d2,d3⟩:=c2.ij wp vg rfl;obtain⟨e1,e2⟩:=c2.r1 gn rfl;obtain⟨f1,f2⟩:=c2.r2 gr rfl;subst hsx hu;refine⟨⟨⟨d2,d3,xt _ _ _ _,HJ.below c2.lQ,nD.below c2.lQ,(fun k hk h=>by simp[Value.ownBlock]at h),d1,aF,(show ins.length≤2000000 by omega),aK,ag⟩,(fun i a h=>jC),(fun i k a b h=>jC),(fun i a h=>jC)⟩,c3,⟨_,e2,fun i jb h=>jC⟩,⟨_,f2,fun i jb h=>jC⟩,(fun i jb h=>jC),(fun i k jb h=>jC),c1,⟨e1,f1⟩,c2.ne gn gr rfl rfl,rfl,rfl⟩
  have Lp:=af PO;have nj:=af HC.out.2.1.lQ;have jq:=af hsx;have HU:=af hu;have HCA:=af nD;clear PO hsx hu nD HC HV HN yO;go_wp2_with fail;go_loopw[29] (fun k wr=>∃(q:Nat) (aU:List Nat) (js:List (JX×MS)),q≤n∧k=ae q∧aU.length=q∧Hid (TB w.heap.size wr tb gn gr n sx code u aU (ma es l) (kW ls) js)∧Hid (Below w.heap.size w wr)) (fun k _=>n - (intOf k).toNat)
  case atStart=>exact⟨0,[],[],bU _,rfl,rfl,Lp,nj⟩
  case round=>
   clear Lp nj;obtain⟨q,aU,js,hq,rfl,hjl,HQ,df⟩:=hrel
   by_cases hlt:q<n
   ·have jf:(q:Int)<(n:Int):=by omega
    have hkl:q<l.length:=by rw[←mQ.out];exact hlt
    obtain⟨t,ht⟩:=ak (l[q]);have htl:t∈l:=by rw[ht];exact nS hkl
    have hcell:∀j u,t.cells[j]?=some u→wr.cell? (ai tg (q*4+j))=some u:=fun j u hj=>by
     rw[df.cell (p:=ai tg (q*4+j)) n9];refine HTT _ _ ?_;have hj4:j<4:=by have:=(cI.1 hj).1;simpa [TK.cells]using this
     rw[flat_get TK.cells 4 (fun _=>rfl) l q j hkl hj4,←ht];exact hj
    have q0:wr.cell? (ai tg (q*4))=some (.string t.word):=hcell 0 _ rfl;have q1:wr.cell? (ai tg (q*4+1))=some (ae t.bZ):=hcell 1 _ rfl;have q2:wr.cell? (ai tg (q*4+2))=some (ae t.dl):=hcell 2 _ rfl;have q3:wr.cell? (ai tg (q*4+3))=some (ae t.off):=hcell 3 _ rfl;have Wm:tg<wr.heap.size:=bF n9 df.size;obtain⟨X,hX⟩:=ak (wr.alloc (.cells #[.string t.word,ae t.bZ,ae t.dl,ae t.off] 67 (0,0)):World);obtain⟨kb,hkb⟩:=ak (wr.heap.size);have hbX:Below wr.heap.size wr X:=jo;have aN:ay X kb #[.string t.word,ae t.bZ,ae t.dl,ae t.off] 67:=by rw[hX,hkb];exact bJ wr _ _
    have HTX:=af (HQ.below hbX);have bT:=af (df.trans (hbX.mono df.size));obtain⟨p,hp1,hp2⟩:=HST.out t htl;have hS:=acw t.word (HH.below bT) (by have:=HI.l;omega)
    have hre:zD (lastP es t.word es.length)=.tuple #[ae p,ae 0]:=by
     cases hL:lastP es t.word es.length with
     |none=>rw[hL]at hp1;cases hp1
     |some e=>
      rw[hL]at hp1;unfold startOf at hp1
      by_cases hv:e.var=true
      ·simp[hv]at hp1
      ·simp[hv]at hp1;simp[zD,hv,hp1]
    rw[hre]at hS;have z0:X.cell? (ai kb 0)=some (.string t.word):=aN.cell 0 _ rfl;have acr:=aN.lt;have HS:=af hS;have bz:=af aN;have HX:=af hX;have HKB:=af hkb;have HT:=af ht;have HP1:=af hp1;clear hcell hX hkb hbX aN hS hre ht htl hp1 HQ df;go_upto_region 5 with fail
    rw[←HX.out,←HKB.out];clear q0 q1 q2 q3 Wm;go_wp2_with fail;refine HS.mono ?_;rintro e w2 ⟨rfl,hb2⟩;have dv:=af (HTX.below hb2);have aW:=af (bT.trans (hb2.mono bT.size));have hk2:=bz.sub hb2 bz.lt;have eu:=af hk2;have nk:kb<w2.heap.size:=hk2.lt;have Il:tb<w2.heap.size:=dv.blk.lt;have sH:sx.wp=wp:=by rw[jq.out]
    have b0:w2.cell? (ai tb 0)=some (ax wp):=by rw[←sH];exact dv.blk.cell 0 _ rfl
    have k0:∀u:{w':World // Below w2.heap.size w2 w'},u.val.cell? (ai tb 0)=some (ax wp):=fun u=>(u.property.cell (p:=ai tb 0) Il).trans b0
    have k1:∀u:{w':World // Below w2.heap.size w2 w'},u.val.cell? (ai kb 0)=some (.string t.word):=fun u=>(u.property.cell (p:=ai kb 0) nk).trans (hk2.cell 0 _ rfl)
    have k2:∀u:{w':World // Below w2.heap.size w2 w'},u.val.cell? (ai kb 1)=some (ae t.bZ):=fun u=>(u.property.cell (p:=ai kb 1) nk).trans (hk2.cell 1 _ rfl)
    have k3:∀u:{w':World // Below w2.heap.size w2 w'},u.val.cell? (ai kb 2)=some (ae t.dl):=fun u=>(u.property.cell (p:=ai kb 2) nk).trans (hk2.cell 2 _ rfl)
    have k4:∀u:{w':World // Below w2.heap.size w2 w'},u.val.cell? (ai kb 3)=some (ae t.off):=fun u=>(u.property.cell (p:=ai kb 3) nk).trans (hk2.cell 3 _ rfl)
    have hne:Nonempty {w':World // Below w2.heap.size w2 w'}:=⟨⟨w2,aQ⟩⟩;have HCD:=af (fun w' (hb:Below w.heap.size w w')=>Tx (HH.below (w':=w') hb));have WW:∃g m c,cv=aD g m c:=by obtain⟨g,c,h,_⟩:=HCA.out;exact⟨_,_,_,h⟩
    obtain⟨rg,rn,rc,hcv⟩:=WW
    have mq:Hid (∀w',Below w2.heap.size w2 w'→Calls prog 47 #[cv,ae p,aI,ax wp] w' fun e w3=>∃mb,e=.returned (ax mb)∧w'.heap.size≤mb∧aV w.heap.size w3 ((JX.mk mb p aI aI).rx sx) code (jR p) u∧Below w'.heap.size w' w3):=af fun w' hb=>by
     have hW:=(dv.below hb).gj.ij;rw[jq.out,HU.out]at hW ⊢;exact Wo (B:=w.heap.size) (st:=p) [] hW.bG ag ag (bU _) (NW _ _) (bB aW.size hb.size) hW.bK hW.bw hW.gN hW.ins aK (show ins.length≤2000000 by omega)
    subst hcv;clear hb2 hk2 HTX bT HS bz z0 acr HX HKB b0;go_upto_region 6 with fail
    refine A7 (C:=eM fun w'=>Below w2.heap.size w2 w') 10 [0,2,3,4,5,6,8,9,1,7] [1,7] ⟨w2.drew,(Below.refl _ w2).drew⟩ aP aP rfl ?_
    iterate 8 (refine eV rfl rfl (fun K hK=>?_);go_simp;refine hK _ ?_;clear hK K)
    refine ja rfl rfl 48 #[ax bb] dB ((HCD _ (aW.trans ((Below.refl _ w2).drew.mono aW.size))).mono ?_);rintro e w' ⟨rfl,rfl⟩;refine⟨_,rfl,(Below.refl _ w2).drew,?_⟩;refine ja rfl rfl 47 #[aD rg rn rc,ae p,aI,ax wp] dB ((mq _ (Below.refl _ w2).drew).mono ?_);rintro e w3 ⟨mb,rfl,hmb,hra,hb3⟩;have zh:Below w2.heap.size w2 w3:=(Below.refl _ w2).drew.trans hb3;refine⟨_,rfl,zh,iV ?_⟩;intro w' hw';rw[show w'=w3 from hw'];clear hw' w';simp only[List.drop_succ_cons,List.drop_zero];go_upto_region 7 with fail
    obtain⟨Y,hY⟩:=ak (w3.alloc (.cells #[ax mb,.string t.word,ae t.bZ,ae t.dl,ae t.off,ae q,.bool false] 170 (0,0)):World);obtain⟨jb,hjb⟩:=ak (w3.heap.size);rw[←hY,←hjb];have IE:Below w3.heap.size w3 Y:=Gj;have xm:Below w2.heap.size w2 Y:=zh.trans (IE.mono zh.size);have eW:ay Y jb (xR mb ⟨t.word,t.bZ,t.dl,t.off,p⟩ q false) 170:=by rw[hY,hjb];exact bJ w3 _ _
    have hTY:=dv.below xm
    have hf3:=dv.gj.add (a:=(⟨mb,p,aI,aI⟩,jR p)) zh hra (fun b hb=>by
     rcases hb with e|e|e
     ·rw[e];exact hmb
     ·simp[Value.ownBlock]at e
     ·simp[Value.ownBlock]at e)
    have hfY:=hf3.aB (SQ:=fun _=>False) (aq.bf IE) (fun _ _=>id) (fun _ e=>e.elim)
    have JM:(ma es l)[aU.length]?=some ⟨t.word,t.bZ,t.dl,t.off,p⟩:=by
     unfold ma;rw[hjl,iH,bE hkl,←HT.out];simp only[Option.map_some,HP1.out,Option.getD_some,rL]
    have hadd:=dv.add xm hfY JM (by rw[hjl];exact eW) (by rw[hjb];exact zh.size) ⟨rfl,by show p≤code.length;omega⟩ rfl (fun i hi e=>by
     have:=Jm (ls:=ls) (by rw[oH.out];omega) (by rw[oH.out];omega) e;omega)
    rw[hjl]at hadd;obtain⟨r,hr⟩:=ak (kW ls q);have hrn:r<n:=by rw[hr,←oH.out];exact yw (by rw[oH.out];exact hlt)
    rw[←hr]at hadd;obtain⟨f,f1,f2⟩:=hTY.kf;obtain⟨g,g1,g2⟩:=hTY.kg;have c1:Y.cell? (ai tb 1)=some (aD gn n n):=hTY.blk.cell 1 _ rfl;have m1:Y.cell? (ai gn q)=some (f q):=f1.cell hlt;have m2:=f1.frozen q;have hgl:=f1.lt;have hrl:=g1.lt;have XC:=hTY.blk.lt
    have Uf:Y.cell? (ai pg (q*3+1))=some (ae r):=by
     have hb:=aW.trans (xm.mono aW.size);rw[hb.cell (p:=ai pg (q*3+1)) hpg,hr];exact jY q hlt
    have adD:=hTY.bg.1;have aeb:=hTY.bg.2;have Su:=hTY.gne
    have htn:tb≠gn:=fun e=>by
     have:=(lD hTY.blk).uniq (by rw[e];exact rW f1);exact absurd this aj
    obtain⟨Z,hZ⟩:=ak (Y.setCell (ai gn q) (ax jb):World)
    have c2:Z.cell? (ai tb 2)=some (aD gr n n):=by
     have hc:aq (fun b=>b=gn) Y Z:=PA;exact(hTY.blk.aB hc htn).cell 2 _ rfl
    have hg1:Z.rowIs gr 168 n g:=by rw[hZ];exact g1.setOther (fun e=>Su e.symm) _
    have d1:Z.cell? (ai gr r)=some (g r):=hg1.cell hrn;have d2:=hg1.frozen r
    have p1:Z.cell? (ai pg (q*3+1))=some (ae r):=by
     have hc:aq (fun b=>b=gn) Y Z:=PA;rw[hc.cell (p:=ai pg (q*3+1)) (show pg<Y.heap.size by have:=xm.size;have:=aW.size;omega) (fun e=>by have:pg=gn:=e;omega)];exact Uf
    have V0:=af hadd;have HZ:=af hZ;have cx:=af (aW.trans (xm.mono aW.size));have Es:=hg1.lt;have adN:tb<Z.heap.size:=by rw[hZ];simpa using XC
    have aeN:pg<Z.heap.size:=by have:=xm.size;have:=aW.size;rw[hZ];simp;omega
    clear hadd hZ hY hjb IE xm eW hTY hf3 hfY JM f2 g1 g2 f1 hg1 hra hb3 zh dv aW mq HCD k0 k1 k2 k3 k4 hne eu hr;generalize f q=v1 at m1;generalize g r=v2 at d1;go_upto_region 8 with fail
    rw[←HZ.out];go_still_tail 11,aP;go_wp2_with fail;go_roundw
    case rel=>exact⟨q+1,aU++[jb],_,ag,bO,by rw[cF,gJ,hjl],af (by rw[HZ.out];exact V0.below aQ.drew),af (cx.trans (by
     rw[HZ.out];exact((((aq.refl (fun b=>b=gn∨b=gr) Y).setCell (p:=ai gn q) (aC rfl) _).setCell (p:=ai gr r) (aA rfl) _).drew).toBelow cx.size (fun b hb e=>by rcases e with e|e<;>omega)))⟩
    case measure=>simp[intOf];omega
   ·obtain rfl:q=n:=by omega
    have hji:¬(q:Int)<(q:Int):=ag;go_wp2_with fail;refine bodyPost_ret (v:=ax tb) (by simp[results,results57,go_sem]) rfl ?_;have hfin:=HQ.all (ls:=ls) hjl oH h8 (by unfold ma;rw[List.length_map];exact mQ.symm);rw[HU.out,mQ.out]at hfin;exact(show L0 _ _ _ _ _ _ _ _ _ _ from⟨tb,gn,gr,sx,aU,js,rfl,hfin.1,by rw[hjl];exact mQ,hfin.2,df⟩)
end
section
def iu(ws:List RW)(l:List TK)(ins:List Int)(h:Int):Int×Nat:=if 0≤h∧h≤100000∧mR ins=true then admitT ws l else(1,0)
def rF(es:List PE)(nn:Nat)(l:List TK)(ins:List Int):PS:=⟨(ma es l).map (fun t=>jR t.st),List.replicate l.length false,⟨List.replicate nn 0,[],ins⟩,[]⟩
def Bi(es:List PE)(code:List Int)(ws:List RW)(nn:Nat)(l:List TK)(ins:List Int)(h:Nat):PS:=gz code (ma es l) (fF (dt ws l)) l.length h (rF es nn l ins)
def tT(w:World)(es:List PE)(code:List Int)(ws:List RW)(nn:Nat)(l:List TK)(ins:List Int)(h:Int)(e:Ending)(w':World):Prop:=
 (∃va vn vc,e=.returned (.tuple #[.slice va vn vc,ae (iu ws l ins h).1,ae (iu ws l ins h).2])∧((iu ws l ins h).1≠0→va=none∧vn=0∧vc=0)∧((iu ws l ins h).1=0→lx w.heap.size w' (.slice va vn vc) (Bi es code ws nn l ins h.toNat).es))∧Below w.heap.size w w'
theorem tT.err{nn:Nat}{h:Int}(hs:iu ws l ins h=(E,K))(h0:E≠0)(he:e=.returned (.tuple #[aI,ae E,ae K]))(hb:Below w.heap.size w w'):tT w es code ws nn l ins h e w':=by
 refine⟨⟨none,0,0,?_,fun _=>⟨rfl,rfl,rfl⟩,fun e=>?_⟩,hb⟩
 ·rw[hs];exact he
 ·rw[hs]at e;exact absurd e h0
theorem RY{ws:List RW}:∀{l:List TK} {k:Nat} {E:Int} {j:Nat},scanW ws l k=some (E,j)→E≠0
 |[],_,_,_,h=>kK
 |t :: r,k,E,j,h=>by
  unfold scanW at h
  split at h
  ·rename_i hx
   injection h with h
   injection h with h1 h2
   rw[←h1];exact hx
  ·exact RY h
theorem aaW{B C:Nat}{e:TypeId}{v:Value}(h:w.ownsRow B e size v n xs)(hb:C≤B):w.ownsRow C e size v n xs:=by
 refine⟨h.1,?_⟩;rcases h.2 with h|⟨g,cap,cur,h1,h2,h3⟩
 ·exact aC h
 ·exact aA ⟨g,cap,cur,h1,bB hb h2,h3⟩
theorem yb(h:(admitT ws l).1=0):0<l.length∧l.length≤8∧(admitT ws l).2=0∧(∀t∈l,(findI ws t.word).2=0∧t.Fits):=by
 unfold admitT at h ⊢
 by_cases h8:l.length=0∨8<l.length
 ·rw[aG h8]at h;exact absurd h aj
 ·rw[az h8]at h ⊢
  cases hs:scanW ws l 0 with
  |some r=>
   exfalso
   obtain⟨E,k⟩:=r;rw[hs]at h;simp only at h;exact RY hs h
  |none=>
   rw[hs]at h;simp only at h ⊢;refine⟨ag,ag,?_,fun t ht=>?_⟩
   ·split at h
    ·simp at h
    ·rfl
   ·have:=CW hs t ht
    unfold jl at this
    split at this
    ·rename_i e;exact absurd this e
    ·rename_i e
     split at this
     ·exact absurd this aj
     ·rename_i e2
      exact⟨tq e,tq e2⟩
section
variable{es:List PE}{code:List Int}{ws:List RW}{nn:Nat}{l:List TK}{ins:List Int}
theorem I9(hk:rH es code ws)(h:(admitT ws l).1=0):(∀t∈l,∃p:Nat,startOf (lastP es t.word es.length)=some (p:Int)∧p<code.length)∧(∀t∈ma es l,TOk es code t∧Ee t):=by
 have key:∀t∈l,∃(p q:Nat) (y:RW),startOf (lastP es t.word es.length)=some (p:Int)∧p<code.length∧dw es code false y.its p q∧code[q]?=some 34:=fun t ht=>by
  obtain⟨_,_,_,ha⟩:=yb h;rcases PL hk.tQ hk.toAlike t.word with ⟨_,e2⟩|⟨k,p,q,y,e1,e2,e3,e4,e5,e6,e7,e8⟩
  ·have:=(ha t ht).1;omega
  ·exact⟨p,q,y,e4,e6,e7,e8⟩
 refine⟨fun t ht=>?_,fun t ht=>?_⟩
 ·obtain⟨p,q,y,a,b,_⟩:=key t ht
  exact⟨p,a,b⟩
 ·obtain⟨t0,ht0,rfl⟩:=List.mem_map.1 ht
  obtain⟨p,q,y,a,b,c,d⟩:=key t0 ht0;obtain⟨_,_,_,ha⟩:=yb h;obtain⟨_,f1,f2,f3,f4,f5,f6⟩:=ha t0 ht0;refine⟨⟨y,q,?_,d,?_⟩,f1,f2,f5,f6⟩
  ·simp only[a,Option.getD_some,rL];exact c
  ·simp only[a,Option.getD_some,rL];exact b
theorem Eu(hc:mR ins=true):eQ es code l.length nn 0 0 (rF es nn l ins):=by
 refine⟨by simp[rF,ma],by simp[rF],rfl,by simp[rF],fun a ha=>?_,aaH hc,aH,fun i m hm hb=>?_⟩
 ·rw[(List.mem_replicate.1 ha).2];exact⟨ag,ag⟩
 ·simp only[rF,lM,xB]at hb
  split at hb<;>simp at hb
end
theorem Yz(l:List TK)(ta:Option Addr)(n tc:Nat)(h:Int)(hs:dF w bb ev cv es nv nt code)(hi:jP es nv nt code)(hk:rH es code ws)(ht:cQ w)
  (hn:n=l.length) (ir:n≤tc) (hnb:n≤1100000) (hc:n=0∨∃tg,ta=some (ai tg 0)∧tg<w.heap.size∧∀(j:Nat) (u:Value),(l.flatMap TK.cells)[j]?=some u→w.cell? (ai tg j)=some u)
  (hj:cN w.heap.size w iv ins) (hil:ins.length≤1100000):
  Calls prog 29 #[ax bb,.slice ta n tc,iv,ae h] w (tT w es code ws nv.toNat l ins h):=by
 have HA:=af (WE hj aH hil);have HAD:=af (rates_admit l ta n tc hs (by have:=hi.l;omega) hk.toAlike hn ir hnb hc);obtain⟨ia,ic,oo⟩:=xO hj;have HJ:=af hj;have HS:=af hs;have HI:=af hi;have HK:=af hk;have HT:=af ht;have HN:=af hn;have HC:=af hc;have HIV:=af oo;clear hj hs hi hk ht hn hc;obtain⟨il,LM⟩:=ak (ins.length);rw[←LM]at oo;have acP:=af (show ins.length≤1100000 from hil);clear LM hil;subst oo
 by_cases h0:h<0
 ·exact O2
 by_cases h1:100000<h
 ·exact O2
 obtain⟨A,hA⟩:=ak (mR ins);rw[←hA]at HA;have lC:=af hA;clear hA;go_enter func29,ntmps29;go_wp2_with fail;refine HA.mono ?_;rintro e w' ⟨rfl,rfl⟩;clear HA
 cases A
 ·have HE:Hid (iu ws l ins h=(1,0)):=af (by unfold iu;rw[az (by rw[←lC.out];simp)])
  go_wp2_with fail
  exact bodyPost_ret (v:=.tuple #[aI,ae 1,ae 0]) Cv rfl (tT.err HE aj rfl aQ)
 have o8:Hid (iu ws l ins h=admitT ws l):=af Ov;go_wp2_with fail;refine HAD.mono ?_;rintro e w2 ⟨⟨pa,pn,pc,rfl,mM,bj⟩,hb2⟩;obtain⟨E,hE⟩:=ak ((admitT ws l).1);obtain⟨K,hK⟩:=ak ((admitT ws l).2);rw[←hE]at mM bj;rw[←hE,←hK]
 by_cases hE0:E=0
 case neg=>
  obtain⟨rfl,rfl,rfl⟩:=mM hE0;have hx:(E != 0)=true:=by simpa using hE0
  have HE:Hid (iu ws l ins h=(E,K)):=af (by rw[o8.out,hE,hK]);have aW:=af hb2;have HE0:=af hE0;clear mM bj hE hK hb2 hE0 HAD HJ HS HI HK HT HN HC HIV;go_wp2_with fail;exact bodyPost_ret (v:=.tuple #[aI,ae E,ae K]) Cv rfl (tT.err HE HE0 rfl aW)
 case pos=>
  subst hE0;obtain⟨o1,o2,o3,o4⟩:=bj rfl;obtain⟨d1,d2,d3,d4⟩:=yb hE.symm;have hK0:K=0:=by rw[hK];exact d3
  subst hK0;obtain⟨t1,t2⟩:=I9 HK hE.symm;have hnl:=HN.out;have eF:n≠0:=ag;rcases HC.out with hc|⟨tg,rfl,n9,htc⟩
  ·exact absurd hc eF
  have hcl:0<code.length:=by
   obtain⟨t,ht⟩:∃t,t∈l:=by
    cases l with
    |nil=>simp at d1
    |cons t r=>exact⟨t,List.mem_cons_self⟩
   obtain⟨p,_,hp⟩:=t1 t ht;omega
  obtain⟨pg,Ef,hpv,_,hpg,hpn,_,hcc⟩:=cd o4 ag;simp only[Value.slice.injEq]at hpv;obtain⟨rfl,_,rfl⟩:=hpv;obtain rfl:pn=n:=ag
  have HNT:=af (TW (ls:=dt ws l) (tg:=tg) (pg:=pg) (HS.below hb2) HI hcl hnl o3 rfl (bF n9 hb2.size) ir (fun j u hj=>(hb2.cell (p:=ai tg j) n9).trans (htc j u hj)) rfl hpg hpn (fun k hk=>by
   have:=hcc (k*3+1) (ae (kW (dt ws l) k:Int)) (by rw[Ar _ _ _ k 1 hk aj];rfl);exact this) (by unfold dt;rw[List.length_map];exact hnl.symm) t1 ((HJ.below hb2).mono hb2.size) acP)
  have aW:=af hb2;have kR:=af t2;have HE:=af hE;have nC:=af d3;have dv:=af (HT.below hb2);clear mM bj o4 hcc hpn hpg d4 t1 t2 hE hb2 htc HC HS HJ HAD hK d3 o1 d1 d2 hnl;go_wp2_with fail;refine HNT.mono ?_;rintro e w3 ⟨tb,gn,gr,sx,aU,js,rfl,hT,hjl,hjs,hb3⟩;have hnl:=HN.out;obtain⟨H,rfl⟩:∃H:Nat,h=H:=⟨h.toNat,ag⟩;obtain⟨ts,hts⟩:=ak (ma es l);obtain⟨rk,hrk⟩:=ak (fF (dt ws l));obtain⟨p0,hp0⟩:=ak (rF es nv.toNat l ins);have hjn:aU.length=pn:=ag
  have hI:∀k,eQ es code pn nv.toNat k (10*k) (gz code ts rk pn k p0):=fun k=>by
   rw[hts,hp0,hnl];exact eQ.sim HK.tQ HK.toAlike (fun t ht=>(kR t ht).1) (by rw[←hnl];exact o3) (Eu lC.symm) k
  have hsa:xU w2.heap.size w3 tb gn gr code aU ts rk p0:=by
   rw[hts,hrk,hp0];exact⟨sx,aI,js,hjs,hT⟩
  have jz:∀t∈ts,Ee t:=fun t ht=>(kR t (by rw[←hts];exact ht)).2
  have JU:∀t∈ts,TOk es code t:=fun t ht=>(kR t (by rw[←hts];exact ht)).1
  have HSI:=af hI;have HSA:=af hsa;have acC:=af jz;have Fg:=af JU;have eR:=af hb3;have u6:Hid (Bi es code ws nv.toNat l ins H=gz code ts rk pn H p0):=af (by rw[hts,hrk,hp0,hnl];rfl);have HG:=af dv.lt;have HJN:=af hjn;clear hT hjs hI hsa jz JU hb3 HNT hts hrk hp0 kR hjl hjn hnl;go_wp2_with fail;go_loopw[44] (fun k wr=>∃q:Nat,q≤H∧k=ae q∧Hid (xU w2.heap.size wr tb gn gr code aU ts rk (gz code ts rk pn q p0))∧Hid (Below w2.heap.size w2 wr)) (fun k _=>H - (intOf k).toNat)
  case atStart=>exact⟨0,bU _,rfl,HSA,eR⟩
  case round=>
   clear HSA eR;obtain⟨q,hq,rfl,HQ,df⟩:=hrel
   by_cases hlt:q<H
   ·have jf:(q:Int)<(H:Int):=by omega
    have hiq:=HSI.out q;have hir:=hiq.rel (Fg) (q:Int) pn 0 _ _;have ee:=af (Sy HQ (q:Int) acC ag ag (by have:=hiq.le;omega));rw[HJN.out]at ee;obtain⟨p1,hp1⟩:=ak (relP ts q pn 0 (gz code ts rk pn q p0));rw[←hp1]at ee hir;have Nk:gz code ts rk pn (q+1) p0=turnP code rk pn q p1:=by rw[hp1];rfl
    have dQ:=af Nk;have HIR:=af hir;clear hiq hir hp1 Nk;go_wp2_with fail;refine ee.mono ?_;rintro e w4 ⟨rfl,nR,hb4⟩;have HB4:=af (df.trans hb4);have HST:=af (Xp nR (dv.below HB4) HG (q:Int) (by have:=HIR.le;omega) (fun i m hm hb=>HIR.ok HK.tQ HK.toAlike ag hm hb));rw[HJN.out,←dQ.out]at HST;clear nR hb4 ee HQ df;go_wp2_with fail;refine HST.mono ?_;rintro e w5 ⟨rfl,hs5,hb5⟩;have dI:=af (HB4.trans hb5);have HS5:=af hs5;clear hs5 hb5 HST HB4 HIR dQ;go_wp2_with fail;go_roundw
    case rel=>exact⟨q+1,ag,bO,HS5,dI⟩
    case measure=>simp[intOf];omega
   ·obtain rfl:q=H:=by omega
    have hji:¬(q:Int)<(q:Int):=ag;obtain⟨s5,ev5,js5,_,hT5⟩:=HQ.out;obtain⟨va,vc,hev,_,_⟩:=bo hT5.pV;obtain⟨vn,hvn⟩:=ak ((gz code ts rk pn q p0).es.length);rw[←hvn]at hev;have c3:wr.cell? (ai tb 3)=some (.slice va vn vc):=by rw[←hev];exact hT5.blk.cell 3 _ rfl
    have jO:=hT5.blk.lt;have hro:=hT5.pV;rw[hev]at hro;have HRO:=af hro;have RG:Hid (iu ws l ins q=(0,0)):=af (by rw[o8.out];exact Prod.ext HE.symm nC);clear hT5 hev hvn hro HQ;go_wp2_with fail;refine bodyPost_ret (v:=.tuple #[.slice va vn vc,ae 0,ae 0]) Cv rfl ?_;refine(show tT _ _ _ _ _ _ _ _ _ _ from⟨⟨va,vn,vc,?_,fun e=>?_,fun _=>?_⟩,aW.trans (df.mono aW.size)⟩)
    ·rw[RG.out];rfl
    ·rw[RG.out]at e;exact absurd rfl e
    ·rw[rL,u6.out]
     exact aaW HRO aW.size
end
end Go.Proofs.YtcphhbofjkenaaaGreatDoor
