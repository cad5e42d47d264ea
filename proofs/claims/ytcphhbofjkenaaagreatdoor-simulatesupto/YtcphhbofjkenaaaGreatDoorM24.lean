import Derived.Test.YtcphhbofjkenaaaGreatDoorMy
import Derived.Test.YtcphhbofjkenaaaGreatDoorM23
namespace Go.Proofs.YtcphhbofjkenaaaGreatDoor
open Go Go.RowKit Proofs.Tryz
set_option linter.unusedVariables false
set_option linter.unusedSimpArgs false
set_option maxRecDepth 100000
set_option maxHeartbeats 16000000
variable{k B mb:Nat}{a b:Int}{s l:List Int}{P:Program}{w:World}{iv:Value}{cs:Array Value}
theorem Mc{p:Prop}(h:p:=by
  have cA:=af hin;clear hin;have fC:=af (fun (w':World) (hb:Below w.heap.size w w')=>vN k ag (h.below hb).at_ (ht.below hb));rw[hh]at fC;obtain⟨g,n,cap,eH,cg,hg,hn,ir,hn1,hnl⟩:=h.reads hop;obtain⟨bh,_,hmb⟩:=h.bh;have H:=af h;obtain⟨q,hq⟩:=ak (m.at_);rw[←hq]at cg hn bh;have HQ:=af hq;have iE:=af hnl;have jf:(q:Int)<(n:Int):=ag;have lV:(0:Int)≤(q:Int):=ag;have hqb:(q:Int)≤1000:=ag;clear h ht hop hq hnl;go_enter func74,ntmps74;go_wp2_with fail;go_quiet (fail);have hbq:Below w.heap.size w (w.drewN nq):=dz;obtain⟨V,hV⟩:=ak (w.drewN nq:World);rw[←hV]at hbq;rw[←hV];have HV:=af (fC V hbq);have df:=af hbq;clear hV hbq fC eH cg bh;go_wp2_with fail;refine HV.mono ?_;rintro e w1 ⟨rfl,hb1⟩;have hA1:=H.below (df.trans (hb1.mono df.size));obtain⟨bh,f38,hm1⟩:=hA1.at_.bh;rw[←HQ.out]at bh;have hS:=hA1.at_.setAt (q+1) qf;obtain⟨X,hX⟩:=ak (w1.setCell (ai x.mb 38) (ae ((q:Int)+1)):World);have hcast:(((q+1:Nat):Int))=(q:Int)+1:=ag;rw[hcast,←hX]at hS;have HN:=af (hA1.trans hS);have HX:=af hX;have jI:=hS.at_.bh.2.2;clear hb1 HV hA1 hS hX hcast;go_upto_region 7 with fail
  rw[←HX.out];clear bh f38;rw[HQ.out]at HN;have HI:=af (cA X HN.at_);clear cA;go_wp2_with fail;refine HI.mono ?_;rintro e w2 ⟨rfl,y,hy⟩;have HZ:=af (HN.trans hy);clear hy HI;go_wp2_with fail;go_ret;exact⟨rfl,_,HZ⟩):p:=h
theorem Jl{p:Prop}(h:p:=by
  refine gC.mono ?_;rintro e wz ⟨rfl,hz⟩;have HZ:=af (tX.trans hz);clear hz gC;go_wp2_with fail;go_ret;exact⟨rfl,_,HZ⟩):p:=h
section
attribute [local go_sem] fH
section
variable{B:Nat}{w w':World}{x:RX}{code:List Int}{m m':MS}{u u':MW}
theorem aV.reads{v:Int}(h:aV B w x code m u)(hv:code[m.at_]?=some v):∃g n cap,w.cell? (ai x.mb 36)=some (aD g n cap)∧w.cell? (ai g m.at_)=some (ae v)∧g<w.heap.size∧m.at_<n∧n≤cap∧n≤1000∧n=code.length:=by
 have eH:=h.eH;have hle:=h.le;obtain⟨g,cap,kq,hcap,hg,hcell⟩:=h.bG;rw[kq]at eH;exact⟨g,code.length,cap,eH,hcell _ _ hv,ag,(cI.1 hv).1,hcap,h.len.2.2.2.2.2.1,rfl⟩
theorem acH(hk:k<35)(h:aV B w x code m u)(ht:cQ w)(hop:code[m.at_]?=some (k:Int)){R:Int}(hh:dh k m.au u.vars.length=R)(hR:R≠4):
  Calls prog 74 #[ax x.mb] w fun e w'=>e=.returned (ae R)∧gH B w x code m u w':=by
 have hRb:(R != 4)=true:=by simp[hR]
 have fC:=af (fun (w':World) (hb:Below w.heap.size w w')=>vN k ag (h.below hb).at_ (ht.below hb));rw[hh]at fC;obtain⟨g,n,cap,eH,cg,hg,hn,ir,hn1,hnl⟩:=h.reads hop;obtain⟨bh,_,hmb⟩:=h.bh;have H:=af h;obtain⟨q,hq⟩:=ak (m.at_);rw[←hq]at cg hn bh;have HQ:=af hq;have iE:=af hnl;have jf:(q:Int)<(n:Int):=ag;have lV:(0:Int)≤(q:Int):=ag;have hqb:(q:Int)≤1000:=ag;clear h ht hop hq hnl;go_enter func74,ntmps74;go_wp2_with fail;go_quiet (fail);have hbq:Below w.heap.size w (w.drewN nq):=dz;obtain⟨V,hV⟩:=ak (w.drewN nq:World);rw[←hV]at hbq;rw[←hV];have HV:=af (fC V hbq);have df:=af hbq;clear hV hbq fC eH cg bh;go_wp2_with fail;refine HV.mono ?_;rintro e w1 ⟨rfl,hb1⟩;have HB1:=af (df.trans (hb1.mono df.size));clear hb1 HV;go_wp2_with fail;go_ret;exact⟨rfl,_,H.below HB1⟩
theorem VB(hk:k≤12)(h:aV B w x code m u)(ht:cQ w)(hop:code[m.at_]?=some (k:Int))(hh:dh k m.au u.vars.length=4)(hs:m.au=b :: a :: s)(ha:Cell a)(hb:Cell b):
  Calls prog 74 #[ax x.mb] w fun e w'=>e=.returned (ae 4)∧gH B w x code {m with au:=kD k a b :: s,at_:=m.at_+1} u w':=by
 have fD:(k:Int)≤12:=ag;have hl:=h.nK.2;rw[hs]at hl;simp only[fA]at hl;have HS:=af hs;have HTW:=af (fun w=>XK k hk ha hb w);obtain⟨r,hr⟩:=ak (kD k a b);rw[←hr]at HTW ⊢;clear hs hr;have fC:=af (fun (w':World) (hb:Below w.heap.size w w')=>vN k ag (h.below hb).at_ (ht.below hb));rw[hh]at fC;obtain⟨g,n,cap,eH,cg,hg,hn,ir,hn1,hnl⟩:=h.reads hop;obtain⟨bh,_,hmb⟩:=h.bh;have H:=af h;obtain⟨q,hq⟩:=ak (m.at_);rw[←hq]at cg hn bh;have HQ:=af hq;have iE:=af hnl;have jf:(q:Int)<(n:Int):=ag;have lV:(0:Int)≤(q:Int):=ag;have hqb:(q:Int)≤1000:=ag;clear h ht hop hq hnl;go_enter func74,ntmps74;go_wp2_with fail;go_quiet (fail);have hbq:Below w.heap.size w (w.drewN nq):=dz;obtain⟨V,hV⟩:=ak (w.drewN nq:World);rw[←hV]at hbq;rw[←hV];have HV:=af (fC V hbq);have df:=af hbq;clear hV hbq fC eH cg bh;go_wp2_with fail;refine HV.mono ?_;rintro e w1 ⟨rfl,hb1⟩;have hA1:=H.below (df.trans (hb1.mono df.size));obtain⟨bh,f38,hm1⟩:=hA1.at_.bh;rw[←HQ.out]at bh;have hS:=hA1.at_.setAt (q+1) qf;obtain⟨X,hX⟩:=ak (w1.setCell (ai x.mb 38) (ae ((q:Int)+1)):World);have hcast:(((q+1:Nat):Int))=(q:Int)+1:=ag;rw[hcast,←hX]at hS;have HN:=af (hA1.trans hS);have HX:=af hX;have jI:=hS.at_.bh.2.2;clear hb1 HV hA1 hS hX hcast;go_upto_region 7 with fail
 rw[←HX.out];clear bh f38;have hD:=HN.at_.below (Below.drew (Below.refl X.heap.size X));have HD:=af hD;have hne:Nonempty {w':World // True}:=⟨⟨w,trivial⟩⟩;clear hD;rw[HQ.out]at HN HD;go_upto_region 8 with fail
 refine A7 (C:=eM fun _=>True) 8 [0,1,2,4,5,6,3,7] [3,7] ⟨X.drew,trivial⟩ aP aP rfl ?_
 repeat (refine eV rfl rfl (fun K hK=>?_);go_simp;refine hK _ ?_;clear hK K)
 refine ja rfl rfl 108 #[ax x.mb] dB ((HD.at_.take HS).mono ?_);rintro e w2 ⟨rfl,hn2⟩;refine⟨_,rfl,trivial,?_⟩;refine ja rfl rfl 108 #[ax x.mb] dB ((hn2.at_.take rfl).mono ?_);rintro e w3 ⟨rfl,gT⟩;refine⟨_,rfl,trivial,iV ?_⟩;intro w' hw';rw[show w'=w3 from hw'];have tX:=af (((HN.trans HD).trans hn2).trans gT);have hD3:=gT.at_.below (Below.drew (Below.refl w3.heap.size w3));have nC:=af hD3;clear hw' w' hn2 gT hD3;simp only[List.drop_succ_cons,List.drop_zero];go_upto_region 9 with fail
 refine ly (C:=eM fun _=>True) 8 [6,7] ⟨w3.drew,trivial⟩ aP aP rfl ?_;rw[show List.range 8=[0,1,2,3,4,5,6,7]from rfl]
 repeat (refine eV rfl rfl (fun K hK=>?_);go_simp;refine hK _ ?_;clear hK K)
 refine ja rfl rfl 109 #[ae k,ae a,ae b] dB ((HTW _).mono ?_);rintro e w4 ⟨rfl,rfl⟩;refine⟨_,rfl,trivial,?_⟩;refine oG rfl rfl (aD w3.drew.heap.size 1 1) (w3.drew.alloc (.cells #[ae r] 3 (0,0))) trivial (aC dB) ?_;refine iV ?_;intro w' hw';rw[show w'=w3.drew.alloc (.cells #[ae r] 3 (0,0))from hw'];clear hw' w' hne;have gC:=af (aV.puts [r] nC.at_ iO ow);simp only[List.drop_succ_cons,List.drop_zero];go_wp2_with fail;refine gC.mono ?_;rintro e wz ⟨rfl,hz⟩;have HZ:=af ((tX.trans nC).trans hz);clear hz gC;go_wp2_with fail;go_ret;exact⟨rfl,_,HZ⟩
theorem Wq(bA:13≤k)(hk:k≤15)(h:aV B w x code m u)(ht:cQ w)(hop:code[m.at_]?=some (k:Int))(hh:dh k m.au u.vars.length=4)(hs:m.au=a :: s)(ha:Cell a):
  Calls prog 74 #[ax x.mb] w fun e w'=>e=.returned (ae 4)∧gH B w x code {m with au:=mP k a :: s,at_:=m.at_+1} u w':=by
 have fD:(k:Int)≤15:=ag;have Ie:¬(k:Int)≤12:=ag;have hl:=h.nK.2;rw[hs]at hl;simp only[fA]at hl;have HS:=af hs;have HTW:=af (fun w=>aaL k bA hk ha w);obtain⟨r,hr⟩:=ak (mP k a);rw[←hr]at HTW ⊢;clear hs hr;have fC:=af (fun (w':World) (hb:Below w.heap.size w w')=>vN k ag (h.below hb).at_ (ht.below hb));rw[hh]at fC;obtain⟨g,n,cap,eH,cg,hg,hn,ir,hn1,hnl⟩:=h.reads hop;obtain⟨bh,_,hmb⟩:=h.bh;have H:=af h;obtain⟨q,hq⟩:=ak (m.at_);rw[←hq]at cg hn bh;have HQ:=af hq;have iE:=af hnl;have jf:(q:Int)<(n:Int):=ag;have lV:(0:Int)≤(q:Int):=ag;have hqb:(q:Int)≤1000:=ag;clear h ht hop hq hnl;go_enter func74,ntmps74;go_wp2_with fail;go_quiet (fail);have hbq:Below w.heap.size w (w.drewN nq):=dz;obtain⟨V,hV⟩:=ak (w.drewN nq:World);rw[←hV]at hbq;rw[←hV];have HV:=af (fC V hbq);have df:=af hbq;clear hV hbq fC eH cg bh;go_wp2_with fail;refine HV.mono ?_;rintro e w1 ⟨rfl,hb1⟩;have hA1:=H.below (df.trans (hb1.mono df.size));obtain⟨bh,f38,hm1⟩:=hA1.at_.bh;rw[←HQ.out]at bh;have hS:=hA1.at_.setAt (q+1) qf;obtain⟨X,hX⟩:=ak (w1.setCell (ai x.mb 38) (ae ((q:Int)+1)):World);have hcast:(((q+1:Nat):Int))=(q:Int)+1:=ag;rw[hcast,←hX]at hS;have HN:=af (hA1.trans hS);have HX:=af hX;have jI:=hS.at_.bh.2.2;clear hb1 HV hA1 hS hX hcast;go_upto_region 7 with fail
 rw[←HX.out];clear bh f38;have hD:=HN.at_.below (Below.drew (Below.refl X.heap.size X));have HD:=af hD;have hne:Nonempty {w':World // True}:=⟨⟨w,trivial⟩⟩;clear hD;rw[HQ.out]at HN HD;go_upto_region 11 with fail
 refine ly (C:=eM fun _=>True) 10 [7,8,9] ⟨X.drew,trivial⟩ aP aP rfl ?_;rw[show List.range 10=[0,1,2,3,4,5,6,7,8,9]from rfl]
 repeat (refine eV rfl rfl (fun K hK=>?_);go_simp;refine hK _ ?_;clear hK K)
 refine ja rfl rfl 108 #[ax x.mb] dB ((HD.at_.take HS).mono ?_);rintro e w3 ⟨rfl,gT⟩;refine⟨_,rfl,trivial,?_⟩;refine ja rfl rfl 110 #[ae k,ae a] dB ((HTW _).mono ?_);rintro e w4 ⟨rfl,rfl⟩;refine⟨_,rfl,trivial,?_⟩;refine oG rfl rfl (aD w4.heap.size 1 1) (w4.alloc (.cells #[ae r] 3 (0,0))) trivial (aC dB) ?_;refine iV ?_;intro w' hw';rw[show w'=w4.alloc (.cells #[ae r] 3 (0,0))from hw'];clear hw' w' hne;have tX:=af ((HN.trans HD).trans gT);have gC:=af (aV.puts [r] gT.at_ iO ow);clear gT;simp only[List.drop_succ_cons,List.drop_zero];go_wp2_with fail;exact Jl
theorem xJ(bA:16≤k)(hk:k≤22)(h:aV B w x code m u)(ht:cQ w)(hop:code[m.at_]?=some (k:Int))(hh:dh k m.au u.vars.length=4)(hin:∀w1,aV B w1 x code {m with at_:=m.at_+1} u→Calls prog 111 #[ax x.mb,ae k] w1 fun e w2=>e=.returned (.tuple #[])∧gH B w1 x code m' u' w2):
  Calls prog 74 #[ax x.mb] w fun e w'=>e=.returned (ae 4)∧gH B w x code m' u' w':=by
 have fD:(k:Int)≤22:=ag;have Ie:¬(k:Int)≤12:=ag;have Kb:¬(k:Int)≤15:=ag;exact Mc
theorem DC(bA:23≤k)(hk:k≤26)(h:aV B w x code m u)(ht:cQ w)(hop:code[m.at_]?=some (k:Int))(hh:dh k m.au u.vars.length=4)(hin:∀w1,aV B w1 x code {m with at_:=m.at_+1} u→Calls prog 112 #[ax x.mb,ae k] w1 fun e w2=>e=.returned (.tuple #[])∧gH B w1 x code m' u' w2):
  Calls prog 74 #[ax x.mb] w fun e w'=>e=.returned (ae 4)∧gH B w x code m' u' w':=by
 have fD:(k:Int)≤26:=ag;have Ie:¬(k:Int)≤12:=ag;have Kb:¬(k:Int)≤15:=ag;have ZC:¬(k:Int)≤22:=ag;exact Mc
theorem A0(bA:29≤k)(hk:k≤33)(h:aV B w x code m u)(ht:cQ w)(hop:code[m.at_]?=some (k:Int))(hh:dh k m.au u.vars.length=4)(hin:∀w1,aV B w1 x code {m with at_:=m.at_+1} u→Calls prog 116 #[ax x.mb,ae k] w1 fun e w2=>e=.returned (.tuple #[])∧gH B w1 x code m' u' w2):
  Calls prog 74 #[ax x.mb] w fun e w'=>e=.returned (ae 4)∧gH B w x code m' u' w':=by
 have fD:¬(k:Int)≤26:=ag;have Ie:¬(k:Int)≤12:=ag;have Kb:¬(k:Int)≤15:=ag;have ZC:¬(k:Int)≤22:=ag;have aev:((k:Int) == 27)=false:=aK;have aeA:((k:Int) == 28)=false:=aK;have aer:((k:Int) == 34)=false:=aK;exact Mc
theorem VK(h:aV B w x code m u)(ht:cQ w)(hop:code[m.at_]?=some (27:Int))(hh:dh 27 m.au u.vars.length=4){l:List (Int×Int)}(hs:m.loops=l++[(a,b)])(hl:m.au.length<32):
  Calls prog 74 #[ax x.mb] w fun e w'=>e=.returned (ae 4)∧gH B w x code {m with au:=a :: m.au,at_:=m.at_+1} u w':=by
 have HS:=af hs;clear hs;have fC:=af (fun (w':World) (hb:Below w.heap.size w w')=>vN 27 ag (h.below hb).at_ (ht.below hb));rw[hh]at fC;obtain⟨g,n,cap,eH,cg,hg,hn,ir,hn1,hnl⟩:=h.reads hop;obtain⟨bh,_,hmb⟩:=h.bh;have H:=af h;obtain⟨q,hq⟩:=ak (m.at_);rw[←hq]at cg hn bh;have HQ:=af hq;have iE:=af hnl;have jf:(q:Int)<(n:Int):=ag;have lV:(0:Int)≤(q:Int):=ag;have hqb:(q:Int)≤1000:=ag;clear h ht hop hq hnl;go_enter func74,ntmps74;go_wp2_with fail;go_quiet (fail);have hbq:Below w.heap.size w (w.drewN nq):=dz;obtain⟨V,hV⟩:=ak (w.drewN nq:World);rw[←hV]at hbq;rw[←hV];have HV:=af (fC V hbq);have df:=af hbq;clear hV hbq fC eH cg bh;go_wp2_with fail;refine HV.mono ?_;rintro e w1 ⟨rfl,hb1⟩;have hA1:=H.below (df.trans (hb1.mono df.size));obtain⟨bh,f38,hm1⟩:=hA1.at_.bh;rw[←HQ.out]at bh;have hS:=hA1.at_.setAt (q+1) qf;obtain⟨X,hX⟩:=ak (w1.setCell (ai x.mb 38) (ae ((q:Int)+1)):World);have hcast:(((q+1:Nat):Int))=(q:Int)+1:=ag;rw[hcast,←hX]at hS;have HN:=af (hA1.trans hS);have HX:=af hX;have jI:=hS.at_.bh.2.2;clear hb1 HV hA1 hS hX hcast;go_upto_region 7 with fail
 rw[←HX.out];clear bh f38;have hD:=HN.at_.below (Below.drew (Below.refl X.heap.size X));have HD:=af hD;have hne:Nonempty {w':World // True}:=⟨⟨w,trivial⟩⟩;clear hD;rw[HQ.out]at HN HD;go_upto_region 17 with fail
 refine ly (C:=eM fun _=>True) 8 [6,7] ⟨X.drew,trivial⟩ aP aP rfl ?_;rw[show List.range 8=[0,1,2,3,4,5,6,7]from rfl]
 repeat (refine eV rfl rfl (fun K hK=>?_);go_simp;refine hK _ ?_;clear hK K)
 refine ja rfl rfl 113 #[.pointer (some (ai x.mb 33))] dB ((HD.at_.number HS).mono ?_);rintro e w4 ⟨rfl,hb4⟩;have gT:=HD.at_.below hb4;refine⟨_,rfl,trivial,?_⟩;refine oG rfl rfl (aD w4.heap.size 1 1) (w4.alloc (.cells #[ae a] 3 (0,0))) trivial (aC dB) ?_;refine iV ?_;intro w' hw';rw[show w'=w4.alloc (.cells #[ae a] 3 (0,0))from hw'];clear hw' w' hne;have tX:=af ((HN.trans HD).trans gT);have gC:=af (aV.puts [a] gT.at_ hl ow);clear gT hb4;simp only[List.drop_succ_cons,List.drop_zero];go_wp2_with fail;exact Jl
theorem abr(h:aV B w x code m u)(ht:cQ w)(hop:code[m.at_]?=some (28:Int))(hh:dh 28 m.au u.vars.length=4)(hs:code[m.at_+1]?=some a)(hl:m.au.length<32):
  Calls prog 74 #[ax x.mb] w fun e w'=>e=.returned (ae 4)∧gH B w x code {m with au:=a :: m.au,at_:=m.at_+2} u w':=by
 have HS:=af hs;clear hs;have fC:=af (fun (w':World) (hb:Below w.heap.size w w')=>vN 28 ag (h.below hb).at_ (ht.below hb));rw[hh]at fC;obtain⟨g,n,cap,eH,cg,hg,hn,ir,hn1,hnl⟩:=h.reads hop;obtain⟨bh,_,hmb⟩:=h.bh;have H:=af h;obtain⟨q,hq⟩:=ak (m.at_);rw[←hq]at cg hn bh;have HQ:=af hq;have iE:=af hnl;have jf:(q:Int)<(n:Int):=ag;have lV:(0:Int)≤(q:Int):=ag;have hqb:(q:Int)≤1000:=ag;clear h ht hop hq hnl;go_enter func74,ntmps74;go_wp2_with fail;go_quiet (fail);have hbq:Below w.heap.size w (w.drewN nq):=dz;obtain⟨V,hV⟩:=ak (w.drewN nq:World);rw[←hV]at hbq;rw[←hV];have HV:=af (fC V hbq);have df:=af hbq;clear hV hbq fC eH cg bh;go_wp2_with fail;refine HV.mono ?_;rintro e w1 ⟨rfl,hb1⟩;have hA1:=H.below (df.trans (hb1.mono df.size));obtain⟨bh,f38,hm1⟩:=hA1.at_.bh;rw[←HQ.out]at bh;have hS:=hA1.at_.setAt (q+1) qf;obtain⟨X,hX⟩:=ak (w1.setCell (ai x.mb 38) (ae ((q:Int)+1)):World);have hcast:(((q+1:Nat):Int))=(q:Int)+1:=ag;rw[hcast,←hX]at hS;have HN:=af (hA1.trans hS);have HX:=af hX;have jI:=hS.at_.bh.2.2;clear hb1 HV hA1 hS hX hcast;go_upto_region 7 with fail
 rw[←HX.out];clear bh f38;have hD:=HN.at_.below (Below.drew (Below.refl X.heap.size X));have HD:=af hD;have hne:Nonempty {w':World // True}:=⟨⟨w,trivial⟩⟩;clear hD;rw[HQ.out]at HN HD;go_upto_region 19 with fail
 refine ly (C:=eM fun _=>True) 6 [4,5] ⟨X.drew,trivial⟩ aP aP rfl ?_;rw[show List.range 6=[0,1,2,3,4,5]from rfl]
 repeat (refine eV rfl rfl (fun K hK=>?_);go_simp;refine hK _ ?_;clear hK K)
 refine ja rfl rfl 114 #[ax x.mb] dB ((HD.at_.operand HS).mono ?_);rintro e w4 ⟨rfl,gT⟩;refine⟨_,rfl,trivial,?_⟩;refine oG rfl rfl (aD w4.heap.size 1 1) (w4.alloc (.cells #[ae a] 3 (0,0))) trivial (aC dB) ?_;refine iV ?_;intro w' hw';rw[show w'=w4.alloc (.cells #[ae a] 3 (0,0))from hw'];clear hw' w' hne;have tX:=af ((HN.trans HD).trans gT);have gC:=af (aV.puts [a] gT.at_ hl ow);clear gT;simp only[List.drop_succ_cons,List.drop_zero];go_wp2_with fail;exact Jl
theorem Tb(h:aV B w x code m u)(ht:cQ w)(hop:code[m.at_]?=some (34:Int))(hh:dh 34 m.au u.vars.length=4)(hc:m.calls=[]):
  Calls prog 74 #[ax x.mb] w fun e w'=>e=.returned (ae 0)∧gH B w x code {m with at_:=m.at_+1} u w':=by
 have kG:=af hc;clear hc;have fC:=af (fun (w':World) (hb:Below w.heap.size w w')=>vN 34 ag (h.below hb).at_ (ht.below hb));rw[hh]at fC;obtain⟨g,n,cap,eH,cg,hg,hn,ir,hn1,hnl⟩:=h.reads hop;obtain⟨bh,_,hmb⟩:=h.bh;have H:=af h;obtain⟨q,hq⟩:=ak (m.at_);rw[←hq]at cg hn bh;have HQ:=af hq;have iE:=af hnl;have jf:(q:Int)<(n:Int):=ag;have lV:(0:Int)≤(q:Int):=ag;have hqb:(q:Int)≤1000:=ag;clear h ht hop hq hnl;go_enter func74,ntmps74;go_wp2_with fail;go_quiet (fail);have hbq:Below w.heap.size w (w.drewN nq):=dz;obtain⟨V,hV⟩:=ak (w.drewN nq:World);rw[←hV]at hbq;rw[←hV];have HV:=af (fC V hbq);have df:=af hbq;clear hV hbq fC eH cg bh;go_wp2_with fail;refine HV.mono ?_;rintro e w1 ⟨rfl,hb1⟩;have hA1:=H.below (df.trans (hb1.mono df.size));obtain⟨bh,f38,hm1⟩:=hA1.at_.bh;rw[←HQ.out]at bh;have hS:=hA1.at_.setAt (q+1) qf;obtain⟨X,hX⟩:=ak (w1.setCell (ai x.mb 38) (ae ((q:Int)+1)):World);have hcast:(((q+1:Nat):Int))=(q:Int)+1:=ag;rw[hcast,←hX]at hS;have HN:=af (hA1.trans hS);have HX:=af hX;have jI:=hS.at_.bh.2.2;clear hb1 HV hA1 hS hX hcast;go_upto_region 7 with fail
 rw[←HX.out];clear bh f38;rw[HQ.out]at HN;have HI:=af (aaC HN.at_ kG);go_wp2_with fail;refine HI.mono ?_;rintro e w2 ⟨rfl,rfl⟩;clear HI;go_wp2_with fail;go_ret;exact⟨rfl,_,HN⟩
theorem step_end(h:aV B w x code m u)(ht:cQ w)(hop:code[m.at_]?=some (34:Int))(hh:dh 34 m.au u.vars.length=4){p:Nat}(hc:m.calls=l++[(p:Int)])(hp:p≤code.length):
  Calls prog 74 #[ax x.mb] w fun e w'=>e=.returned (ae 4)∧gH B w x code {m with calls:=l,at_:=p} u w':=by
 have kG:=af hc;clear hc;have fC:=af (fun (w':World) (hb:Below w.heap.size w w')=>vN 34 ag (h.below hb).at_ (ht.below hb));rw[hh]at fC;obtain⟨g,n,cap,eH,cg,hg,hn,ir,hn1,hnl⟩:=h.reads hop;obtain⟨bh,_,hmb⟩:=h.bh;have H:=af h;obtain⟨q,hq⟩:=ak (m.at_);rw[←hq]at cg hn bh;have HQ:=af hq;have iE:=af hnl;have jf:(q:Int)<(n:Int):=ag;have lV:(0:Int)≤(q:Int):=ag;have hqb:(q:Int)≤1000:=ag;clear h ht hop hq hnl;go_enter func74,ntmps74;go_wp2_with fail;go_quiet (fail);have hbq:Below w.heap.size w (w.drewN nq):=dz;obtain⟨V,hV⟩:=ak (w.drewN nq:World);rw[←hV]at hbq;rw[←hV];have HV:=af (fC V hbq);have df:=af hbq;clear hV hbq fC eH cg bh;go_wp2_with fail;refine HV.mono ?_;rintro e w1 ⟨rfl,hb1⟩;have hA1:=H.below (df.trans (hb1.mono df.size));obtain⟨bh,f38,hm1⟩:=hA1.at_.bh;rw[←HQ.out]at bh;have hS:=hA1.at_.setAt (q+1) qf;obtain⟨X,hX⟩:=ak (w1.setCell (ai x.mb 38) (ae ((q:Int)+1)):World);have hcast:(((q+1:Nat):Int))=(q:Int)+1:=ag;rw[hcast,←hX]at hS;have HN:=af (hA1.trans hS);have HX:=af hX;have jI:=hS.at_.bh.2.2;clear hb1 HV hA1 hS hX hcast;go_upto_region 7 with fail
 rw[←HX.out];clear bh f38;rw[HQ.out]at HN;have HI:=af (Wn HN.at_ kG hp);go_wp2_with fail;refine HI.mono ?_;rintro e w2 ⟨rfl,y,hy⟩;have HZ:=af (HN.trans hy);clear hy HI;go_wp2_with fail;go_ret;exact⟨rfl,_,HZ⟩
end
end
section
def execM(k:Nat)(v:Int)(m:MS)(u:MW):Int×MS×MW:=
 if k≤12 then
  match m.au with
  |b :: a :: s=>(4,{m with au:=kD k a b :: s,at_:=m.at_+1},u)
  |_=>(4,m,u)
 else if k≤15 then
  match m.au with
  |a :: s=>(4,{m with au:=mP k a :: s,at_:=m.at_+1},u)
  |_=>(4,m,u)
 else if k≤22 then(4,{m with au:=arrP k m.au,at_:=m.at_+1},u)
 else if k=23 then
  match m.au with
  |i :: s=>(4,{m with au:=u.vars.getD i.toNat 0 :: s,at_:=m.at_+1},u)
  |_=>(4,m,u)
 else if k=24 then
  match m.au with
  |i :: a :: s=>(4,{m with au:=s,at_:=m.at_+1},{u with vars:=u.vars.set i.toNat a})
  |_=>(4,m,u)
 else if k=25 then(4,{m with au:=u.ins.headD 0 :: m.au,at_:=m.at_+1},{u with ins:=u.ins.tail})
 else if k=26 then
  match m.au with
  |a :: s=>(4,{m with au:=s,at_:=m.at_+1},{u with outs:=u.outs++[a]})
  |_=>(4,m,u)
 else if k=27 then(4,{m with au:=(m.loops.getLastD (0,0)).1 :: m.au,at_:=m.at_+1},u)
 else if k=28 then(4,{m with au:=v :: m.au,at_:=m.at_+2},u)
 else if k=29 then
  match m.au with
  |a :: s=>(4,{m with au:=s,at_:=if a=0 then v.toNat else m.at_+2},u)
  |_=>(4,m,u)
 else if k=30 then(4,{m with at_:=v.toNat},u)
 else if k=31 then
  match m.au with
  |a :: b :: s=>(4,if a<b then{m with au:=s,loops:=m.loops++[(a,b)],at_:=m.at_+2}else{m with au:=s,at_:=v.toNat},u)
  |_=>(4,m,u)
 else if k=32 then
  (4,if(m.loops.getLastD (0,0)).1+1<(m.loops.getLastD (0,0)).2 then{m with loops:=m.loops.dropLast++[((m.loops.getLastD (0,0)).1+1,(m.loops.getLastD (0,0)).2)],at_:=v.toNat}else{m with loops:=m.loops.dropLast,at_:=m.at_+2},u)
 else if k=33 then(4,{m with calls:=m.calls++[((m.at_+2:Nat):Int)],at_:=v.toNat},u)
 else if m.calls=[]then(0,{m with at_:=m.at_+1},u)else(4,{m with calls:=m.calls.dropLast,at_:=(m.calls.getLastD 0).toNat},u)
def cK(code:List Int)(m:MS)(u:MW):Int×MS×MW:=
 if dh (code.getD m.at_ 0).toNat m.au u.vars.length≠4 then(dh (code.getD m.at_ 0).toNat m.au u.vars.length,m,u)else execM (code.getD m.at_ 0).toNat (code.getD (m.at_+1) 0) m u
structure yX (code:List Int) (m:MS) (u:MW):Prop where
 op:∃k:Nat,k<35∧code[m.at_]?=some (k:Int)
 cell:∀a∈m.au,Cell a
 opd:∀k:Nat,code[m.at_]?=some (k:Int)→28≤k→k≤33→∃v,code[m.at_+1]?=some v∧(k≠28→∃n:Nat,v=n∧n≤code.length)
 loop:∀k:Nat,code[m.at_]?=some (k:Int)→(k=27∨k=32)→∃l a b,m.loops=l++[(a,b)]∧ -9000000000≤a∧a≤9000000000
 call:∀(l:List Int) (p:Int),m.calls=l++[p]→∃n:Nat,p=n∧n≤code.length
 room:m.loops.length+1≤2000000∧m.calls.length+1≤2000000∧u.outs.length+1≤2000000
theorem M4{n:Nat}(h:dh k s n=4):(aL k).need≤s.length∧(s.length:Int)+(aL k).aM≤32∧((k=23∨k=24)→0≤s.headD 0∧s.headD 0<(n:Int)):=by
 unfold dh at h
 split at h
 ·exact absurd h aj
 ·rename_i h1
  split at h
  ·exact absurd h aj
  ·rename_i h2
   split at h
   ·exact absurd h aj
   ·rename_i h3
    refine⟨ag,ag,fun hk=>?_⟩;exact tq (fun hn=>h2 ⟨hk,hn⟩)
theorem Du:∀k,k≤12→(aL k).need=2:=dJ
theorem OY(k:Nat)(h1:13≤k)(h2:k≤15):(aL k).need=1:=by
 have hc:k=13∨k=14∨k=15:=ag;rcases hc with rfl|rfl|rfl<;>rfl
theorem ll(h:(1:Int)≤s.length):∃a r,s=a :: r:=by
 cases s with
 |nil=>simp at h
 |cons a r=>exact⟨a,r,rfl⟩
theorem mA(h:(2:Int)≤s.length):∃a b r,s=a :: b :: r:=by
 obtain⟨a,r,rfl⟩:=ll (s:=s) ag;obtain⟨b,r,rfl⟩:=ll (s:=r) (by simp at h;omega);exact⟨a,b,r,rfl⟩
theorem Lx(h:(3:Int)≤s.length):∃a b c r,s=a :: b :: c :: r:=by
 obtain⟨a,b,r,rfl⟩:=mA (s:=s) ag;obtain⟨c,r,rfl⟩:=ll (s:=r) (by simp at h;omega);exact⟨a,b,c,r,rfl⟩
section
variable{B:Nat}{w w':World}{x:RX}{code:List Int}{m m':MS}{u u':MW}
theorem Vk(h:aV B w x code m u)(ht:cQ w)(bj:yX code m u):
  Calls prog 74 #[ax x.mb] w fun e w'=>e=.returned (ae (cK code m u).1)∧gH B w x code (cK code m u).2.1 (cK code m u).2.2 w':=by
 obtain⟨k,hk,hop⟩:=bj.op
 have hg:(code.getD m.at_ 0).toNat=k:=by
  have:code.getD m.at_ 0=(k:Int):=by rw[lM,hop];rfl
  rw[this];simp
 unfold cK;rw[hg]
 by_cases hh:dh k m.au u.vars.length=4
 ·rw[az (fun h=>h hh)]
  obtain⟨hn,hm,ha⟩:=M4 hh;have zm:=h.nK.2;obtain⟨v,hv⟩:=ak (code.getD (m.at_+1) 0);rw[←hv];have hvv:∀v',code[m.at_+1]?=some v'→v=v':=fun v' h'=>by rw[hv,lM,h'];rfl
  unfold execM
  by_cases iW:k≤12
  ·rw[aG iW]
   rw[Du k iW]at hn;obtain⟨b,a,s,hs⟩:=mA hn;rw[hs];exact VB iW h ht hop hh hs (bj.cell a gF) (bj.cell b gF)
  ·rw[az iW]
   by_cases qx:k≤15
   ·rw[aG qx]
    rw[OY k ag qx]at hn;obtain⟨a,s,hs⟩:=ll hn;rw[hs];exact Wq ag qx h ht hop hh hs (bj.cell a gF)
   ·rw[az qx]
    by_cases h22:k≤22
    ·rw[aG h22]
     have hc:k=16∨k=17∨k=18∨k=19∨k=20∨k=21∨k=22:=ag;rcases hc with rfl|rfl|rfl|rfl|rfl|rfl|rfl
     ·obtain⟨c,s,hs⟩:=ll hn
      have e:arrP 16 m.au=c :: c :: s:=Mf;rw[e];exact xJ ag ag h ht hop hh (fun w1 h1=>(Y9 h1 hs (by have:(aL 16).aM=1:=rfl;simp only;omega)).mono (fun e w2 ⟨h2,h3⟩=>⟨h2,_,h3⟩))
     ·obtain⟨c,s,hs⟩:=ll hn
      have e:arrP 17 m.au=s:=Mf;rw[e];exact xJ ag ag h ht hop hh (fun w1 h1=>(abS h1 hs iO).mono (fun e w2 ⟨h2,h3⟩=>⟨h2,_,h3⟩))
     ·obtain⟨c,b,s,hs⟩:=mA hn
      have e:arrP 18 m.au=b :: c :: s:=Ch;rw[e];exact xJ ag ag h ht hop hh (fun w1 h1=>(aad h1 hs iO).mono (fun e w2 ⟨h2,h3⟩=>⟨h2,_,h3⟩))
     ·obtain⟨c,b,s,hs⟩:=mA hn
      have e:arrP 19 m.au=b :: c :: b :: s:=Ch;rw[e];exact xJ ag ag h ht hop hh (fun w1 h1=>(acz h1 hs (by have:(aL 19).aM=1:=rfl;simp only;omega)).mono (fun e w2 ⟨h2,h3⟩=>⟨h2,_,h3⟩))
     ·obtain⟨c,b,a,s,hs⟩:=Lx hn
      have e:arrP 20 m.au=a :: c :: b :: s:=jD;rw[e];exact xJ ag ag h ht hop hh (fun w1 h1=>(Ya h1 hs iO).mono (fun e w2 ⟨h2,h3⟩=>⟨h2,_,h3⟩))
     ·obtain⟨c,b,s,hs⟩:=mA hn
      have e:arrP 21 m.au=c :: s:=Ch;rw[e];exact xJ ag ag h ht hop hh (fun w1 h1=>(acv h1 hs iO).mono (fun e w2 ⟨h2,h3⟩=>⟨h2,_,h3⟩))
     ·obtain⟨c,b,s,hs⟩:=mA hn
      have e:arrP 22 m.au=c :: b :: c :: s:=Ch;rw[e];exact xJ ag ag h ht hop hh (fun w1 h1=>(U9 h1 hs (by have:(aL 22).aM=1:=rfl;simp only;omega)).mono (fun e w2 ⟨h2,h3⟩=>⟨h2,_,h3⟩))
    ·rw[az h22]
     have hc:k=23∨k=24∨k=25∨k=26∨k=27∨k=28∨k=29∨k=30∨k=31∨k=32∨k=33∨k=34:=ag;rcases hc with rfl|rfl|rfl|rfl|rfl|rfl|rfl|rfl|rfl|rfl|rfl|rfl
     ·obtain⟨a,s,hs⟩:=ll hn
      have ha':=ha (aC rfl);rw[hs]at ha';simp only[List.headD_cons]at ha';obtain⟨i,rfl⟩:∃i:Nat,a=i:=⟨a.toNat,ag⟩;rw[aG rfl,hs];exact DC ag ag h ht hop hh (fun w1 h1=>(W6 h1 hs ag).mono (fun e w2 ⟨h2,h3⟩=>⟨h2,_,h3⟩))
     ·obtain⟨a,b,s,hs⟩:=mA hn
      have ha':=ha (aA rfl);rw[hs]at ha';simp only[List.headD_cons]at ha';obtain⟨i,rfl⟩:∃i:Nat,a=i:=⟨a.toNat,ag⟩;rw[az aj,aG rfl,hs];exact DC ag ag h ht hop hh (fun w1 h1=>(T8 h1 hs ag).mono (fun e w2 ⟨h2,h3⟩=>⟨h2,_,h3⟩))
     ·rw[az aj,az aj,aG rfl]
      exact DC ag ag h ht hop hh (fun w1 h1=>adj h1 (by have:(aL 25).aM=1:=rfl;simp only;omega))
     ·obtain⟨a,s,hs⟩:=ll hn
      rw[az aj,az aj,az aj,aG rfl,hs];exact DC ag ag h ht hop hh (fun w1 h1=>Vi h1 hs bj.room.2.2)
     ·obtain⟨l,a,b,hl,_,_⟩:=bj.loop 27 hop (aC rfl)
      rw[az aj,az aj,az aj,az aj,aG rfl];have e:(m.loops.getLastD (0,0)).1=a:=by rw[hl];simp
      rw[e];exact VK h ht hop hh hl (by have:(aL 27).aM=1:=rfl;omega)
     ·obtain⟨v',hv',_⟩:=bj.opd 28 hop ag ag
      rw[az aj,az aj,az aj,az aj,az aj,aG rfl,hvv v' hv'];exact abr h ht hop hh hv' (by have:(aL 28).aM=1:=rfl;omega)
     ·obtain⟨v',hv',hn'⟩:=bj.opd 29 hop ag ag
      obtain⟨n,rfl,hnl⟩:=hn' aj;obtain⟨a,s,hs⟩:=ll hn;rw[az aj,az aj,az aj,az aj,az aj,az aj,aG rfl,hvv _ hv',hs];exact A0 ag ag h ht hop hh (fun w1 h1=>Yr h1 hv' hnl hs)
     ·obtain⟨v',hv',hn'⟩:=bj.opd 30 hop ag ag
      obtain⟨n,rfl,hnl⟩:=hn' aj;rw[az aj,az aj,az aj,az aj,az aj,az aj,az aj,aG rfl,hvv _ hv'];exact A0 ag ag h ht hop hh (fun w1 h1=>SK (m:={m with at_:=m.at_+1}) h1 hv' hnl)
     ·obtain⟨v',hv',hn'⟩:=bj.opd 31 hop ag ag
      obtain⟨n,rfl,hnl⟩:=hn' aj;obtain⟨a,b,s,hs⟩:=mA hn;rw[az aj,az aj,az aj,az aj,az aj,az aj,az aj,az aj,aG rfl,hvv _ hv',hs];exact A0 ag ag h ht hop hh (fun w1 h1=>SZ h1 hv' hnl hs bj.room.1)
     ·obtain⟨v',hv',hn'⟩:=bj.opd 32 hop ag ag
      obtain⟨n,rfl,hnl⟩:=hn' aj;obtain⟨l,a,b,hl,h0,h1'⟩:=bj.loop 32 hop (aA rfl);have e:m.loops.getLastD (0,0)=(a,b):=by rw[hl];simp
      have e2:m.loops.dropLast=l:=by rw[hl];simp
      rw[az aj,az aj,az aj,az aj,az aj,az aj,az aj,az aj,az aj,aG rfl,hvv _ hv',e,e2];exact A0 ag ag h ht hop hh (fun w1 h1=>WJ h1 hv' hnl hl h0 h1')
     ·obtain⟨v',hv',hn'⟩:=bj.opd 33 hop ag ag
      obtain⟨n,rfl,hnl⟩:=hn' aj;rw[az aj,az aj,az aj,az aj,az aj,az aj,az aj,az aj,az aj,az aj,aG rfl,hvv _ hv'];exact A0 ag ag h ht hop hh (fun w1 h1=>acR h1 hv' hnl bj.room.2.1)
     ·rw[az aj,az aj,az aj,az aj,az aj,az aj,az aj,az aj,az aj,az aj,az aj]
      by_cases hc:m.calls=[]
      ·rw[aG hc]
       exact Tb h ht hop hh hc
      ·rw[az hc]
       obtain⟨l,p,hlp⟩:∃l p,m.calls=l++[p]:=⟨m.calls.dropLast,m.calls.getLast hc,(List.dropLast_concat_getLast hc).symm⟩;obtain⟨n,rfl,hnl⟩:=bj.call l p hlp;have e:m.calls.getLastD 0=(n:Int):=by rw[hlp];simp
       have e2:m.calls.dropLast=l:=by rw[hlp];simp
       rw[e,e2];exact step_end h ht hop hh hlp hnl
 ·rw[aG hh]
  exact acH hk h ht hop rfl hh
end
end
section
def vH(o:List Int)(r:Int×MS×MW):Int×MS×MW:=(r.1,r.2.1,⟨r.2.2.vars,o++r.2.2.outs,r.2.2.ins⟩)
theorem Rl{c:Prop} [Decidable c]{o:List Int}{x y x' y':Int×MS×MW}(hx:x=vH o x')(hy:y=vH o y'):(if c then x else y)=vH o (if c then x' else y'):=by
 split
 ·exact hx
 ·exact hy
theorem TL(k:Nat)(v:Int)(m:MS)(vs o is:List Int):execM k v m ⟨vs,o,is⟩=vH o (execM k v m ⟨vs,[],is⟩):=by
 obtain⟨st,lo,ca,a0⟩:=m;unfold execM;rcases st with _|⟨a,_|⟨b,s⟩⟩
 all_goals
  repeat' (first|(simp only[vH,List.append_nil,List.nil_append];done)|refine Rl ?_ ?_)
theorem Vr(code:List Int)(m:MS)(vs o is:List Int):cK code m ⟨vs,o,is⟩=vH o (cK code m ⟨vs,[],is⟩):=by
 unfold cK;refine Rl ?_ (TL ..);simp only[vH,List.append_nil]
end
section
instance (n:Int):Decidable (Cell n):=by unfold Cell;infer_instance
theorem Hv(t e:TypeId)(z:Value)(zc:Array Value)(size bytes:Nat)(hzc:z.cells=zc)(ht:P.underlying t=some (.slice e))(zW:(P.info? e).map (fun i=>(i.zero,i.size,i.bytes))=some (some z,size,bytes))(n:Nat)(hbytes:bytes*n≤281474976710656)(h63:n≤9223372036854775807)(w:World):
  (Instr.makeSlice t (ae (n:Int)) (ae (n:Int))).run P w=.ok (aD w.heap.size n n) (w.alloc (.cells (madeCells zc (n*size)) e)):=by
 subst hzc;obtain⟨i,hi,hz,hs,hb⟩:=info_parts zW;have:=run_make (P:=P) w t e i z ht hi hz .i64 .i64 n n ag (Int.le_refl _) (by rw[hb,←Int.natCast_mul];omega) ag;rw[hs]at this;simpa using this
def mR(l:List Int):Bool:=l.all fun n=>decide (Cell n)
theorem BA(h:cN B w iv l):∃a c,iv=.slice a l.length c∧∀(j:Nat) (y:Int),l[j]?=some y→∃pb po,a=some (ai pb po)∧pb<B∧w.cell? (ai pb (po+j))=some (ae y):=by
 rcases h with ⟨rfl,a,c,rfl⟩|⟨pb,po,c,rfl,_,h3,h4⟩
 ·exact⟨a,c,rfl,fun j y h=>jC⟩
 ·exact⟨_,c,rfl,fun j y h=>⟨pb,po,rfl,h3,h4 j y h⟩⟩
theorem WE(hi:cN B w iv l)(hB:B≤w.heap.size)(hl:l.length≤1100000):
  Calls prog 56 #[iv] w fun e w'=>e=.returned (.bool (mR l))∧w'=w:=by
 obtain⟨R,hR⟩:=ak (mR l);rw[←hR];obtain⟨a,c,rfl,hv⟩:=BA hi
 ·have HR:=af hR;have HV:=af hv;have HL:=af hl
  obtain⟨n,hn⟩:=ak (l.length);rw[←hn]at hl ⊢;have HN:=af hn;clear hR hv hn hi;go_enter func56,ntmps56;go_wp2_with fail;go_loopw[7] (fun s wr=>∃k:Nat,k≤n∧s=ae k∧wr=w∧Hid (R=mR (l.drop k))) (fun s _=>n - (intOf s).toNat)
  case atStart=>exact⟨0,bU _,rfl,rfl,af (by rw[HR.out];rfl)⟩
  case round=>
   clear HR;obtain⟨k,hk,rfl,rfl,HC⟩:=hrel
   by_cases hlt:k<n
   ·have bV:(k:Int)<(n:Int):=by omega
    obtain⟨y,hy⟩:∃y,l[k]?=some y:=⟨_,bE uj⟩;obtain⟨pb,po,rfl,hp,cy⟩:=HV.out k y hy;have hpb:pb<wr.heap.size:=ag
    have hdr:R=(decide (Cell y)&&mR (l.drop (k+1))):=by
     have hyy:=(cI.1 hy);obtain⟨h1,h2⟩:=hyy;rw[HC.out,qh h1,h2];rfl
    have HD:=af hdr;clear hdr hy HC
    by_cases h1:y< -2147483648
    ·have HR:Hid (R=false):=by show R=false;rw[HD.out,gO (fun h=>by have:=h.1;omega)];rfl
     go_wp2_with fail
     rw[HR.out];go_ret;exact⟨rfl,rfl⟩
    ·by_cases h2:2147483647<y
     ·have HR:Hid (R=false):=by show R=false;rw[HD.out,gO (fun h=>by have:=h.2;omega)];rfl
      go_wp2_with fail
      rw[HR.out];go_ret;exact⟨rfl,rfl⟩
     ·have HR:Hid (R=mR (l.drop (k+1))):=by show R=_;rw[HD.out,jW ⟨ag,ag⟩,Bool.true_and]
      go_wp2_with fail
      go_roundw
      case rel=>exact⟨k+1,ag,bO,y8,HR⟩
      case measure=>simp only[intOf];omega
   ·obtain rfl:k=n:=by omega
    have bV:¬(k:Int)<(k:Int):=ag;have HR:Hid (R=true):=NH;clear HC;go_wp2_with fail;rw[HR.out];go_ret;exact⟨rfl,rfl⟩
theorem xO(h:cN B w iv l):∃a c,iv=.slice a l.length c:=by
 rcases h with ⟨rfl,a,c,rfl⟩|⟨pb,po,c,rfl,_⟩
 ·exact⟨a,c,rfl⟩
 ·exact⟨_,c,rfl⟩
theorem Q5(n:Nat):(madeCells #[ae 0] (n*1)).toList=ints (List.replicate n 0):=by
 rw[Nat.mul_one,toList_madeCells_one];unfold ints;rw[List.map_replicate]
theorem YC(n:Nat)(hn:n≤1000)(hi:∃a l c,iv=.slice a l c):
  Calls prog 45 #[ae n,iv] w fun e w'=>∃wp vg,e=.returned (ax wp)∧w.heap.size≤wp∧vg=w.heap.size∧ay w' wp #[aD vg n n,aI,iv] 118∧bX w.heap.size w' (aD vg n n) (List.replicate n 0)∧Below w.heap.size w w':=by
 obtain⟨a,l,c,rfl⟩:=hi;have hmk:=Hv (P:=prog) 24 3 (ae 0) #[ae 0] 1 8 rfl underlying24 Tryz.vo n ag ag;obtain⟨vg,hvg⟩:=ak (w.heap.size);obtain⟨X,hX⟩:=ak (w.alloc (.cells (madeCells #[ae 0] n) 3 (0,0)):World);have hbX:Below w.heap.size w X:=jo
 have ki:X.ownsRow w.heap.size 3 1 (aD vg n n) n (madeCells #[ae 0] n).toList:=by
  rw[hX,hvg];exact World.ownsRow_lit w _ n aH lu Fp
 have HVG:=af hvg;have HX:=af hX;have bT:=af hbX;have eZ:=af ki;clear hX hbX ki hvg;go_enter func45,ntmps45;go_wp2_with fail;rw[←HX.out];have hXs:w.heap.size+1=X.heap.size:=by rw[HX.out];exact(Array.size_push _).symm
 rw[hXs];refine bodyPost_ret (v:=ax X.heap.size) (by simp[results,results45,go_sem]) rfl ⟨_,vg,rfl,bT.size,HVG,by rw[HVG.out];exact bJ X _ _,?_,bT.alloc bT.size _⟩;have h:=eZ.alloc (.cells #[aD vg n n,aI,.slice a l c] 118 (0,0));have e:=Q5 n;rw[Nat.mul_one]at e;rw[e]at h;unfold bX;rw[List.length_replicate,←HVG.out];rw[←HVG.out]at h;exact h
theorem abu(w:World)(g o:Nat)(ty t:TypeId)(cells cur:Array Value)(hg:w.heap[g]?=some (.cells cur t (0,0)))(ho:o+cells.size≤cur.size)(hi:(P.info? ty).map (·.size)=some cells.size)(h1:cells.all (·.oneCell')=true):
  (Instr.storeAt ty (.pointer (some (ai g o))) (.agg cells)).run P w=.ok () (w.setRow g (cur.toList.take o++cells.toList++cur.toList.drop (o+cells.size)).toArray):=by
 have:=run_storeCells_at P g o t cells.toList 0 cur w hg (by simpa using ho) (fun v hv=>(Array.all_eq_true_iff_forall_mem.1 h1) v gW)
 cases hq:P.info? ty with
 |none=>simp[hq]at hi
 |some i=>
  have hs:cells.size=i.size:=by simp[hq]at hi;omega
  simp only[Nat.add_zero,kP]at this;simp[Instr.storeAt,Instr.sureAddr,storeVar,sizeOf,typeInfo,hq,Value.cells,hs,this]
def z33:Array Value:= #[ae 0,ae 0,ae 0,ae 0,ae 0,ae 0,ae 0,ae 0,ae 0,ae 0,ae 0,ae 0,ae 0,ae 0,ae 0,ae 0,ae 0,ae 0,ae 0,ae 0,ae 0,ae 0,ae 0,ae 0,ae 0,ae 0,ae 0,ae 0,ae 0,ae 0,ae 0,ae 0,ae 0]
theorem wpList_store_row{ops:Array Oper}{rest:List Oper}{op:Oper}{a:Act}{Q:Exit→Act→World→Prop}(hgd:op.guard=none)(ty:TypeId)(x y:Operand)(ho:op.op=.store ty x y)
  (g o:Nat) (t:TypeId) (cells cur:Array Value) (hx:a.eval x=.pointer (some (ai g o))) (hy:a.eval y=.agg cells)
  (hg:w.heap[g]?=some (.cells cur t (0,0))) (hf:o+cells.size≤cur.size) (hi:(P.info? ty).map (·.size)=some cells.size) (h1:cells.all (·.oneCell')=true)
  (h:wpList P ops Q rest (a.put op.dst undef) (w.setRow g (cur.toList.take o++cells.toList++cur.toList.drop (o+cells.size)).toArray)):wpList P ops Q (op :: rest) a w:=
 wpList_plain hgd fun _ hK=>by
  unfold Oper.wp execOp;simp only[ho,hx,hy,Sem.run_bind,abu w g o ty t cells cur hg hf hi h1];exact hK _ _ h
theorem X3(w:World)(dT sT ty elem:TypeId)(a:Addr)(CB I8 c:Nat)(hu:P.underlying dT=some (.slice elem))(hs:((P.info? elem).map (·.size)).isSome=true):
  (Builtin.copy_ #[dT,sT] ty #[.slice (some a) CB I8,.slice none 0 c]).run P w=.ok (goInt 0) w:=by
 cases hq:P.info? elem with
 |none=>simp[hq]at hs
 |some i=>simp[Builtin.copy_,run_underlying hu,Builtin.lenOf,Builtin.firstCells,sizeOf,typeInfo,hq,storeCells]
theorem Z2(cs:Array Value):oI cs 0 []=cs:=by unfold oI;simp
theorem aby(hi:cN B w iv l)(hl:l.length≤32)(hb:ay w mb cs 116)(hs:cs.size=39):
  (Builtin.copy_ #[24,24] 3 #[aD mb 32 32,iv]).run prog w=.ok (ae l.length) (w.setRow mb (oI cs 0 l)):=by
 have hrow:∀(a:Addr) (c:Nat),(∀(j:Nat) (y:Int),l[j]?=some y→w.cell? (a.add j)=some (ae y))→(Builtin.copy_ #[24,24] 3 #[aD mb 32 32,.slice (some a) l.length c]).run prog w=.ok (ae l.length) (w.setRow mb (oI cs 0 l)):=fun a c h=>by
  have mU:=run_copy_row (P:=prog) w 24 24 3 3 mb 0 32 32 a l.length c cs 116 (l.map (Value.int .i64)) underlying24 Ea hb (by rw[List.length_map];exact(Nat.min_eq_left hl).symm) (fun j v hj=>by
   rw[iH]at hj;obtain⟨y,hy1,rfl⟩:=Option.map_eq_some_iff.1 hj;exact h j y hy1) (by rw[List.length_map];omega) (fun v hv=>by
   obtain⟨y,_,rfl⟩:=List.mem_map.1 hv;rfl)
  rw[List.length_map]at mU;exact mU
 rcases hi with ⟨rfl,a,c,rfl⟩|⟨pb,po,c,rfl,_,_,h4⟩
 ·cases a with
  |none=>
   rw[Z2,setRow_self w mb cs 116 (0,0) hb];exact X3 w _ _ _ 3 _ _ _ c underlying24 (by rw[Ea];rfl)
  |some a=>exact hrow a c (fun j y h=>jC)
 ·exact hrow _ c (fun j y h=>by rw[Addr.add_mid];exact h4 j y h)
section
attribute [local go_sem] fH
theorem YS(ys:List Int)(hb:ay w mb cs 116)(h:MC cs [])(hy:ys.length≤32)(hi:cN B w iv ys)(hB:B≤mb):
  Calls prog 106 #[ax mb,iv] w fun e w'=>e=.returned (.tuple #[])∧∃cs',ay w' mb cs' 116∧MC cs' (ys.reverse)∧Rest cs cs'∧aq (fun b=>b=mb) w w':=by
 have nK:w.cell? (ai mb 32)=some (ae 0):=hb.cell 32 _ h.dep;obtain⟨hp,hr⟩:=h.push ys (by simpa using hy);simp only[List.length_nil,List.append_nil]at hp hr;rw[show((0:Nat):Int)+(ys.length:Int)=(ys.length:Int) by omega]at hp hr;have hsz:=h.size;have hmw:=hb.lt;have zf:=aby (w:=w.drew) (hi.below (w':=w.drew) (aQ.drew)) hy hb hsz;obtain⟨a,c,rfl⟩:=xO hi;obtain⟨X,hX⟩:=ak (w.drew.setRow mb (oI cs 0 ys):World);rw[←hX]at zf;have aN:ay X mb (oI cs 0 ys) 116:=QY;have fo:aq (fun b=>b=mb) w X:=Qj
 have x32:X.cell? (ai mb 32)=some (ae 0):=aN.cell 32 _ (by
  rw[He cs 0 ys 32 ag,az ag,az ag];exact h.dep)
 have k0:∀u:{w':World // w'=w.drew∨w'=X},u.val.cell? (ai mb 32)=some (ae 0):=fun u=>by
  rcases u.property with e|e
  ·rw[e];exact nK
  ·rw[e];exact x32
 have hne:Nonempty {w':World // w'=w.drew∨w'=X}:=⟨⟨X,aA rfl⟩⟩;have HP:=af (aY hp hr);have bz:=af aN;have eN:=af fo;have HCP:=af zf;have hfz:=aN.frozen 32;have Si:=aN.lt;clear zf hX aN fo h hb hp hr nK hi;obtain⟨n,hn⟩:=ak (ys.length);rw[←hn]at hy HP HCP ⊢;clear hn;go_enter func106,ntmps106;refine ly (C:=eM fun w'=>w'=w.drew∨w'=X) 15 [13] ⟨w.drew,aC rfl⟩ aP aP rfl ?_;rw[show List.range 15=[0,1,2,3,4,5,6,7,8,9,10,11,12,13,14]from rfl]
 repeat (refine eV rfl rfl (fun K hK=>?_);go_simp;refine hK _ ?_;clear hK K)
 have mU:=HCP.out;refine oG rfl rfl (ae n) X (aA rfl) (aC dB) ?_;clear mU HCP
 repeat (refine eV rfl rfl (fun K hK=>?_);go_simp;refine hK _ ?_;clear hK K)
 refine iV ?_;intro w' hw';rw[show w'=X from hw'];clear hw' w' k0 hne;simp only[List.drop_succ_cons,List.drop_zero];go_wp2_with fail;go_end0;exact⟨rfl,_,bz.set (o:=32) _,HP.out.1,HP.out.2,eN.setCell (p:=ai mb 32) rfl _⟩
end
structure Ht (cs cs':Array Value) (ys:List Int) (st:Int):Prop where
 mc:MC cs' ys.reverse
 qG:cs'[33]?=some aI
 sR:cs'[34]?=some aI
 fq:cs'[35]?=cs[35]?
 eH:cs'[36]?=cs[36]?
 c37:cs'[37]?=cs[37]?
 bh:cs'[38]?=some (ae st)
theorem abI(hs:cs.size=39)(at_:Value):
  let cs':=((((cs.toList.take 0++z33.toList++cs.toList.drop (0+z33.size)).toArray.setIfInBounds 33 aI).setIfInBounds 34 aI).setIfInBounds 38 at_)
  MC cs' []∧cs'[33]?=some aI∧cs'[34]?=some aI∧cs'[35]?=cs[35]?∧cs'[36]?=cs[36]?∧cs'[37]?=cs[37]?∧cs'[38]?=some at_:=by
 obtain⟨row,hrow⟩:=ak ((cs.toList.take 0++z33.toList++cs.toList.drop (0+z33.size)).toArray);have jE:z33.size=33:=rfl;have hsz:row.size=39:=by rw[hrow];simp[jE,hs]
 have hlo:∀i,i<33→row[i]?=some (ae 0):=fun i hi=>by
  rw[hrow,List.getElem?_toArray,List.take_zero,List.nil_append,dH (by rw[kP,jE];exact hi)];rw[show z33.toList=List.replicate 33 (ae 0)from rfl,xB,aG hi]
 have hhi:∀i,33≤i→row[i]?=cs[i]?:=fun i hi=>by
  rw[hrow,List.getElem?_toArray,List.take_zero,List.nil_append,fP (by rw[kP,jE];exact hi),kP,jE,List.getElem?_drop,Array.getElem?_toList]
  congr 1;omega
 rw[←hrow];clear hrow;intro cs'
 have hg:∀i,i≠33→i≠34→i≠38→cs'[i]?=row[i]?:=fun i h1 h2 h3=>by
  show((((row.setIfInBounds 33 _).setIfInBounds 34 _).setIfInBounds 38 _))[i]?=_
  rw[jy ag,jy ag,jy ag]
 refine⟨⟨by simp[cs',hsz],trivial,?_,aF,fun i hi=>⟨0,?_⟩⟩,?_,?_,?_,?_,?_,?_⟩
 ·rw[hg 32 ag ag ag];exact hlo 32 ag
 ·rw[hg i ag ag ag];exact hlo i ag
 ·show((((row.setIfInBounds 33 _).setIfInBounds 34 _).setIfInBounds 38 _))[33]?=_
  rw[jy ag,jy ag,sV ag]
 ·show((((row.setIfInBounds 33 _).setIfInBounds 34 _).setIfInBounds 38 _))[34]?=_
  rw[jy ag,sV aK]
 ·rw[hg 35 ag ag ag];exact hhi 35 ag
 ·rw[hg 36 ag ag ag];exact hhi 36 ag
 ·rw[hg 37 ag ag ag];exact hhi 37 ag
 ·show((((row.setIfInBounds 33 _).setIfInBounds 34 _).setIfInBounds 38 _))[38]?=_
  rw[sV aK]
theorem Nd{st:Int}(ys:List Int)(hb:ay w mb cs 116)(hs:cs.size=39)(h37:cs[37]?=some (ae st))(hy:ys.length≤32)(hi:cN B w iv ys)(hB:B≤mb):
  Calls prog 73 #[ax mb,iv] w fun e w'=>e=.returned (.tuple #[])∧∃cs',ay w' mb cs' 116∧Ht cs cs' ys st∧aq (fun b=>b=mb) w w':=by
 have hmb:=hb.lt;have hbc:=abI hs (ae st);obtain⟨row,hrow⟩:=ak ((cs.toList.take 0++z33.toList++cs.toList.drop (0+z33.size)).toArray);rw[←hrow]at hbc;obtain⟨X,hX⟩:=ak (w.setRow mb row:World);have aN:ay X mb row 116:=by rw[hX];exact setRow_heap w mb _ _ _ _ hb
 have fo:aq (fun b=>b=mb) w X:=by rw[hX];exact⟨rfl,rfl,rfl,Wa,fun k hk hne=>setRow_other w mb k _ (fun e=>hne e)⟩
 have rY:row.size=39:=by have:=hbc.1.size;simpa using this
 obtain⟨v33,jE⟩:∃v,row[33]?=some v:=⟨_,Array.getElem?_eq_getElem ag⟩;obtain⟨v34,qI⟩:∃v,row[34]?=some v:=⟨_,Array.getElem?_eq_getElem ag⟩;obtain⟨v38,h38⟩:∃v,row[38]?=some v:=⟨_,Array.getElem?_eq_getElem ag⟩
 have r37:row[37]?=some (ae st):=by
  have:=hbc.2.2.2.2.2.1;rw[jy ag,jy ag,jy ag]at this;rw[this,h37]
 have x33:=aN.cell 33 _ jE;have x34:=aN.cell 34 _ qI;have x37:=aN.cell 37 _ r37;have x38:=aN.cell 38 _ h38;have f33:=aN.frozen 33;have f34:=aN.frozen 34;have f38:=aN.frozen 38;have qC:=aN.lt;have eW:=((aN.set (o:=33) aI).set (o:=34) aI).set (o:=38) (ae st);have jX:=((fo.setCell (p:=ai mb 33) rfl aI).setCell (p:=ai mb 34) rfl aI).setCell (p:=ai mb 38) rfl (ae st);obtain⟨Y,hY⟩:=ak (((X.setCell (ai mb 33) aI).setCell (ai mb 34) aI).setCell (ai mb 38) (ae st):World);rw[←hY]at eW jX;have HP:=af (YS ys eW hbc.1 hy (hi.below (jX.toBelow (bB hB (Nat.le_of_lt hmb)) (fun b hb e=>ag))) hB);have HBC:=af hbc;have HY:=af hY;have kN:=af jX;have HX:=af hX;have HB:=af hb;have HS:=af hs;obtain⟨a,c,rfl⟩:=xO hi;have fc:=af hrow;clear hY eW jX hbc hX aN fo hb jE qI h38 r37 h37 hi hs hrow;generalize ys.length=n at *;go_enter func73,ntmps73;go_upto_region 0 with fail
 refine wp_region_list ?_
 iterate 8 (refine wpList_plain rfl (fun K hK=>?_);go_simp;refine hK _ _ ?_;clear hK K)
 refine wpList_store_row rfl _ _ _ rfl mb 0 116 z33 cs rfl rfl HB (by rw[HS.out];decide) aP dJ ?_;rw[←fc.out,←HX.out];go_wp2_with fail;rw[←HY.out];clear x33 x34 x37 x38 f33 f34 f38;refine HP.mono ?_;rintro e w' ⟨rfl,cs',eI,sL,hr',hc'⟩;obtain⟨_,b1,b2,b3,b4,b5,b6⟩:=HBC.out;have HF:Hid (ay w' mb cs' 116∧Ht cs cs' ys st∧aq (fun b=>b=mb) w w'):=af ⟨eI,⟨sL,(hr' 33 ag).trans b1,(hr' 34 ag).trans b2,(hr' 35 ag).trans b3,(hr' 36 ag).trans b4,(hr' 37 ag).trans b5,(hr' 38 ag).trans b6⟩,kN.trans hc'⟩;clear eI sL hr' hc' b1 b2 b3 b4 b5 b6 HP HBC HY kN HX HB HS fc;go_wp2_with fail;go_end0;exact⟨rfl,cs',HF⟩
theorem xt(B:Nat)(w:World)(t:TypeId)(k:Nat):w.ownsRow B t k aI 0 []:=⟨aF,aC ⟨rfl,rfl⟩⟩
theorem Wo{rv vv jv:Value}{st wp:Nat}{code vars ins:List Int}(ys:List Int)(hc:wV B w rv code)(hst:st≤code.length)(hcl:code.length≤1000)(hy:ys.length≤32)(hi:cN B w iv ys)(hB:B≤w.heap.size)
  (hwb:ay w wp #[vv,aI,jv] 118) (sH:B≤wp) (hv:bX B w vv vars) (hj:cN B w jv ins) (kQ:vars.length≤1000) (hjl:ins.length≤2000000):
  Calls prog 47 #[rv,ae st,iv,ax wp] w fun e w'=>∃mb,e=.returned (ax mb)∧w.heap.size≤mb∧aV B w' ⟨mb,wp,rv,st,aI,aI,vv,aI,jv⟩ code ⟨ys.reverse,[],[],st⟩ ⟨vars,[],ins⟩∧Below w.heap.size w w':=by
 obtain⟨mb,hmb⟩:=ak (w.heap.size);obtain⟨rg,rn,rc,rfl⟩:∃g n c,rv=aD g n c:=by obtain⟨g,c,h,_⟩:=hc;exact⟨_,_,_,h⟩
 obtain⟨a,c,oo⟩:=xO hi;obtain⟨cs,hcs⟩:=ak (#[ae 0,ae 0,ae 0,ae 0,ae 0,ae 0,ae 0,ae 0,ae 0,ae 0,ae 0,ae 0,ae 0,ae 0,ae 0,ae 0,ae 0,ae 0,ae 0,ae 0,ae 0,ae 0,ae 0,ae 0,ae 0,ae 0,ae 0,ae 0,ae 0,ae 0,ae 0,ae 0,ae 0,aI,aI,ax wp,aD rg rn rc,ae st,ae 0]:Array Value);obtain⟨W,hW⟩:=ak (w.alloc (.cells #[ae 0,ae 0,ae 0,ae 0,ae 0,ae 0,ae 0,ae 0,ae 0,ae 0,ae 0,ae 0,ae 0,ae 0,ae 0,ae 0,ae 0,ae 0,ae 0,ae 0,ae 0,ae 0,ae 0,ae 0,ae 0,ae 0,ae 0,ae 0,ae 0,ae 0,ae 0,ae 0,ae 0,aI,aI,ax wp,aD rg rn rc,ae st,ae 0] 116 (0,0)):World);have hkW:ay W mb cs 116:=by rw[hW,hcs,hmb];exact bJ w _ _
 have hbW:Below w.heap.size w W:=Aa;have h35:cs[35]?=some (ax wp):=sY;have h36:cs[36]?=some (aD rg rn rc):=sY;have h37:cs[37]?=some (ae st):=sY;have H:=af (Nd (B:=B) (st:=(st:Int)) ys hkW sY h37 hy (hi.below (hbW.mono hB)) ag);have HW:=af hW;have HKW:=af hkW;have bu:=af hbW;have HCS:=af (aY h35 (aY h36 h37));clear hcs hW hkW hbW h35 h36 h37;have hmm:=HKW.lt;have jH:=af hmb;have HC:=af hc;have HI:=af hi;have HIV:=af oo;have xx:=af hwb;have HV:=af hv;have HJ:=af hj;subst oo;clear hmb hc hi hv hj hwb;generalize hn:ys.length=n at *;go_enter func47,ntmps47;go_upto_region 2 with fail
 rw[←HW.out,←jH.out];go_wp2_with fail;refine H.mono ?_;rintro e w' ⟨rfl,cs',eI,hb',hc'⟩;have HF:=af (aY eI (aY hb' hc'));clear H eI hb' hc' HW;go_wp2_with fail;refine bodyPost_ret (v:=ax mb) (by simp[results,results47,go_sem]) rfl ⟨mb,rfl,Nat.le_of_eq jH.symm,?_⟩;obtain⟨eI,hb',hc'⟩:=HF.out;obtain⟨q35,q36,q37⟩:=HCS.out;have hBB:Below w.heap.size w w':=bu.trans (hc'.toBelow bu.size (fun b hb e=>zQ));have hB2:=hBB.mono hB;have hwl:=xx.lt;have hir:∀{v:Value} {l:List Int},bX B w v l→bX B w' v l:=fun h=>aR h (aq.bf hBB) (fun _ _ e=>e)
 exact⟨⟨⟨cs',eI,hb'.mc,hb'.qG,hb'.sR,hb'.fq.trans q35,hb'.eH.trans q36,hb'.c37.trans q37,hb'.bh⟩,xt _ _ _ _,xt _ _ _ _,xx.sub hBB hwl,hir HV,xt _ _ _ _,HJ.below hB2,HC.below hB2,fun k hk=>by simp[Value.ownBlock]at hk,fun k hk h=>by simp[Value.ownBlock]at h,by have:=jH.out;show B≤mb;omega,sH,aF,aF,aF,hjl,kQ,hcl,hst⟩,hBB⟩
end
end Go.Proofs.YtcphhbofjkenaaaGreatDoor
