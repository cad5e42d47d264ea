import Derived.Test.YtcphhbofjkenaaaGreatDoorM33
namespace Go.Proofs.YtcphhbofjkenaaaGreatDoor
open Go Go.RowKit
set_option linter.unusedVariables false
set_option linter.unusedSimpArgs false
set_option maxRecDepth 100000
set_option maxHeartbeats 16000000
section
attribute [local go_sem] dK
section
variable{B:Nat}{w w':World}{x:RX}{code:List Int}{m m':MS}{u u':MW}
theorem dE.reads{v:Int}(h:dE B w x code m u)(hv:code[m.at_]?=some v):∃g n cap,w.cell? ⟨x.mb,36,none⟩=some (.slice (some ⟨g,0,none⟩) n cap)∧w.cell? ⟨g,m.at_,none⟩=some (.int .i64 v)∧g<w.heap.size∧m.at_<n∧n≤cap∧n≤1000∧n=code.length:=by
 have qU:=h.qU;have hle:=h.le;obtain⟨g,cap,D7,hcap,hg,hcell⟩:=h.iO;rw[D7]at qU;exact⟨g,code.length,cap,qU,hcell _ _ hv,by omega,(List.getElem?_eq_some_iff.1 hv).1,hcap,h.len.2.2.2.2.2.1,rfl⟩
theorem QK{k:Nat}(hk:k<35)(h:dE B w x code m u)(ht:lh w)(hop:code[m.at_]?=some (k:Int)){R:Int}(hh:cO k m.ak u.vars.length=R)(hR:R≠4):
  Calls Tryz.prog 74 #[.pointer (some ⟨x.mb,0,none⟩)] w fun e w'=>e=.returned (.int .i64 R)∧fK B w x code m u w':=by
 have hRb:(R != 4)=true:=by simp[hR]
 have pF:=ast (fun (w':World) (hb:Below w.heap.size w w')=>iG k (by omega) (h.below hb).at_ (ht.below hb));rw[hh]at pF;obtain⟨g,n,cap,qU,cg,hg,hn,BH,hn1,hnl⟩:=h.reads hop;obtain⟨dh,_,gX⟩:=h.dh;have H:=ast h;obtain⟨q,hq⟩:=exq (m.at_);rw[←hq]at cg hn dh;have HQ:=ast hq;have zA:=ast hnl;have CZ:(q:Int)<(n:Int):=by omega
 have EJ:(0:Int)≤(q:Int):=by omega
 have YN:(q:Int)≤1000:=by omega
 clear h ht hop hq hnl;go_enter Tryz.func74,Tryz.ntmps74
 go_wp2_with fail
 go_quiet (fail)
 have hbq:Below w.heap.size w (w.drewN nq):=bdq;obtain⟨V,hV⟩:=exq (w.drewN nq:World);rw[←hV]at hbq;rw[←hV];have HV:=ast (pF.out V hbq);have sJ:=ast hbq;clear hV hbq pF qU cg dh;go_wp2_with fail
 refine HV.out.mono ?_;rintro e w1 ⟨rfl,hb1⟩;have HB1:=ast (sJ.out.trans (hb1.mono sJ.out.size));clear hb1 HV;go_wp2_with fail
 go_ret
 exact⟨rfl,_,H.out.below HB1.out⟩
theorem VO{k:Nat}(hk:k≤12)(h:dE B w x code m u)(ht:lh w)(hop:code[m.at_]?=some (k:Int))(hh:cO k m.ak u.vars.length=4){a b:Int}{s:List Int}(hs:m.ak=b :: a :: s)(ha:Cell a)(hb:Cell b):
  Calls Tryz.prog 74 #[.pointer (some ⟨x.mb,0,none⟩)] w fun e w'=>e=.returned (.int .i64 4)∧fK B w x code {m with ak:=nT k a b :: s,at_:=m.at_+1} u w':=by
 have RY:(k:Int)≤12:=by omega
 have hl:=h.FV.2;rw[hs]at hl;simp only[List.length_cons]at hl;have HS:=ast hs;have gu:=ast (fun w=>Uy k hk ha hb w);obtain⟨r,hr⟩:=exq (nT k a b);rw[←hr]at gu ⊢;clear hs hr;have pF:=ast (fun (w':World) (hb:Below w.heap.size w w')=>iG k (by omega) (h.below hb).at_ (ht.below hb));rw[hh]at pF;obtain⟨g,n,cap,qU,cg,hg,hn,BH,hn1,hnl⟩:=h.reads hop;obtain⟨dh,_,gX⟩:=h.dh;have H:=ast h;obtain⟨q,hq⟩:=exq (m.at_);rw[←hq]at cg hn dh;have HQ:=ast hq;have zA:=ast hnl;have CZ:(q:Int)<(n:Int):=by omega
 have EJ:(0:Int)≤(q:Int):=by omega
 have YN:(q:Int)≤1000:=by omega
 clear h ht hop hq hnl;go_enter Tryz.func74,Tryz.ntmps74
 go_wp2_with fail
 go_quiet (fail)
 have hbq:Below w.heap.size w (w.drewN nq):=bdq;obtain⟨V,hV⟩:=exq (w.drewN nq:World);rw[←hV]at hbq;rw[←hV];have HV:=ast (pF.out V hbq);have sJ:=ast hbq;clear hV hbq pF qU cg dh;go_wp2_with fail
 refine HV.out.mono ?_;rintro e w1 ⟨rfl,hb1⟩;have hA1:=H.out.below (sJ.out.trans (hb1.mono sJ.out.size));obtain⟨dh,f38,hm1⟩:=hA1.at_.dh;rw[←HQ.out]at dh;have hS:=hA1.at_.setAt (q+1) (by have:=zA.out;omega);obtain⟨X,hX⟩:=exq (w1.setCell ⟨x.mb,38,none⟩ (.int .i64 ((q:Int)+1)):World);have hcast:(((q+1:Nat):Int))=(q:Int)+1:=by omega
 rw[hcast,←hX]at hS;have HN:=ast (hA1.trans hS);have HX:=ast hX;have zB:=hS.at_.dh.2.2;clear hb1 HV hA1 hS hX hcast;go_upto_region 7 with fail
 rw[←HX.out];clear dh f38;have hD:=HN.out.at_.below (Below.drew (Below.refl X.heap.size X));have HD:=ast hD;have hne:Nonempty {w':World // True}:=⟨⟨w,trivial⟩⟩;clear hD;rw[HQ.out]at HN HD;go_upto_region 8 with fail
 refine iy (C:=fJ fun _=>True) 8 [0,1,2,4,5,6,3,7] [3,7] ⟨X.drew,trivial⟩ (by kernel_rfl) (by kernel_rfl) rfl ?_
 repeat (refine aO rfl rfl (fun K hK=>?_);go_simp;refine hK _ ?_;clear hK K)
 refine bG rfl rfl 108 #[.pointer (some ⟨x.mb,0,none⟩)] (by go_simp) ((HD.out.at_.take HS.out).mono ?_);rintro e w2 ⟨rfl,hn2⟩;refine⟨_,rfl,trivial,?_⟩;refine bG rfl rfl 108 #[.pointer (some ⟨x.mb,0,none⟩)] (by go_simp) ((hn2.at_.take rfl).mono ?_);rintro e w3 ⟨rfl,Fz⟩;refine⟨_,rfl,trivial,df ?_⟩;intro w' hw';rw[show w'=w3 from hw'];have RG:=ast (((HN.out.trans HD.out).trans hn2).trans Fz);have hD3:=Fz.at_.below (Below.drew (Below.refl w3.heap.size w3));have PO:=ast hD3;clear hw' w' hn2 Fz hD3;simp only[List.drop_succ_cons,List.drop_zero];go_upto_region 9 with fail
 refine aH (C:=fJ fun _=>True) 8 [6,7] ⟨w3.drew,trivial⟩ (by kernel_rfl) (by kernel_rfl) rfl ?_;rw[show List.range 8=[0,1,2,3,4,5,6,7]from rfl]
 repeat (refine aO rfl rfl (fun K hK=>?_);go_simp;refine hK _ ?_;clear hK K)
 refine bG rfl rfl 109 #[.int .i64 k,.int .i64 a,.int .i64 b] (by go_simp) ((gu.out _).mono ?_);rintro e w4 ⟨rfl,rfl⟩;refine⟨_,rfl,trivial,?_⟩;refine eu rfl rfl (.slice (some ⟨w3.drew.heap.size,0,none⟩) 1 1) (w3.drew.alloc (.cells #[.int .i64 r] 3 (0,0))) trivial (Or.inl (by go_simp)) ?_;refine df ?_;intro w' hw';rw[show w'=w3.drew.alloc (.cells #[.int .i64 r] 3 (0,0))from hw'];clear hw' w' hne;have qW:=ast (dE.yT [r] PO.out.at_ (by simp only;omega) (by simp only[List.length_cons,List.length_nil];omega));simp only[List.drop_succ_cons,List.drop_zero];go_wp2_with fail
 refine qW.out.mono ?_;rintro e wz ⟨rfl,hz⟩;have HZ:=ast ((RG.out.trans PO.out).trans hz);clear hz qW;go_wp2_with fail
 go_ret
 exact⟨rfl,_,HZ.out⟩
theorem VP{k:Nat}(dM:13≤k)(hk:k≤15)(h:dE B w x code m u)(ht:lh w)(hop:code[m.at_]?=some (k:Int))(hh:cO k m.ak u.vars.length=4){a:Int}{s:List Int}(hs:m.ak=a :: s)(ha:Cell a):
  Calls Tryz.prog 74 #[.pointer (some ⟨x.mb,0,none⟩)] w fun e w'=>e=.returned (.int .i64 4)∧fK B w x code {m with ak:=rU k a :: s,at_:=m.at_+1} u w':=by
 have RY:(k:Int)≤15:=by omega
 have ab9:¬(k:Int)≤12:=by omega
 have hl:=h.FV.2;rw[hs]at hl;simp only[List.length_cons]at hl;have HS:=ast hs;have gu:=ast (fun w=>Uz k dM hk ha w);obtain⟨r,hr⟩:=exq (rU k a);rw[←hr]at gu ⊢;clear hs hr;have pF:=ast (fun (w':World) (hb:Below w.heap.size w w')=>iG k (by omega) (h.below hb).at_ (ht.below hb));rw[hh]at pF;obtain⟨g,n,cap,qU,cg,hg,hn,BH,hn1,hnl⟩:=h.reads hop;obtain⟨dh,_,gX⟩:=h.dh;have H:=ast h;obtain⟨q,hq⟩:=exq (m.at_);rw[←hq]at cg hn dh;have HQ:=ast hq;have zA:=ast hnl;have CZ:(q:Int)<(n:Int):=by omega
 have EJ:(0:Int)≤(q:Int):=by omega
 have YN:(q:Int)≤1000:=by omega
 clear h ht hop hq hnl;go_enter Tryz.func74,Tryz.ntmps74
 go_wp2_with fail
 go_quiet (fail)
 have hbq:Below w.heap.size w (w.drewN nq):=bdq;obtain⟨V,hV⟩:=exq (w.drewN nq:World);rw[←hV]at hbq;rw[←hV];have HV:=ast (pF.out V hbq);have sJ:=ast hbq;clear hV hbq pF qU cg dh;go_wp2_with fail
 refine HV.out.mono ?_;rintro e w1 ⟨rfl,hb1⟩;have hA1:=H.out.below (sJ.out.trans (hb1.mono sJ.out.size));obtain⟨dh,f38,hm1⟩:=hA1.at_.dh;rw[←HQ.out]at dh;have hS:=hA1.at_.setAt (q+1) (by have:=zA.out;omega);obtain⟨X,hX⟩:=exq (w1.setCell ⟨x.mb,38,none⟩ (.int .i64 ((q:Int)+1)):World);have hcast:(((q+1:Nat):Int))=(q:Int)+1:=by omega
 rw[hcast,←hX]at hS;have HN:=ast (hA1.trans hS);have HX:=ast hX;have zB:=hS.at_.dh.2.2;clear hb1 HV hA1 hS hX hcast;go_upto_region 7 with fail
 rw[←HX.out];clear dh f38;have hD:=HN.out.at_.below (Below.drew (Below.refl X.heap.size X));have HD:=ast hD;have hne:Nonempty {w':World // True}:=⟨⟨w,trivial⟩⟩;clear hD;rw[HQ.out]at HN HD;go_upto_region 11 with fail
 refine aH (C:=fJ fun _=>True) 10 [7,8,9] ⟨X.drew,trivial⟩ (by kernel_rfl) (by kernel_rfl) rfl ?_;rw[show List.range 10=[0,1,2,3,4,5,6,7,8,9]from rfl]
 repeat (refine aO rfl rfl (fun K hK=>?_);go_simp;refine hK _ ?_;clear hK K)
 refine bG rfl rfl 108 #[.pointer (some ⟨x.mb,0,none⟩)] (by go_simp) ((HD.out.at_.take HS.out).mono ?_);rintro e w3 ⟨rfl,Fz⟩;refine⟨_,rfl,trivial,?_⟩;refine bG rfl rfl 110 #[.int .i64 k,.int .i64 a] (by go_simp) ((gu.out _).mono ?_);rintro e w4 ⟨rfl,rfl⟩;refine⟨_,rfl,trivial,?_⟩;refine eu rfl rfl (.slice (some ⟨w4.heap.size,0,none⟩) 1 1) (w4.alloc (.cells #[.int .i64 r] 3 (0,0))) trivial (Or.inl (by go_simp)) ?_;refine df ?_;intro w' hw';rw[show w'=w4.alloc (.cells #[.int .i64 r] 3 (0,0))from hw'];clear hw' w' hne;have RG:=ast ((HN.out.trans HD.out).trans Fz);have qW:=ast (dE.yT [r] Fz.at_ (by simp only;omega) (by simp only[List.length_cons,List.length_nil];omega));clear Fz;simp only[List.drop_succ_cons,List.drop_zero];go_wp2_with fail
 refine qW.out.mono ?_;rintro e wz ⟨rfl,hz⟩;have HZ:=ast (RG.out.trans hz);clear hz qW;go_wp2_with fail
 go_ret
 exact⟨rfl,_,HZ.out⟩
theorem lZ{k:Nat}(dM:16≤k)(hk:k≤22)(h:dE B w x code m u)(ht:lh w)(hop:code[m.at_]?=some (k:Int))(hh:cO k m.ak u.vars.length=4)(hin:∀w1,dE B w1 x code {m with at_:=m.at_+1} u→Calls Tryz.prog 111 #[.pointer (some ⟨x.mb,0,none⟩),.int .i64 k] w1 fun e w2=>e=.returned (.tuple #[])∧fK B w1 x code m' u' w2):
  Calls Tryz.prog 74 #[.pointer (some ⟨x.mb,0,none⟩)] w fun e w'=>e=.returned (.int .i64 4)∧fK B w x code m' u' w':=by
 have RY:(k:Int)≤22:=by omega
 have ab9:¬(k:Int)≤12:=by omega
 have agD:¬(k:Int)≤15:=by omega
 have jl:=ast hin;clear hin;have pF:=ast (fun (w':World) (hb:Below w.heap.size w w')=>iG k (by omega) (h.below hb).at_ (ht.below hb));rw[hh]at pF;obtain⟨g,n,cap,qU,cg,hg,hn,BH,hn1,hnl⟩:=h.reads hop;obtain⟨dh,_,gX⟩:=h.dh;have H:=ast h;obtain⟨q,hq⟩:=exq (m.at_);rw[←hq]at cg hn dh;have HQ:=ast hq;have zA:=ast hnl;have CZ:(q:Int)<(n:Int):=by omega
 have EJ:(0:Int)≤(q:Int):=by omega
 have YN:(q:Int)≤1000:=by omega
 clear h ht hop hq hnl;go_enter Tryz.func74,Tryz.ntmps74
 go_wp2_with fail
 go_quiet (fail)
 have hbq:Below w.heap.size w (w.drewN nq):=bdq;obtain⟨V,hV⟩:=exq (w.drewN nq:World);rw[←hV]at hbq;rw[←hV];have HV:=ast (pF.out V hbq);have sJ:=ast hbq;clear hV hbq pF qU cg dh;go_wp2_with fail
 refine HV.out.mono ?_;rintro e w1 ⟨rfl,hb1⟩;have hA1:=H.out.below (sJ.out.trans (hb1.mono sJ.out.size));obtain⟨dh,f38,hm1⟩:=hA1.at_.dh;rw[←HQ.out]at dh;have hS:=hA1.at_.setAt (q+1) (by have:=zA.out;omega);obtain⟨X,hX⟩:=exq (w1.setCell ⟨x.mb,38,none⟩ (.int .i64 ((q:Int)+1)):World);have hcast:(((q+1:Nat):Int))=(q:Int)+1:=by omega
 rw[hcast,←hX]at hS;have HN:=ast (hA1.trans hS);have HX:=ast hX;have zB:=hS.at_.dh.2.2;clear hb1 HV hA1 hS hX hcast;go_upto_region 7 with fail
 rw[←HX.out];clear dh f38;rw[HQ.out]at HN;have HI:=ast (jl.out X HN.out.at_);clear jl;go_wp2_with fail
 refine HI.out.mono ?_;rintro e w2 ⟨rfl,y,hy⟩;have HZ:=ast (HN.out.trans hy);clear hy HI;go_wp2_with fail
 go_ret
 exact⟨rfl,_,HZ.out⟩
theorem rM{k:Nat}(dM:23≤k)(hk:k≤26)(h:dE B w x code m u)(ht:lh w)(hop:code[m.at_]?=some (k:Int))(hh:cO k m.ak u.vars.length=4)(hin:∀w1,dE B w1 x code {m with at_:=m.at_+1} u→Calls Tryz.prog 112 #[.pointer (some ⟨x.mb,0,none⟩),.int .i64 k] w1 fun e w2=>e=.returned (.tuple #[])∧fK B w1 x code m' u' w2):
  Calls Tryz.prog 74 #[.pointer (some ⟨x.mb,0,none⟩)] w fun e w'=>e=.returned (.int .i64 4)∧fK B w x code m' u' w':=by
 have RY:(k:Int)≤26:=by omega
 have ab9:¬(k:Int)≤12:=by omega
 have agD:¬(k:Int)≤15:=by omega
 have akT:¬(k:Int)≤22:=by omega
 have jl:=ast hin;clear hin;have pF:=ast (fun (w':World) (hb:Below w.heap.size w w')=>iG k (by omega) (h.below hb).at_ (ht.below hb));rw[hh]at pF;obtain⟨g,n,cap,qU,cg,hg,hn,BH,hn1,hnl⟩:=h.reads hop;obtain⟨dh,_,gX⟩:=h.dh;have H:=ast h;obtain⟨q,hq⟩:=exq (m.at_);rw[←hq]at cg hn dh;have HQ:=ast hq;have zA:=ast hnl;have CZ:(q:Int)<(n:Int):=by omega
 have EJ:(0:Int)≤(q:Int):=by omega
 have YN:(q:Int)≤1000:=by omega
 clear h ht hop hq hnl;go_enter Tryz.func74,Tryz.ntmps74
 go_wp2_with fail
 go_quiet (fail)
 have hbq:Below w.heap.size w (w.drewN nq):=bdq;obtain⟨V,hV⟩:=exq (w.drewN nq:World);rw[←hV]at hbq;rw[←hV];have HV:=ast (pF.out V hbq);have sJ:=ast hbq;clear hV hbq pF qU cg dh;go_wp2_with fail
 refine HV.out.mono ?_;rintro e w1 ⟨rfl,hb1⟩;have hA1:=H.out.below (sJ.out.trans (hb1.mono sJ.out.size));obtain⟨dh,f38,hm1⟩:=hA1.at_.dh;rw[←HQ.out]at dh;have hS:=hA1.at_.setAt (q+1) (by have:=zA.out;omega);obtain⟨X,hX⟩:=exq (w1.setCell ⟨x.mb,38,none⟩ (.int .i64 ((q:Int)+1)):World);have hcast:(((q+1:Nat):Int))=(q:Int)+1:=by omega
 rw[hcast,←hX]at hS;have HN:=ast (hA1.trans hS);have HX:=ast hX;have zB:=hS.at_.dh.2.2;clear hb1 HV hA1 hS hX hcast;go_upto_region 7 with fail
 rw[←HX.out];clear dh f38;rw[HQ.out]at HN;have HI:=ast (jl.out X HN.out.at_);clear jl;go_wp2_with fail
 refine HI.out.mono ?_;rintro e w2 ⟨rfl,y,hy⟩;have HZ:=ast (HN.out.trans hy);clear hy HI;go_wp2_with fail
 go_ret
 exact⟨rfl,_,HZ.out⟩
theorem og{k:Nat}(dM:29≤k)(hk:k≤33)(h:dE B w x code m u)(ht:lh w)(hop:code[m.at_]?=some (k:Int))(hh:cO k m.ak u.vars.length=4)(hin:∀w1,dE B w1 x code {m with at_:=m.at_+1} u→Calls Tryz.prog 116 #[.pointer (some ⟨x.mb,0,none⟩),.int .i64 k] w1 fun e w2=>e=.returned (.tuple #[])∧fK B w1 x code m' u' w2):
  Calls Tryz.prog 74 #[.pointer (some ⟨x.mb,0,none⟩)] w fun e w'=>e=.returned (.int .i64 4)∧fK B w x code m' u' w':=by
 have RY:¬(k:Int)≤26:=by omega
 have ab9:¬(k:Int)≤12:=by omega
 have agD:¬(k:Int)≤15:=by omega
 have akT:¬(k:Int)≤22:=by omega
 have aqg:((k:Int) == 27)=false:=by simp;omega
 have aqh:((k:Int) == 28)=false:=by simp;omega
 have aqi:((k:Int) == 34)=false:=by simp;omega
 have jl:=ast hin;clear hin;have pF:=ast (fun (w':World) (hb:Below w.heap.size w w')=>iG k (by omega) (h.below hb).at_ (ht.below hb));rw[hh]at pF;obtain⟨g,n,cap,qU,cg,hg,hn,BH,hn1,hnl⟩:=h.reads hop;obtain⟨dh,_,gX⟩:=h.dh;have H:=ast h;obtain⟨q,hq⟩:=exq (m.at_);rw[←hq]at cg hn dh;have HQ:=ast hq;have zA:=ast hnl;have CZ:(q:Int)<(n:Int):=by omega
 have EJ:(0:Int)≤(q:Int):=by omega
 have YN:(q:Int)≤1000:=by omega
 clear h ht hop hq hnl;go_enter Tryz.func74,Tryz.ntmps74
 go_wp2_with fail
 go_quiet (fail)
 have hbq:Below w.heap.size w (w.drewN nq):=bdq;obtain⟨V,hV⟩:=exq (w.drewN nq:World);rw[←hV]at hbq;rw[←hV];have HV:=ast (pF.out V hbq);have sJ:=ast hbq;clear hV hbq pF qU cg dh;go_wp2_with fail
 refine HV.out.mono ?_;rintro e w1 ⟨rfl,hb1⟩;have hA1:=H.out.below (sJ.out.trans (hb1.mono sJ.out.size));obtain⟨dh,f38,hm1⟩:=hA1.at_.dh;rw[←HQ.out]at dh;have hS:=hA1.at_.setAt (q+1) (by have:=zA.out;omega);obtain⟨X,hX⟩:=exq (w1.setCell ⟨x.mb,38,none⟩ (.int .i64 ((q:Int)+1)):World);have hcast:(((q+1:Nat):Int))=(q:Int)+1:=by omega
 rw[hcast,←hX]at hS;have HN:=ast (hA1.trans hS);have HX:=ast hX;have zB:=hS.at_.dh.2.2;clear hb1 HV hA1 hS hX hcast;go_upto_region 7 with fail
 rw[←HX.out];clear dh f38;rw[HQ.out]at HN;have HI:=ast (jl.out X HN.out.at_);clear jl;go_wp2_with fail
 refine HI.out.mono ?_;rintro e w2 ⟨rfl,y,hy⟩;have HZ:=ast (HN.out.trans hy);clear hy HI;go_wp2_with fail
 go_ret
 exact⟨rfl,_,HZ.out⟩
theorem MB(h:dE B w x code m u)(ht:lh w)(hop:code[m.at_]?=some (27:Int))(hh:cO 27 m.ak u.vars.length=4){l:List (Int×Int)}{a b:Int}(hs:m.loops=l++[(a,b)])(hl:m.ak.length<32):
  Calls Tryz.prog 74 #[.pointer (some ⟨x.mb,0,none⟩)] w fun e w'=>e=.returned (.int .i64 4)∧fK B w x code {m with ak:=a :: m.ak,at_:=m.at_+1} u w':=by
 have HS:=ast hs;clear hs;have pF:=ast (fun (w':World) (hb:Below w.heap.size w w')=>iG 27 (by omega) (h.below hb).at_ (ht.below hb));rw[hh]at pF;obtain⟨g,n,cap,qU,cg,hg,hn,BH,hn1,hnl⟩:=h.reads hop;obtain⟨dh,_,gX⟩:=h.dh;have H:=ast h;obtain⟨q,hq⟩:=exq (m.at_);rw[←hq]at cg hn dh;have HQ:=ast hq;have zA:=ast hnl;have CZ:(q:Int)<(n:Int):=by omega
 have EJ:(0:Int)≤(q:Int):=by omega
 have YN:(q:Int)≤1000:=by omega
 clear h ht hop hq hnl;go_enter Tryz.func74,Tryz.ntmps74
 go_wp2_with fail
 go_quiet (fail)
 have hbq:Below w.heap.size w (w.drewN nq):=bdq;obtain⟨V,hV⟩:=exq (w.drewN nq:World);rw[←hV]at hbq;rw[←hV];have HV:=ast (pF.out V hbq);have sJ:=ast hbq;clear hV hbq pF qU cg dh;go_wp2_with fail
 refine HV.out.mono ?_;rintro e w1 ⟨rfl,hb1⟩;have hA1:=H.out.below (sJ.out.trans (hb1.mono sJ.out.size));obtain⟨dh,f38,hm1⟩:=hA1.at_.dh;rw[←HQ.out]at dh;have hS:=hA1.at_.setAt (q+1) (by have:=zA.out;omega);obtain⟨X,hX⟩:=exq (w1.setCell ⟨x.mb,38,none⟩ (.int .i64 ((q:Int)+1)):World);have hcast:(((q+1:Nat):Int))=(q:Int)+1:=by omega
 rw[hcast,←hX]at hS;have HN:=ast (hA1.trans hS);have HX:=ast hX;have zB:=hS.at_.dh.2.2;clear hb1 HV hA1 hS hX hcast;go_upto_region 7 with fail
 rw[←HX.out];clear dh f38;have hD:=HN.out.at_.below (Below.drew (Below.refl X.heap.size X));have HD:=ast hD;have hne:Nonempty {w':World // True}:=⟨⟨w,trivial⟩⟩;clear hD;rw[HQ.out]at HN HD;go_upto_region 17 with fail
 refine aH (C:=fJ fun _=>True) 8 [6,7] ⟨X.drew,trivial⟩ (by kernel_rfl) (by kernel_rfl) rfl ?_;rw[show List.range 8=[0,1,2,3,4,5,6,7]from rfl]
 repeat (refine aO rfl rfl (fun K hK=>?_);go_simp;refine hK _ ?_;clear hK K)
 refine bG rfl rfl 113 #[.pointer (some ⟨x.mb,33,none⟩)] (by go_simp) ((HD.out.at_.number HS.out).mono ?_);rintro e w4 ⟨rfl,hb4⟩;have Fz:=HD.out.at_.below hb4;refine⟨_,rfl,trivial,?_⟩;refine eu rfl rfl (.slice (some ⟨w4.heap.size,0,none⟩) 1 1) (w4.alloc (.cells #[.int .i64 a] 3 (0,0))) trivial (Or.inl (by go_simp)) ?_;refine df ?_;intro w' hw';rw[show w'=w4.alloc (.cells #[.int .i64 a] 3 (0,0))from hw'];clear hw' w' hne;have RG:=ast ((HN.out.trans HD.out).trans Fz);have qW:=ast (dE.yT [a] Fz.at_ hl (by simp only[List.length_cons,List.length_nil];omega));clear Fz hb4;simp only[List.drop_succ_cons,List.drop_zero];go_wp2_with fail
 refine qW.out.mono ?_;rintro e wz ⟨rfl,hz⟩;have HZ:=ast (RG.out.trans hz);clear hz qW;go_wp2_with fail
 go_ret
 exact⟨rfl,_,HZ.out⟩
theorem QL(h:dE B w x code m u)(ht:lh w)(hop:code[m.at_]?=some (28:Int))(hh:cO 28 m.ak u.vars.length=4){a:Int}(hs:code[m.at_+1]?=some a)(hl:m.ak.length<32):
  Calls Tryz.prog 74 #[.pointer (some ⟨x.mb,0,none⟩)] w fun e w'=>e=.returned (.int .i64 4)∧fK B w x code {m with ak:=a :: m.ak,at_:=m.at_+2} u w':=by
 have HS:=ast hs;clear hs;have pF:=ast (fun (w':World) (hb:Below w.heap.size w w')=>iG 28 (by omega) (h.below hb).at_ (ht.below hb));rw[hh]at pF;obtain⟨g,n,cap,qU,cg,hg,hn,BH,hn1,hnl⟩:=h.reads hop;obtain⟨dh,_,gX⟩:=h.dh;have H:=ast h;obtain⟨q,hq⟩:=exq (m.at_);rw[←hq]at cg hn dh;have HQ:=ast hq;have zA:=ast hnl;have CZ:(q:Int)<(n:Int):=by omega
 have EJ:(0:Int)≤(q:Int):=by omega
 have YN:(q:Int)≤1000:=by omega
 clear h ht hop hq hnl;go_enter Tryz.func74,Tryz.ntmps74
 go_wp2_with fail
 go_quiet (fail)
 have hbq:Below w.heap.size w (w.drewN nq):=bdq;obtain⟨V,hV⟩:=exq (w.drewN nq:World);rw[←hV]at hbq;rw[←hV];have HV:=ast (pF.out V hbq);have sJ:=ast hbq;clear hV hbq pF qU cg dh;go_wp2_with fail
 refine HV.out.mono ?_;rintro e w1 ⟨rfl,hb1⟩;have hA1:=H.out.below (sJ.out.trans (hb1.mono sJ.out.size));obtain⟨dh,f38,hm1⟩:=hA1.at_.dh;rw[←HQ.out]at dh;have hS:=hA1.at_.setAt (q+1) (by have:=zA.out;omega);obtain⟨X,hX⟩:=exq (w1.setCell ⟨x.mb,38,none⟩ (.int .i64 ((q:Int)+1)):World);have hcast:(((q+1:Nat):Int))=(q:Int)+1:=by omega
 rw[hcast,←hX]at hS;have HN:=ast (hA1.trans hS);have HX:=ast hX;have zB:=hS.at_.dh.2.2;clear hb1 HV hA1 hS hX hcast;go_upto_region 7 with fail
 rw[←HX.out];clear dh f38;have hD:=HN.out.at_.below (Below.drew (Below.refl X.heap.size X));have HD:=ast hD;have hne:Nonempty {w':World // True}:=⟨⟨w,trivial⟩⟩;clear hD;rw[HQ.out]at HN HD;go_upto_region 19 with fail
 refine aH (C:=fJ fun _=>True) 6 [4,5] ⟨X.drew,trivial⟩ (by kernel_rfl) (by kernel_rfl) rfl ?_;rw[show List.range 6=[0,1,2,3,4,5]from rfl]
 repeat (refine aO rfl rfl (fun K hK=>?_);go_simp;refine hK _ ?_;clear hK K)
 refine bG rfl rfl 114 #[.pointer (some ⟨x.mb,0,none⟩)] (by go_simp) ((HD.out.at_.operand HS.out).mono ?_);rintro e w4 ⟨rfl,Fz⟩;refine⟨_,rfl,trivial,?_⟩;refine eu rfl rfl (.slice (some ⟨w4.heap.size,0,none⟩) 1 1) (w4.alloc (.cells #[.int .i64 a] 3 (0,0))) trivial (Or.inl (by go_simp)) ?_;refine df ?_;intro w' hw';rw[show w'=w4.alloc (.cells #[.int .i64 a] 3 (0,0))from hw'];clear hw' w' hne;have RG:=ast ((HN.out.trans HD.out).trans Fz);have qW:=ast (dE.yT [a] Fz.at_ hl (by simp only[List.length_cons,List.length_nil];omega));clear Fz;simp only[List.drop_succ_cons,List.drop_zero];go_wp2_with fail
 refine qW.out.mono ?_;rintro e wz ⟨rfl,hz⟩;have HZ:=ast (RG.out.trans hz);clear hz qW;go_wp2_with fail
 go_ret
 exact⟨rfl,_,HZ.out⟩
theorem QM(h:dE B w x code m u)(ht:lh w)(hop:code[m.at_]?=some (34:Int))(hh:cO 34 m.ak u.vars.length=4)(hc:m.calls=[]):
  Calls Tryz.prog 74 #[.pointer (some ⟨x.mb,0,none⟩)] w fun e w'=>e=.returned (.int .i64 0)∧fK B w x code {m with at_:=m.at_+1} u w':=by
 have Dz:=ast hc;clear hc;have pF:=ast (fun (w':World) (hb:Below w.heap.size w w')=>iG 34 (by omega) (h.below hb).at_ (ht.below hb));rw[hh]at pF;obtain⟨g,n,cap,qU,cg,hg,hn,BH,hn1,hnl⟩:=h.reads hop;obtain⟨dh,_,gX⟩:=h.dh;have H:=ast h;obtain⟨q,hq⟩:=exq (m.at_);rw[←hq]at cg hn dh;have HQ:=ast hq;have zA:=ast hnl;have CZ:(q:Int)<(n:Int):=by omega
 have EJ:(0:Int)≤(q:Int):=by omega
 have YN:(q:Int)≤1000:=by omega
 clear h ht hop hq hnl;go_enter Tryz.func74,Tryz.ntmps74
 go_wp2_with fail
 go_quiet (fail)
 have hbq:Below w.heap.size w (w.drewN nq):=bdq;obtain⟨V,hV⟩:=exq (w.drewN nq:World);rw[←hV]at hbq;rw[←hV];have HV:=ast (pF.out V hbq);have sJ:=ast hbq;clear hV hbq pF qU cg dh;go_wp2_with fail
 refine HV.out.mono ?_;rintro e w1 ⟨rfl,hb1⟩;have hA1:=H.out.below (sJ.out.trans (hb1.mono sJ.out.size));obtain⟨dh,f38,hm1⟩:=hA1.at_.dh;rw[←HQ.out]at dh;have hS:=hA1.at_.setAt (q+1) (by have:=zA.out;omega);obtain⟨X,hX⟩:=exq (w1.setCell ⟨x.mb,38,none⟩ (.int .i64 ((q:Int)+1)):World);have hcast:(((q+1:Nat):Int))=(q:Int)+1:=by omega
 rw[hcast,←hX]at hS;have HN:=ast (hA1.trans hS);have HX:=ast hX;have zB:=hS.at_.dh.2.2;clear hb1 HV hA1 hS hX hcast;go_upto_region 7 with fail
 rw[←HX.out];clear dh f38;rw[HQ.out]at HN;have HI:=ast (Jh HN.out.at_ Dz.out);go_wp2_with fail
 refine HI.out.mono ?_;rintro e w2 ⟨rfl,rfl⟩;clear HI;go_wp2_with fail
 go_ret
 exact⟨rfl,_,HN.out⟩
theorem step_end(h:dE B w x code m u)(ht:lh w)(hop:code[m.at_]?=some (34:Int))(hh:cO 34 m.ak u.vars.length=4){l:List Int}{p:Nat}(hc:m.calls=l++[(p:Int)])(hp:p≤code.length):
  Calls Tryz.prog 74 #[.pointer (some ⟨x.mb,0,none⟩)] w fun e w'=>e=.returned (.int .i64 4)∧fK B w x code {m with calls:=l,at_:=p} u w':=by
 have Dz:=ast hc;clear hc;have pF:=ast (fun (w':World) (hb:Below w.heap.size w w')=>iG 34 (by omega) (h.below hb).at_ (ht.below hb));rw[hh]at pF;obtain⟨g,n,cap,qU,cg,hg,hn,BH,hn1,hnl⟩:=h.reads hop;obtain⟨dh,_,gX⟩:=h.dh;have H:=ast h;obtain⟨q,hq⟩:=exq (m.at_);rw[←hq]at cg hn dh;have HQ:=ast hq;have zA:=ast hnl;have CZ:(q:Int)<(n:Int):=by omega
 have EJ:(0:Int)≤(q:Int):=by omega
 have YN:(q:Int)≤1000:=by omega
 clear h ht hop hq hnl;go_enter Tryz.func74,Tryz.ntmps74
 go_wp2_with fail
 go_quiet (fail)
 have hbq:Below w.heap.size w (w.drewN nq):=bdq;obtain⟨V,hV⟩:=exq (w.drewN nq:World);rw[←hV]at hbq;rw[←hV];have HV:=ast (pF.out V hbq);have sJ:=ast hbq;clear hV hbq pF qU cg dh;go_wp2_with fail
 refine HV.out.mono ?_;rintro e w1 ⟨rfl,hb1⟩;have hA1:=H.out.below (sJ.out.trans (hb1.mono sJ.out.size));obtain⟨dh,f38,hm1⟩:=hA1.at_.dh;rw[←HQ.out]at dh;have hS:=hA1.at_.setAt (q+1) (by have:=zA.out;omega);obtain⟨X,hX⟩:=exq (w1.setCell ⟨x.mb,38,none⟩ (.int .i64 ((q:Int)+1)):World);have hcast:(((q+1:Nat):Int))=(q:Int)+1:=by omega
 rw[hcast,←hX]at hS;have HN:=ast (hA1.trans hS);have HX:=ast hX;have zB:=hS.at_.dh.2.2;clear hb1 HV hA1 hS hX hcast;go_upto_region 7 with fail
 rw[←HX.out];clear dh f38;rw[HQ.out]at HN;have HI:=ast (Md HN.out.at_ Dz.out hp);go_wp2_with fail
 refine HI.out.mono ?_;rintro e w2 ⟨rfl,y,hy⟩;have HZ:=ast (HN.out.trans hy);clear hy HI;go_wp2_with fail
 go_ret
 exact⟨rfl,_,HZ.out⟩
end
end
section
def fV(k:Nat)(v:Int)(m:MS)(u:MW):Int×MS×MW:=
 if k≤12 then
  match m.ak with
  |b :: a :: s=>(4,{m with ak:=nT k a b :: s,at_:=m.at_+1},u)
  |_=>(4,m,u)
 else if k≤15 then
  match m.ak with
  |a :: s=>(4,{m with ak:=rU k a :: s,at_:=m.at_+1},u)
  |_=>(4,m,u)
 else if k≤22 then(4,{m with ak:=nz k m.ak,at_:=m.at_+1},u)
 else if k=23 then
  match m.ak with
  |i :: s=>(4,{m with ak:=u.vars.getD i.toNat 0 :: s,at_:=m.at_+1},u)
  |_=>(4,m,u)
 else if k=24 then
  match m.ak with
  |i :: a :: s=>(4,{m with ak:=s,at_:=m.at_+1},{u with vars:=u.vars.set i.toNat a})
  |_=>(4,m,u)
 else if k=25 then(4,{m with ak:=u.ins.headD 0 :: m.ak,at_:=m.at_+1},{u with ins:=u.ins.tail})
 else if k=26 then
  match m.ak with
  |a :: s=>(4,{m with ak:=s,at_:=m.at_+1},{u with outs:=u.outs++[a]})
  |_=>(4,m,u)
 else if k=27 then(4,{m with ak:=(m.loops.getLastD (0,0)).1 :: m.ak,at_:=m.at_+1},u)
 else if k=28 then(4,{m with ak:=v :: m.ak,at_:=m.at_+2},u)
 else if k=29 then
  match m.ak with
  |a :: s=>(4,{m with ak:=s,at_:=if a=0 then v.toNat else m.at_+2},u)
  |_=>(4,m,u)
 else if k=30 then(4,{m with at_:=v.toNat},u)
 else if k=31 then
  match m.ak with
  |a :: b :: s=>(4,if a<b then{m with ak:=s,loops:=m.loops++[(a,b)],at_:=m.at_+2}else{m with ak:=s,at_:=v.toNat},u)
  |_=>(4,m,u)
 else if k=32 then
  (4,if(m.loops.getLastD (0,0)).1+1<(m.loops.getLastD (0,0)).2 then{m with loops:=m.loops.dropLast++[((m.loops.getLastD (0,0)).1+1,(m.loops.getLastD (0,0)).2)],at_:=v.toNat}else{m with loops:=m.loops.dropLast,at_:=m.at_+2},u)
 else if k=33 then(4,{m with calls:=m.calls++[((m.at_+2:Nat):Int)],at_:=v.toNat},u)
 else if m.calls=[]then(0,{m with at_:=m.at_+1},u)else(4,{m with calls:=m.calls.dropLast,at_:=(m.calls.getLastD 0).toNat},u)
def dW(code:List Int)(m:MS)(u:MW):Int×MS×MW:=
 if cO (code.getD m.at_ 0).toNat m.ak u.vars.length≠4 then(cO (code.getD m.at_ 0).toNat m.ak u.vars.length,m,u)else fV (code.getD m.at_ 0).toNat (code.getD (m.at_+1) 0) m u
structure FY (code:List Int) (m:MS) (u:MW):Prop where
 op:∃k:Nat,k<35∧code[m.at_]?=some (k:Int)
 cell:∀a∈m.ak,Cell a
 Xa:∀k:Nat,code[m.at_]?=some (k:Int)→28≤k→k≤33→∃v,code[m.at_+1]?=some v∧(k≠28→∃n:Nat,v=n∧n≤code.length)
 loop:∀k:Nat,code[m.at_]?=some (k:Int)→(k=27∨k=32)→∃l a b,m.loops=l++[(a,b)]∧ -9000000000≤a∧a≤9000000000
 call:∀(l:List Int) (p:Int),m.calls=l++[p]→∃n:Nat,p=n∧n≤code.length
 room:m.loops.length+1≤2000000∧m.calls.length+1≤2000000∧u.outs.length+1≤2000000
theorem OC{k:Nat}{s:List Int}{n:Nat}(h:cO k s n=4):(ai k).need≤s.length∧(s.length:Int)+(ai k).bu≤32∧((k=23∨k=24)→0≤s.headD 0∧s.headD 0<(n:Int)):=by
 unfold cO at h
 split at h
 ·exact absurd h (by decide)
 ·rename_i h1
  split at h
  ·exact absurd h (by decide)
  ·rename_i h2
   split at h
   ·exact absurd h (by decide)
   ·rename_i h3
    refine⟨by omega,by omega,fun hk=>?_⟩;exact Classical.byContradiction (fun hn=>h2 ⟨hk,hn⟩)
theorem vZ:∀k,k≤12→(ai k).need=2:=by decide +kernel
theorem Ji(k:Nat)(h1:13≤k)(h2:k≤15):(ai k).need=1:=by
 have hc:k=13∨k=14∨k=15:=by omega
 rcases hc with rfl|rfl|rfl<;>rfl
theorem pG{s:List Int}(h:(1:Int)≤s.length):∃a r,s=a :: r:=by
 cases s with
 |nil=>simp at h
 |cons a r=>exact⟨a,r,rfl⟩
theorem rX{s:List Int}(h:(2:Int)≤s.length):∃a b r,s=a :: b :: r:=by
 obtain⟨a,r,rfl⟩:=pG (s:=s) (by omega);obtain⟨b,r,rfl⟩:=pG (s:=r) (by simp at h;omega);exact⟨a,b,r,rfl⟩
theorem agE{s:List Int}(h:(3:Int)≤s.length):∃a b c r,s=a :: b :: c :: r:=by
 obtain⟨a,b,r,rfl⟩:=rX (s:=s) (by omega);obtain⟨c,r,rfl⟩:=pG (s:=r) (by simp at h;omega);exact⟨a,b,c,r,rfl⟩
section
variable{B:Nat}{w w':World}{x:RX}{code:List Int}{m m':MS}{u u':MW}
theorem QN(h:dE B w x code m u)(ht:lh w)(gG:FY code m u):
  Calls Tryz.prog 74 #[.pointer (some ⟨x.mb,0,none⟩)] w fun e w'=>e=.returned (.int .i64 (dW code m u).1)∧fK B w x code (dW code m u).2.1 (dW code m u).2.2 w':=by
 obtain⟨k,hk,hop⟩:=gG.op
 have hg:(code.getD m.at_ 0).toNat=k:=by
  have:code.getD m.at_ 0=(k:Int):=by rw[List.getD_eq_getElem?_getD,hop];rfl
  rw[this];simp
 unfold dW;rw[hg]
 by_cases hh:cO k m.ak u.vars.length=4
 ·rw[if_neg (fun h=>h hh)]
  obtain⟨hn,hm,ha⟩:=OC hh;have QO:=h.FV.2;obtain⟨v,hv⟩:=exq (code.getD (m.at_+1) 0);rw[←hv];have hvv:∀v',code[m.at_+1]?=some v'→v=v':=fun v' h'=>by rw[hv,List.getD_eq_getElem?_getD,h'];rfl
  unfold fV
  by_cases zh:k≤12
  ·rw[if_pos zh]
   rw[vZ k zh]at hn;obtain⟨b,a,s,hs⟩:=rX hn;rw[hs];exact VO zh h ht hop hh hs (gG.cell a (by rw[hs];simp)) (gG.cell b (by rw[hs];simp))
  ·rw[if_neg zh]
   by_cases Q9:k≤15
   ·rw[if_pos Q9]
    rw[Ji k (by omega) Q9]at hn;obtain⟨a,s,hs⟩:=pG hn;rw[hs];exact VP (by omega) Q9 h ht hop hh hs (gG.cell a (by rw[hs];simp))
   ·rw[if_neg Q9]
    by_cases h22:k≤22
    ·rw[if_pos h22]
     have hc:k=16∨k=17∨k=18∨k=19∨k=20∨k=21∨k=22:=by omega
     rcases hc with rfl|rfl|rfl|rfl|rfl|rfl|rfl
     ·obtain⟨c,s,hs⟩:=pG hn
      have e:nz 16 m.ak=c :: c :: s:=by rw[hs];match s with|[]=>rfl|[_]=>rfl|_ :: _ :: _=>rfl
      rw[e];exact lZ (by omega) (by omega) h ht hop hh (fun w1 h1=>(VJ h1 hs (by have:(ai 16).bu=1:=rfl;simp only;omega)).mono (fun e w2 ⟨h2,h3⟩=>⟨h2,_,h3⟩))
     ·obtain⟨c,s,hs⟩:=pG hn
      have e:nz 17 m.ak=s:=by rw[hs];match s with|[]=>rfl|[_]=>rfl|_ :: _ :: _=>rfl
      rw[e];exact lZ (by omega) (by omega) h ht hop hh (fun w1 h1=>(QE h1 hs (by simp only;omega)).mono (fun e w2 ⟨h2,h3⟩=>⟨h2,_,h3⟩))
     ·obtain⟨c,b,s,hs⟩:=rX hn
      have e:nz 18 m.ak=b :: c :: s:=by rw[hs];match s with|[]=>rfl|_ :: _=>rfl
      rw[e];exact lZ (by omega) (by omega) h ht hop hh (fun w1 h1=>(QF h1 hs (by simp only;omega)).mono (fun e w2 ⟨h2,h3⟩=>⟨h2,_,h3⟩))
     ·obtain⟨c,b,s,hs⟩:=rX hn
      have e:nz 19 m.ak=b :: c :: b :: s:=by rw[hs];match s with|[]=>rfl|_ :: _=>rfl
      rw[e];exact lZ (by omega) (by omega) h ht hop hh (fun w1 h1=>(QG h1 hs (by have:(ai 19).bu=1:=rfl;simp only;omega)).mono (fun e w2 ⟨h2,h3⟩=>⟨h2,_,h3⟩))
     ·obtain⟨c,b,a,s,hs⟩:=agE hn
      have e:nz 20 m.ak=a :: c :: b :: s:=by rw[hs];rfl
      rw[e];exact lZ (by omega) (by omega) h ht hop hh (fun w1 h1=>(VL h1 hs (by simp only;omega)).mono (fun e w2 ⟨h2,h3⟩=>⟨h2,_,h3⟩))
     ·obtain⟨c,b,s,hs⟩:=rX hn
      have e:nz 21 m.ak=c :: s:=by rw[hs];match s with|[]=>rfl|_ :: _=>rfl
      rw[e];exact lZ (by omega) (by omega) h ht hop hh (fun w1 h1=>(VK h1 hs (by simp only;omega)).mono (fun e w2 ⟨h2,h3⟩=>⟨h2,_,h3⟩))
     ·obtain⟨c,b,s,hs⟩:=rX hn
      have e:nz 22 m.ak=c :: b :: c :: s:=by rw[hs];match s with|[]=>rfl|_ :: _=>rfl
      rw[e];exact lZ (by omega) (by omega) h ht hop hh (fun w1 h1=>(QH h1 hs (by have:(ai 22).bu=1:=rfl;simp only;omega)).mono (fun e w2 ⟨h2,h3⟩=>⟨h2,_,h3⟩))
    ·rw[if_neg h22]
     have hc:k=23∨k=24∨k=25∨k=26∨k=27∨k=28∨k=29∨k=30∨k=31∨k=32∨k=33∨k=34:=by omega
     rcases hc with rfl|rfl|rfl|rfl|rfl|rfl|rfl|rfl|rfl|rfl|rfl|rfl
     ·obtain⟨a,s,hs⟩:=pG hn
      have ha':=ha (Or.inl rfl);rw[hs]at ha';simp only[List.headD_cons]at ha';obtain⟨i,rfl⟩:∃i:Nat,a=i:=⟨a.toNat,by omega⟩;rw[if_pos rfl,hs];exact rM (by omega) (by omega) h ht hop hh (fun w1 h1=>(L9 h1 hs (by omega)).mono (fun e w2 ⟨h2,h3⟩=>⟨h2,_,h3⟩))
     ·obtain⟨a,b,s,hs⟩:=rX hn
      have ha':=ha (Or.inr rfl);rw[hs]at ha';simp only[List.headD_cons]at ha';obtain⟨i,rfl⟩:∃i:Nat,a=i:=⟨a.toNat,by omega⟩;rw[if_neg (by decide),if_pos rfl,hs];exact rM (by omega) (by omega) h ht hop hh (fun w1 h1=>(Mc h1 hs (by omega)).mono (fun e w2 ⟨h2,h3⟩=>⟨h2,_,h3⟩))
     ·rw[if_neg (by decide),if_neg (by decide),if_pos rfl]
      exact rM (by omega) (by omega) h ht hop hh (fun w1 h1=>YI h1 (by have:(ai 25).bu=1:=rfl;simp only;omega))
     ·obtain⟨a,s,hs⟩:=pG hn
      rw[if_neg (by decide),if_neg (by decide),if_neg (by decide),if_pos rfl,hs];exact rM (by omega) (by omega) h ht hop hh (fun w1 h1=>VM h1 hs gG.room.2.2)
     ·obtain⟨l,a,b,hl,_,_⟩:=gG.loop 27 hop (Or.inl rfl)
      rw[if_neg (by decide),if_neg (by decide),if_neg (by decide),if_neg (by decide),if_pos rfl];have e:(m.loops.getLastD (0,0)).1=a:=by rw[hl];simp
      rw[e];exact MB h ht hop hh hl (by have:(ai 27).bu=1:=rfl;omega)
     ·obtain⟨v',hv',_⟩:=gG.Xa 28 hop (by omega) (by omega)
      rw[if_neg (by decide),if_neg (by decide),if_neg (by decide),if_neg (by decide),if_neg (by decide),if_pos rfl,hvv v' hv'];exact QL h ht hop hh hv' (by have:(ai 28).bu=1:=rfl;omega)
     ·obtain⟨v',hv',hn'⟩:=gG.Xa 29 hop (by omega) (by omega)
      obtain⟨n,rfl,hnl⟩:=hn' (by decide);obtain⟨a,s,hs⟩:=pG hn;rw[if_neg (by decide),if_neg (by decide),if_neg (by decide),if_neg (by decide),if_neg (by decide),if_neg (by decide),if_pos rfl,hvv _ hv',hs];exact og (by omega) (by omega) h ht hop hh (fun w1 h1=>YK h1 hv' hnl hs)
     ·obtain⟨v',hv',hn'⟩:=gG.Xa 30 hop (by omega) (by omega)
      obtain⟨n,rfl,hnl⟩:=hn' (by decide);rw[if_neg (by decide),if_neg (by decide),if_neg (by decide),if_neg (by decide),if_neg (by decide),if_neg (by decide),if_neg (by decide),if_pos rfl,hvv _ hv'];exact og (by omega) (by omega) h ht hop hh (fun w1 h1=>QI (m:={m with at_:=m.at_+1}) h1 hv' hnl)
     ·obtain⟨v',hv',hn'⟩:=gG.Xa 31 hop (by omega) (by omega)
      obtain⟨n,rfl,hnl⟩:=hn' (by decide);obtain⟨a,b,s,hs⟩:=rX hn;rw[if_neg (by decide),if_neg (by decide),if_neg (by decide),if_neg (by decide),if_neg (by decide),if_neg (by decide),if_neg (by decide),if_neg (by decide),if_pos rfl,hvv _ hv',hs];exact og (by omega) (by omega) h ht hop hh (fun w1 h1=>YL h1 hv' hnl hs gG.room.1)
     ·obtain⟨v',hv',hn'⟩:=gG.Xa 32 hop (by omega) (by omega)
      obtain⟨n,rfl,hnl⟩:=hn' (by decide);obtain⟨l,a,b,hl,h0,h1'⟩:=gG.loop 32 hop (Or.inr rfl);have e:m.loops.getLastD (0,0)=(a,b):=by rw[hl];simp
      have e2:m.loops.dropLast=l:=by rw[hl];simp
      rw[if_neg (by decide),if_neg (by decide),if_neg (by decide),if_neg (by decide),if_neg (by decide),if_neg (by decide),if_neg (by decide),if_neg (by decide),if_neg (by decide),if_pos rfl,hvv _ hv',e,e2];exact og (by omega) (by omega) h ht hop hh (fun w1 h1=>QJ h1 hv' hnl hl h0 h1')
     ·obtain⟨v',hv',hn'⟩:=gG.Xa 33 hop (by omega) (by omega)
      obtain⟨n,rfl,hnl⟩:=hn' (by decide);rw[if_neg (by decide),if_neg (by decide),if_neg (by decide),if_neg (by decide),if_neg (by decide),if_neg (by decide),if_neg (by decide),if_neg (by decide),if_neg (by decide),if_neg (by decide),if_pos rfl,hvv _ hv'];exact og (by omega) (by omega) h ht hop hh (fun w1 h1=>Me h1 hv' hnl gG.room.2.1)
     ·rw[if_neg (by decide),if_neg (by decide),if_neg (by decide),if_neg (by decide),if_neg (by decide),if_neg (by decide),if_neg (by decide),if_neg (by decide),if_neg (by decide),if_neg (by decide),if_neg (by decide)]
      by_cases hc:m.calls=[]
      ·rw[if_pos hc]
       exact QM h ht hop hh hc
      ·rw[if_neg hc]
       obtain⟨l,p,hlp⟩:∃l p,m.calls=l++[p]:=⟨m.calls.dropLast,m.calls.getLast hc,(List.dropLast_concat_getLast hc).symm⟩;obtain⟨n,rfl,hnl⟩:=gG.call l p hlp;have e:m.calls.getLastD 0=(n:Int):=by rw[hlp];simp
       have e2:m.calls.dropLast=l:=by rw[hlp];simp
       rw[e,e2];exact step_end h ht hop hh hlp hnl
 ·rw[if_pos hh]
  exact QK hk h ht hop rfl hh
end
end
section
def runM(code:List Int):Nat→Nat→MS→MW→Nat×Int×MS×MW
 |0,n,m,u=>(n,4,m,u)
 |f+1,n,m,u=>if(dW code m u).1=4 then runM code f (n+1) (dW code m u).2.1 (dW code m u).2.2 else(n+1,(dW code m u).1,(dW code m u).2.1,(dW code m u).2.2)
theorem RN.tab{B:Nat}{w w':World}{x y:RX}{code:List Int}{m m':MS}{u u':MW}(h:dE B w x code m u)(hn:RN B w x code m' u' w' y)(ht:lh w)(hB:3≤B):lh w':=ht.aA hn.aA (fun k hk=>Nat.le_trans hB (h.OB hk))
theorem VQ{B:Nat}{w:World}{x:RX}{code:List Int}{m:MS}{u:MW}(I:Nat→MS→MW→Prop)(fuel:Nat)(hf:fuel≤1000000)(hI:I 0 m u)(hstep:∀n m u,n<fuel→I n m u→FY code m u∧((dW code m u).1=4→I (n+1) (dW code m u).2.1 (dW code m u).2.2))
  (h:dE B w x code m u) (ht:lh w) (hB:3≤B):
  Calls Tryz.prog 49 #[.pointer (some ⟨x.mb,0,none⟩),.int .i64 fuel] w fun e w'=>e=.returned (.tuple #[.int .i64 (runM code fuel 0 m u).1,.int .i64 (runM code fuel 0 m u).2.1])∧fK B w x code (runM code fuel 0 m u).2.2.1 (runM code fuel 0 m u).2.2.2 w':=by
 obtain⟨R,hR⟩:=exq (runM code fuel 0 m u);rw[←hR];have HR:=ast hR;have H:=ast h;have HT:=ast ht;have HI:=ast hI;have HST:=ast hstep;have gX:=h.dh.2.2;clear hR h ht hI hstep;go_enter Tryz.func49,Tryz.ntmps49
 go_wp2_with fail
 go_loopw[4,5] (fun s e wr=>∃(n:Nat) (E:Int),n≤fuel∧s=.int .i64 n∧e=.int .i64 E∧Hid ((E=4∧∃m' u',R=runM code (fuel - n) n m' u'∧I n m' u'∧fK B w x code m' u' wr)∨(E≠4∧∃m' u',R=(n,E,m',u')∧fK B w x code m' u' wr))) (fun s e _=>if intOf e=4 then fuel+1 - (intOf s).toNat else 0)
 case atStart=>exact⟨0,4,Nat.zero_le _,rfl,rfl,ast (Or.inl ⟨rfl,m,u,HR.out,HI.out,x,H.out.below brq⟩)⟩
 case round=>
  clear HR HI;obtain⟨n,E,hn,rfl,rfl,HC⟩:=hrel
  by_cases hE:E=4
  ·subst hE
   obtain⟨_,m',u',hr,hi,y,hy⟩:=HC.out.resolve_right (fun h=>h.1 rfl)
   by_cases hlt:n<fuel
   ·have lD:(n:Int)<(fuel:Int):=by omega
    obtain⟨gG,hnx⟩:=HST.out n m' u' hlt hi;have hst:=QN hy.at_ (RN.tab H.out hy HT.out hB) gG;rw[hy.mb]at hst;rw[show fuel - n=(fuel - n - 1)+1 by omega,runM]at hr;have HS:=ast hst;have HRR:=ast hr;have HY:=ast hy;have mg:=ast hnx;obtain⟨E',hE'⟩:∃E',E'=(dW code m' u').1:=⟨_,rfl⟩;rw[←hE']at HS HRR mg;have HE:=ast hE';clear HC hr hi hy gG hnx hst hE';go_wp2_with fail
    refine HS.out.mono ?_;rintro e w2 ⟨rfl,z,hz⟩;have HZ:=ast (HY.out.trans hz);clear hz HS;go_wp2_with fail
    go_roundw
    case rel=>
     refine⟨n+1,E',by omega,by go_num,rfl,ast ?_⟩
     by_cases h4:E'=4
     ·refine Or.inl ⟨h4,_,_,?_,mg.out h4,z,HZ.out⟩
      rw[HRR.out,if_pos h4]
      congr 1
     ·refine Or.inr ⟨h4,_,_,?_,z,HZ.out⟩
      rw[HRR.out,if_neg h4]
    case measure=>
     simp only[intOf]
     by_cases h4:E'=4
     ·simp[h4];omega
     ·simp[h4];omega
   ·obtain rfl:n=fuel:=by omega
    rw[Nat.sub_self]at hr;have HRR:=ast (show R=(n,4,m',u')from hr);have HY:=ast hy;have lD:¬(n:Int)<(n:Int):=by omega
    clear HC hr hi hy;go_wp2_with fail
    exact bodyPost_ret (v:=.tuple #[.int .i64 n,.int .i64 4]) (by simp[results,Tryz.results49,go_sem]) rfl ⟨by rw[HRR.out],y,by rw[HRR.out];exact HY.out⟩
  ·obtain⟨_,m',u',hr,y,hy⟩:=HC.out.resolve_left (fun h=>hE h.1)
   have hEb:(E == 4)=false:=by simp[hE]
   have HRR:=ast hr;have HY:=ast hy;clear HC hr hy;go_wp2_with fail
   exact bodyPost_ret (v:=.tuple #[.int .i64 n,.int .i64 E]) (by simp[results,Tryz.results49,go_sem]) rfl ⟨by rw[HRR.out],y,by rw[HRR.out];exact HY.out⟩
end
section
instance (n:Int):Decidable (Cell n):=by unfold Cell;infer_instance
theorem Bo{P:Program}(t e:TypeId)(z:Value)(zc:Array Value)(size bytes:Nat)(hzc:z.cells=zc)(ht:P.underlying t=some (.slice e))(agF:(P.info? e).map (fun i=>(i.zero,i.size,i.bytes))=some (some z,size,bytes))(n:Nat)(hbytes:bytes*n≤281474976710656)(h63:n≤9223372036854775807)(w:World):
  (Instr.makeSlice t (.int .i64 (n:Int)) (.int .i64 (n:Int))).run P w=.ok (.slice (some ⟨w.heap.size,0,none⟩) n n) (w.alloc (.cells (madeCells zc (n*size)) e)):=by
 subst hzc;obtain⟨i,hi,hz,hs,hb⟩:=info_parts agF;have:=run_make (P:=P) w t e i z ht hi hz .i64 .i64 n n (by omega) (Int.le_refl _) (by rw[hb,←Int.natCast_mul];omega) (by omega);rw[hs]at this;simpa using this
def qp(l:List Int):Bool:=l.all fun n=>decide (Cell n)
theorem oh{B:Nat}{w:World}{iv:Value}{l:List Int}(h:bz B w iv l):∃a c,iv=.slice a l.length c∧∀(j:Nat) (y:Int),l[j]?=some y→∃pb po,a=some ⟨pb,po,none⟩∧pb<B∧w.cell? ⟨pb,po+j,none⟩=some (.int .i64 y):=by
 rcases h with ⟨rfl,a,c,rfl⟩|⟨pb,po,c,rfl,_,h3,h4⟩
 ·exact⟨a,c,rfl,fun j y h=>by simp at h⟩
 ·exact⟨_,c,rfl,fun j y h=>⟨pb,po,rfl,h3,h4 j y h⟩⟩
theorem sK{B:Nat}{w:World}{iv:Value}{l:List Int}(hi:bz B w iv l)(hB:B≤w.heap.size)(hl:l.length≤1100000):
  Calls Tryz.prog 56 #[iv] w fun e w'=>e=.returned (.bool (qp l))∧w'=w:=by
 obtain⟨R,hR⟩:=exq (qp l);rw[←hR];obtain⟨a,c,rfl,hv⟩:=oh hi
 ·have HR:=ast hR;have HV:=ast hv;have HL:=ast hl
  obtain⟨n,hn⟩:=exq (l.length);rw[←hn]at hl ⊢;have HN:=ast hn;clear hR hv hn hi;go_enter Tryz.func56,Tryz.ntmps56
  go_wp2_with fail
  go_loopw[7] (fun s wr=>∃k:Nat,k≤n∧s=.int .i64 k∧wr=w∧Hid (R=qp (l.drop k))) (fun s _=>n - (intOf s).toNat)
  case atStart=>exact⟨0,Nat.zero_le _,rfl,rfl,ast (by rw[HR.out];rfl)⟩
  case round=>
   clear HR;obtain⟨k,hk,rfl,rfl,HC⟩:=hrel
   by_cases hlt:k<n
   ·have lD:(k:Int)<(n:Int):=by omega
    obtain⟨y,hy⟩:∃y,l[k]?=some y:=⟨_,List.getElem?_eq_getElem (by rw[←HN.out];exact hlt)⟩;obtain⟨pb,po,rfl,hp,cy⟩:=HV.out k y hy;have hpb:pb<wr.heap.size:=by omega
    have hdr:R=(decide (Cell y)&&qp (l.drop (k+1))):=by
     have hyy:=(List.getElem?_eq_some_iff.1 hy);obtain⟨h1,h2⟩:=hyy;rw[HC.out,List.drop_eq_getElem_cons h1,h2];rfl
    have HD:=ast hdr;clear hdr hy HC
    by_cases h1:y< -2147483648
    ·have HR:Hid (R=false):=by show R=false;rw[HD.out,decide_eq_false (fun h=>by have:=h.1;omega)];rfl
     go_wp2_with fail
     rw[HR.out];go_ret
     exact⟨rfl,rfl⟩
    ·by_cases h2:2147483647<y
     ·have HR:Hid (R=false):=by show R=false;rw[HD.out,decide_eq_false (fun h=>by have:=h.2;omega)];rfl
      go_wp2_with fail
      rw[HR.out];go_ret
      exact⟨rfl,rfl⟩
     ·have HR:Hid (R=qp (l.drop (k+1))):=by show R=_;rw[HD.out,decide_eq_true ⟨by omega,by omega⟩,Bool.true_and]
      go_wp2_with fail
      go_roundw
      case rel=>exact⟨k+1,by omega,by go_num,by trivial,HR⟩
      case measure=>simp only[intOf];omega
   ·obtain rfl:k=n:=by omega
    have lD:¬(k:Int)<(k:Int):=by omega
    have HR:Hid (R=true):=by show R=true;rw[HC.out,List.drop_of_length_le (by rw[←HN.out];exact nrq)];rfl
    clear HC;go_wp2_with fail
    rw[HR.out];go_ret
    exact⟨rfl,rfl⟩
def nC(s i:List Int)(f:Int):Bool:=decide (s.length≤32)&&(qp s&&(qp i&&(decide (0≤f)&&decide (f≤1000000))))
theorem iH{B:Nat}{w:World}{iv:Value}{l:List Int}(h:bz B w iv l):∃a c,iv=.slice a l.length c:=by
 rcases h with ⟨rfl,a,c,rfl⟩|⟨pb,po,c,rfl,_⟩
 ·exact⟨a,c,rfl⟩
 ·exact⟨_,c,rfl⟩
theorem wo{B:Nat}{w:World}{sv iv:Value}{s i:List Int}(f:Int)(hs:bz B w sv s)(hi:bz B w iv i)(hB:B≤w.heap.size)(hl:s.length≤1100000)(hl2:i.length≤1100000):
  Calls Tryz.prog 44 #[sv,iv,.int .i64 f] w fun e w'=>e=.returned (.bool (nC s i f))∧w'=w:=by
 have H1:=ast (sK hs hB hl);have H2:=ast (sK hi hB hl2);obtain⟨R,hR⟩:=exq (nC s i f);rw[←hR];unfold nC at hR;obtain⟨a,c,rfl⟩:=iH hs;obtain⟨a2,c2,rfl⟩:=iH hi;clear hs hi;obtain⟨n,hn⟩:=exq (s.length);obtain⟨n2,hn2⟩:∃n,n=i.length:=⟨_,rfl⟩;rw[←hn]at H1 hR hl ⊢;rw[←hn2]at H2 hl2 ⊢;obtain⟨x,hx⟩:=exq (qp s);obtain⟨y,hy⟩:=exq (qp i);rw[←hx]at H1 hR;rw[←hy]at H2 hR;clear hx hy hn hn2
 by_cases LQ:n≤32
 ·have akW:(n:Int)≤32:=by omega
  rw[decide_eq_true LQ,Bool.true_and]at hR;have HR:=ast hR;clear hR;go_enter Tryz.func44,Tryz.ntmps44
  go_wp2_with fail
  refine H1.out.mono ?_;rintro e w' ⟨rfl,rfl⟩;clear H1
  cases x
  ·go_wp2_with fail
   rw[HR.out];go_ret
   exact⟨rfl,rfl⟩
  ·rw[Bool.true_and]at HR
   go_wp2_with fail
   refine H2.out.mono ?_;rintro e w' ⟨rfl,rfl⟩;clear H2
   cases y
   ·go_wp2_with fail
    rw[HR.out];go_ret
    exact⟨rfl,rfl⟩
   ·rw[Bool.true_and]at HR
    by_cases h0:0≤f
    ·have HR':Hid (R=decide (f≤1000000)):=by show R=_;rw[HR.out,decide_eq_true h0,Bool.true_and]
     go_wp2_with fail
     rw[HR'.out];go_ret
     exact⟨rfl,rfl⟩
    ·have h0':f<0:=by omega
     have HR':Hid (R=false):=by show R=false;rw[HR.out,decide_eq_false h0,Bool.false_and]
     go_wp2_with fail
     rw[HR'.out];go_ret
     exact⟨rfl,rfl⟩
 ·have akW:¬(n:Int)≤32:=by omega
  have HR':Hid (R=false):=by show R=false;rw[hR,decide_eq_false LQ,Bool.false_and]
  clear hR;go_enter Tryz.func44,Tryz.ntmps44
  go_wp2_with fail
  rw[HR'.out];go_ret
  exact⟨rfl,rfl⟩
theorem Ef(n:Nat):(madeCells #[.int .i64 0] (n*1)).toList=ints (List.replicate n 0):=by
 rw[Nat.mul_one,toList_madeCells_one];unfold ints;rw[List.map_replicate]
theorem Df{w:World}{iv:Value}(n:Nat)(hn:n≤1000)(hi:∃a l c,iv=.slice a l c):
  Calls Tryz.prog 45 #[.int .i64 n,iv] w fun e w'=>∃wp vg,e=.returned (.pointer (some ⟨wp,0,none⟩))∧w.heap.size≤wp∧vg=w.heap.size∧az w' wp #[.slice (some ⟨vg,0,none⟩) n n,.slice none 0 0,iv] 118∧bP w.heap.size w' (.slice (some ⟨vg,0,none⟩) n n) (List.replicate n 0)∧Below w.heap.size w w':=by
 obtain⟨a,l,c,rfl⟩:=hi;have hmk:=Bo (P:=Tryz.prog) 24 3 (.int .i64 0) #[.int .i64 0] 1 8 rfl Tryz.underlying24 Tryz.lY n (by omega) (by omega);obtain⟨vg,hvg⟩:=exq (w.heap.size);obtain⟨X,hX⟩:=exq (w.alloc (.cells (madeCells #[.int .i64 0] n) 3 (0,0)):World);have hbX:Below w.heap.size w X:=by rw[hX];exact brq.alloc nrq _
 have YG:X.ownsRow w.heap.size 3 1 (.slice (some ⟨vg,0,none⟩) n n) n (madeCells #[.int .i64 0] n).toList:=by
  rw[hX,hvg];exact World.ownsRow_lit w _ n nrq (by unfold maxLen;omega) (by rw[size_madeCells,Nat.mul_one])
 have A7:=ast hvg;have HX:=ast hX;have lV:=ast hbX;have BZ:=ast YG;clear hX hbX YG hvg;go_enter Tryz.func45,Tryz.ntmps45
 go_wp2_with fail
 rw[←HX.out];have ZY:w.heap.size+1=X.heap.size:=by rw[HX.out];exact(Array.size_push _).symm
 rw[ZY];refine bodyPost_ret (v:=.pointer (some ⟨X.heap.size,0,none⟩)) (by simp[results,Tryz.results45,go_sem]) rfl ⟨_,vg,rfl,lV.out.size,A7.out,by rw[A7.out];exact ay X _ _,?_,lV.out.alloc lV.out.size _⟩;have h:=BZ.out.alloc (.cells #[.slice (some ⟨vg,0,none⟩) n n,.slice none 0 0,.slice a l c] 118 (0,0));have e:=Ef n;rw[Nat.mul_one]at e;rw[e]at h;unfold bP;rw[List.length_replicate,←A7.out];rw[←A7.out]at h;exact h
theorem yU{P:Program}(w:World)(g o:Nat)(ty t:TypeId)(cells cur:Array Value)(hg:w.heap[g]?=some (.cells cur t (0,0)))(ho:o+cells.size≤cur.size)(hi:(P.info? ty).map (·.size)=some cells.size)(h1:cells.all (·.oneCell')=true):
  (Instr.storeAt ty (.pointer (some ⟨g,o,none⟩)) (.agg cells)).run P w=.ok () (w.setRow g (cur.toList.take o++cells.toList++cur.toList.drop (o+cells.size)).toArray):=by
 have:=run_storeCells_at P g o t cells.toList 0 cur w hg (by simpa using ho) (fun v hv=>(Array.all_eq_true_iff_forall_mem.1 h1) v (by simpa using hv))
 cases hq:P.info? ty with
 |none=>simp[hq]at hi
 |some i=>
  have hs:cells.size=i.size:=by simp[hq]at hi;omega
  simp only[Nat.add_zero,Array.length_toList]at this;simp[Instr.storeAt,Instr.sureAddr,storeVar,sizeOf,typeInfo,hq,Value.cells,hs,this]
def z33:Array Value:= #[.int .i64 0,.int .i64 0,.int .i64 0,.int .i64 0,.int .i64 0,.int .i64 0,.int .i64 0,.int .i64 0,.int .i64 0,.int .i64 0,.int .i64 0,.int .i64 0,.int .i64 0,.int .i64 0,.int .i64 0,.int .i64 0,.int .i64 0,.int .i64 0,.int .i64 0,.int .i64 0,.int .i64 0,.int .i64 0,.int .i64 0,.int .i64 0,.int .i64 0,.int .i64 0,.int .i64 0,.int .i64 0,.int .i64 0,.int .i64 0,.int .i64 0,.int .i64 0,.int .i64 0]
theorem wpList_store_row{P:Program}{ops:Array Oper}{rest:List Oper}{op:Oper}{a:Act}{w:World}{Q:Exit→Act→World→Prop}(hgd:op.guard=none)(ty:TypeId)(x y:Operand)(ho:op.op=.store ty x y)
  (g o:Nat) (t:TypeId) (cells cur:Array Value) (hx:a.eval x=.pointer (some ⟨g,o,none⟩)) (hy:a.eval y=.agg cells)
  (hg:w.heap[g]?=some (.cells cur t (0,0))) (hf:o+cells.size≤cur.size) (hi:(P.info? ty).map (·.size)=some cells.size) (h1:cells.all (·.oneCell')=true)
  (h:wpList P ops Q rest (a.put op.dst undef) (w.setRow g (cur.toList.take o++cells.toList++cur.toList.drop (o+cells.size)).toArray)):wpList P ops Q (op :: rest) a w:=
 wpList_plain hgd fun _ hK=>by
  unfold Oper.wp execOp;simp only[ho,hx,hy,Sem.run_bind,yU w g o ty t cells cur hg hf hi h1];exact hK _ _ h
theorem QP{P:Program}(w:World)(dT sT ty elem:TypeId)(a:Addr)(akX akY c:Nat)(hu:P.underlying dT=some (.slice elem))(hs:((P.info? elem).map (·.size)).isSome=true):
  (Builtin.copy_ #[dT,sT] ty #[.slice (some a) akX akY,.slice none 0 c]).run P w=.ok (goInt 0) w:=by
 cases hq:P.info? elem with
 |none=>simp[hq]at hs
 |some i=>simp[Builtin.copy_,run_underlying hu,Builtin.lenOf,Builtin.firstCells,sizeOf,typeInfo,hq,storeCells]
theorem VR(cs:Array Value):vY cs 0 []=cs:=by unfold vY;simp
theorem VS{B:Nat}{w:World}{iv:Value}{l:List Int}{mb:Nat}{cs:Array Value}(hi:bz B w iv l)(hl:l.length≤32)(hb:az w mb cs 116)(hs:cs.size=39):
  (Builtin.copy_ #[24,24] 3 #[.slice (some ⟨mb,0,none⟩) 32 32,iv]).run Tryz.prog w=.ok (.int .i64 l.length) (w.setRow mb (vY cs 0 l)):=by
 have hrow:∀(a:Addr) (c:Nat),(∀(j:Nat) (y:Int),l[j]?=some y→w.cell? (a.add j)=some (.int .i64 y))→(Builtin.copy_ #[24,24] 3 #[.slice (some ⟨mb,0,none⟩) 32 32,.slice (some a) l.length c]).run Tryz.prog w=.ok (.int .i64 l.length) (w.setRow mb (vY cs 0 l)):=fun a c h=>by
  have Qy:=run_copy_row (P:=Tryz.prog) w 24 24 3 3 mb 0 32 32 a l.length c cs 116 (l.map (Value.int .i64)) Tryz.underlying24 FW hb (by rw[List.length_map];exact(Nat.min_eq_left hl).symm) (fun j v hj=>by
   rw[List.getElem?_map]at hj;obtain⟨y,hy1,rfl⟩:=Option.map_eq_some_iff.1 hj;exact h j y hy1) (by rw[List.length_map];omega) (fun v hv=>by
   obtain⟨y,_,rfl⟩:=List.mem_map.1 hv;rfl)
  rw[List.length_map]at Qy;exact Qy
 rcases hi with ⟨rfl,a,c,rfl⟩|⟨pb,po,c,rfl,_,_,h4⟩
 ·cases a with
  |none=>
   rw[VR,setRow_self w mb cs 116 (0,0) hb];exact QP w _ _ _ 3 _ _ _ c Tryz.underlying24 (by rw[FW];rfl)
  |some a=>exact hrow a c (fun j y h=>by simp at h)
 ·exact hrow _ c (fun j y h=>by rw[Addr.add_mid];exact h4 j y h)
section
attribute [local go_sem] dK
theorem QQ{B:Nat}{w:World}{mb:Nat}{iv:Value}{cs:Array Value}(ys:List Int)(hb:az w mb cs 116)(h:MC cs [])(hy:ys.length≤32)(hi:bz B w iv ys)(hB:B≤mb):
  Calls Tryz.prog 106 #[.pointer (some ⟨mb,0,none⟩),iv] w fun e w'=>e=.returned (.tuple #[])∧∃cs',az w' mb cs' 116∧MC cs' (ys.reverse)∧Rest cs cs'∧aj (fun b=>b=mb) w w':=by
 have FV:w.cell? ⟨mb,32,none⟩=some (.int .i64 0):=hb.cell 32 _ h.dep;obtain⟨hp,hr⟩:=h.push ys (by simpa using hy);simp only[List.length_nil,List.append_nil]at hp hr;rw[show((0:Nat):Int)+(ys.length:Int)=(ys.length:Int) by omega]at hp hr;have hsz:=h.size;have hmw:=hb.lt;have Qz:=VS (w:=w.drew) (hi.below (w':=w.drew) (brq.drew)) hy hb hsz;obtain⟨a,c,rfl⟩:=iH hi;obtain⟨X,hX⟩:=exq (w.drew.setRow mb (vY cs 0 ys):World);rw[←hX]at Qz;have bU:az X mb (vY cs 0 ys) 116:=by rw[hX];exact setRow_heap w.drew mb _ _ _ _ hb
 have vF:aj (fun b=>b=mb) w X:=by rw[hX];exact(aj.refl (fun b=>b=mb) w).drew.trans ⟨rfl,rfl,rfl,by simp[World.setRow],fun k hk hne=>setRow_other w.drew mb k _ (fun e=>hne e)⟩
 have x32:X.cell? ⟨mb,32,none⟩=some (.int .i64 0):=bU.cell 32 _ (by
  rw[Bj cs 0 ys 32 (by omega),if_neg (by omega),if_neg (by omega)];exact h.dep)
 have k0:∀u:{w':World // w'=w.drew∨w'=X},u.val.cell? ⟨mb,32,none⟩=some (.int .i64 0):=fun u=>by
  rcases u.property with e|e
  ·rw[e];exact FV
  ·rw[e];exact x32
 have hne:Nonempty {w':World // w'=w.drew∨w'=X}:=⟨⟨X,Or.inr rfl⟩⟩;have HP:=ast (And.intro hp hr);have jX:=ast bU;have vz:=ast vF;have HCP:=ast Qz;have hfz:=bU.frozen 32;have akN:=bU.lt;clear Qz hX bU vF h hb hp hr FV hi;obtain⟨n,hn⟩:=exq (ys.length);rw[←hn]at hy HP HCP ⊢;clear hn;go_enter Tryz.func106,Tryz.ntmps106
 refine aH (C:=fJ fun w'=>w'=w.drew∨w'=X) 15 [13] ⟨w.drew,Or.inl rfl⟩ (by kernel_rfl) (by kernel_rfl) rfl ?_;rw[show List.range 15=[0,1,2,3,4,5,6,7,8,9,10,11,12,13,14]from rfl]
 repeat (refine aO rfl rfl (fun K hK=>?_);go_simp;refine hK _ ?_;clear hK K)
 have Qy:=HCP.out;refine eu rfl rfl (.int .i64 n) X (Or.inr rfl) (Or.inl (by go_simp)) ?_;clear Qy HCP
 repeat (refine aO rfl rfl (fun K hK=>?_);go_simp;refine hK _ ?_;clear hK K)
 refine df ?_;intro w' hw';rw[show w'=X from hw'];clear hw' w' k0 hne;simp only[List.drop_succ_cons,List.drop_zero];go_wp2_with fail
 go_end0
 exact⟨rfl,_,jX.out.set (o:=32) _,HP.out.1,HP.out.2,vz.out.setCell (p:=⟨mb,32,none⟩) rfl _⟩
end
structure agH (cs cs':Array Value) (ys:List Int) (st:Int):Prop where
 mc:MC cs' ys.reverse
 W9:cs'[33]?=some (.slice none 0 0)
 YH:cs'[34]?=some (.slice none 0 0)
 rJ:cs'[35]?=cs[35]?
 qU:cs'[36]?=cs[36]?
 c37:cs'[37]?=cs[37]?
 dh:cs'[38]?=some (.int .i64 st)
theorem Jj{cs:Array Value}(hs:cs.size=39)(at_:Value):
  let cs':=((((cs.toList.take 0++z33.toList++cs.toList.drop (0+z33.size)).toArray.setIfInBounds 33 (.slice none 0 0)).setIfInBounds 34 (.slice none 0 0)).setIfInBounds 38 at_)
  MC cs' []∧cs'[33]?=some (.slice none 0 0)∧cs'[34]?=some (.slice none 0 0)∧cs'[35]?=cs[35]?∧cs'[36]?=cs[36]?∧cs'[37]?=cs[37]?∧cs'[38]?=some at_:=by
 obtain⟨row,hrow⟩:=exq ((cs.toList.take 0++z33.toList++cs.toList.drop (0+z33.size)).toArray);have BN:z33.size=33:=rfl;have hsz:row.size=39:=by rw[hrow];simp[BN,hs]
 have hlo:∀i,i<33→row[i]?=some (.int .i64 0):=fun i hi=>by
  rw[hrow,List.getElem?_toArray,List.take_zero,List.nil_append,List.getElem?_append_left (by rw[Array.length_toList,BN];exact hi)];rw[show z33.toList=List.replicate 33 (.int .i64 0)from rfl,List.getElem?_replicate,if_pos hi]
 have hhi:∀i,33≤i→row[i]?=cs[i]?:=fun i hi=>by
  rw[hrow,List.getElem?_toArray,List.take_zero,List.nil_append,List.getElem?_append_right (by rw[Array.length_toList,BN];exact hi),Array.length_toList,BN,List.getElem?_drop,Array.getElem?_toList]
  congr 1;omega
 rw[←hrow];clear hrow;intro cs'
 have hg:∀i,i≠33→i≠34→i≠38→cs'[i]?=row[i]?:=fun i h1 h2 h3=>by
  show((((row.setIfInBounds 33 _).setIfInBounds 34 _).setIfInBounds 38 _))[i]?=_
  rw[Array.getElem?_setIfInBounds_ne (by omega),Array.getElem?_setIfInBounds_ne (by omega),Array.getElem?_setIfInBounds_ne (by omega)]
 refine⟨⟨by simp[cs',hsz],trivial,?_,by simp,fun i hi=>⟨0,?_⟩⟩,?_,?_,?_,?_,?_,?_⟩
 ·rw[hg 32 (by omega) (by omega) (by omega)];exact hlo 32 (by omega)
 ·rw[hg i (by omega) (by omega) (by omega)];exact hlo i (by omega)
 ·show((((row.setIfInBounds 33 _).setIfInBounds 34 _).setIfInBounds 38 _))[33]?=_
  rw[Array.getElem?_setIfInBounds_ne (by omega),Array.getElem?_setIfInBounds_ne (by omega),Array.getElem?_setIfInBounds_self_of_lt (by omega)]
 ·show((((row.setIfInBounds 33 _).setIfInBounds 34 _).setIfInBounds 38 _))[34]?=_
  rw[Array.getElem?_setIfInBounds_ne (by omega),Array.getElem?_setIfInBounds_self_of_lt (by simp;omega)]
 ·rw[hg 35 (by omega) (by omega) (by omega)];exact hhi 35 (by omega)
 ·rw[hg 36 (by omega) (by omega) (by omega)];exact hhi 36 (by omega)
 ·rw[hg 37 (by omega) (by omega) (by omega)];exact hhi 37 (by omega)
 ·show((((row.setIfInBounds 33 _).setIfInBounds 34 _).setIfInBounds 38 _))[38]?=_
  rw[Array.getElem?_setIfInBounds_self_of_lt (by simp;omega)]
theorem MF{B:Nat}{w:World}{mb:Nat}{iv:Value}{cs:Array Value}{st:Int}(ys:List Int)(hb:az w mb cs 116)(hs:cs.size=39)(h37:cs[37]?=some (.int .i64 st))(hy:ys.length≤32)(hi:bz B w iv ys)(hB:B≤mb):
  Calls Tryz.prog 73 #[.pointer (some ⟨mb,0,none⟩),iv] w fun e w'=>e=.returned (.tuple #[])∧∃cs',az w' mb cs' 116∧agH cs cs' ys st∧aj (fun b=>b=mb) w w':=by
 have gX:=hb.lt;have ZF:=Jj hs (.int .i64 st);obtain⟨row,hrow⟩:=exq ((cs.toList.take 0++z33.toList++cs.toList.drop (0+z33.size)).toArray);rw[←hrow]at ZF;obtain⟨X,hX⟩:=exq (w.setRow mb row:World);have bU:az X mb row 116:=by rw[hX];exact setRow_heap w mb _ _ _ _ hb
 have vF:aj (fun b=>b=mb) w X:=by rw[hX];exact⟨rfl,rfl,rfl,by simp[World.setRow],fun k hk hne=>setRow_other w mb k _ (fun e=>hne e)⟩
 have hrs:row.size=39:=by have:=ZF.1.size;simpa using this
 obtain⟨v33,BN⟩:∃v,row[33]?=some v:=⟨_,Array.getElem?_eq_getElem (by omega)⟩;obtain⟨v34,RD⟩:∃v,row[34]?=some v:=⟨_,Array.getElem?_eq_getElem (by omega)⟩;obtain⟨v38,h38⟩:∃v,row[38]?=some v:=⟨_,Array.getElem?_eq_getElem (by omega)⟩
 have r37:row[37]?=some (.int .i64 st):=by
  have:=ZF.2.2.2.2.2.1;rw[Array.getElem?_setIfInBounds_ne (by omega),Array.getElem?_setIfInBounds_ne (by omega),Array.getElem?_setIfInBounds_ne (by omega)]at this;rw[this,h37]
 have x33:=bU.cell 33 _ BN;have x34:=bU.cell 34 _ RD;have x37:=bU.cell 37 _ r37;have x38:=bU.cell 38 _ h38;have f33:=bU.frozen 33;have f34:=bU.frozen 34;have f38:=bU.frozen 38;have Ol:=bU.lt;have Lp:=((bU.set (o:=33) (.slice none 0 0)).set (o:=34) (.slice none 0 0)).set (o:=38) (.int .i64 st);have Ci:=((vF.setCell (p:=⟨mb,33,none⟩) rfl (.slice none 0 0)).setCell (p:=⟨mb,34,none⟩) rfl (.slice none 0 0)).setCell (p:=⟨mb,38,none⟩) rfl (.int .i64 st);obtain⟨Y,hY⟩:=exq (((X.setCell ⟨mb,33,none⟩ (.slice none 0 0)).setCell ⟨mb,34,none⟩ (.slice none 0 0)).setCell ⟨mb,38,none⟩ (.int .i64 st):World);rw[←hY]at Lp Ci;have HP:=ast (QQ ys Lp ZF.1 hy (hi.below (Ci.toBelow (Nat.le_trans hB (Nat.le_of_lt gX)) (fun b hb e=>by omega))) hB);have HBC:=ast ZF;have HY:=ast hY;have EO:=ast Ci;have HX:=ast hX;have HB:=ast hb;have HS:=ast hs;obtain⟨a,c,rfl⟩:=iH hi;have zy:=ast hrow;clear hY Lp Ci ZF hX bU vF hb BN RD h38 r37 h37 hi hs hrow;generalize ys.length=n at *;go_enter Tryz.func73,Tryz.ntmps73
 go_upto_region 0 with fail
 refine wp_region_list ?_
 iterate 8 (refine wpList_plain rfl (fun K hK=>?_);go_simp;refine hK _ _ ?_;clear hK K)
 refine wpList_store_row rfl _ _ _ rfl mb 0 116 z33 cs rfl rfl HB.out (by rw[HS.out];decide) (by kernel_rfl) (by decide +kernel) ?_;rw[←zy.out,←HX.out];go_wp2_with fail
 rw[←HY.out];clear x33 x34 x37 x38 f33 f34 f38;refine HP.out.mono ?_;rintro e w' ⟨rfl,cs',xU,wL,hr',hc'⟩;obtain⟨_,b1,b2,b3,b4,b5,b6⟩:=HBC.out;have HF:Hid (az w' mb cs' 116∧agH cs cs' ys st∧aj (fun b=>b=mb) w w'):=ast ⟨xU,⟨wL,(hr' 33 (by omega)).trans b1,(hr' 34 (by omega)).trans b2,(hr' 35 (by omega)).trans b3,(hr' 36 (by omega)).trans b4,(hr' 37 (by omega)).trans b5,(hr' 38 (by omega)).trans b6⟩,EO.out.trans hc'⟩;clear xU wL hr' hc' b1 b2 b3 b4 b5 b6 HP HBC HY EO HX HB HS zy;go_wp2_with fail
 go_end0
 exact⟨rfl,cs',HF.out⟩
theorem acb(B:Nat)(w:World)(t:TypeId)(k:Nat):w.ownsRow B t k (.slice none 0 0) 0 []:=⟨by simp,Or.inl ⟨rfl,rfl⟩⟩
theorem VT{B:Nat}{w:World}{rv iv vv jv:Value}{st wp:Nat}{code vars ins:List Int}(ys:List Int)(hc:xN B w rv code)(hst:st≤code.length)(hcl:code.length≤1000)(hy:ys.length≤32)(hi:bz B w iv ys)(hB:B≤w.heap.size)
  (hwb:az w wp #[vv,.slice none 0 0,jv] 118) (YO:B≤wp) (hv:bP B w vv vars) (hj:bz B w jv ins) (EY:vars.length≤1000) (hjl:ins.length≤2000000):
  Calls Tryz.prog 47 #[rv,.int .i64 st,iv,.pointer (some ⟨wp,0,none⟩)] w fun e w'=>∃mb,e=.returned (.pointer (some ⟨mb,0,none⟩))∧w.heap.size≤mb∧dE B w' ⟨mb,wp,rv,st,.slice none 0 0,.slice none 0 0,vv,.slice none 0 0,jv⟩ code ⟨ys.reverse,[],[],st⟩ ⟨vars,[],ins⟩∧Below w.heap.size w w':=by
 obtain⟨mb,gX⟩:=exq (w.heap.size);obtain⟨rg,rn,rc,rfl⟩:∃g n c,rv=.slice (some ⟨g,0,none⟩) n c:=by obtain⟨g,c,h,_⟩:=hc;exact⟨_,_,_,h⟩
 obtain⟨a,c,WW⟩:=iH hi;obtain⟨cs,hcs⟩:=exq (#[.int .i64 0,.int .i64 0,.int .i64 0,.int .i64 0,.int .i64 0,.int .i64 0,.int .i64 0,.int .i64 0,.int .i64 0,.int .i64 0,.int .i64 0,.int .i64 0,.int .i64 0,.int .i64 0,.int .i64 0,.int .i64 0,.int .i64 0,.int .i64 0,.int .i64 0,.int .i64 0,.int .i64 0,.int .i64 0,.int .i64 0,.int .i64 0,.int .i64 0,.int .i64 0,.int .i64 0,.int .i64 0,.int .i64 0,.int .i64 0,.int .i64 0,.int .i64 0,.int .i64 0,.slice none 0 0,.slice none 0 0,.pointer (some ⟨wp,0,none⟩),.slice (some ⟨rg,0,none⟩) rn rc,.int .i64 st,.int .i64 0]:Array Value);obtain⟨W,hW⟩:=exq (w.alloc (.cells #[.int .i64 0,.int .i64 0,.int .i64 0,.int .i64 0,.int .i64 0,.int .i64 0,.int .i64 0,.int .i64 0,.int .i64 0,.int .i64 0,.int .i64 0,.int .i64 0,.int .i64 0,.int .i64 0,.int .i64 0,.int .i64 0,.int .i64 0,.int .i64 0,.int .i64 0,.int .i64 0,.int .i64 0,.int .i64 0,.int .i64 0,.int .i64 0,.int .i64 0,.int .i64 0,.int .i64 0,.int .i64 0,.int .i64 0,.int .i64 0,.int .i64 0,.int .i64 0,.int .i64 0,.slice none 0 0,.slice none 0 0,.pointer (some ⟨wp,0,none⟩),.slice (some ⟨rg,0,none⟩) rn rc,.int .i64 st,.int .i64 0] 116 (0,0)):World);have hkW:az W mb cs 116:=by rw[hW,hcs,gX];exact ay w _ _
 have hbW:Below w.heap.size w W:=by rw[hW];exact brq.alloc nrq _
 have h35:cs[35]?=some (.pointer (some ⟨wp,0,none⟩)):=by rw[hcs];rfl
 have h36:cs[36]?=some (.slice (some ⟨rg,0,none⟩) rn rc):=by rw[hcs];rfl
 have h37:cs[37]?=some (.int .i64 st):=by rw[hcs];rfl
 have H:=ast (MF (B:=B) (st:=(st:Int)) ys hkW (by rw[hcs];rfl) h37 hy (hi.below (hbW.mono hB)) (by omega));have HW:=ast hW;have HKW:=ast hkW;have dX:=ast hbW;have HCS:=ast (And.intro h35 (And.intro h36 h37));clear hcs hW hkW hbW h35 h36 h37;have hmm:=HKW.out.lt;have Gu:=ast gX;have HC:=ast hc;have HI:=ast hi;have HIV:=ast WW;have Z9:=ast hwb;have HV:=ast hv;have HJ:=ast hj;subst WW;clear gX hc hi hv hj hwb;generalize hn:ys.length=n at *;go_enter Tryz.func47,Tryz.ntmps47
 go_upto_region 2 with fail
 rw[←HW.out,←Gu.out];go_wp2_with fail
 refine H.out.mono ?_;rintro e w' ⟨rfl,cs',xU,hb',hc'⟩;have HF:=ast (And.intro xU (And.intro hb' hc'));clear H xU hb' hc' HW;go_wp2_with fail
 refine bodyPost_ret (v:=.pointer (some ⟨mb,0,none⟩)) (by simp[results,Tryz.results47,go_sem]) rfl ⟨mb,rfl,Nat.le_of_eq Gu.out.symm,?_⟩;obtain⟨xU,hb',hc'⟩:=HF.out;obtain⟨q35,q36,q37⟩:=HCS.out;have hBB:Below w.heap.size w w':=dX.out.trans (hc'.toBelow dX.out.size (fun b hb e=>by have:=Gu.out;omega));have hB2:=hBB.mono hB;have hwl:=Z9.out.lt;have RH:∀{v:Value} {l:List Int},bP B w v l→bP B w' v l:=fun h=>af h (aj.au hBB) (fun _ _ e=>e)
 exact⟨⟨⟨cs',xU,hb'.mc,hb'.W9,hb'.YH,hb'.rJ.trans q35,hb'.qU.trans q36,hb'.c37.trans q37,hb'.dh⟩,acb _ _ _ _,acb _ _ _ _,Z9.out.sub hBB hwl,RH HV.out,acb _ _ _ _,HJ.out.below hB2,HC.out.below hB2,fun k hk=>by simp[Value.ownBlock]at hk,fun k hk h=>by simp[Value.ownBlock]at h,by have:=Gu.out;show B≤mb;omega,YO,by simp,by simp,by simp,hjl,EY,hcl,hst⟩,hBB⟩
end
end Go.Proofs.YtcphhbofjkenaaaGreatDoor
