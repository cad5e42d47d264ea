import Derived.Test.YtcphhbofjkenaaaGreatDoorM35
namespace Go.Proofs.YtcphhbofjkenaaaGreatDoor
open Go Go.RowKit
set_option linter.unusedVariables false
set_option linter.unusedSimpArgs false
set_option maxRecDepth 100000
set_option maxHeartbeats 16000000
section
attribute [local go_sem] dK
section
variable{B:Nat}{w w':World}{sb:Nat}{F:Nat→Prop}{x:DX}{m m':DM}{u u':MW}
theorem MP{a b:Int}{s:List Int}(h:gI B w sb F x m u)(hs:m.ak=b :: a :: s)(ha:Cell a)(hb:Cell b)(hov:m.ak.length+1≤32):
  Calls Tryz.prog 199 #[.pointer (some ⟨x.mb,0,none⟩),.string ⟨#[111,118,101,114]⟩,.pointer (some ⟨x.wp,0,none⟩)] w fun r w'=>r=.returned (.tuple #[])∧di B w sb F x {m with ak:=(iW 19 (aG m.fs) m.ak u).1} (iW 19 (aG m.fs) m.ak u).2 w':=by
 have hop:iW 19 (aG m.fs) m.ak u=(w32 a :: w32 b :: w32 a :: s,u):=by rw[hs,fA ha,fA hb];rcases s with _|⟨_,_|_⟩<;>simp[iW,fV,nz]
 rw[hop];obtain⟨z0,z1,z2,z3,z4,hlt⟩:=h.cells;obtain⟨ad,cap,dI,_,_⟩:=ag h.eP;rw[dI,List.length_reverse]at z2;have hl:=h.len.2.1;have hlen:m.ak.length=s.length+2:=by rw[hs];rfl
 have hth:ax ⟨#[111,118,101,114]⟩=(2,3,true):=by decide +kernel
 have HT:=ast (fun w=>bF ⟨#[111,118,101,114]⟩ w);rw[hth]at HT;have H:=ast h;have HS:=ast hs;have jc:=ast hlen;obtain⟨k,hk⟩:=exq (m.ak.length);rw[←hk]at z2 hl hlen hov;have hk2:¬(k:Int)<2:=by omega
 have HK:=ast hk;obtain⟨a1,a2⟩:=ha;obtain⟨b1,b2⟩:=hb;clear h hs dI z0 z1 z3 z4 hth hlen hk hop;go_enter Tryz.func199,Tryz.ntmps199
 go_wp2_with fail
 refine(HT.out _).mono ?_;rintro e w1 ⟨rfl,rfl⟩;clear HT;go_wp2_with fail
 go_quiet (fail)
 have hbq:Below w1.heap.size w1 (w1.drewN nq):=bdq;obtain⟨V,hV⟩:=exq (w1.drewN nq:World);rw[←hV]at hbq;have jA:=ast (H.out.below hbq);clear hbq z2;go_wp2_with fail
 rw[←hV];clear hV;refine(aQ 1 jA.out.at_ (show m.ak[1]?=some a by rw[HS.out];rfl) (by omega)).mono ?_;rintro e v1 ⟨rfl,hb1⟩;have gY:=ast (jA.out.trans (jA.out.at_.below hb1));clear hb1 jA;go_wp2_with fail
 refine(aQ 0 gY.out.at_ (show m.ak[0]?=some b by rw[HS.out];rfl) (by omega)).mono ?_;rintro e v2 ⟨rfl,hb2⟩;have dZ:=ast (gY.out.trans (gY.out.at_.below hb2));clear hb2 gY;go_wp2_with fail
 refine(aQ 1 dZ.out.at_ (show m.ak[1]?=some a by rw[HS.out];rfl) (by omega)).mono ?_;rintro e v3 ⟨rfl,hb3⟩;have jo:=ast (dZ.out.trans (dZ.out.at_.below hb3));clear hb3 dZ;go_wp2_with fail
 have HB:=ast (jo.out.trans (jo.out.at_.below (show Below v3.heap.size v3 (v3.alloc (.cells #[.int .i64 (a),.int .i64 (b),.int .i64 (a)] 3 (0,0)))from brq.alloc nrq _)));have jl:Hid (bz (v3.alloc (.cells #[.int .i64 (a),.int .i64 (b),.int .i64 (a)] 3 (0,0))).heap.size (v3.alloc (.cells #[.int .i64 (a),.int .i64 (b),.int .i64 (a)] 3 (0,0))) (.slice (some ⟨v3.heap.size,0,none⟩) 3 3) [a,b,a]):=ast (fH v3 [a,b,a]);clear jo;refine(aX 2 [a,b,a] HB.out.at_ (by have:=jc.out;omega) (by have:=HK.out;have:=jc.out;simp only[List.length_cons,List.length_nil];omega) jl.out (fun y hy=>by simp only[List.mem_cons,List.not_mem_nil,or_false]at hy;rcases hy with rfl|rfl|rfl<;>omega)).mono ?_;rintro e w6 ⟨rfl,y,hy⟩;have HF:=ast (HB.out.trans hy);clear hy HB jl;go_wp2_with fail
 go_end0
 refine⟨rfl,y,?_⟩;have:=HF.out;rw[HS.out]at this;exact this
theorem MQ{a b c:Int}{s:List Int}(h:gI B w sb F x m u)(hs:m.ak=c :: b :: a :: s)(ha:Cell a)(hb:Cell b)(hc:Cell c):
  Calls Tryz.prog 199 #[.pointer (some ⟨x.mb,0,none⟩),.string ⟨#[114,111,116]⟩,.pointer (some ⟨x.wp,0,none⟩)] w fun r w'=>r=.returned (.tuple #[])∧di B w sb F x {m with ak:=(iW 20 (aG m.fs) m.ak u).1} (iW 20 (aG m.fs) m.ak u).2 w':=by
 have hop:iW 20 (aG m.fs) m.ak u=(w32 a :: w32 c :: w32 b :: s,u):=by rw[hs,fA ha,fA hb,fA hc];rcases s with _|⟨_,_|_⟩<;>simp[iW,fV,nz]
 rw[hop];obtain⟨z0,z1,z2,z3,z4,hlt⟩:=h.cells;obtain⟨ad,cap,dI,_,_⟩:=ag h.eP;rw[dI,List.length_reverse]at z2;have hl:=h.len.2.1;have hlen:m.ak.length=s.length+3:=by rw[hs];rfl
 have hth:ax ⟨#[114,111,116]⟩=(3,3,true):=by decide +kernel
 have HT:=ast (fun w=>bF ⟨#[114,111,116]⟩ w);rw[hth]at HT;have H:=ast h;have HS:=ast hs;have jc:=ast hlen;obtain⟨k,hk⟩:=exq (m.ak.length);rw[←hk]at z2 hl hlen;have hk2:¬(k:Int)<3:=by omega
 have HK:=ast hk;obtain⟨a1,a2⟩:=ha;obtain⟨b1,b2⟩:=hb;obtain⟨c1,c2⟩:=hc;clear h hs dI z0 z1 z3 z4 hth hlen hk hop;go_enter Tryz.func199,Tryz.ntmps199
 go_wp2_with fail
 refine(HT.out _).mono ?_;rintro e w1 ⟨rfl,rfl⟩;clear HT;go_wp2_with fail
 go_quiet (fail)
 have hbq:Below w1.heap.size w1 (w1.drewN nq):=bdq;obtain⟨V,hV⟩:=exq (w1.drewN nq:World);rw[←hV]at hbq;have jA:=ast (H.out.below hbq);clear hbq z2;go_wp2_with fail
 rw[←hV];clear hV;refine(aQ 1 jA.out.at_ (show m.ak[1]?=some b by rw[HS.out];rfl) (by omega)).mono ?_;rintro e v1 ⟨rfl,hb1⟩;have gY:=ast (jA.out.trans (jA.out.at_.below hb1));clear hb1 jA;go_wp2_with fail
 refine(aQ 0 gY.out.at_ (show m.ak[0]?=some c by rw[HS.out];rfl) (by omega)).mono ?_;rintro e v2 ⟨rfl,hb2⟩;have dZ:=ast (gY.out.trans (gY.out.at_.below hb2));clear hb2 gY;go_wp2_with fail
 refine(aQ 2 dZ.out.at_ (show m.ak[2]?=some a by rw[HS.out];rfl) (by omega)).mono ?_;rintro e v3 ⟨rfl,hb3⟩;have jo:=ast (dZ.out.trans (dZ.out.at_.below hb3));clear hb3 dZ;go_wp2_with fail
 have HB:=ast (jo.out.trans (jo.out.at_.below (show Below v3.heap.size v3 (v3.alloc (.cells #[.int .i64 (b),.int .i64 (c),.int .i64 (a)] 3 (0,0)))from brq.alloc nrq _)));have jl:Hid (bz (v3.alloc (.cells #[.int .i64 (b),.int .i64 (c),.int .i64 (a)] 3 (0,0))).heap.size (v3.alloc (.cells #[.int .i64 (b),.int .i64 (c),.int .i64 (a)] 3 (0,0))) (.slice (some ⟨v3.heap.size,0,none⟩) 3 3) [b,c,a]):=ast (fH v3 [b,c,a]);clear jo;refine(aX 3 [b,c,a] HB.out.at_ (by have:=jc.out;omega) (by have:=HK.out;have:=jc.out;simp only[List.length_cons,List.length_nil];omega) jl.out (fun y hy=>by simp only[List.mem_cons,List.not_mem_nil,or_false]at hy;rcases hy with rfl|rfl|rfl<;>omega)).mono ?_;rintro e w6 ⟨rfl,y,hy⟩;have HF:=ast (HB.out.trans hy);clear hy HB jl;go_wp2_with fail
 go_end0
 refine⟨rfl,y,?_⟩;have:=HF.out;rw[HS.out]at this;exact this
theorem MV{a b:Int}{s:List Int}(h:gI B w sb F x m u)(hs:m.ak=b :: a :: s)(ha:Cell a)(hb:Cell b)(hov:m.ak.length+1≤32):
  Calls Tryz.prog 199 #[.pointer (some ⟨x.mb,0,none⟩),.string ⟨#[116,117,99,107]⟩,.pointer (some ⟨x.wp,0,none⟩)] w fun r w'=>r=.returned (.tuple #[])∧di B w sb F x {m with ak:=(iW 22 (aG m.fs) m.ak u).1} (iW 22 (aG m.fs) m.ak u).2 w':=by
 have hop:iW 22 (aG m.fs) m.ak u=(w32 b :: w32 a :: w32 b :: s,u):=by rw[hs,fA ha,fA hb];rcases s with _|⟨_,_|_⟩<;>simp[iW,fV,nz]
 rw[hop];obtain⟨z0,z1,z2,z3,z4,hlt⟩:=h.cells;obtain⟨ad,cap,dI,_,_⟩:=ag h.eP;rw[dI,List.length_reverse]at z2;have hl:=h.len.2.1;have hlen:m.ak.length=s.length+2:=by rw[hs];rfl
 have hth:ax ⟨#[116,117,99,107]⟩=(2,3,true):=by decide +kernel
 have HT:=ast (fun w=>bF ⟨#[116,117,99,107]⟩ w);rw[hth]at HT;have H:=ast h;have HS:=ast hs;have jc:=ast hlen;obtain⟨k,hk⟩:=exq (m.ak.length);rw[←hk]at z2 hl hlen hov;have hk2:¬(k:Int)<2:=by omega
 have HK:=ast hk;obtain⟨a1,a2⟩:=ha;obtain⟨b1,b2⟩:=hb;clear h hs dI z0 z1 z3 z4 hth hlen hk hop;go_enter Tryz.func199,Tryz.ntmps199
 go_wp2_with fail
 refine(HT.out _).mono ?_;rintro e w1 ⟨rfl,rfl⟩;clear HT;go_wp2_with fail
 go_quiet (fail)
 have hbq:Below w1.heap.size w1 (w1.drewN nq):=bdq;obtain⟨V,hV⟩:=exq (w1.drewN nq:World);rw[←hV]at hbq;have jA:=ast (H.out.below hbq);clear hbq z2;go_wp2_with fail
 rw[←hV];clear hV;refine(aQ 0 jA.out.at_ (show m.ak[0]?=some b by rw[HS.out];rfl) (by omega)).mono ?_;rintro e v1 ⟨rfl,hb1⟩;have gY:=ast (jA.out.trans (jA.out.at_.below hb1));clear hb1 jA;go_wp2_with fail
 refine(aQ 1 gY.out.at_ (show m.ak[1]?=some a by rw[HS.out];rfl) (by omega)).mono ?_;rintro e v2 ⟨rfl,hb2⟩;have dZ:=ast (gY.out.trans (gY.out.at_.below hb2));clear hb2 gY;go_wp2_with fail
 refine(aQ 0 dZ.out.at_ (show m.ak[0]?=some b by rw[HS.out];rfl) (by omega)).mono ?_;rintro e v3 ⟨rfl,hb3⟩;have jo:=ast (dZ.out.trans (dZ.out.at_.below hb3));clear hb3 dZ;go_wp2_with fail
 have HB:=ast (jo.out.trans (jo.out.at_.below (show Below v3.heap.size v3 (v3.alloc (.cells #[.int .i64 (b),.int .i64 (a),.int .i64 (b)] 3 (0,0)))from brq.alloc nrq _)));have jl:Hid (bz (v3.alloc (.cells #[.int .i64 (b),.int .i64 (a),.int .i64 (b)] 3 (0,0))).heap.size (v3.alloc (.cells #[.int .i64 (b),.int .i64 (a),.int .i64 (b)] 3 (0,0))) (.slice (some ⟨v3.heap.size,0,none⟩) 3 3) [b,a,b]):=ast (fH v3 [b,a,b]);clear jo;refine(aX 2 [b,a,b] HB.out.at_ (by have:=jc.out;omega) (by have:=HK.out;have:=jc.out;simp only[List.length_cons,List.length_nil];omega) jl.out (fun y hy=>by simp only[List.mem_cons,List.not_mem_nil,or_false]at hy;rcases hy with rfl|rfl|rfl<;>omega)).mono ?_;rintro e w6 ⟨rfl,y,hy⟩;have HF:=ast (HB.out.trans hy);clear hy HB jl;go_wp2_with fail
 go_end0
 refine⟨rfl,y,?_⟩;have:=HF.out;rw[HS.out]at this;exact this
theorem yV{a b:Int}{s:List Int}(h:gI B w sb F x m u)(hs:m.ak=b :: a :: s)(ha:Cell a)(hb:Cell b)(hov:32<m.ak.length+1):
  Calls Tryz.prog 199 #[.pointer (some ⟨x.mb,0,none⟩),.string ⟨#[111,118,101,114]⟩,.pointer (some ⟨x.wp,0,none⟩)] w fun r w'=>r=.returned (.tuple #[])∧di B w sb F x {m with done:=true,ed:=2} u w':=by
 obtain⟨z0,z1,z2,z3,z4,hlt⟩:=h.cells;obtain⟨ad,cap,dI,_,_⟩:=ag h.eP;rw[dI,List.length_reverse]at z2;have hl:=h.len.2.1;have hlen:m.ak.length=s.length+2:=by rw[hs];rfl
 have hth:ax ⟨#[111,118,101,114]⟩=(2,3,true):=by decide +kernel
 have HT:=ast (fun w=>bF ⟨#[111,118,101,114]⟩ w);rw[hth]at HT;have H:=ast h;have HS:=ast hs;have jc:=ast hlen;obtain⟨k,hk⟩:=exq (m.ak.length);rw[←hk]at z2 hl hlen hov;have hk2:¬(k:Int)<2:=by omega
 have HK:=ast hk;obtain⟨a1,a2⟩:=ha;obtain⟨b1,b2⟩:=hb;clear h hs dI z0 z1 z3 z4 hth hlen hk;go_enter Tryz.func199,Tryz.ntmps199
 go_wp2_with fail
 refine(HT.out _).mono ?_;rintro e w1 ⟨rfl,rfl⟩;clear HT;go_wp2_with fail
 go_quiet (fail)
 have hbq:Below w1.heap.size w1 (w1.drewN nq):=bdq;obtain⟨V,hV⟩:=exq (w1.drewN nq:World);rw[←hV]at hbq;have jA:=ast (H.out.below hbq);clear hbq z2;go_wp2_with fail
 rw[←hV];clear hV;refine(aQ 1 jA.out.at_ (show m.ak[1]?=some a by rw[HS.out];rfl) (by omega)).mono ?_;rintro e v1 ⟨rfl,hb1⟩;have gY:=ast (jA.out.trans (jA.out.at_.below hb1));clear hb1 jA;go_wp2_with fail
 refine(aQ 0 gY.out.at_ (show m.ak[0]?=some b by rw[HS.out];rfl) (by omega)).mono ?_;rintro e v2 ⟨rfl,hb2⟩;have dZ:=ast (gY.out.trans (gY.out.at_.below hb2));clear hb2 gY;go_wp2_with fail
 refine(aQ 1 dZ.out.at_ (show m.ak[1]?=some a by rw[HS.out];rfl) (by omega)).mono ?_;rintro e v3 ⟨rfl,hb3⟩;have jo:=ast (dZ.out.trans (dZ.out.at_.below hb3));clear hb3 dZ;go_wp2_with fail
 have HB:=ast (jo.out.trans (jo.out.at_.below (show Below v3.heap.size v3 (v3.alloc (.cells #[.int .i64 (a),.int .i64 (b),.int .i64 (a)] 3 (0,0)))from brq.alloc nrq _)));have jl:Hid (bz (v3.alloc (.cells #[.int .i64 (a),.int .i64 (b),.int .i64 (a)] 3 (0,0))).heap.size (v3.alloc (.cells #[.int .i64 (a),.int .i64 (b),.int .i64 (a)] 3 (0,0))) (.slice (some ⟨v3.heap.size,0,none⟩) 3 3) [a,b,a]):=ast (fH v3 [a,b,a]);clear jo;refine(dJ 2 HB.out.at_ (by have:=jc.out;omega) (by have:=HK.out;have:=jc.out;omega) (by omega)).mono ?_;rintro e w6 ⟨rfl,hy⟩;have HF:=ast (HB.out.trans hy);clear hy HB jl;go_wp2_with fail
 go_end0
 exact⟨rfl,_,HF.out⟩
theorem yX{a b:Int}{s:List Int}(h:gI B w sb F x m u)(hs:m.ak=b :: a :: s)(ha:Cell a)(hb:Cell b)(hov:32<m.ak.length+1):
  Calls Tryz.prog 199 #[.pointer (some ⟨x.mb,0,none⟩),.string ⟨#[116,117,99,107]⟩,.pointer (some ⟨x.wp,0,none⟩)] w fun r w'=>r=.returned (.tuple #[])∧di B w sb F x {m with done:=true,ed:=2} u w':=by
 obtain⟨z0,z1,z2,z3,z4,hlt⟩:=h.cells;obtain⟨ad,cap,dI,_,_⟩:=ag h.eP;rw[dI,List.length_reverse]at z2;have hl:=h.len.2.1;have hlen:m.ak.length=s.length+2:=by rw[hs];rfl
 have hth:ax ⟨#[116,117,99,107]⟩=(2,3,true):=by decide +kernel
 have HT:=ast (fun w=>bF ⟨#[116,117,99,107]⟩ w);rw[hth]at HT;have H:=ast h;have HS:=ast hs;have jc:=ast hlen;obtain⟨k,hk⟩:=exq (m.ak.length);rw[←hk]at z2 hl hlen hov;have hk2:¬(k:Int)<2:=by omega
 have HK:=ast hk;obtain⟨a1,a2⟩:=ha;obtain⟨b1,b2⟩:=hb;clear h hs dI z0 z1 z3 z4 hth hlen hk;go_enter Tryz.func199,Tryz.ntmps199
 go_wp2_with fail
 refine(HT.out _).mono ?_;rintro e w1 ⟨rfl,rfl⟩;clear HT;go_wp2_with fail
 go_quiet (fail)
 have hbq:Below w1.heap.size w1 (w1.drewN nq):=bdq;obtain⟨V,hV⟩:=exq (w1.drewN nq:World);rw[←hV]at hbq;have jA:=ast (H.out.below hbq);clear hbq z2;go_wp2_with fail
 rw[←hV];clear hV;refine(aQ 0 jA.out.at_ (show m.ak[0]?=some b by rw[HS.out];rfl) (by omega)).mono ?_;rintro e v1 ⟨rfl,hb1⟩;have gY:=ast (jA.out.trans (jA.out.at_.below hb1));clear hb1 jA;go_wp2_with fail
 refine(aQ 1 gY.out.at_ (show m.ak[1]?=some a by rw[HS.out];rfl) (by omega)).mono ?_;rintro e v2 ⟨rfl,hb2⟩;have dZ:=ast (gY.out.trans (gY.out.at_.below hb2));clear hb2 gY;go_wp2_with fail
 refine(aQ 0 dZ.out.at_ (show m.ak[0]?=some b by rw[HS.out];rfl) (by omega)).mono ?_;rintro e v3 ⟨rfl,hb3⟩;have jo:=ast (dZ.out.trans (dZ.out.at_.below hb3));clear hb3 dZ;go_wp2_with fail
 have HB:=ast (jo.out.trans (jo.out.at_.below (show Below v3.heap.size v3 (v3.alloc (.cells #[.int .i64 (b),.int .i64 (a),.int .i64 (b)] 3 (0,0)))from brq.alloc nrq _)));have jl:Hid (bz (v3.alloc (.cells #[.int .i64 (b),.int .i64 (a),.int .i64 (b)] 3 (0,0))).heap.size (v3.alloc (.cells #[.int .i64 (b),.int .i64 (a),.int .i64 (b)] 3 (0,0))) (.slice (some ⟨v3.heap.size,0,none⟩) 3 3) [b,a,b]):=ast (fH v3 [b,a,b]);clear jo;refine(dJ 2 HB.out.at_ (by have:=jc.out;omega) (by have:=HK.out;have:=jc.out;omega) (by omega)).mono ?_;rintro e w6 ⟨rfl,hy⟩;have HF:=ast (HB.out.trans hy);clear hy HB jl;go_wp2_with fail
 go_end0
 exact⟨rfl,_,HF.out⟩
end
end
section
attribute [local go_sem] dK
section
variable{B:Nat}{w w':World}{sb:Nat}{F:Nat→Prop}{x:DX}{m m':DM}{u u':MW}
theorem MX{a:Int}{s:List Int}(h:gI B w sb F x m u)(hs:m.ak=a :: s)(ha:Cell a):
  Calls Tryz.prog 199 #[.pointer (some ⟨x.mb,0,none⟩),.string ⟨#[110,101,103,97,116,101]⟩,.pointer (some ⟨x.wp,0,none⟩)] w fun r w'=>r=.returned (.tuple #[])∧di B w sb F x {m with ak:=(iW 13 (aG m.fs) m.ak u).1} (iW 13 (aG m.fs) m.ak u).2 w':=by
 have hop:iW 13 (aG m.fs) m.ak u=(w32 (-a) :: s,u):=by rw[hs];rfl
 rw[hop];obtain⟨z0,z1,z2,z3,z4,hlt⟩:=h.cells;obtain⟨ad,cap,dI,_,_⟩:=ag h.eP;rw[dI,List.length_reverse]at z2;have hl:=h.len.2.1;have hlen:m.ak.length=s.length+1:=by rw[hs];rfl
 have hth:ax ⟨#[110,101,103,97,116,101]⟩=(1,1,true):=by decide +kernel
 have HT:=ast (fun w=>bF ⟨#[110,101,103,97,116,101]⟩ w);rw[hth]at HT;have H:=ast h;have HS:=ast hs;have jc:=ast hlen;obtain⟨k,hk⟩:=exq (m.ak.length);rw[←hk]at z2 hl hlen;have hk2:¬(k:Int)<1:=by omega
 have HK:=ast hk;obtain⟨a1,a2⟩:=ha;clear h hs dI z0 z1 z3 z4 hth hlen hk hop;go_enter Tryz.func199,Tryz.ntmps199
 go_wp2_with fail
 refine(HT.out _).mono ?_;rintro e w1 ⟨rfl,rfl⟩;clear HT;go_wp2_with fail
 go_quiet (fail)
 have hbq:Below w1.heap.size w1 (w1.drewN nq):=bdq;obtain⟨V,hV⟩:=exq (w1.drewN nq:World);rw[←hV]at hbq;have jA:=ast (H.out.below hbq);clear hbq z2;go_wp2_with fail
 rw[←hV];clear hV;refine(aQ 0 jA.out.at_ (show m.ak[0]?=some a by rw[HS.out];rfl) (by omega)).mono ?_;rintro e v1 ⟨rfl,hb1⟩;have gY:=ast (jA.out.trans (jA.out.at_.below hb1));clear hb1 jA;go_wp2_with fail
 have HB:=ast (gY.out.trans (gY.out.at_.below (show Below v1.heap.size v1 (v1.alloc (.cells #[.int .i64 (-a)] 3 (0,0)))from brq.alloc nrq _)));have jl:Hid (bz (v1.alloc (.cells #[.int .i64 (-a)] 3 (0,0))).heap.size (v1.alloc (.cells #[.int .i64 (-a)] 3 (0,0))) (.slice (some ⟨v1.heap.size,0,none⟩) 1 1) [-a]):=ast (fH v1 [-a]);clear gY;refine(aX 1 [-a] HB.out.at_ (by have:=jc.out;omega) (by have:=HK.out;have:=jc.out;simp only[List.length_cons,List.length_nil];omega) jl.out (fun y hy=>by rw[List.mem_singleton.1 hy];omega)).mono ?_;rintro e w6 ⟨rfl,y,hy⟩;have HF:=ast (HB.out.trans hy);clear hy HB jl;go_wp2_with fail
 go_end0
 refine⟨rfl,y,?_⟩;have:=HF.out;rw[HS.out]at this;exact this
theorem MZ{a:Int}{s:List Int}(h:gI B w sb F x m u)(hs:m.ak=a :: s)(ha:Cell a):
  Calls Tryz.prog 199 #[.pointer (some ⟨x.mb,0,none⟩),.string ⟨#[97,98,115]⟩,.pointer (some ⟨x.wp,0,none⟩)] w fun r w'=>r=.returned (.tuple #[])∧di B w sb F x {m with ak:=(iW 14 (aG m.fs) m.ak u).1} (iW 14 (aG m.fs) m.ak u).2 w':=by
 have hop:iW 14 (aG m.fs) m.ak u=(w32 (max a (-a)) :: s,u):=by
  have e:rU 14 a=w32 (max a (-a)):=by
   unfold rU
   by_cases h0:a<0
   ·rw[show max a (-a)= -a by omega];simp[h0]
   ·rw[show max a (-a)=a by omega,fA ha];simp[h0]
  rw[hs,←e];rfl
 rw[hop];obtain⟨z0,z1,z2,z3,z4,hlt⟩:=h.cells;obtain⟨ad,cap,dI,_,_⟩:=ag h.eP;rw[dI,List.length_reverse]at z2;have hl:=h.len.2.1;have hlen:m.ak.length=s.length+1:=by rw[hs];rfl
 have hth:ax ⟨#[97,98,115]⟩=(1,1,true):=by decide +kernel
 have HT:=ast (fun w=>bF ⟨#[97,98,115]⟩ w);rw[hth]at HT;have H:=ast h;have HS:=ast hs;have jc:=ast hlen;obtain⟨k,hk⟩:=exq (m.ak.length);rw[←hk]at z2 hl hlen;have hk2:¬(k:Int)<1:=by omega
 have HK:=ast hk;obtain⟨a1,a2⟩:=ha;obtain⟨mx,hmx⟩:=exq (max a (-a));have gX: -9000000000000000000≤mx∧mx≤9000000000000000000:=by rw[hmx];omega
 have HMX:=ast hmx;clear h hs dI z0 z1 z3 z4 hth hlen hk hop;go_enter Tryz.func199,Tryz.ntmps199
 go_wp2_with fail
 refine(HT.out _).mono ?_;rintro e w1 ⟨rfl,rfl⟩;clear HT;go_wp2_with fail
 go_quiet (fail)
 have hbq:Below w1.heap.size w1 (w1.drewN nq):=bdq;obtain⟨V,hV⟩:=exq (w1.drewN nq:World);rw[←hV]at hbq;have jA:=ast (H.out.below hbq);clear hbq z2;go_wp2_with fail
 rw[←hV];clear hV;refine(aQ 0 jA.out.at_ (show m.ak[0]?=some a by rw[HS.out];rfl) (by omega)).mono ?_;rintro e v1 ⟨rfl,hb1⟩;have gY:=ast (jA.out.trans (jA.out.at_.below hb1));clear hb1 jA;go_wp2_with fail
 refine(aQ 0 gY.out.at_ (show m.ak[0]?=some a by rw[HS.out];rfl) (by omega)).mono ?_;rintro e v2 ⟨rfl,hb2⟩;have dZ:=ast (gY.out.trans (gY.out.at_.below hb2));clear hb2 gY;go_wp2_with fail
 have HB:=ast (dZ.out.trans (dZ.out.at_.below (show Below v2.heap.size v2 (v2.alloc (.cells #[.int .i64 (max a (-a))] 3 (0,0)))from brq.alloc nrq _)));have jl:Hid (bz (v2.alloc (.cells #[.int .i64 (max a (-a))] 3 (0,0))).heap.size (v2.alloc (.cells #[.int .i64 (max a (-a))] 3 (0,0))) (.slice (some ⟨v2.heap.size,0,none⟩) 1 1) [max a (-a)]):=ast (fH v2 [max a (-a)]);clear dZ;refine(aX 1 [max a (-a)] HB.out.at_ (by have:=jc.out;omega) (by have:=HK.out;have:=jc.out;simp only[List.length_cons,List.length_nil];omega) jl.out (fun y hy=>by rw[List.mem_singleton.1 hy];omega)).mono ?_;rintro e w6 ⟨rfl,y,hy⟩;have HF:=ast (HB.out.trans hy);clear hy HB jl;go_wp2_with fail
 go_end0
 refine⟨rfl,y,?_⟩;have:=HF.out;rw[HS.out]at this;exact this
theorem Na{a:Int}{s:List Int}(h:gI B w sb F x m u)(hs:m.ak=a :: s)(ha:Cell a):
  Calls Tryz.prog 199 #[.pointer (some ⟨x.mb,0,none⟩),.string ⟨#[48,61]⟩,.pointer (some ⟨x.wp,0,none⟩)] w fun r w'=>r=.returned (.tuple #[])∧di B w sb F x {m with ak:=(iW 15 (aG m.fs) m.ak u).1} (iW 15 (aG m.fs) m.ak u).2 w':=by
 have hop:iW 15 (aG m.fs) m.ak u=(w32 (jR (a == 0)) :: s,u):=by rw[hs,fA (iZ _)];rfl
 rw[hop];obtain⟨z0,z1,z2,z3,z4,hlt⟩:=h.cells;obtain⟨ad,cap,dI,_,_⟩:=ag h.eP;rw[dI,List.length_reverse]at z2;have hl:=h.len.2.1;have hlen:m.ak.length=s.length+1:=by rw[hs];rfl
 have hth:ax ⟨#[48,61]⟩=(1,1,true):=by decide +kernel
 have HT:=ast (fun w=>bF ⟨#[48,61]⟩ w);rw[hth]at HT;have H:=ast h;have HS:=ast hs;have jc:=ast hlen;obtain⟨k,hk⟩:=exq (m.ak.length);rw[←hk]at z2 hl hlen;have hk2:¬(k:Int)<1:=by omega
 have HK:=ast hk;obtain⟨a1,a2⟩:=ha;obtain⟨fl1,fl2⟩:=iZ (a == 0);obtain⟨fl,hfl⟩:=exq (jR (a == 0));rw[←hfl]at fl1 fl2 ⊢;have HFL:=ast hfl;clear h hs dI z0 z1 z3 z4 hth hlen hk hop hfl;go_enter Tryz.func199,Tryz.ntmps199
 go_wp2_with fail
 refine(HT.out _).mono ?_;rintro e w1 ⟨rfl,rfl⟩;clear HT;go_wp2_with fail
 go_quiet (fail)
 have hbq:Below w1.heap.size w1 (w1.drewN nq):=bdq;obtain⟨V,hV⟩:=exq (w1.drewN nq:World);rw[←hV]at hbq;have jA:=ast (H.out.below hbq);clear hbq z2;go_wp2_with fail
 rw[←hV];clear hV;refine(aQ 0 jA.out.at_ (show m.ak[0]?=some a by rw[HS.out];rfl) (by omega)).mono ?_;rintro e v1 ⟨rfl,hb1⟩;have gY:=ast (jA.out.trans (jA.out.at_.below hb1));clear hb1 jA;go_wp2_with fail
 refine(o8 _ _).mono ?_;rintro e v2 ⟨rfl,rfl⟩;rw[←HFL.out];have HB:=ast (gY.out.trans (gY.out.at_.below (show Below v2.heap.size v2 (v2.alloc (.cells #[.int .i64 (fl)] 3 (0,0)))from brq.alloc nrq _)));have jl:Hid (bz (v2.alloc (.cells #[.int .i64 (fl)] 3 (0,0))).heap.size (v2.alloc (.cells #[.int .i64 (fl)] 3 (0,0))) (.slice (some ⟨v2.heap.size,0,none⟩) 1 1) [fl]):=ast (fH v2 [fl]);clear gY;go_wp2_with fail
 refine(aX 1 [fl] HB.out.at_ (by have:=jc.out;omega) (by have:=HK.out;have:=jc.out;simp only[List.length_cons,List.length_nil];omega) jl.out (fun y hy=>by rw[List.mem_singleton.1 hy];omega)).mono ?_;rintro e w6 ⟨rfl,y,hy⟩;have HF:=ast (HB.out.trans hy);clear hy HB jl;go_wp2_with fail
 go_end0
 refine⟨rfl,y,?_⟩;have:=HF.out;rw[HS.out]at this;exact this
theorem Nb{a:Int}{s:List Int}(h:gI B w sb F x m u)(hs:m.ak=a :: s)(ha:Cell a)(hov:m.ak.length+1≤32):
  Calls Tryz.prog 199 #[.pointer (some ⟨x.mb,0,none⟩),.string ⟨#[100,117,112]⟩,.pointer (some ⟨x.wp,0,none⟩)] w fun r w'=>r=.returned (.tuple #[])∧di B w sb F x {m with ak:=(iW 16 (aG m.fs) m.ak u).1} (iW 16 (aG m.fs) m.ak u).2 w':=by
 have hop:iW 16 (aG m.fs) m.ak u=(w32 a :: w32 a :: s,u):=by rw[hs,fA ha];rcases s with _|⟨_,_|_⟩<;>simp[iW,fV,nz]
 rw[hop];obtain⟨z0,z1,z2,z3,z4,hlt⟩:=h.cells;obtain⟨ad,cap,dI,_,_⟩:=ag h.eP;rw[dI,List.length_reverse]at z2;have hl:=h.len.2.1;have hlen:m.ak.length=s.length+1:=by rw[hs];rfl
 have hth:ax ⟨#[100,117,112]⟩=(1,2,true):=by decide +kernel
 have HT:=ast (fun w=>bF ⟨#[100,117,112]⟩ w);rw[hth]at HT;have H:=ast h;have HS:=ast hs;have jc:=ast hlen;obtain⟨k,hk⟩:=exq (m.ak.length);rw[←hk]at z2 hl hlen hov;have hk2:¬(k:Int)<1:=by omega
 have HK:=ast hk;obtain⟨a1,a2⟩:=ha;clear h hs dI z0 z1 z3 z4 hth hlen hk hop;go_enter Tryz.func199,Tryz.ntmps199
 go_wp2_with fail
 refine(HT.out _).mono ?_;rintro e w1 ⟨rfl,rfl⟩;clear HT;go_wp2_with fail
 go_quiet (fail)
 have hbq:Below w1.heap.size w1 (w1.drewN nq):=bdq;obtain⟨V,hV⟩:=exq (w1.drewN nq:World);rw[←hV]at hbq;have jA:=ast (H.out.below hbq);clear hbq z2;go_wp2_with fail
 rw[←hV];clear hV;refine(aQ 0 jA.out.at_ (show m.ak[0]?=some a by rw[HS.out];rfl) (by omega)).mono ?_;rintro e v1 ⟨rfl,hb1⟩;have gY:=ast (jA.out.trans (jA.out.at_.below hb1));clear hb1 jA;go_wp2_with fail
 refine(aQ 0 gY.out.at_ (show m.ak[0]?=some a by rw[HS.out];rfl) (by omega)).mono ?_;rintro e v2 ⟨rfl,hb2⟩;have dZ:=ast (gY.out.trans (gY.out.at_.below hb2));clear hb2 gY;go_wp2_with fail
 have HB:=ast (dZ.out.trans (dZ.out.at_.below (show Below v2.heap.size v2 (v2.alloc (.cells #[.int .i64 (a),.int .i64 (a)] 3 (0,0)))from brq.alloc nrq _)));have jl:Hid (bz (v2.alloc (.cells #[.int .i64 (a),.int .i64 (a)] 3 (0,0))).heap.size (v2.alloc (.cells #[.int .i64 (a),.int .i64 (a)] 3 (0,0))) (.slice (some ⟨v2.heap.size,0,none⟩) 2 2) [a,a]):=ast (fH v2 [a,a]);clear dZ;refine(aX 1 [a,a] HB.out.at_ (by have:=jc.out;omega) (by have:=HK.out;have:=jc.out;simp only[List.length_cons,List.length_nil];omega) jl.out (fun y hy=>by simp only[List.mem_cons,List.not_mem_nil,or_false]at hy;rcases hy with rfl|rfl<;>omega)).mono ?_;rintro e w6 ⟨rfl,y,hy⟩;have HF:=ast (HB.out.trans hy);clear hy HB jl;go_wp2_with fail
 go_end0
 refine⟨rfl,y,?_⟩;have:=HF.out;rw[HS.out]at this;exact this
theorem Nc{a:Int}{s:List Int}(h:gI B w sb F x m u)(hs:m.ak=a :: s)(ha:Cell a):
  Calls Tryz.prog 199 #[.pointer (some ⟨x.mb,0,none⟩),.string ⟨#[100,114,111,112]⟩,.pointer (some ⟨x.wp,0,none⟩)] w fun r w'=>r=.returned (.tuple #[])∧di B w sb F x {m with ak:=(iW 17 (aG m.fs) m.ak u).1} (iW 17 (aG m.fs) m.ak u).2 w':=by
 have hop:iW 17 (aG m.fs) m.ak u=(s,u):=by rw[hs];rcases s with _|⟨_,_|_⟩<;>simp[iW,fV,nz]
 rw[hop];obtain⟨z0,z1,z2,z3,z4,hlt⟩:=h.cells;obtain⟨ad,cap,dI,_,_⟩:=ag h.eP;rw[dI,List.length_reverse]at z2;have hl:=h.len.2.1;have hlen:m.ak.length=s.length+1:=by rw[hs];rfl
 have hth:ax ⟨#[100,114,111,112]⟩=(1,0,true):=by decide +kernel
 have HT:=ast (fun w=>bF ⟨#[100,114,111,112]⟩ w);rw[hth]at HT;have H:=ast h;have HS:=ast hs;have jc:=ast hlen;obtain⟨k,hk⟩:=exq (m.ak.length);rw[←hk]at z2 hl hlen;have hk2:¬(k:Int)<1:=by omega
 have HK:=ast hk;obtain⟨a1,a2⟩:=ha;clear h hs dI z0 z1 z3 z4 hth hlen hk hop;go_enter Tryz.func199,Tryz.ntmps199
 go_wp2_with fail
 refine(HT.out _).mono ?_;rintro e w1 ⟨rfl,rfl⟩;clear HT;go_wp2_with fail
 go_quiet (fail)
 have hbq:Below w1.heap.size w1 (w1.drewN nq):=bdq;obtain⟨V,hV⟩:=exq (w1.drewN nq:World);rw[←hV]at hbq;have jA:=ast (H.out.below hbq);clear hbq z2;go_wp2_with fail
 rw[←hV];clear hV;refine(aX 1 [] jA.out.at_ (by have:=jc.out;omega) (by have:=HK.out;have:=jc.out;simp only[List.length_nil];omega) (Or.inl ⟨rfl,_,_,rfl⟩) (fun y hy=>by simp at hy)).mono ?_;rintro e w6 ⟨rfl,y,hy⟩;have HF:=ast (jA.out.trans hy);clear hy jA;go_wp2_with fail
 go_end0
 refine⟨rfl,y,?_⟩;have:=HF.out;rw[HS.out]at this;exact this
theorem Nh{a b:Int}{s:List Int}(h:gI B w sb F x m u)(hs:m.ak=b :: a :: s)(ha:Cell a)(hb:Cell b):
  Calls Tryz.prog 199 #[.pointer (some ⟨x.mb,0,none⟩),.string ⟨#[115,119,97,112]⟩,.pointer (some ⟨x.wp,0,none⟩)] w fun r w'=>r=.returned (.tuple #[])∧di B w sb F x {m with ak:=(iW 18 (aG m.fs) m.ak u).1} (iW 18 (aG m.fs) m.ak u).2 w':=by
 have hop:iW 18 (aG m.fs) m.ak u=(w32 a :: w32 b :: s,u):=by rw[hs,fA ha,fA hb];rcases s with _|⟨_,_|_⟩<;>simp[iW,fV,nz]
 rw[hop];obtain⟨z0,z1,z2,z3,z4,hlt⟩:=h.cells;obtain⟨ad,cap,dI,_,_⟩:=ag h.eP;rw[dI,List.length_reverse]at z2;have hl:=h.len.2.1;have hlen:m.ak.length=s.length+2:=by rw[hs];rfl
 have hth:ax ⟨#[115,119,97,112]⟩=(2,2,true):=by decide +kernel
 have HT:=ast (fun w=>bF ⟨#[115,119,97,112]⟩ w);rw[hth]at HT;have H:=ast h;have HS:=ast hs;have jc:=ast hlen;obtain⟨k,hk⟩:=exq (m.ak.length);rw[←hk]at z2 hl hlen;have hk2:¬(k:Int)<2:=by omega
 have HK:=ast hk;obtain⟨a1,a2⟩:=ha;obtain⟨b1,b2⟩:=hb;clear h hs dI z0 z1 z3 z4 hth hlen hk hop;go_enter Tryz.func199,Tryz.ntmps199
 go_wp2_with fail
 refine(HT.out _).mono ?_;rintro e w1 ⟨rfl,rfl⟩;clear HT;go_wp2_with fail
 go_quiet (fail)
 have hbq:Below w1.heap.size w1 (w1.drewN nq):=bdq;obtain⟨V,hV⟩:=exq (w1.drewN nq:World);rw[←hV]at hbq;have jA:=ast (H.out.below hbq);clear hbq z2;go_wp2_with fail
 rw[←hV];clear hV;refine(aQ 0 jA.out.at_ (show m.ak[0]?=some b by rw[HS.out];rfl) (by omega)).mono ?_;rintro e v1 ⟨rfl,hb1⟩;have gY:=ast (jA.out.trans (jA.out.at_.below hb1));clear hb1 jA;go_wp2_with fail
 refine(aQ 1 gY.out.at_ (show m.ak[1]?=some a by rw[HS.out];rfl) (by omega)).mono ?_;rintro e v2 ⟨rfl,hb2⟩;have dZ:=ast (gY.out.trans (gY.out.at_.below hb2));clear hb2 gY;go_wp2_with fail
 have HB:=ast (dZ.out.trans (dZ.out.at_.below (show Below v2.heap.size v2 (v2.alloc (.cells #[.int .i64 (b),.int .i64 (a)] 3 (0,0)))from brq.alloc nrq _)));have jl:Hid (bz (v2.alloc (.cells #[.int .i64 (b),.int .i64 (a)] 3 (0,0))).heap.size (v2.alloc (.cells #[.int .i64 (b),.int .i64 (a)] 3 (0,0))) (.slice (some ⟨v2.heap.size,0,none⟩) 2 2) [b,a]):=ast (fH v2 [b,a]);clear dZ;refine(aX 2 [b,a] HB.out.at_ (by have:=jc.out;omega) (by have:=HK.out;have:=jc.out;simp only[List.length_cons,List.length_nil];omega) jl.out (fun y hy=>by simp only[List.mem_cons,List.not_mem_nil,or_false]at hy;rcases hy with rfl|rfl<;>omega)).mono ?_;rintro e w6 ⟨rfl,y,hy⟩;have HF:=ast (HB.out.trans hy);clear hy HB jl;go_wp2_with fail
 go_end0
 refine⟨rfl,y,?_⟩;have:=HF.out;rw[HS.out]at this;exact this
theorem yY{a:Int}{s:List Int}(h:gI B w sb F x m u)(hs:m.ak=a :: s)(ha:Cell a)(hov:32<m.ak.length+1):
  Calls Tryz.prog 199 #[.pointer (some ⟨x.mb,0,none⟩),.string ⟨#[100,117,112]⟩,.pointer (some ⟨x.wp,0,none⟩)] w fun r w'=>r=.returned (.tuple #[])∧di B w sb F x {m with done:=true,ed:=2} u w':=by
 obtain⟨z0,z1,z2,z3,z4,hlt⟩:=h.cells;obtain⟨ad,cap,dI,_,_⟩:=ag h.eP;rw[dI,List.length_reverse]at z2;have hl:=h.len.2.1;have hlen:m.ak.length=s.length+1:=by rw[hs];rfl
 have hth:ax ⟨#[100,117,112]⟩=(1,2,true):=by decide +kernel
 have HT:=ast (fun w=>bF ⟨#[100,117,112]⟩ w);rw[hth]at HT;have H:=ast h;have HS:=ast hs;have jc:=ast hlen;obtain⟨k,hk⟩:=exq (m.ak.length);rw[←hk]at z2 hl hlen hov;have hk2:¬(k:Int)<1:=by omega
 have HK:=ast hk;obtain⟨a1,a2⟩:=ha;clear h hs dI z0 z1 z3 z4 hth hlen hk;go_enter Tryz.func199,Tryz.ntmps199
 go_wp2_with fail
 refine(HT.out _).mono ?_;rintro e w1 ⟨rfl,rfl⟩;clear HT;go_wp2_with fail
 go_quiet (fail)
 have hbq:Below w1.heap.size w1 (w1.drewN nq):=bdq;obtain⟨V,hV⟩:=exq (w1.drewN nq:World);rw[←hV]at hbq;have jA:=ast (H.out.below hbq);clear hbq z2;go_wp2_with fail
 rw[←hV];clear hV;refine(aQ 0 jA.out.at_ (show m.ak[0]?=some a by rw[HS.out];rfl) (by omega)).mono ?_;rintro e v1 ⟨rfl,hb1⟩;have gY:=ast (jA.out.trans (jA.out.at_.below hb1));clear hb1 jA;go_wp2_with fail
 refine(aQ 0 gY.out.at_ (show m.ak[0]?=some a by rw[HS.out];rfl) (by omega)).mono ?_;rintro e v2 ⟨rfl,hb2⟩;have dZ:=ast (gY.out.trans (gY.out.at_.below hb2));clear hb2 gY;go_wp2_with fail
 have HB:=ast (dZ.out.trans (dZ.out.at_.below (show Below v2.heap.size v2 (v2.alloc (.cells #[.int .i64 (a),.int .i64 (a)] 3 (0,0)))from brq.alloc nrq _)));have jl:Hid (bz (v2.alloc (.cells #[.int .i64 (a),.int .i64 (a)] 3 (0,0))).heap.size (v2.alloc (.cells #[.int .i64 (a),.int .i64 (a)] 3 (0,0))) (.slice (some ⟨v2.heap.size,0,none⟩) 2 2) [a,a]):=ast (fH v2 [a,a]);clear dZ;refine(dJ 1 HB.out.at_ (by have:=jc.out;omega) (by have:=HK.out;have:=jc.out;omega) (by omega)).mono ?_;rintro e w6 ⟨rfl,hy⟩;have HF:=ast (HB.out.trans hy);clear hy HB jl;go_wp2_with fail
 go_end0
 exact⟨rfl,_,HF.out⟩
end
end
end Go.Proofs.YtcphhbofjkenaaaGreatDoor
