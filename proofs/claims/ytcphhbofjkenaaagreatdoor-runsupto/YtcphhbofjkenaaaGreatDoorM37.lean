import Derived.Test.YtcphhbofjkenaaaGreatDoorM36
namespace Go.Proofs.YtcphhbofjkenaaaGreatDoor
open Go Go.RowKit
set_option linter.unusedVariables false
set_option linter.unusedSimpArgs false
set_option maxRecDepth 100000
set_option maxHeartbeats 16000000
section
section
variable{B:Nat}{w w':World}{sb:Nat}{F:Nat→Prop}{x:DX}{m m':DM}{u u':MW}
theorem gI.zC(h:gI B w sb F x m u){b:Nat}(hb:x.S b):b<w.heap.size:=by
 rcases hb with e|e|e|e|e
 ·rw[e];exact h.iM.lt
 ·rw[e];exact h.dN.lt
 ·exact bg h.l7 e
 ·exact bg h.fB e
 ·exact bg h.jV e
theorem jF{va:Option Addr}{vn vc:Nat}(its:List IT)(qg:Nat)(bi n e:Int)(pV:bi=(qg:Int))(mb:Nat)(gX:x.mb=mb)(h:gI B w sb F x m u)(hf:bV F w (.slice va vn vc) its)(hl:m.fs.length+1≤2000000):
  Calls Tryz.prog 200 #[.pointer (some ⟨mb,0,none⟩),.agg #[.slice va vn vc,.int .i64 0,.int .i64 bi,.int .i64 n,.int .i64 e]] w fun r w'=>r=.returned (.tuple #[])∧di B w sb F x {m with fs:=(.slice va vn vc,⟨its,0,qg,n,e⟩) :: m.fs} u w':=by
 subst pV;subst gX;exact MM ⟨its,0,qg,n,e⟩ h hf hl
theorem F6(n:Int)(h:gI B w sb F x m u)(hn:Cell n)(ho:m.ak.length+1≤32):
  Calls Tryz.prog 173 #[.pointer (some ⟨x.mb,0,none⟩),.agg #[.int .i64 1,.int .i64 n,.string ⟨#[]⟩,.slice none 0 0,.slice none 0 0],.pointer (some ⟨x.wp,0,none⟩)] w fun r w'=>r=.returned (.tuple #[])∧di B w sb F x {m with ak:=n :: m.ak} u w':=by
 obtain⟨z0,z1,z2,z3,z4,hlt⟩:=h.cells;obtain⟨ad,cap,dI,_,_⟩:=ag h.eP;rw[dI,List.length_reverse]at z2;have hl:=h.len.2.1;obtain⟨X,hX⟩:=exq (w.alloc (.cells #[.int .i64 1,.int .i64 n,.string ⟨#[]⟩,.slice none 0 0,.slice none 0 0] 249 (0,0)):World);obtain⟨ib,hib⟩:=exq (w.heap.size);have hbX:Below w.heap.size w X:=by rw[hX];exact brq.alloc nrq _
 have bU:az X ib #[.int .i64 1,.int .i64 n,.string ⟨#[]⟩,.slice none 0 0,.slice none 0 0] 249:=by rw[hX,hib];exact ay w _ _
 have lQ:¬x.S ib:=fun e=>by have:=h.zC e;omega
 have HA:=ast (h.below hbX);have jX:=ast bU;have HX:=ast hX;have rZ:=ast hib;have wM:=ast lQ;have i0:X.cell? ⟨ib,0,none⟩=some (.int .i64 1):=bU.cell 0 _ rfl;have zX:X.cell? ⟨x.mb,2,none⟩=some (.slice ad m.ak.length cap):=(hbX.cell (p:=⟨x.mb,2,none⟩) hlt).trans z2;have zB:x.mb<X.heap.size:=Nat.lt_of_lt_of_le hlt hbX.size;have We:=bU.lt;have i1:X.cell? ⟨ib,1,none⟩=some (.int .i64 n):=bU.cell 1 _ rfl;have HB:=ast ((h.below hbX).trans ((h.below hbX).at_.below (show Below X.heap.size X (X.alloc (.cells #[.int .i64 n] 3 (0,0)))from brq.alloc nrq _)));have jl:Hid (bz (X.alloc (.cells #[.int .i64 n] 3 (0,0))).heap.size (X.alloc (.cells #[.int .i64 n] 3 (0,0))) (.slice (some ⟨X.heap.size,0,none⟩) 1 1) [n]):=ast (fH X [n]);clear h dI z0 z1 z2 z3 z4 hX hib hbX bU lQ;go_enter Tryz.func173,Tryz.ntmps173
 go_upto_region 1 with fail
 rw[←HX.out,←rZ.out];clear HX rZ;go_wp2_with fail
 refine(aX 0 [n] HB.out.at_ (Nat.zero_le _) (by simp only[List.length_cons,List.length_nil];omega) jl.out (fun z hz=>by rw[List.mem_singleton.1 hz];obtain⟨a,b⟩:=hn;omega)).mono ?_;rintro e w6 ⟨rfl,y,hy⟩;have HF:=ast (HB.out.trans hy);clear hy HB jl;go_wp2_with fail
 go_end0
 refine⟨rfl,y,?_⟩;have:=HF.out;simp only[List.map_cons,List.map_nil,List.reverse_cons,List.reverse_nil,List.nil_append,List.singleton_append,List.drop_zero,fA hn]at this;exact this
theorem wF(n:Int)(h:gI B w sb F x m u)(ho:32<m.ak.length+1):
  Calls Tryz.prog 173 #[.pointer (some ⟨x.mb,0,none⟩),.agg #[.int .i64 1,.int .i64 n,.string ⟨#[]⟩,.slice none 0 0,.slice none 0 0],.pointer (some ⟨x.wp,0,none⟩)] w fun r w'=>r=.returned (.tuple #[])∧di B w sb F x {m with done:=true,ed:=2} u w':=by
 obtain⟨z0,z1,z2,z3,z4,hlt⟩:=h.cells;obtain⟨ad,cap,dI,_,_⟩:=ag h.eP;rw[dI,List.length_reverse]at z2;have hl:=h.len.2.1;obtain⟨X,hX⟩:=exq (w.alloc (.cells #[.int .i64 1,.int .i64 n,.string ⟨#[]⟩,.slice none 0 0,.slice none 0 0] 249 (0,0)):World);obtain⟨ib,hib⟩:=exq (w.heap.size);have hbX:Below w.heap.size w X:=by rw[hX];exact brq.alloc nrq _
 have bU:az X ib #[.int .i64 1,.int .i64 n,.string ⟨#[]⟩,.slice none 0 0,.slice none 0 0] 249:=by rw[hX,hib];exact ay w _ _
 have lQ:¬x.S ib:=fun e=>by have:=h.zC e;omega
 have HA:=ast (h.below hbX);have jX:=ast bU;have HX:=ast hX;have rZ:=ast hib;have wM:=ast lQ;have i0:X.cell? ⟨ib,0,none⟩=some (.int .i64 1):=bU.cell 0 _ rfl;have zX:X.cell? ⟨x.mb,2,none⟩=some (.slice ad m.ak.length cap):=(hbX.cell (p:=⟨x.mb,2,none⟩) hlt).trans z2;have zB:x.mb<X.heap.size:=Nat.lt_of_lt_of_le hlt hbX.size;have We:=bU.lt;have i1:X.cell? ⟨ib,1,none⟩=some (.int .i64 n):=bU.cell 1 _ rfl;have HB:=ast ((h.below hbX).trans ((h.below hbX).at_.below (show Below X.heap.size X (X.alloc (.cells #[.int .i64 n] 3 (0,0)))from brq.alloc nrq _)));clear h dI z0 z1 z2 z3 z4 hX hib hbX bU lQ;go_enter Tryz.func173,Tryz.ntmps173
 go_upto_region 1 with fail
 rw[←HX.out,←rZ.out];clear HX rZ;go_wp2_with fail
 refine(dJ 0 HB.out.at_ (Nat.zero_le _) (by omega) (by omega)).mono ?_;rintro e w6 ⟨rfl,hy⟩;have HF:=ast (HB.out.trans hy);clear hy HB;go_wp2_with fail
 go_end0
 exact⟨rfl,_,HF.out⟩
theorem Jo{s:ByteArray}{k:Nat}(hk:fP s=some k)(h:gI B w sb F x m u)(hw:Wl m.ak u)(hn:Cell (aG m.fs))(hf:∀p∈m.fs,p.2.qg≤3)(ht:x.tk+1≤2000000)(ho:u.outs.length+1≤2000000):
  Calls Tryz.prog 173 #[.pointer (some ⟨x.mb,0,none⟩),.agg #[.int .i64 2,.int .i64 0,.string s,.slice none 0 0,.slice none 0 0],.pointer (some ⟨x.wp,0,none⟩)] w fun r w'=>r=.returned (.tuple #[])∧∃t,t≤1∧di B w sb F {x with tk:=x.tk+t} (opM k m u) (opU k m u) w':=by
 obtain⟨z0,z1,z2,z3,z4,hlt⟩:=h.cells;obtain⟨ad,cap,dI,_,_⟩:=ag h.eP;rw[dI,List.length_reverse]at z2;have hl:=h.len.2.1;obtain⟨X,hX⟩:=exq (w.alloc (.cells #[.int .i64 2,.int .i64 0,.string s,.slice none 0 0,.slice none 0 0] 249 (0,0)):World);obtain⟨ib,hib⟩:=exq (w.heap.size);have hbX:Below w.heap.size w X:=by rw[hX];exact brq.alloc nrq _
 have bU:az X ib #[.int .i64 2,.int .i64 0,.string s,.slice none 0 0,.slice none 0 0] 249:=by rw[hX,hib];exact ay w _ _
 have lQ:¬x.S ib:=fun e=>by have:=h.zC e;omega
 have HA:=ast (h.below hbX);have jX:=ast bU;have HX:=ast hX;have rZ:=ast hib;have wM:=ast lQ;have i0:X.cell? ⟨ib,0,none⟩=some (.int .i64 2):=bU.cell 0 _ rfl;have zX:X.cell? ⟨x.mb,2,none⟩=some (.slice ad m.ak.length cap):=(hbX.cell (p:=⟨x.mb,2,none⟩) hlt).trans z2;have zB:x.mb<X.heap.size:=Nat.lt_of_lt_of_le hlt hbX.size;have We:=bU.lt;have i2:X.cell? ⟨ib,2,none⟩=some (.string s):=bU.cell 2 _ rfl;have HD:=ast (V9 hk (h.below hbX).at_ hw hn hf ht ho);clear h dI z0 z1 z2 z3 z4 hX hib hbX bU lQ;clear hk hw hn hf ht ho;go_enter Tryz.func173,Tryz.ntmps173
 go_upto_region 1 with fail
 rw[←HX.out,←rZ.out];clear HX rZ;go_wp2_with fail
 refine HD.out.mono ?_;rintro e w6 ⟨rfl,t,ht,y,hy⟩;have HF:=ast (And.intro ht hy);clear ht hy HD;go_wp2_with fail
 go_end0
 obtain⟨ht,hy⟩:=HF.out;refine⟨rfl,t,ht,y,?_⟩;have h1:=HA.out;exact⟨hy.at_,hy.mb,hy.wp,hy.cv,hy.full,fun q hq=>(hy.fv q hq).imp id (fun e=>Nat.le_trans h1.aA.size e),fun q hq=>(hy.ov q hq).imp id (fun e=>Nat.le_trans h1.aA.size e),h1.aA.trans hy.aA,hy.tk⟩
theorem F9{aa ba:Option Addr}{an ac bn bc:Nat}{l:List IT}{c:Int}{s:List Int}(h:gI B w sb F x m u)(hs:m.ak=c :: s)(hc:(c != 0)=true)(hT:bV F w (.slice aa an ac) l)(hfl:m.fs.length+1≤2000000):
  Calls Tryz.prog 173 #[.pointer (some ⟨x.mb,0,none⟩),.agg #[.int .i64 4,.int .i64 0,.string ⟨#[]⟩,.slice aa an ac,.slice ba bn bc],.pointer (some ⟨x.wp,0,none⟩)] w fun r w'=>r=.returned (.tuple #[])∧di B w sb F x {m with ak:=s,fs:=(.slice aa an ac,⟨l,0,0,0,0⟩) :: m.fs} u w':=by
 obtain⟨z0,z1,z2,z3,z4,hlt⟩:=h.cells;obtain⟨ad,cap,dI,_,_⟩:=ag h.eP;rw[dI,List.length_reverse]at z2;have hl:=h.len.2.1;obtain⟨X,hX⟩:=exq (w.alloc (.cells #[.int .i64 4,.int .i64 0,.string ⟨#[]⟩,.slice aa an ac,.slice ba bn bc] 249 (0,0)):World);obtain⟨ib,hib⟩:=exq (w.heap.size);have hbX:Below w.heap.size w X:=by rw[hX];exact brq.alloc nrq _
 have bU:az X ib #[.int .i64 4,.int .i64 0,.string ⟨#[]⟩,.slice aa an ac,.slice ba bn bc] 249:=by rw[hX,hib];exact ay w _ _
 have lQ:¬x.S ib:=fun e=>by have:=h.zC e;omega
 have HA:=ast (h.below hbX);have jX:=ast bU;have HX:=ast hX;have rZ:=ast hib;have wM:=ast lQ;have i0:X.cell? ⟨ib,0,none⟩=some (.int .i64 4):=bU.cell 0 _ rfl;have zX:X.cell? ⟨x.mb,2,none⟩=some (.slice ad m.ak.length cap):=(hbX.cell (p:=⟨x.mb,2,none⟩) hlt).trans z2;have zB:x.mb<X.heap.size:=Nat.lt_of_lt_of_le hlt hbX.size;have We:=bU.lt;have hlen:m.ak.length=s.length+1:=by rw[hs];rfl
 have dM:¬(m.ak.length:Int)<1:=by omega
 have HS:=ast hs;have jc:=ast hlen;have HT:=ast (hT.below h.fb (hbX.mono h.le));have D9:=ast (aQ 0 (h.below hbX).at_ (show m.ak[0]?=some c by rw[hs];rfl) (by omega));clear h dI z0 z1 z2 z3 z4 hX hib hbX bU lQ;clear hs hlen hT;obtain⟨k,hk⟩:=exq (m.ak.length);rw[←hk]at zX dM hl;have HK:=ast hk;clear hk;go_enter Tryz.func173,Tryz.ntmps173
 go_upto_region 1 with fail
 rw[←HX.out,←rZ.out];clear HX;go_wp2_with fail
 refine D9.out.mono ?_;rintro e w2 ⟨rfl,hb2⟩;have dZ:=ast (HA.out.trans (HA.out.at_.below hb2));have sW:=ast (jX.out.sub hb2 jX.out.lt);have rQ:=ast (HT.out.below HA.out.at_.fb (hb2.mono HA.out.at_.le));clear hb2 D9 HA jX HT i0 zX;go_wp2_with fail
 refine(aX 1 [] dZ.out.at_ (by have:=jc.out;have:=HK.out;omega) (by have:=jc.out;have:=HK.out;simp only[List.length_nil];omega) (Or.inl ⟨rfl,none,0,rfl⟩) (fun z hz=>by cases hz)).mono ?_;rintro e w3 ⟨rfl,y,hy⟩;have jo:=ast (dZ.out.trans hy);have hk3:=sW.out.aA hy.aA wM.out;have CY:=ast (rQ.out.below dZ.out.at_.fb (dZ.out.at_.toBelow hy.aA (fun _ e=>e)));have i0:w3.cell? ⟨ib,0,none⟩=some (.int .i64 4):=hk3.cell 0 _ rfl;have i3:w3.cell? ⟨ib,3,none⟩=some (.slice aa an ac):=hk3.cell 3 _ rfl;have hi3:=hk3.lt;have Jp:=ast (jF l 0 0 0 0 rfl x.mb jo.out.mb jo.out.at_ CY.out hfl);clear hy dZ sW rQ hk3;go_wp2_with fail
 refine Jp.out.mono ?_;rintro e w6 ⟨rfl,y2,hy2⟩;have HF:=ast (jo.out.trans hy2);clear hy2 Jp jo CY;go_wp2_with fail
 go_end0
 refine⟨rfl,y2,?_⟩;have:=HF.out;rw[HS.out]at this;exact this
theorem Gf{aa ba:Option Addr}{an ac bn bc:Nat}{l:List IT}{c:Int}{s:List Int}(h:gI B w sb F x m u)(hs:m.ak=c :: s)(hc:(c != 0)=false)(hT:bV F w (.slice ba bn bc) l)(hfl:m.fs.length+1≤2000000):
  Calls Tryz.prog 173 #[.pointer (some ⟨x.mb,0,none⟩),.agg #[.int .i64 4,.int .i64 0,.string ⟨#[]⟩,.slice aa an ac,.slice ba bn bc],.pointer (some ⟨x.wp,0,none⟩)] w fun r w'=>r=.returned (.tuple #[])∧di B w sb F x {m with ak:=s,fs:=(.slice ba bn bc,⟨l,0,0,0,0⟩) :: m.fs} u w':=by
 obtain⟨z0,z1,z2,z3,z4,hlt⟩:=h.cells;obtain⟨ad,cap,dI,_,_⟩:=ag h.eP;rw[dI,List.length_reverse]at z2;have hl:=h.len.2.1;obtain⟨X,hX⟩:=exq (w.alloc (.cells #[.int .i64 4,.int .i64 0,.string ⟨#[]⟩,.slice aa an ac,.slice ba bn bc] 249 (0,0)):World);obtain⟨ib,hib⟩:=exq (w.heap.size);have hbX:Below w.heap.size w X:=by rw[hX];exact brq.alloc nrq _
 have bU:az X ib #[.int .i64 4,.int .i64 0,.string ⟨#[]⟩,.slice aa an ac,.slice ba bn bc] 249:=by rw[hX,hib];exact ay w _ _
 have lQ:¬x.S ib:=fun e=>by have:=h.zC e;omega
 have HA:=ast (h.below hbX);have jX:=ast bU;have HX:=ast hX;have rZ:=ast hib;have wM:=ast lQ;have i0:X.cell? ⟨ib,0,none⟩=some (.int .i64 4):=bU.cell 0 _ rfl;have zX:X.cell? ⟨x.mb,2,none⟩=some (.slice ad m.ak.length cap):=(hbX.cell (p:=⟨x.mb,2,none⟩) hlt).trans z2;have zB:x.mb<X.heap.size:=Nat.lt_of_lt_of_le hlt hbX.size;have We:=bU.lt;have hlen:m.ak.length=s.length+1:=by rw[hs];rfl
 have dM:¬(m.ak.length:Int)<1:=by omega
 have HS:=ast hs;have jc:=ast hlen;have HT:=ast (hT.below h.fb (hbX.mono h.le));have D9:=ast (aQ 0 (h.below hbX).at_ (show m.ak[0]?=some c by rw[hs];rfl) (by omega));clear h dI z0 z1 z2 z3 z4 hX hib hbX bU lQ;clear hs hlen hT;obtain⟨k,hk⟩:=exq (m.ak.length);rw[←hk]at zX dM hl;have HK:=ast hk;clear hk;go_enter Tryz.func173,Tryz.ntmps173
 go_upto_region 1 with fail
 rw[←HX.out,←rZ.out];clear HX;go_wp2_with fail
 refine D9.out.mono ?_;rintro e w2 ⟨rfl,hb2⟩;have dZ:=ast (HA.out.trans (HA.out.at_.below hb2));have sW:=ast (jX.out.sub hb2 jX.out.lt);have rQ:=ast (HT.out.below HA.out.at_.fb (hb2.mono HA.out.at_.le));clear hb2 D9 HA jX HT i0 zX;go_wp2_with fail
 refine(aX 1 [] dZ.out.at_ (by have:=jc.out;have:=HK.out;omega) (by have:=jc.out;have:=HK.out;simp only[List.length_nil];omega) (Or.inl ⟨rfl,none,0,rfl⟩) (fun z hz=>by cases hz)).mono ?_;rintro e w3 ⟨rfl,y,hy⟩;have jo:=ast (dZ.out.trans hy);have hk3:=sW.out.aA hy.aA wM.out;have CY:=ast (rQ.out.below dZ.out.at_.fb (dZ.out.at_.toBelow hy.aA (fun _ e=>e)));have i0:w3.cell? ⟨ib,0,none⟩=some (.int .i64 4):=hk3.cell 0 _ rfl;have i3:w3.cell? ⟨ib,4,none⟩=some (.slice ba bn bc):=hk3.cell 4 _ rfl;have hi3:=hk3.lt;have Jp:=ast (jF l 0 0 0 0 rfl x.mb jo.out.mb jo.out.at_ CY.out hfl);clear hy dZ sW rQ hk3;go_wp2_with fail
 refine Jp.out.mono ?_;rintro e w6 ⟨rfl,y2,hy2⟩;have HF:=ast (jo.out.trans hy2);clear hy2 Jp jo CY;go_wp2_with fail
 go_end0
 refine⟨rfl,y2,?_⟩;have:=HF.out;rw[HS.out]at this;exact this
theorem Dh{aa ba:Option Addr}{an ac bn bc:Nat}{l:List IT}{c:Int}{s:List Int}(h:gI B w sb F x m u)(hs:m.ak=c :: s)(hc:(c != 0)=true)(hT:bV F w (.slice aa an ac) l)(hfl:m.fs.length+1≤2000000):
  Calls Tryz.prog 173 #[.pointer (some ⟨x.mb,0,none⟩),.agg #[.int .i64 5,.int .i64 0,.string ⟨#[]⟩,.slice aa an ac,.slice ba bn bc],.pointer (some ⟨x.wp,0,none⟩)] w fun r w'=>r=.returned (.tuple #[])∧di B w sb F x {m with ak:=s,fs:=(.slice aa an ac,⟨l,0,1,0,0⟩) :: m.fs} u w':=by
 obtain⟨z0,z1,z2,z3,z4,hlt⟩:=h.cells;obtain⟨ad,cap,dI,_,_⟩:=ag h.eP;rw[dI,List.length_reverse]at z2;have hl:=h.len.2.1;obtain⟨X,hX⟩:=exq (w.alloc (.cells #[.int .i64 5,.int .i64 0,.string ⟨#[]⟩,.slice aa an ac,.slice ba bn bc] 249 (0,0)):World);obtain⟨ib,hib⟩:=exq (w.heap.size);have hbX:Below w.heap.size w X:=by rw[hX];exact brq.alloc nrq _
 have bU:az X ib #[.int .i64 5,.int .i64 0,.string ⟨#[]⟩,.slice aa an ac,.slice ba bn bc] 249:=by rw[hX,hib];exact ay w _ _
 have lQ:¬x.S ib:=fun e=>by have:=h.zC e;omega
 have HA:=ast (h.below hbX);have jX:=ast bU;have HX:=ast hX;have rZ:=ast hib;have wM:=ast lQ;have i0:X.cell? ⟨ib,0,none⟩=some (.int .i64 5):=bU.cell 0 _ rfl;have zX:X.cell? ⟨x.mb,2,none⟩=some (.slice ad m.ak.length cap):=(hbX.cell (p:=⟨x.mb,2,none⟩) hlt).trans z2;have zB:x.mb<X.heap.size:=Nat.lt_of_lt_of_le hlt hbX.size;have We:=bU.lt;have hlen:m.ak.length=s.length+1:=by rw[hs];rfl
 have dM:¬(m.ak.length:Int)<1:=by omega
 have HS:=ast hs;have jc:=ast hlen;have HT:=ast (hT.below h.fb (hbX.mono h.le));have D9:=ast (aQ 0 (h.below hbX).at_ (show m.ak[0]?=some c by rw[hs];rfl) (by omega));clear h dI z0 z1 z2 z3 z4 hX hib hbX bU lQ;clear hs hlen hT;obtain⟨k,hk⟩:=exq (m.ak.length);rw[←hk]at zX dM hl;have HK:=ast hk;clear hk;go_enter Tryz.func173,Tryz.ntmps173
 go_upto_region 1 with fail
 rw[←HX.out,←rZ.out];clear HX;go_wp2_with fail
 refine D9.out.mono ?_;rintro e w2 ⟨rfl,hb2⟩;have dZ:=ast (HA.out.trans (HA.out.at_.below hb2));have sW:=ast (jX.out.sub hb2 jX.out.lt);have rQ:=ast (HT.out.below HA.out.at_.fb (hb2.mono HA.out.at_.le));clear hb2 D9 HA jX HT i0 zX;go_wp2_with fail
 refine(aX 1 [] dZ.out.at_ (by have:=jc.out;have:=HK.out;omega) (by have:=jc.out;have:=HK.out;simp only[List.length_nil];omega) (Or.inl ⟨rfl,none,0,rfl⟩) (fun z hz=>by cases hz)).mono ?_;rintro e w3 ⟨rfl,y,hy⟩;have jo:=ast (dZ.out.trans hy);have hk3:=sW.out.aA hy.aA wM.out;have CY:=ast (rQ.out.below dZ.out.at_.fb (dZ.out.at_.toBelow hy.aA (fun _ e=>e)));have i0:w3.cell? ⟨ib,0,none⟩=some (.int .i64 5):=hk3.cell 0 _ rfl;have i3:w3.cell? ⟨ib,3,none⟩=some (.slice aa an ac):=hk3.cell 3 _ rfl;have hi3:=hk3.lt;have Jp:=ast (jF l 1 1 0 0 rfl x.mb jo.out.mb jo.out.at_ CY.out hfl);clear hy dZ sW rQ hk3;go_wp2_with fail
 refine Jp.out.mono ?_;rintro e w6 ⟨rfl,y2,hy2⟩;have HF:=ast (jo.out.trans hy2);clear hy2 Jp jo CY;go_wp2_with fail
 go_end0
 refine⟨rfl,y2,?_⟩;have:=HF.out;rw[HS.out]at this;exact this
theorem Di{aa ba:Option Addr}{an ac bn bc:Nat}{l:List IT}{c:Int}{s:List Int}(h:gI B w sb F x m u)(hs:m.ak=c :: s)(hc:(c != 0)=false)(hT:bV F w (.slice ba bn bc) l)(hfl:m.fs.length+1≤2000000):
  Calls Tryz.prog 173 #[.pointer (some ⟨x.mb,0,none⟩),.agg #[.int .i64 5,.int .i64 0,.string ⟨#[]⟩,.slice aa an ac,.slice ba bn bc],.pointer (some ⟨x.wp,0,none⟩)] w fun r w'=>r=.returned (.tuple #[])∧di B w sb F x {m with ak:=s,fs:=(.slice ba bn bc,⟨l,0,0,0,0⟩) :: m.fs} u w':=by
 obtain⟨z0,z1,z2,z3,z4,hlt⟩:=h.cells;obtain⟨ad,cap,dI,_,_⟩:=ag h.eP;rw[dI,List.length_reverse]at z2;have hl:=h.len.2.1;obtain⟨X,hX⟩:=exq (w.alloc (.cells #[.int .i64 5,.int .i64 0,.string ⟨#[]⟩,.slice aa an ac,.slice ba bn bc] 249 (0,0)):World);obtain⟨ib,hib⟩:=exq (w.heap.size);have hbX:Below w.heap.size w X:=by rw[hX];exact brq.alloc nrq _
 have bU:az X ib #[.int .i64 5,.int .i64 0,.string ⟨#[]⟩,.slice aa an ac,.slice ba bn bc] 249:=by rw[hX,hib];exact ay w _ _
 have lQ:¬x.S ib:=fun e=>by have:=h.zC e;omega
 have HA:=ast (h.below hbX);have jX:=ast bU;have HX:=ast hX;have rZ:=ast hib;have wM:=ast lQ;have i0:X.cell? ⟨ib,0,none⟩=some (.int .i64 5):=bU.cell 0 _ rfl;have zX:X.cell? ⟨x.mb,2,none⟩=some (.slice ad m.ak.length cap):=(hbX.cell (p:=⟨x.mb,2,none⟩) hlt).trans z2;have zB:x.mb<X.heap.size:=Nat.lt_of_lt_of_le hlt hbX.size;have We:=bU.lt;have hlen:m.ak.length=s.length+1:=by rw[hs];rfl
 have dM:¬(m.ak.length:Int)<1:=by omega
 have HS:=ast hs;have jc:=ast hlen;have HT:=ast (hT.below h.fb (hbX.mono h.le));have D9:=ast (aQ 0 (h.below hbX).at_ (show m.ak[0]?=some c by rw[hs];rfl) (by omega));clear h dI z0 z1 z2 z3 z4 hX hib hbX bU lQ;clear hs hlen hT;obtain⟨k,hk⟩:=exq (m.ak.length);rw[←hk]at zX dM hl;have HK:=ast hk;clear hk;go_enter Tryz.func173,Tryz.ntmps173
 go_upto_region 1 with fail
 rw[←HX.out,←rZ.out];clear HX;go_wp2_with fail
 refine D9.out.mono ?_;rintro e w2 ⟨rfl,hb2⟩;have dZ:=ast (HA.out.trans (HA.out.at_.below hb2));have sW:=ast (jX.out.sub hb2 jX.out.lt);have rQ:=ast (HT.out.below HA.out.at_.fb (hb2.mono HA.out.at_.le));clear hb2 D9 HA jX HT i0 zX;go_wp2_with fail
 refine(aX 1 [] dZ.out.at_ (by have:=jc.out;have:=HK.out;omega) (by have:=jc.out;have:=HK.out;simp only[List.length_nil];omega) (Or.inl ⟨rfl,none,0,rfl⟩) (fun z hz=>by cases hz)).mono ?_;rintro e w3 ⟨rfl,y,hy⟩;have jo:=ast (dZ.out.trans hy);have hk3:=sW.out.aA hy.aA wM.out;have CY:=ast (rQ.out.below dZ.out.at_.fb (dZ.out.at_.toBelow hy.aA (fun _ e=>e)));have i0:w3.cell? ⟨ib,0,none⟩=some (.int .i64 5):=hk3.cell 0 _ rfl;have i3:w3.cell? ⟨ib,4,none⟩=some (.slice ba bn bc):=hk3.cell 4 _ rfl;have hi3:=hk3.lt;have Jp:=ast (jF l 0 0 0 0 rfl x.mb jo.out.mb jo.out.at_ CY.out hfl);clear hy dZ sW rQ hk3;go_wp2_with fail
 refine Jp.out.mono ?_;rintro e w6 ⟨rfl,y2,hy2⟩;have HF:=ast (jo.out.trans hy2);clear hy2 Jp jo CY;go_wp2_with fail
 go_end0
 refine⟨rfl,y2,?_⟩;have:=HF.out;rw[HS.out]at this;exact this
theorem BC{aa ba:Option Addr}{an ac bn bc:Nat}(h:gI B w sb F x m u)(hs:m.ak.length<1):
  Calls Tryz.prog 173 #[.pointer (some ⟨x.mb,0,none⟩),.agg #[.int .i64 4,.int .i64 0,.string ⟨#[]⟩,.slice aa an ac,.slice ba bn bc],.pointer (some ⟨x.wp,0,none⟩)] w fun r w'=>r=.returned (.tuple #[])∧di B w sb F x {m with done:=true,ed:=1} u w':=by
 obtain⟨z0,z1,z2,z3,z4,hlt⟩:=h.cells;obtain⟨ad,cap,dI,_,_⟩:=ag h.eP;rw[dI,List.length_reverse]at z2;have hl:=h.len.2.1;obtain⟨X,hX⟩:=exq (w.alloc (.cells #[.int .i64 4,.int .i64 0,.string ⟨#[]⟩,.slice aa an ac,.slice ba bn bc] 249 (0,0)):World);obtain⟨ib,hib⟩:=exq (w.heap.size);have hbX:Below w.heap.size w X:=by rw[hX];exact brq.alloc nrq _
 have bU:az X ib #[.int .i64 4,.int .i64 0,.string ⟨#[]⟩,.slice aa an ac,.slice ba bn bc] 249:=by rw[hX,hib];exact ay w _ _
 have lQ:¬x.S ib:=fun e=>by have:=h.zC e;omega
 have HA:=ast (h.below hbX);have jX:=ast bU;have HX:=ast hX;have rZ:=ast hib;have wM:=ast lQ;have i0:X.cell? ⟨ib,0,none⟩=some (.int .i64 4):=bU.cell 0 _ rfl;have zX:X.cell? ⟨x.mb,2,none⟩=some (.slice ad m.ak.length cap):=(hbX.cell (p:=⟨x.mb,2,none⟩) hlt).trans z2;have zB:x.mb<X.heap.size:=Nat.lt_of_lt_of_le hlt hbX.size;have We:=bU.lt;have dM:(m.ak.length:Int)<1:=by omega
 have HST:=ast (jE 1 (h.below hbX).at_);clear h dI z0 z1 z2 z3 z4 hX hib hbX bU lQ;obtain⟨k,hk⟩:=exq (m.ak.length);rw[←hk]at zX dM hl;have HK:=ast hk;clear hk;go_enter Tryz.func173,Tryz.ntmps173
 go_upto_region 1 with fail
 rw[←HX.out,←rZ.out];clear HX;go_wp2_with fail
 refine HST.out.mono ?_;rintro e w2 ⟨rfl,hd⟩;have HD:=ast (HA.out.trans hd);clear hd HST HA;go_wp2_with fail
 exact bodyPost_ret (results_none rfl _ _ _) rfl ⟨rfl,_,HD.out⟩
theorem y8{aa ba:Option Addr}{an ac bn bc:Nat}(h:gI B w sb F x m u)(hs:m.ak.length<1):
  Calls Tryz.prog 173 #[.pointer (some ⟨x.mb,0,none⟩),.agg #[.int .i64 5,.int .i64 0,.string ⟨#[]⟩,.slice aa an ac,.slice ba bn bc],.pointer (some ⟨x.wp,0,none⟩)] w fun r w'=>r=.returned (.tuple #[])∧di B w sb F x {m with done:=true,ed:=1} u w':=by
 obtain⟨z0,z1,z2,z3,z4,hlt⟩:=h.cells;obtain⟨ad,cap,dI,_,_⟩:=ag h.eP;rw[dI,List.length_reverse]at z2;have hl:=h.len.2.1;obtain⟨X,hX⟩:=exq (w.alloc (.cells #[.int .i64 5,.int .i64 0,.string ⟨#[]⟩,.slice aa an ac,.slice ba bn bc] 249 (0,0)):World);obtain⟨ib,hib⟩:=exq (w.heap.size);have hbX:Below w.heap.size w X:=by rw[hX];exact brq.alloc nrq _
 have bU:az X ib #[.int .i64 5,.int .i64 0,.string ⟨#[]⟩,.slice aa an ac,.slice ba bn bc] 249:=by rw[hX,hib];exact ay w _ _
 have lQ:¬x.S ib:=fun e=>by have:=h.zC e;omega
 have HA:=ast (h.below hbX);have jX:=ast bU;have HX:=ast hX;have rZ:=ast hib;have wM:=ast lQ;have i0:X.cell? ⟨ib,0,none⟩=some (.int .i64 5):=bU.cell 0 _ rfl;have zX:X.cell? ⟨x.mb,2,none⟩=some (.slice ad m.ak.length cap):=(hbX.cell (p:=⟨x.mb,2,none⟩) hlt).trans z2;have zB:x.mb<X.heap.size:=Nat.lt_of_lt_of_le hlt hbX.size;have We:=bU.lt;have dM:(m.ak.length:Int)<1:=by omega
 have HST:=ast (jE 1 (h.below hbX).at_);clear h dI z0 z1 z2 z3 z4 hX hib hbX bU lQ;obtain⟨k,hk⟩:=exq (m.ak.length);rw[←hk]at zX dM hl;have HK:=ast hk;clear hk;go_enter Tryz.func173,Tryz.ntmps173
 go_upto_region 1 with fail
 rw[←HX.out,←rZ.out];clear HX;go_wp2_with fail
 refine HST.out.mono ?_;rintro e w2 ⟨rfl,hd⟩;have HD:=ast (HA.out.trans hd);clear hd HST HA;go_wp2_with fail
 exact bodyPost_ret (results_none rfl _ _ _) rfl ⟨rfl,_,HD.out⟩
theorem qY{aa ba:Option Addr}{an ac bn bc:Nat}(h:gI B w sb F x m u)(hs:m.ak.length<2):
  Calls Tryz.prog 173 #[.pointer (some ⟨x.mb,0,none⟩),.agg #[.int .i64 6,.int .i64 0,.string ⟨#[]⟩,.slice aa an ac,.slice ba bn bc],.pointer (some ⟨x.wp,0,none⟩)] w fun r w'=>r=.returned (.tuple #[])∧di B w sb F x {m with done:=true,ed:=1} u w':=by
 obtain⟨z0,z1,z2,z3,z4,hlt⟩:=h.cells;obtain⟨ad,cap,dI,_,_⟩:=ag h.eP;rw[dI,List.length_reverse]at z2;have hl:=h.len.2.1;obtain⟨X,hX⟩:=exq (w.alloc (.cells #[.int .i64 6,.int .i64 0,.string ⟨#[]⟩,.slice aa an ac,.slice ba bn bc] 249 (0,0)):World);obtain⟨ib,hib⟩:=exq (w.heap.size);have hbX:Below w.heap.size w X:=by rw[hX];exact brq.alloc nrq _
 have bU:az X ib #[.int .i64 6,.int .i64 0,.string ⟨#[]⟩,.slice aa an ac,.slice ba bn bc] 249:=by rw[hX,hib];exact ay w _ _
 have lQ:¬x.S ib:=fun e=>by have:=h.zC e;omega
 have HA:=ast (h.below hbX);have jX:=ast bU;have HX:=ast hX;have rZ:=ast hib;have wM:=ast lQ;have i0:X.cell? ⟨ib,0,none⟩=some (.int .i64 6):=bU.cell 0 _ rfl;have zX:X.cell? ⟨x.mb,2,none⟩=some (.slice ad m.ak.length cap):=(hbX.cell (p:=⟨x.mb,2,none⟩) hlt).trans z2;have zB:x.mb<X.heap.size:=Nat.lt_of_lt_of_le hlt hbX.size;have We:=bU.lt;have dM:(m.ak.length:Int)<2:=by omega
 have HST:=ast (jE 1 (h.below hbX).at_);clear h dI z0 z1 z2 z3 z4 hX hib hbX bU lQ;obtain⟨k,hk⟩:=exq (m.ak.length);rw[←hk]at zX dM hl;have HK:=ast hk;clear hk;go_enter Tryz.func173,Tryz.ntmps173
 go_upto_region 1 with fail
 rw[←HX.out,←rZ.out];clear HX;go_wp2_with fail
 refine HST.out.mono ?_;rintro e w2 ⟨rfl,hd⟩;have HD:=ast (HA.out.trans hd);clear hd HST HA;go_wp2_with fail
 exact bodyPost_ret (results_none rfl _ _ _) rfl ⟨rfl,_,HD.out⟩
theorem Gg{aa ba:Option Addr}{an ac bn bc:Nat}{l:List IT}{c d:Int}{s:List Int}(h:gI B w sb F x m u)(hs:m.ak=c :: d :: s)(hc:c<d)(hT:bV F w (.slice aa an ac) l)(hfl:m.fs.length+1≤2000000):
  Calls Tryz.prog 173 #[.pointer (some ⟨x.mb,0,none⟩),.agg #[.int .i64 6,.int .i64 0,.string ⟨#[]⟩,.slice aa an ac,.slice ba bn bc],.pointer (some ⟨x.wp,0,none⟩)] w fun r w'=>r=.returned (.tuple #[])∧di B w sb F x {m with ak:=s,fs:=(.slice aa an ac,⟨l,0,2,c,d⟩) :: m.fs} u w':=by
 obtain⟨z0,z1,z2,z3,z4,hlt⟩:=h.cells;obtain⟨ad,cap,dI,_,_⟩:=ag h.eP;rw[dI,List.length_reverse]at z2;have hl:=h.len.2.1;obtain⟨X,hX⟩:=exq (w.alloc (.cells #[.int .i64 6,.int .i64 0,.string ⟨#[]⟩,.slice aa an ac,.slice ba bn bc] 249 (0,0)):World);obtain⟨ib,hib⟩:=exq (w.heap.size);have hbX:Below w.heap.size w X:=by rw[hX];exact brq.alloc nrq _
 have bU:az X ib #[.int .i64 6,.int .i64 0,.string ⟨#[]⟩,.slice aa an ac,.slice ba bn bc] 249:=by rw[hX,hib];exact ay w _ _
 have lQ:¬x.S ib:=fun e=>by have:=h.zC e;omega
 have HA:=ast (h.below hbX);have jX:=ast bU;have HX:=ast hX;have rZ:=ast hib;have wM:=ast lQ;have i0:X.cell? ⟨ib,0,none⟩=some (.int .i64 6):=bU.cell 0 _ rfl;have zX:X.cell? ⟨x.mb,2,none⟩=some (.slice ad m.ak.length cap):=(hbX.cell (p:=⟨x.mb,2,none⟩) hlt).trans z2;have zB:x.mb<X.heap.size:=Nat.lt_of_lt_of_le hlt hbX.size;have We:=bU.lt;have hlen:m.ak.length=s.length+2:=by rw[hs];rfl
 have dM:¬(m.ak.length:Int)<2:=by omega
 have HS:=ast hs;have jc:=ast hlen;have HT:=ast (hT.below h.fb (hbX.mono h.le));have D9:=ast (aQ 0 (h.below hbX).at_ (show m.ak[0]?=some c by rw[hs];rfl) (by omega));clear h dI z0 z1 z2 z3 z4 hX hib hbX bU lQ;clear hs hlen hT;obtain⟨k,hk⟩:=exq (m.ak.length);rw[←hk]at zX dM hl;have HK:=ast hk;clear hk;go_enter Tryz.func173,Tryz.ntmps173
 go_upto_region 1 with fail
 rw[←HX.out,←rZ.out];clear HX;go_wp2_with fail
 refine D9.out.mono ?_;rintro e w1 ⟨rfl,hb1⟩;have gY:=ast (HA.out.trans (HA.out.at_.below hb1));have pU:=ast (jX.out.sub hb1 jX.out.lt);have HT1:=ast (HT.out.below HA.out.at_.fb (hb1.mono HA.out.at_.le));have Wh:=ast (aQ 1 gY.out.at_ (show m.ak[1]?=some d by rw[HS.out];rfl) (by omega));clear hb1 D9 HA jX HT i0 zX;go_wp2_with fail
 refine Wh.out.mono ?_;rintro e w2 ⟨rfl,hb2⟩;have dZ:=ast (gY.out.trans (gY.out.at_.below hb2));have sW:=ast (pU.out.sub hb2 pU.out.lt);have rQ:=ast (HT1.out.below gY.out.at_.fb (hb2.mono gY.out.at_.le));clear hb2 Wh gY pU HT1;go_wp2_with fail
 refine(aX 2 [] dZ.out.at_ (by have:=jc.out;have:=HK.out;omega) (by have:=jc.out;have:=HK.out;simp only[List.length_nil];omega) (Or.inl ⟨rfl,none,0,rfl⟩) (fun z hz=>by cases hz)).mono ?_;rintro e w3 ⟨rfl,y,hy⟩;have jo:=ast (dZ.out.trans hy);have hk3:=sW.out.aA hy.aA wM.out;have CY:=ast (rQ.out.below dZ.out.at_.fb (dZ.out.at_.toBelow hy.aA (fun _ e=>e)));have i3:w3.cell? ⟨ib,3,none⟩=some (.slice aa an ac):=hk3.cell 3 _ rfl;have hi3:=hk3.lt;have Jp:=ast (jF l 2 2 c d rfl x.mb jo.out.mb jo.out.at_ CY.out hfl);clear hy dZ sW rQ hk3;go_wp2_with fail
 refine Jp.out.mono ?_;rintro e w6 ⟨rfl,y2,hy2⟩;have HF:=ast (jo.out.trans hy2);clear hy2 Jp jo CY;go_wp2_with fail
 go_end0
 refine⟨rfl,y2,?_⟩;have:=HF.out;rw[HS.out]at this;exact this
theorem Gh{aa ba:Option Addr}{an ac bn bc:Nat}{l:List IT}{c d:Int}{s:List Int}(h:gI B w sb F x m u)(hs:m.ak=c :: d :: s)(hc:¬c<d)(hT:bV F w (.slice aa an ac) l)(hfl:m.fs.length+1≤2000000):
  Calls Tryz.prog 173 #[.pointer (some ⟨x.mb,0,none⟩),.agg #[.int .i64 6,.int .i64 0,.string ⟨#[]⟩,.slice aa an ac,.slice ba bn bc],.pointer (some ⟨x.wp,0,none⟩)] w fun r w'=>r=.returned (.tuple #[])∧di B w sb F x {m with ak:=s} u w':=by
 obtain⟨z0,z1,z2,z3,z4,hlt⟩:=h.cells;obtain⟨ad,cap,dI,_,_⟩:=ag h.eP;rw[dI,List.length_reverse]at z2;have hl:=h.len.2.1;obtain⟨X,hX⟩:=exq (w.alloc (.cells #[.int .i64 6,.int .i64 0,.string ⟨#[]⟩,.slice aa an ac,.slice ba bn bc] 249 (0,0)):World);obtain⟨ib,hib⟩:=exq (w.heap.size);have hbX:Below w.heap.size w X:=by rw[hX];exact brq.alloc nrq _
 have bU:az X ib #[.int .i64 6,.int .i64 0,.string ⟨#[]⟩,.slice aa an ac,.slice ba bn bc] 249:=by rw[hX,hib];exact ay w _ _
 have lQ:¬x.S ib:=fun e=>by have:=h.zC e;omega
 have HA:=ast (h.below hbX);have jX:=ast bU;have HX:=ast hX;have rZ:=ast hib;have wM:=ast lQ;have i0:X.cell? ⟨ib,0,none⟩=some (.int .i64 6):=bU.cell 0 _ rfl;have zX:X.cell? ⟨x.mb,2,none⟩=some (.slice ad m.ak.length cap):=(hbX.cell (p:=⟨x.mb,2,none⟩) hlt).trans z2;have zB:x.mb<X.heap.size:=Nat.lt_of_lt_of_le hlt hbX.size;have We:=bU.lt;have hlen:m.ak.length=s.length+2:=by rw[hs];rfl
 have dM:¬(m.ak.length:Int)<2:=by omega
 have HS:=ast hs;have jc:=ast hlen;have HT:=ast (hT.below h.fb (hbX.mono h.le));have D9:=ast (aQ 0 (h.below hbX).at_ (show m.ak[0]?=some c by rw[hs];rfl) (by omega));clear h dI z0 z1 z2 z3 z4 hX hib hbX bU lQ;clear hs hlen hT;obtain⟨k,hk⟩:=exq (m.ak.length);rw[←hk]at zX dM hl;have HK:=ast hk;clear hk;go_enter Tryz.func173,Tryz.ntmps173
 go_upto_region 1 with fail
 rw[←HX.out,←rZ.out];clear HX;go_wp2_with fail
 refine D9.out.mono ?_;rintro e w1 ⟨rfl,hb1⟩;have gY:=ast (HA.out.trans (HA.out.at_.below hb1));have pU:=ast (jX.out.sub hb1 jX.out.lt);have HT1:=ast (HT.out.below HA.out.at_.fb (hb1.mono HA.out.at_.le));have Wh:=ast (aQ 1 gY.out.at_ (show m.ak[1]?=some d by rw[HS.out];rfl) (by omega));clear hb1 D9 HA jX HT i0 zX;go_wp2_with fail
 refine Wh.out.mono ?_;rintro e w2 ⟨rfl,hb2⟩;have dZ:=ast (gY.out.trans (gY.out.at_.below hb2));have sW:=ast (pU.out.sub hb2 pU.out.lt);have rQ:=ast (HT1.out.below gY.out.at_.fb (hb2.mono gY.out.at_.le));clear hb2 Wh gY pU HT1;go_wp2_with fail
 refine(aX 2 [] dZ.out.at_ (by have:=jc.out;have:=HK.out;omega) (by have:=jc.out;have:=HK.out;simp only[List.length_nil];omega) (Or.inl ⟨rfl,none,0,rfl⟩) (fun z hz=>by cases hz)).mono ?_;rintro e w3 ⟨rfl,y,hy⟩;have jo:=ast (dZ.out.trans hy);have hk3:=sW.out.aA hy.aA wM.out;have CY:=ast (rQ.out.below dZ.out.at_.fb (dZ.out.at_.toBelow hy.aA (fun _ e=>e)));have i3:w3.cell? ⟨ib,3,none⟩=some (.slice aa an ac):=hk3.cell 3 _ rfl;have hi3:=hk3.lt;clear hy dZ sW rQ hk3;go_wp2_with fail
 go_end0
 refine⟨rfl,y,?_⟩;have:=jo.out;rw[HS.out]at this;exact this
end
end
section
attribute [local go_sem] oK
def ui:Array Value:= #[.string ⟨#[]⟩,.int .i64 0,.slice none 0 0,.int .i64 0,.int .i64 0,.int .i64 0,.int .i64 0,.bool false]
section
variable{B:Nat}{w w':World}{sb:Nat}{F:Nat→Prop}{x:DX}{m m':DM}{u u':MW}{sv:Value}{ws:List RW}{sc sk:Int}
theorem aK.word(h:aK w sb sv ws sc sk){k:Nat}{y:RW}(hk:ws[k]?=some y):∃g cap,sv=.slice (some ⟨g,0,none⟩) ws.length cap∧ws.length≤cap∧g<w.heap.size∧k<ws.length∧∀(j:Nat) (v:Value),y.cells[j]?=some v→w.cell? ⟨g,k*8+j,none⟩=some v:=by
 obtain⟨AQ,he⟩:=List.getElem?_eq_some_iff.1 hk;obtain⟨g,cap,hv,_,hg,hc,_,_⟩:=aB h.row (by omega);exact⟨g,cap,hv,hc,hg,AQ,fun j v hj=>zf h.row hv k j AQ v (by have:=(List.getElem?_eq_some_iff.1 hj).1;simpa [RW.cells]using this) (by rw[he];exact hj)⟩
theorem Gi{k:Nat}{y:RW}(h:gI B w sb F x m u)(gQ:aK w sb sv ws sc sk)(sS:ws.length≤1100000)(hk:ws[k]?=some y){va:Option Addr}{vn vc:Nat}(hyi:y.items=.slice va vn vc)(hc:0≤y.var→Cell y.var)(hT:y.var<0→bV F w (.slice va vn vc) y.its)(hfl:m.fs.length+1≤2000000):
  Calls Tryz.prog 173 #[.pointer (some ⟨x.mb,0,none⟩),.agg #[.int .i64 3,.int .i64 k,.string ⟨#[]⟩,.slice none 0 0,.slice none 0 0],.pointer (some ⟨x.wp,0,none⟩)] w fun r w'=>r=.returned (.tuple #[])∧di B w sb F x (if 0≤y.var then(if 32<m.ak.length+1 then{m with done:=true,ed:=2}else{m with ak:=y.var :: m.ak})else{m with fs:=(.slice va vn vc,⟨y.its,0,3,0,0⟩) :: m.fs}) u w':=by
 obtain⟨MR,hMR⟩:∃MR:DM,MR=(if 0≤y.var then(if 32<m.ak.length+1 then{m with done:=true,ed:=2}else{m with ak:=y.var :: m.ak})else{m with fs:=(.slice va vn vc,⟨y.its,0,3,0,0⟩) :: m.fs}):=⟨_,rfl⟩;rw[←hMR];have HMR:=ast hMR;clear hMR;obtain⟨z0,z1,z2,z3,z4,hlt⟩:=h.cells;have hl:=h.len.2.1;obtain⟨sg,Lr,hsv,hsc,Wi,AQ,hwc⟩:=gQ.word hk;have s0:=gQ.blk.cell 0 _ rfl;have hsl:=gQ.blk.lt;simp only[List.getElem_toArray,List.getElem_cons_zero]at s0;rw[hsv]at s0;obtain⟨yn,yv,yi,yf,ys⟩:=y;simp only at hyi hT hc;subst hyi;have d0:w.cell? ⟨sg,k*8,none⟩=some (.string yn):=hwc 0 _ rfl;have d1:w.cell? ⟨sg,k*8+1,none⟩=some (.int .i64 yv):=hwc 1 _ rfl;have d2:w.cell? ⟨sg,k*8+2,none⟩=some (.slice va vn vc):=hwc 2 _ rfl;have d3:w.cell? ⟨sg,k*8+3,none⟩=some (.int .i64 yf.need):=hwc 3 _ rfl;have d4:w.cell? ⟨sg,k*8+4,none⟩=some (.int .i64 yf.bu):=hwc 4 _ rfl;have d5:w.cell? ⟨sg,k*8+5,none⟩=some (.int .i64 yf.high):=hwc 5 _ rfl;have d6:w.cell? ⟨sg,k*8+6,none⟩=some (.int .i64 yf.steps):=hwc 6 _ rfl;have d7:w.cell? ⟨sg,k*8+7,none⟩=some (.bool yf.str):=hwc 7 _ rfl;obtain⟨X,hX⟩:=exq (w.alloc (.cells #[.int .i64 3,.int .i64 k,.string ⟨#[]⟩,.slice none 0 0,.slice none 0 0] 249 (0,0)):World);obtain⟨ib,hib⟩:=exq (w.heap.size);have hbX:Below w.heap.size w X:=by rw[hX];exact brq.alloc nrq _
 have bU:az X ib #[.int .i64 3,.int .i64 k,.string ⟨#[]⟩,.slice none 0 0,.slice none 0 0] 249:=by rw[hX,hib];exact ay w _ _
 have i0:X.cell? ⟨ib,0,none⟩=some (.int .i64 3):=bU.cell 0 _ rfl;have i1:X.cell? ⟨ib,1,none⟩=some (.int .i64 k):=bU.cell 1 _ rfl;have zX:X.cell? ⟨x.mb,0,none⟩=some (.pointer (some ⟨sb,0,none⟩)):=(hbX.cell (p:=⟨x.mb,0,none⟩) hlt).trans z0;have sX:X.cell? ⟨sb,0,none⟩=some (.slice (some ⟨sg,0,none⟩) ws.length Lr):=(hbX.cell (p:=⟨sb,0,none⟩) hsl).trans s0;have e0:X.cell? ⟨sg,k*8,none⟩=some (.string yn):=(hbX.cell (p:=⟨sg,k*8,none⟩) Wi).trans d0;have e1:X.cell? ⟨sg,k*8+1,none⟩=some (.int .i64 yv):=(hbX.cell (p:=⟨sg,k*8+1,none⟩) Wi).trans d1;have e2:X.cell? ⟨sg,k*8+2,none⟩=some (.slice va vn vc):=(hbX.cell (p:=⟨sg,k*8+2,none⟩) Wi).trans d2;have e3:X.cell? ⟨sg,k*8+3,none⟩=some (.int .i64 yf.need):=(hbX.cell (p:=⟨sg,k*8+3,none⟩) Wi).trans d3;have e4:X.cell? ⟨sg,k*8+4,none⟩=some (.int .i64 yf.bu):=(hbX.cell (p:=⟨sg,k*8+4,none⟩) Wi).trans d4;have e5:X.cell? ⟨sg,k*8+5,none⟩=some (.int .i64 yf.high):=(hbX.cell (p:=⟨sg,k*8+5,none⟩) Wi).trans d5;have e6:X.cell? ⟨sg,k*8+6,none⟩=some (.int .i64 yf.steps):=(hbX.cell (p:=⟨sg,k*8+6,none⟩) Wi).trans d6;have e7:X.cell? ⟨sg,k*8+7,none⟩=some (.bool yf.str):=(hbX.cell (p:=⟨sg,k*8+7,none⟩) Wi).trans d7;have hk0:(0:Int)≤(k:Int):=by omega
 have dM:(k:Int)<(ws.length:Int):=by omega
 have HA:=ast (h.below hbX);have HX:=ast hX;have rZ:=ast hib;have HB:=ast hbX;have HT:=ast (fun (q:yv<0)=>(hT q).below h.fb (hbX.mono h.le));clear h gQ hk hwc hX hib hbX bU z0 z1 z2 z3 z4 s0 d0 d1 d2 d3 d4 d5 d6 d7 hsv hT;generalize ws.length=N at *;go_enter Tryz.func173,Tryz.ntmps173
 go_upto_region 1 with fail
 rw[←HX.out,←rZ.out];go_upto_region 16 with fail
 clear HX rZ;have hne:=dH.ne X.heap.size X ui 186 nrq;have k0:∀(S':Option Nat) (v:dH X.heap.size X ui 186 S'),v.val.cell? ⟨x.mb,0,none⟩=some (.pointer (some ⟨sb,0,none⟩)):=fun S' v=>v.cell zX (World.block_lt_of_cell? X _ zX)
 have k1:∀(S':Option Nat) (v:dH X.heap.size X ui 186 S'),v.val.cell? ⟨sb,0,none⟩=some (.slice (some ⟨sg,0,none⟩) N Lr):=fun S' v=>v.cell sX (World.block_lt_of_cell? X _ sX)
 have k2:∀(S':Option Nat) (v:dH X.heap.size X ui 186 S'),v.val.cell? ⟨ib,1,none⟩=some (.int .i64 k):=fun S' v=>v.cell i1 (World.block_lt_of_cell? X _ i1)
 have q0:∀(S':Option Nat) (v:dH X.heap.size X ui 186 S'),v.val.cell? ⟨sg,k*8,none⟩=some (.string yn):=fun S' v=>v.cell e0 (World.block_lt_of_cell? X _ e0)
 have q1:∀(S':Option Nat) (v:dH X.heap.size X ui 186 S'),v.val.cell? ⟨sg,k*8+1,none⟩=some (.int .i64 yv):=fun S' v=>v.cell e1 (World.block_lt_of_cell? X _ e1)
 have q2:∀(S':Option Nat) (v:dH X.heap.size X ui 186 S'),v.val.cell? ⟨sg,k*8+2,none⟩=some (.slice va vn vc):=fun S' v=>v.cell e2 (World.block_lt_of_cell? X _ e2)
 have q3:∀(S':Option Nat) (v:dH X.heap.size X ui 186 S'),v.val.cell? ⟨sg,k*8+3,none⟩=some (.int .i64 yf.need):=fun S' v=>v.cell e3 (World.block_lt_of_cell? X _ e3)
 have q4:∀(S':Option Nat) (v:dH X.heap.size X ui 186 S'),v.val.cell? ⟨sg,k*8+4,none⟩=some (.int .i64 yf.bu):=fun S' v=>v.cell e4 (World.block_lt_of_cell? X _ e4)
 have q5:∀(S':Option Nat) (v:dH X.heap.size X ui 186 S'),v.val.cell? ⟨sg,k*8+5,none⟩=some (.int .i64 yf.high):=fun S' v=>v.cell e5 (World.block_lt_of_cell? X _ e5)
 have q6:∀(S':Option Nat) (v:dH X.heap.size X ui 186 S'),v.val.cell? ⟨sg,k*8+6,none⟩=some (.int .i64 yf.steps):=fun S' v=>v.cell e6 (World.block_lt_of_cell? X _ e6)
 have q7:∀(S':Option Nat) (v:dH X.heap.size X ui 186 S'),v.val.cell? ⟨sg,k*8+7,none⟩=some (.bool yf.str):=fun S' v=>v.cell e7 (World.block_lt_of_cell? X _ e7)
 refine dR ui 186 11 (by kernel_rfl) (by kernel_rfl) rfl (fun _=>rfl) (fun a w=>by simp[go_sem,ui]) ?_;simp only[List.take_succ_cons,List.take_zero,List.drop_succ_cons,List.drop_zero]
 repeat (refine dQ (fun K hK=>?_);go_simp;refine hK _ ?_;clear hK K)
 refine eQ ?_;intro pb w6 hpb bT hblk;have a0:w6.cell? ⟨pb,0,none⟩=some (.string ⟨#[]⟩):=hblk.cell 0 _ rfl;have f0:=hblk.frozen 0;have a1:w6.cell? ⟨pb,1,none⟩=some (.int .i64 0):=hblk.cell 1 _ rfl;have f1:=hblk.frozen 1;have a2:w6.cell? ⟨pb,2,none⟩=some (.slice none 0 0):=hblk.cell 2 _ rfl;have f2:=hblk.frozen 2;have a3:w6.cell? ⟨pb,3,none⟩=some (.int .i64 0):=hblk.cell 3 _ rfl;have f3:=hblk.frozen 3;have a4:w6.cell? ⟨pb,4,none⟩=some (.int .i64 0):=hblk.cell 4 _ rfl;have f4:=hblk.frozen 4;have a5:w6.cell? ⟨pb,5,none⟩=some (.int .i64 0):=hblk.cell 5 _ rfl;have f5:=hblk.frozen 5;have a6:w6.cell? ⟨pb,6,none⟩=some (.int .i64 0):=hblk.cell 6 _ rfl;have f6:=hblk.frozen 6;have a7:w6.cell? ⟨pb,7,none⟩=some (.bool false):=hblk.cell 7 _ rfl;have f7:=hblk.frozen 7;have ZZ:=hblk.lt;obtain⟨V,hV⟩:=exq (((((((((w6.setCell ⟨pb,0,none⟩ (.string yn)).setCell ⟨pb,1,none⟩ (.int .i64 yv)).setCell ⟨pb,2,none⟩ (.slice va vn vc)).setCell ⟨pb,3,none⟩ (.int .i64 yf.need)).setCell ⟨pb,4,none⟩ (.int .i64 yf.bu)).setCell ⟨pb,5,none⟩ (.int .i64 yf.high)).setCell ⟨pb,6,none⟩ (.int .i64 yf.steps)).setCell ⟨pb,7,none⟩ (.bool yf.str)):World)
 have BU:az V pb #[.string yn,.int .i64 yv,.slice va vn vc,.int .i64 yf.need,.int .i64 yf.bu,.int .i64 yf.high,.int .i64 yf.steps,.bool yf.str] 186:=by
  rw[hV];have:=((((((((hblk.set (o:=0) (.string yn)).set (o:=1) (.int .i64 yv)).set (o:=2) (.slice va vn vc)).set (o:=3) (.int .i64 yf.need)).set (o:=4) (.int .i64 yf.bu)).set (o:=5) (.int .i64 yf.high)).set (o:=6) (.int .i64 yf.steps)).set (o:=7) (.bool yf.str));simpa [ui]using this
 have Bc:Below X.heap.size X V:=by rw[hV];exact((((((((bT.setCell hpb _).setCell hpb _).setCell hpb _).setCell hpb _).setCell hpb _).setCell hpb _).setCell hpb _).setCell hpb _)
 have Oz:=ast BU;have HV:=ast hV;have RF:=ast (HA.out.trans (HA.out.at_.below Bc));have Ym:=ast (fun (q:yv<0)=>(HT.out q).below HA.out.at_.fb (Bc.mono HA.out.at_.le));have lQ:¬x.S pb:=fun e=>by have:=HA.out.at_.zC e;omega
 have wM:=ast lQ;clear k0 k1 k2 q0 q1 q2 q3 q4 q5 q6 q7 hne hblk bT BU Bc hV lQ i0 i1 zX sX e0 e1 e2 e3 e4 e5 e6 e7;go_simp
 go_upto_region 17 with fail
 rw[←HV.out];clear a0 a1 a2 a3 a4 a5 a6 a7 f0 f1 f2 f3 f4 f5 f6 f7 HV HA;have p1:V.cell? ⟨pb,1,none⟩=some (.int .i64 yv):=Oz.out.cell 1 _ rfl
 by_cases hv:0≤yv
 ·have yJ:=ast (RF.out.trans (RF.out.at_.below (show Below V.heap.size V (V.alloc (.cells #[.int .i64 yv] 3 (0,0)))from brq.alloc nrq _)))
  have jl:Hid (bz (V.alloc (.cells #[.int .i64 yv] 3 (0,0))).heap.size (V.alloc (.cells #[.int .i64 yv] 3 (0,0))) (.slice (some ⟨V.heap.size,0,none⟩) 1 1) [yv]):=ast (fH V [yv]);have Ro:=hc hv;clear RF Ym;go_wp2_with fail
  by_cases hov:32<m.ak.length+1
  ·refine(dJ 0 yJ.out.at_ (Nat.zero_le _) (by omega) (by omega)).mono ?_
   rintro e w7 ⟨rfl,hy⟩;have HF:=ast (yJ.out.trans hy);clear hy yJ;go_wp2_with fail
   rw[show MR={m with done:=true,ed:=2} by rw[HMR.out];simp[hv,hov]];exact bodyPost_ret (results_none rfl _ _ _) rfl ⟨rfl,_,HF.out⟩
  ·refine(aX 0 [yv] yJ.out.at_ (Nat.zero_le _) (by simp only[List.length_cons,List.length_nil];omega) jl.out (fun z hz=>by rw[List.mem_singleton.1 hz];obtain⟨a,b⟩:=Ro;omega)).mono ?_
   rintro e w7 ⟨rfl,y,hy⟩;have HF:=ast (yJ.out.trans hy);clear hy yJ jl;go_wp2_with fail
   rw[show MR={m with ak:=yv :: m.ak} by rw[HMR.out];simp[hv,hov]];refine bodyPost_ret (results_none rfl _ _ _) rfl ⟨rfl,y,?_⟩;have:=HF.out;simp only[List.map_cons,List.map_nil,List.reverse_cons,List.reverse_nil,List.nil_append,List.singleton_append,List.drop_zero,fA Ro]at this;exact this
 ·have p2:V.cell? ⟨pb,2,none⟩=some (.slice va vn vc):=Oz.out.cell 2 _ rfl
  have Jp:=ast (jF ys 3 3 0 0 rfl x.mb rfl RF.out.at_ (Ym.out (by omega)) hfl);go_wp2_with fail
  refine Jp.out.mono ?_;rintro e w7 ⟨rfl,y2,hy2⟩;have HF:=ast (RF.out.trans hy2);clear hy2 Jp RF Ym;go_wp2_with fail
  go_end0
  refine⟨rfl,y2,?_⟩;have e:MR={m with fs:=(.slice va vn vc,⟨ys,0,3,0,0⟩) :: m.fs}:=by rw[HMR.out];simp;omega
  rw[e];exact HF.out
end
end
section
def After(m m':DM)(u':MW)(D:DR):Prop:=m'.ak=D.2.2.1∧u'=D.2.2.2∧((D.1=4∧m'.fs.map Prod.snd=D.2.1∧m'.done=m.done∧m'.ed=m.ed)∨(D.1≠4∧m'.done=true∧m'.ed=D.1))
section
variable{B:Nat}{w w':World}{sb:Nat}{F:Nat→Prop}{x:DX}{m m':DM}{u u':MW}{sv:Value}{ws:List RW}{sc sk:Int}{es:List PE}{code:List Int}{d:Bool}
def kJ(B:Nat)(w:World)(sb:Nat)(F:Nat→Prop)(x:DX)(m:DM)(D:DR)(r:Ending)(w':World):Prop:=r=.returned (.tuple #[])∧∃t m' u',t≤1∧di B w sb F {x with tk:=x.tk+t} m' u' w'∧After m m' u' D
theorem fC{D:DR}{r:Ending}(h:r=.returned (.tuple #[])∧di B w sb F x m' u' w')(ha:After m m' u' D):kJ B w sb F x m D r w':=⟨h.1,0,m',u',by omega,h.2,ha⟩
theorem bV.shape{v:Value}{its:List IT}(h:bV F w v its):∃a c,v=.slice a its.length c∧its.length≤c:=by
 obtain⟨xs,⟨a,c,h1,h2,_⟩,_⟩:=h;exact⟨a,c,h1,h2⟩
theorem bV.nil0:bV F w (.slice none 0 0) []:=⟨fun _=> #[],⟨Option.none,0,rfl,nrq,fun i h=>by simp at h,fun h=>by simp at h⟩,fun i t h=>by simp at h⟩
theorem Wj{t:IT}{xa:Array Value}{p q:Nat}{ls:List (Int×Int)}{cs:List Int}(h:gI B w sb F x m u)(gQ:aK w sb sv ws sc sk)(sS:ws.length≤1100000)(hT:iR F w xa t)(Xd:bM F w ws)(gG:FI ws)
  (jB:kE es code ws) (hal:Alike es ws) (hC:iE es code d t p q) (hR:Rel es code d (m.fs.map Prod.snd) q ls cs) (hw:Wl m.ak u) (ht:x.tk+1≤2000000) (ho:u.outs.length+1≤2000000) (hfl:m.fs.length+1≤2000000):
  Calls Tryz.prog 173 #[.pointer (some ⟨x.mb,0,none⟩),.agg xa,.pointer (some ⟨x.wp,0,none⟩)] w (kJ B w sb F x m (mP ws t (m.fs.map Prod.snd) m.ak u)):=by
 have QO:=hw.l
 cases hT with
 |num n hn=>
  show Calls _ _ _ _ (kJ B w sb F x m (Nj n (m.fs.map Prod.snd) m.ak u))
  unfold Nj
  by_cases hov:32<m.ak.length+1
  ·rw[if_pos hov]
   exact(wF n h hov).mono (fun r w' hr=>fC hr ⟨rfl,rfl,Or.inr ⟨by simp,rfl,rfl⟩⟩)
  ·rw[if_neg hov]
   exact(F6 n h hn (by omega)).mono (fun r w' hr=>fC hr ⟨rfl,rfl,Or.inl ⟨rfl,rfl,rfl,rfl⟩⟩)
 |op s=>
  cases hC with
  |op d s k p hk h1 h2=>
   show Calls _ _ _ _ (kJ B w sb F x m (Jk ((fP s).getD 0) (m.fs.map Prod.snd) m.ak u))
   unfold Jk;rw[hk];simp only[Option.getD_some];have hb:∀f∈m.fs,f.2.qg≤3:=fun f hf=>hR.qg f.2 (List.mem_map.2 ⟨f,hf,rfl⟩)
   have htc:Cell (aG m.fs):=by rw[Ei];exact hR.acn
   refine(Jo hk h hw htc hb ht ho).mono ?_;rintro r w' ⟨hr,t,ht1,hd⟩;refine⟨hr,t,_,_,ht1,hd,?_⟩
   by_cases hh:cO k m.ak u.vars.length=4
   ·obtain⟨e1,e2⟩:=iY (m:=m) hh
    rw[e1,e2,if_neg (fun e=>e hh),Ei];exact⟨rfl,rfl,Or.inl ⟨rfl,rfl,rfl,rfl⟩⟩
   ·obtain⟨e1,e2⟩:=pI (m:=m) rfl hh
    rw[e1,e2,if_pos hh];exact⟨rfl,rfl,Or.inr ⟨hh,rfl,rfl⟩⟩
 |own k=>
  have hke:∃e,es[k]?=some e:=by
   cases hC with
   |var d k e p hk hv h1 h2=>exact⟨e,hk⟩
   |own d k e p hk hv h1 h2=>exact⟨e,hk⟩
  obtain⟨e,hke⟩:=hke;have AQ:k<ws.length:=by have:=(List.getElem?_eq_some_iff.1 hke).1;rw[hal.len]at this;exact this
  obtain⟨y,hy⟩:∃y,ws[k]?=some y:=⟨_,List.getElem?_eq_getElem AQ⟩;unfold mP;simp only[hy];obtain⟨ya,yn,yc,hyi⟩:=(gG y (List.mem_of_getElem? hy)).2;refine(Gi h gQ sS hy hyi (fun hv=>?_) (fun hv=>by rw[←hyi];exact Xd y (List.mem_of_getElem? hy) hv) hfl).mono (fun r w' hr=>fC hr ?_)
  ·have hev:e.var=true:=by
    cases hb:e.var with
    |true=>rfl
    |false=>have:=((hal.use k e y hke hy).2 hb).1;omega
   rw[((hal.use k e y hke hy).1 hev).1];obtain⟨a,b⟩:=jB.v k e hke hev;exact⟨by omega,by omega⟩
  ·by_cases hv:0≤y.var
   ·rw[if_pos hv,if_pos hv]
    unfold Nj
    by_cases hov:32<m.ak.length+1
    ·rw[if_pos hov,if_pos hov]
     exact⟨rfl,rfl,Or.inr ⟨by simp,rfl,rfl⟩⟩
    ·rw[if_neg hov,if_neg hov]
     exact⟨rfl,rfl,Or.inl ⟨rfl,rfl,rfl,rfl⟩⟩
   ·rw[if_neg hv,if_neg hv]
    exact⟨rfl,rfl,Or.inl ⟨rfl,rfl,rfl,rfl⟩⟩
 |iff v a xs h1 h2=>
  have YY:bV F w v a:=⟨xs,h1,h2⟩;obtain⟨va,vc,rfl,hvc⟩:=YY.shape;unfold mP
  cases hs:m.ak with
  |nil=>exact(BC h (by rw[hs];simp)).mono (fun r w' hr=>fC hr ⟨hs,rfl,Or.inr ⟨by simp,rfl,rfl⟩⟩)
  |cons c s=>
   by_cases hc:c=0
   ·simp only[if_pos hc]
    exact(Gf h hs (by simp[hc]) bV.nil0 hfl).mono (fun r w' hr=>fC hr ⟨rfl,rfl,Or.inl ⟨rfl,rfl,rfl,rfl⟩⟩)
   ·simp only[if_neg hc]
    exact(F9 h hs (by simp[hc]) YY hfl).mono (fun r w' hr=>fC hr ⟨rfl,rfl,Or.inl ⟨rfl,rfl,rfl,rfl⟩⟩)
 |els v v2 a b xs ys h1 h2 k1 k2=>
  have YY:bV F w v a:=⟨xs,h1,h2⟩;have hTb:bV F w v2 b:=⟨ys,k1,k2⟩;obtain⟨va,vc,rfl,hvc⟩:=YY.shape;obtain⟨vb,vd,rfl,hvd⟩:=hTb.shape;unfold mP
  cases hs:m.ak with
  |nil=>exact(y8 h (by rw[hs];simp)).mono (fun r w' hr=>fC hr ⟨hs,rfl,Or.inr ⟨by simp,rfl,rfl⟩⟩)
  |cons c s=>
   by_cases hc:c=0
   ·simp only[if_pos hc]
    exact(Di h hs (by simp[hc]) hTb hfl).mono (fun r w' hr=>fC hr ⟨rfl,rfl,Or.inl ⟨rfl,rfl,rfl,rfl⟩⟩)
   ·simp only[if_neg hc]
    exact(Dh h hs (by simp[hc]) YY hfl).mono (fun r w' hr=>fC hr ⟨rfl,rfl,Or.inl ⟨rfl,rfl,rfl,rfl⟩⟩)
 |Et v ad n c a xs h1 h2=>
  have YY:bV F w v a:=⟨xs,h1,h2⟩;obtain⟨va,vc,rfl,hvc⟩:=YY.shape;unfold mP;rcases hs:m.ak with _|⟨c,_|⟨e,s⟩⟩
  ·exact(qY h (by rw[hs];simp)).mono (fun r w' hr=>fC hr ⟨hs,rfl,Or.inr ⟨by simp,rfl,rfl⟩⟩)
  ·exact(qY h (by rw[hs];simp)).mono (fun r w' hr=>fC hr ⟨hs,rfl,Or.inr ⟨by simp,rfl,rfl⟩⟩)
  ·by_cases hlt:c<e
   ·simp only[if_pos hlt]
    exact(Gg h hs hlt YY hfl).mono (fun r w' hr=>fC hr ⟨rfl,rfl,Or.inl ⟨rfl,rfl,rfl,rfl⟩⟩)
   ·simp only[if_neg hlt]
    exact(Gh h hs hlt YY hfl).mono (fun r w' hr=>fC hr ⟨rfl,rfl,Or.inl ⟨rfl,rfl,rfl,rfl⟩⟩)
end
end
section
section
variable{B:Nat}{w w':World}{sb:Nat}{F:Nat→Prop}{x:DX}{m m':DM}{u u':MW}{sv:Value}{ws:List RW}{sc sk:Int}{es:List PE}{code:List Int}{d:Bool}
theorem Rel.leave0{f:Fr}{r:List Fr}{p:Nat}{ls:List (Int×Int)}{cs:List Int}(h:Rel es code d (f :: r) p ls cs)(hb:f.qg=0):∃p',Rel es code d r p' ls cs:=by
 generalize BB:f :: r=fs at h
 cases h with
 |last f' p q hb' hc h1=>
  obtain⟨rfl,rfl⟩:f=f'∧r=[]:=by simpa using BB
  omega
 |word d f' g r' p q p2 ls cs hb' hc h1 hp hr=>
  obtain⟨rfl,rfl⟩:f=f'∧r=g :: r':=by simpa using BB
  omega
 |none d f' r' p q ls cs hb' hc hr=>
  obtain⟨rfl,rfl⟩:f=f'∧r=r':=by simpa using BB
  exact⟨q,hr⟩
 |els d f' r' p q p2 ls cs hb' hc h1 h2 hp hr=>
  obtain⟨rfl,rfl⟩:f=f'∧r=r':=by simpa using BB
  omega
 |loop d f' r' p q p0 ls cs hb' hc h1 h2 hp h3 hn hr=>
  obtain⟨rfl,rfl⟩:f=f'∧r=r':=by simpa using BB
  omega
theorem Rel.agU{f:Fr}{r:List Fr}{p:Nat}{ls:List (Int×Int)}{cs:List Int}(h:Rel es code d (f :: r) p ls cs)(hb:f.qg=2):Cell f.n∧Cell f.e:=by
 generalize BB:f :: r=fs at h
 cases h with
 |last f' p q hb' hc h1=>
  obtain⟨rfl,rfl⟩:f=f'∧r=[]:=by simpa using BB
  omega
 |word d f' g r' p q p2 ls cs hb' hc h1 hp hr=>
  obtain⟨rfl,rfl⟩:f=f'∧r=g :: r':=by simpa using BB
  omega
 |none d f' r' p q ls cs hb' hc hr=>
  obtain⟨rfl,rfl⟩:f=f'∧r=r':=by simpa using BB
  omega
 |els d f' r' p q p2 ls cs hb' hc h1 h2 hp hr=>
  obtain⟨rfl,rfl⟩:f=f'∧r=r':=by simpa using BB
  omega
 |loop d f' r' p q p0 ls cs hb' hc h1 h2 hp h3 hn hr=>
  obtain⟨rfl,rfl⟩:f=f'∧r=r':=by simpa using BB
  exact⟨hn.1,hn.2.1⟩
theorem gI.Ej{pv:Value}{f f':Fr}{r:List (Value×Fr)}{g cap:Nat}(h:gI B w sb F x m u)(hm:m.fs=(pv,f) :: r)(hfv:x.fv=.slice (some ⟨g,0,none⟩) m.fs.length cap)(hc:aj (fun b=>b=g) w w')(hi:f'.its=f.its)
  (hr:w'.ownsRow B 257 5 (.slice (some ⟨g,0,none⟩) m.fs.length cap) m.fs.length (r.reverse.flatMap Fr.cells++Fr.cells (pv,f'))):DN B w sb F x {m with fs:=(pv,f') :: r} u w' x:=by
 have hne:x.mb≠g:=fun e=>ah h.l7 h.iM (by decide) (by rw[hfv,←e];rfl)
 have:=h.frames (JO:=x.fv) (fs':=(pv,f') :: r) (hc.mono (fun b _ e=>Or.inr (by rw[hfv,e];rfl))) (h.iM.aA hc hne) (by
  show World.ownsRow _ _ _ _ _ _ _
  rw[hfv,List.reverse_cons,List.flatMap_append,List.flatMap_singleton,List.length_cons];rw[hm,List.length_cons]at hr;rw[hm,List.length_cons]
  exact hr) (Lc.refl _ _) (fun p hp=>by
   rcases List.mem_cons.1 hp with e|hp
   ·rw[e]
    have:=h.Xb (pv,f) (by rw[hm];simp);simp only at this ⊢;rw[hi];exact this
   ·exact h.Xb p (by rw[hm];exact List.mem_cons_of_mem _ hp)) (by have:=h.len.1;rw[hm]at this;simpa using this)
 exact this
theorem DN.Wn{y z:DX}{m2:DM}{u2:MW}{w2:World}{t:Nat}(h:DN B w sb F x m' u' w' y)(h2:DN B w' sb F {y with tk:=y.tk+t} m2 u2 w2 z):DN B w sb F {x with tk:=x.tk+t} m2 u2 w2 z:=
 ⟨h2.at_,h2.mb.trans h.mb,h2.wp.trans h.wp,h2.cv.trans h.cv,h2.full.trans h.full,
  fun k hk=>(h2.fv k hk).elim (h.fv k) (fun e=>Or.inr (Nat.le_trans h.aA.size e)),fun k hk=>(h2.ov k hk).elim (h.ov k) (fun e=>Or.inr (Nat.le_trans h.aA.size e)),
  h.aA.jG h2.aA (fun b hb e=>(h.sub b e).elim id (fun e=>by omega)),by rw[h2.tk];simp only;rw[h.tk]⟩
theorem QY{m1:DM}{y:DX}{D:DR}{r:Ending}{w2:World}(h:DN B w sb F x m1 u w' y)(hm:m1.done=m.done∧m1.ed=m.ed)(hp:kJ B w' sb F y m1 D r w2):kJ B w sb F x m D r w2:=by
 obtain⟨hr,t,m',u',ht,⟨z,hz⟩,ha⟩:=hp;refine⟨hr,t,m',u',ht,⟨z,h.Wn hz⟩,ha.1,ha.2.1,?_⟩;rcases ha.2.2 with ⟨a,b,c,e⟩|e
 ·exact Or.inl ⟨a,b,c.trans hm.1,e.trans hm.2⟩
 ·exact Or.inr e
theorem aK.agV(h:aK w sb sv ws sc sk)(hs:sb<B∧∀k,sv.ownBlock=some k→k<B)(hc:Below B w w'):aK w' sb sv ws sc sk:=
 ⟨(hc.block sb hs.1).trans h.blk,af (S:=fun k=>B≤k) h.row ⟨hc.os,hc.tape,hc.output,hc.size,fun k hk hn=>hc.block k (by omega)⟩ (fun k hk e=>by have:=hs.2 k hk;omega),h.apart⟩
theorem Wp{p:Nat}{ls:List (Int×Int)}{cs:List Int}(h:gI B w sb F x m u)(gQ:aK w sb sv ws sc sk)(hsB:sb<B∧∀k,sv.ownBlock=some k→k<B)(sS:ws.length≤1100000)(Xd:bM F w ws)(gG:FI ws)
  (jB:kE es code ws) (hal:Alike es ws) (hcl:code.length≤1000000) (hR:Rel es code d (m.fs.map Prod.snd) p ls cs) (hw:Wl m.ak u) (ht:x.tk+1≤2000000) (ho:u.outs.length+1≤2000000) (hfl:m.fs.length+1≤2000000):
  Calls Tryz.prog 133 #[.pointer (some ⟨x.mb,0,none⟩),.pointer (some ⟨x.wp,0,none⟩)] w (kJ B w sb F x m (fF ws (m.fs.map Prod.snd) m.ak u)):=by
 obtain⟨D,hD⟩:=exq (fF ws (m.fs.map Prod.snd) m.ak u);rw[←hD];have H:=ast h;have HSY:=ast (And.intro gQ hsB);have HTA:=ast Xd;have HCD:=ast (And.intro jB hal);have HR:=ast hR;have HW:=ast hw;have HD:=ast hD;clear h gQ hsB Xd jB hal hR hw hD;go_enter Tryz.func133,Tryz.ntmps133
 go_wp2_with fail
 go_loopw[4,5] (fun a b wr=>∃(m1:DM) (y:DX) (p1:Nat),Hid (DN B w sb F x m1 u wr y)∧Hid (m1.ak=m.ak∧m1.done=m.done∧m1.ed=m.ed∧m1.fs.length≤m.fs.length)∧Hid (Rel es code d (m1.fs.map Prod.snd) p1 ls cs)∧Hid (D=fF ws (m1.fs.map Prod.snd) m.ak u)) (fun _ _ wr=>match wr.cell? ⟨x.mb,1,none⟩with|some (.slice _ n _)=>n|_=>0)
 case atStart=>exact⟨m,x,p,ast (H.out.below brq),ast ⟨rfl,rfl,rfl,nrq⟩,HR,HD⟩
 case round=>
  clear HR HD;obtain⟨m1,y,p1,HY,HE,JG,Au⟩:=hrel
  obtain⟨pv,f,r,hm1⟩:∃pv f r,m1.fs=(pv,f) :: r:=by
   cases hm:m1.fs with
   |nil=>have:=JG.out.ne;rw[hm]at this;exact absurd rfl this
   |cons a r=>exact⟨a.1,a.2,r,rfl⟩
  have hlen1:m1.fs.length=r.length+1:=by rw[hm1];rfl
  have hrev:m1.fs.reverse[r.length]?=some (pv,f):=by rw[hm1,List.reverse_cons,List.getElem?_append_right (by simp)];simp
  obtain⟨g,cap,hfv,hcap,hg,_,hcell⟩:=HY.out.at_.VY r.length hrev;obtain⟨z0,z1,z2,z3,z4,hlt⟩:=HY.out.at_.cells;rw[hfv,HY.out.mb,hlen1]at z1;rw[HY.out.mb]at hlt;have hTf:=HY.out.at_.Xb (pv,f) (by rw[hm1];simp);obtain⟨pa,pc,hpv,YB⟩:=hTf.shape;simp only at hpv YB hTf;subst hpv;have q0:=hcell 0 _ rfl;have q1:=hcell 1 _ rfl;have q2:=hcell 2 _ rfl;have q3:=hcell 3 _ rfl;have q4:=hcell 4 _ rfl;rw[Nat.add_zero]at q0;obtain⟨n,hn⟩:=exq (r.length);rw[←hn]at z1 q0 q1 q2 q3 q4;rw[hlen1,←hn]at hcap;have hnl:n+1≤2000000:=by have:=HE.out.2.2.2;omega
  have Xv:=ast hm1;have DU:=ast hlen1;have YR:=ast hfv;have HTF:=ast hTf;have HN:=ast hn;have wK:(0:Int)≤(n:Int):=by omega
  have hn1:(n:Int)<(n:Int)+1:=by omega
  have hn2:(n:Int)+1 - 1=(n:Int):=by omega
  have alq:f.qg≤3:=JG.out.qg f (by rw[hm1];simp);clear hm1 hlen1 hrev hfv hcell hTf z0 z2 z3 z4 hn;go_upto_region 2 with fail
  obtain⟨Z,hZ⟩:=exq (wr.alloc (.cells #[.slice pa f.its.length pc,.int .i64 f.i,.int .i64 f.qg,.int .i64 f.n,.int .i64 f.e] 257 (0,0)):World);obtain⟨fb,hfb⟩:=exq (wr.heap.size);have Qg:Below wr.heap.size wr Z:=by rw[hZ];exact brq.alloc nrq _
  have hkZ:az Z fb #[.slice pa f.its.length pc,.int .i64 f.i,.int .i64 f.qg,.int .i64 f.n,.int .i64 f.e] 257:=by rw[hZ,hfb];exact ay wr _ _
  rw[←hZ,←hfb];have YS:=HY.out.trans (HY.out.at_.below Qg);have YZ:=ast YS;have Zo:=ast hkZ;have c0:Z.cell? ⟨fb,0,none⟩=some (.slice pa f.its.length pc):=hkZ.cell 0 _ rfl;have c1:Z.cell? ⟨fb,1,none⟩=some (.int .i64 f.i):=hkZ.cell 1 _ rfl;have c2:Z.cell? ⟨fb,2,none⟩=some (.int .i64 f.qg):=hkZ.cell 2 _ rfl;have c3:Z.cell? ⟨fb,3,none⟩=some (.int .i64 f.n):=hkZ.cell 3 _ rfl;have c4:Z.cell? ⟨fb,4,none⟩=some (.int .i64 f.e):=hkZ.cell 4 _ rfl;have zZ:Z.cell? ⟨x.mb,1,none⟩=some (.slice (some ⟨g,0,none⟩) (n+1) cap):=(Qg.cell (p:=⟨x.mb,1,none⟩) hlt).trans z1;have a1:Z.cell? ⟨g,n*5+1,none⟩=some (.int .i64 f.i):=(Qg.cell (p:=⟨g,n*5+1,none⟩) hg).trans q1;have a3:Z.cell? ⟨g,n*5+3,none⟩=some (.int .i64 f.n):=(Qg.cell (p:=⟨g,n*5+3,none⟩) hg).trans q3;have hgf:g≠fb:=by omega
  have hmf:x.mb≠fb:=by omega
  have hmZ:x.mb<Z.heap.size:=Nat.lt_of_lt_of_le hlt Qg.size;have hgZ:g<Z.heap.size:=Nat.lt_of_lt_of_le hg Qg.size;have hfZ:=hkZ.lt;have lQ:¬y.S fb:=fun e=>by have:=HY.out.at_.zC e;omega
  have aaj:(match wr.cell? ⟨x.mb,1,none⟩with|some (.slice _ n _)=>n|_=>0)=n+1:=by rw[z1]
  have HME:=ast aaj;have hFl:(r.reverse.flatMap Fr.cells).length=n*5:=by rw[OE,List.length_reverse,HN.out]
  have OH:Z.ownsRow B 257 5 (.slice (some ⟨g,0,none⟩) m1.fs.length cap) m1.fs.length (r.reverse.flatMap Fr.cells++Fr.cells (.slice pa f.its.length pc,f)):=by
   have:=YS.at_.l7;rw[show MK B Z y.fv m1.fs=Z.ownsRow B 257 5 y.fv m1.fs.length (m1.fs.reverse.flatMap Fr.cells)from rfl,YR.out]at this;have e:m1.fs.reverse.flatMap Fr.cells=r.reverse.flatMap Fr.cells++Fr.cells (.slice pa f.its.length pc,f):=by rw[Xv.out,List.reverse_cons,List.flatMap_append,List.flatMap_singleton]
   rw[e]at this;exact this
  have f1:=xO OH (n*5+1);have f3:=xO OH (n*5+3);have Zf:=ast OH;have HFL:=ast hFl;have wM:=ast lQ;have HRR:Hid (Rel es code d (f :: r.map Prod.snd) p1 ls cs):=ast (by have:=JG.out;rw[Xv.out]at this;exact this);have vH:Hid (D=fF ws (f :: r.map Prod.snd) m.ak u):=ast (by have:=Au.out;rw[Xv.out]at this;exact this);clear hZ hfb Qg hkZ YS z1 q0 q1 q2 q3 q4 hlt hg aaj hFl OH lQ JG Au HTF
  by_cases hfi:f.i<f.its.length
  ·have alr:(f.i:Int)<(f.its.length:Int):=by omega
   have aqR:(f.i:Int)≤1000000:=by have:=HRR.out.len;omega
   have als:(0:Int)≤(f.i:Int):=by omega
   obtain⟨W,hW⟩:=exq (Z.setCell ⟨g,n*5+1,none⟩ (.int .i64 ((f.i:Int)+1)):World);have A8:aj (fun b=>b=g) Z W:=by rw[hW];exact(aj.refl (fun b=>b=g) Z).setCell (p:=⟨g,n*5+1,none⟩) rfl _
   have hrW:W.ownsRow B 257 5 (.slice (some ⟨g,0,none⟩) m1.fs.length cap) m1.fs.length (r.reverse.flatMap Fr.cells++Fr.cells (.slice pa f.its.length pc,{f with i:=f.i+1})):=by
    have:=dA Zf.out HFL.out 1 (.int .i64 ((f.i:Int)+1));rw[hW];simpa [Fr.cells]using this
   have Wq:=YZ.out.trans (YZ.out.at_.Ej (f':={f with i:=f.i+1}) Xv.out YR.out A8 rfl hrW);obtain⟨tt,htt⟩:∃tt,f.its[f.i]?=some tt:=⟨_,List.getElem?_eq_getElem hfi⟩;obtain⟨q,hC,hRn⟩:=HRR.out.next htt;have hTW:=Wq.at_.Xb (.slice pa f.its.length pc,{f with i:=f.i+1}) (by simp);obtain⟨xs,⟨ad,cp,e1,e2,e3,e4⟩,hTr⟩:=hTW;simp only at e1 e2 e3 e4 hTr;obtain⟨ig,ics,rfl,e5,e6,e7⟩:=e4 (by omega);obtain⟨rfl,rfl⟩:pa=some ⟨ig,0,none⟩∧pc=cp:=by simpa using e1
   obtain⟨xk,xn,xs_,xa1,xn1,xc1,xa2,xn2,xc2,hx5⟩:=e3 f.i hfi;have aak:=hTr f.i tt htt;have RI:Below B w W:=H.out.toBelow Wq.aA (fun _ e=>e);have hit:=Wj Wq.at_ (HSY.out.1.agV HSY.out.2 RI) sS aak (HTA.out.mono (fun k cs hk _=>⟨hk,RI.block k (H.out.fb k hk)⟩)) gG HCD.out.1 HCD.out.2 hC (by simpa using hRn) (by rw[show({m1 with fs:=(Value.slice (some ⟨ig,0,none⟩) f.its.length pc,{f with i:=f.i+1}) :: r}:DM).ak=m.ak from HE.out.1];exact HW.out) (by rw[Wq.tk];exact ht) ho (by have:=DU.out;have:=HE.out.2.2.2;simp only[List.length_cons];omega);rw[Wq.mb,Wq.wp,hx5]at hit;have Ws:D=mP ws tt ({f with i:=f.i+1} :: r.map Prod.snd) m.ak u:=by rw[vH.out,fF,htt]
   have t0:W.cell? ⟨ig,f.i*5,none⟩=some (.int .i64 xk):=by
    have:=e7 f.i hfi 0 _ (by rw[hx5];rfl);rw[Nat.add_zero]at this;exact az.cell (w:=W) (b:=ig) e6 _ _ this
   have t1:W.cell? ⟨ig,f.i*5+1,none⟩=some (.int .i64 xn):=az.cell (w:=W) (b:=ig) e6 _ _ (e7 f.i hfi 1 _ (by rw[hx5];rfl));have t2:W.cell? ⟨ig,f.i*5+2,none⟩=some (.string xs_):=az.cell (w:=W) (b:=ig) e6 _ _ (e7 f.i hfi 2 _ (by rw[hx5];rfl));have t3:W.cell? ⟨ig,f.i*5+3,none⟩=some (.slice xa1 xn1 xc1):=az.cell (w:=W) (b:=ig) e6 _ _ (e7 f.i hfi 3 _ (by rw[hx5];rfl));have t4:W.cell? ⟨ig,f.i*5+4,none⟩=some (.slice xa2 xn2 xc2):=az.cell (w:=W) (b:=ig) e6 _ _ (e7 f.i hfi 4 _ (by rw[hx5];rfl));have b0:W.cell? ⟨fb,0,none⟩=some (.slice (some ⟨ig,0,none⟩) f.its.length pc):=(A8.cell (p:=⟨fb,0,none⟩) hfZ (fun e=>hgf e.symm)).trans c0;have b1:W.cell? ⟨fb,1,none⟩=some (.int .i64 f.i):=(A8.cell (p:=⟨fb,1,none⟩) hfZ (fun e=>hgf e.symm)).trans c1;have hfW:fb<W.heap.size:=Nat.lt_of_lt_of_le hfZ A8.size;have aq1:ig<W.heap.size:=(Array.getElem?_eq_some_iff.1 e6).1;have JJ:=ast hit;have HDW:=ast Wq;have Y0:=ast Ws;have HWW:=ast hW;clear hit Wq Ws A8 hrW hTr e1 e2 e3 e4 e5 e6 e7 aak RI hC hRn hx5 htt hW;go_upto_region 4 with fail
   rw[←HWW.out];clear c0 c1 c2 c3 c4 zZ a1 a3 f1 f3;go_wp2_with fail
   refine JJ.out.mono ?_;intro e w6 Rn;obtain rfl:=Rn.1;have H6:=ast Rn;clear Rn JJ;go_wp2_with fail
   refine bodyPost_ret (results_none rfl _ _ _) rfl ?_;rw[Y0.out];refine QY HDW.out ⟨HE.out.2.1,HE.out.2.2.1⟩ ?_;have h6:=H6.out;have es:({m1 with fs:=(Value.slice (some ⟨ig,0,none⟩) f.its.length pc,{f with i:=f.i+1}) :: r}:DM).ak=m.ak:=HE.out.1;rw[es]at h6;exact h6
  ·have alr:¬(f.i:Int)<(f.its.length:Int):=by omega
   have hnone:f.its[f.i]?=none:=List.getElem?_eq_none (by omega);have Qp:=ast (Bv YZ.out.at_ Xv.out);rw[HY.out.mb]at Qp;obtain⟨bb,hbb⟩:=exq (f.qg);rw[←hbb]at c2 alq;have hcs:bb=0∨bb=1∨bb=2∨bb=3:=by omega
   have yJ:=ast hbb;clear hbb;rcases hcs with rfl|rfl|rfl|rfl
   ·have HDn:Hid (D=fF ws (r.map Prod.snd) m.ak u):=ast (by rw[vH.out,fF,hnone];simp only;rw[if_pos yJ.out.symm])
    obtain⟨p2,hR2⟩:=HRR.out.leave0 yJ.out.symm;have HR2:=ast hR2;clear hR2;go_wp2_with fail
    refine Qp.out.mono ?_;rintro e w6 ⟨rfl,y2,hy2⟩;have HF:=ast (YZ.out.trans hy2);clear hy2 Qp;go_wp2_with fail
    go_roundw
    case rel=>exact⟨_,y2,p2,HF,ast ⟨HE.out.1,HE.out.2.1,HE.out.2.2.1,by have:=HE.out.2.2.2;have:=DU.out;simp only;omega⟩,HR2,HDn⟩
    case measure=>
     have h1:=HF.out.at_.cells.2.1;obtain⟨iI,bf,alv,_,_⟩:=ag HF.out.at_.l7;rw[alv,HF.out.mb]at h1;rw[HME.out,h1];simp only;have:=HN.out;omega
   ·have Ws:D=(4,r.map Prod.snd,m.ak,u):=by rw[vH.out,fF,hnone];simp only;rw[if_neg (by have:=yJ.out;omega),if_pos yJ.out.symm]
    have Y0:=ast Ws;clear Ws;go_wp2_with fail
    refine Qp.out.mono ?_;rintro e w6 ⟨rfl,y2,hy2⟩;have HF:=ast (YZ.out.trans hy2);clear hy2 Qp;go_wp2_with fail
    refine bodyPost_ret (results_none rfl _ _ _) rfl ?_;rw[Y0.out];exact⟨rfl,0,_,_,by omega,⟨y2,HF.out⟩,HE.out.1,rfl,Or.inl ⟨rfl,rfl,HE.out.2.1,HE.out.2.2.1⟩⟩
   ·obtain⟨⟨n1,n2⟩,n3,n4⟩:=HRR.out.agU yJ.out.symm
    obtain⟨W,hW⟩:=exq ((Z.setCell ⟨g,n*5+3,none⟩ (.int .i64 (f.n+1))).setCell ⟨g,n*5+1,none⟩ (.int .i64 0):World);have A8:aj (fun b=>b=g) Z W:=by rw[hW];exact((aj.refl (fun b=>b=g) Z).setCell (p:=⟨g,n*5+3,none⟩) rfl _).setCell (p:=⟨g,n*5+1,none⟩) rfl _
    have hrW:W.ownsRow B 257 5 (.slice (some ⟨g,0,none⟩) m1.fs.length cap) m1.fs.length (r.reverse.flatMap Fr.cells++Fr.cells (.slice pa f.its.length pc,{f with n:=f.n+1,i:=0})):=by
     have:=dA (dA Zf.out HFL.out 3 (.int .i64 (f.n+1))) HFL.out 1 (.int .i64 0);rw[hW];simpa [Fr.cells]using this
    have Wq:=YZ.out.trans (YZ.out.at_.Ej (f':={f with n:=f.n+1,i:=0}) Xv.out YR.out A8 rfl hrW);have b3:W.cell? ⟨fb,3,none⟩=some (.int .i64 f.n):=(A8.cell (p:=⟨fb,3,none⟩) hfZ (fun e=>hgf e.symm)).trans c3;have b4:W.cell? ⟨fb,4,none⟩=some (.int .i64 f.e):=(A8.cell (p:=⟨fb,4,none⟩) hfZ (fun e=>hgf e.symm)).trans c4;have hfW:fb<W.heap.size:=Nat.lt_of_lt_of_le hfZ A8.size
    have Ws:D=(4,if f.e≤f.n+1 then r.map Prod.snd else{f with n:=f.n+1,i:=0} :: r.map Prod.snd,m.ak,u):=by
     rw[vH.out,fF,hnone];simp only;rw[if_neg (by have:=yJ.out;omega),if_neg (by have:=yJ.out;omega),if_pos yJ.out.symm]
    have Y0:=ast Ws;have HDW:=ast Wq;have HWW:=ast hW;clear Ws Wq A8 hrW hW Qp;go_upto_region 16 with fail
    rw[←HWW.out];clear c0 c1 c2 c3 c4 zZ a1 a3 f1 f3 HWW
    by_cases hge:f.e≤f.n+1
    ·have HLW:=ast (Bv (r:=r) HDW.out.at_ rfl)
     rw[HY.out.mb]at HLW;go_wp2_with fail
     refine HLW.out.mono ?_;rintro e w6 ⟨rfl,y2,hy2⟩;have HF:=ast (HDW.out.trans hy2);clear hy2 HLW;go_wp2_with fail
     refine bodyPost_ret (results_none rfl _ _ _) rfl ?_;rw[Y0.out,if_pos hge];exact⟨rfl,0,_,_,by omega,⟨y2,HF.out⟩,HE.out.1,rfl,Or.inl ⟨rfl,rfl,HE.out.2.1,HE.out.2.2.1⟩⟩
    ·go_wp2_with fail
     refine bodyPost_ret (results_none rfl _ _ _) rfl ?_;rw[Y0.out,if_neg (by omega)];exact⟨rfl,0,_,_,by omega,⟨y,HDW.out⟩,HE.out.1,rfl,Or.inl ⟨rfl,rfl,HE.out.2.1,HE.out.2.2.1⟩⟩
   ·have Ws:D=(if r.map Prod.snd=[]then 0 else 4,r.map Prod.snd,m.ak,u):=by
     rw[vH.out,fF,hnone];simp only;rw[if_neg (by have:=yJ.out;omega),if_neg (by have:=yJ.out;omega),if_neg (by have:=yJ.out;omega)]
    have Y0:=ast Ws;clear Ws
    by_cases KT:r=[]
    ·have aly:n=0:=by rw[HN.out,KT];rfl
     subst aly;go_wp2_with fail
     refine Qp.out.mono ?_;rintro e w6 ⟨rfl,y2,hy2⟩;have HF:=ast (YZ.out.trans hy2);have HST:=ast (jE 0 hy2.at_);rw[hy2.mb,HY.out.mb]at HST;clear hy2 Qp;go_wp2_with fail
     refine HST.out.mono ?_;rintro e w7 ⟨rfl,hy7⟩;have H7:=ast (HF.out.trans hy7);clear hy7 HST;go_wp2_with fail
     refine bodyPost_ret (results_none rfl _ _ _) rfl ?_;rw[Y0.out,KT];exact⟨rfl,0,_,_,by omega,⟨y2,H7.out⟩,HE.out.1,rfl,Or.inr ⟨by simp,rfl,rfl⟩⟩
    ·have hnp:n≠0:=fun e=>KT (List.eq_nil_of_length_eq_zero (by rw[←HN.out];exact e))
     have hnn:((n:Int) == 0)=false:=by simp;exact hnp
     go_wp2_with fail
     refine Qp.out.mono ?_;rintro e w6 ⟨rfl,y2,hy2⟩;have HF:=ast (YZ.out.trans hy2);clear hy2 Qp;go_wp2_with fail
     refine bodyPost_ret (results_none rfl _ _ _) rfl ?_;rw[Y0.out,if_neg (by simpa using KT)];exact⟨rfl,0,_,_,by omega,⟨y2,HF.out⟩,HE.out.1,rfl,Or.inl ⟨rfl,rfl,HE.out.2.1,HE.out.2.2.1⟩⟩
end
end
section
attribute [local go_sem] dK
theorem rO{B:Nat}{w:World}{iv:Value}{l:List Int}(hi:bz B w iv l)(hB:B≤w.heap.size)(hl:l.length≤1100000):
  Calls Tryz.prog 131 #[iv] w fun e w'=>e=.returned (.bool (qp l))∧w'=w:=by
 obtain⟨R,hR⟩:=exq (qp l);rw[←hR];obtain⟨a,c,rfl,hv⟩:=oh hi
 ·have HR:=ast hR;have HV:=ast hv;have HL:=ast hl
  obtain⟨n,hn⟩:=exq (l.length);rw[←hn]at hl ⊢;have HN:=ast hn;clear hR hv hn hi;go_enter Tryz.func131,Tryz.ntmps131
  go_wp2_with fail
  go_loopw[3] (fun s wr=>∃k:Nat,k≤n∧s=.int .i64 k∧wr=w∧Hid (R=qp (l.drop k))) (fun s _=>n - (intOf s).toNat)
  case atStart=>exact⟨0,Nat.zero_le _,rfl,rfl,ast (by rw[HR.out];rfl)⟩
  case round=>
   clear HR;obtain⟨k,hk,rfl,rfl,HC⟩:=hrel
   by_cases hlt:k<n
   ·have lD:(k:Int)<(n:Int):=by omega
    obtain⟨y,hy⟩:∃y,l[k]?=some y:=⟨_,List.getElem?_eq_getElem (by rw[←HN.out];exact hlt)⟩;obtain⟨pb,po,rfl,hp,cy⟩:=HV.out k y hy;have hpb:pb<wr.heap.size:=by omega
    have hdr:R=(decide (Cell y)&&qp (l.drop (k+1))):=by
     have hyy:=(List.getElem?_eq_some_iff.1 hy);obtain⟨h1,h2⟩:=hyy;rw[HC.out,List.drop_eq_getElem_cons h1,h2];rfl
    have HD:=ast hdr;clear hdr hy HC
    by_cases h1:y< -2147483648
    ·have HR:Hid (R=false):=by show R=false;rw[HD.out,decide_eq_false (fun h=>by have:=h.1;omega)];rfl
     go_wp2_with fail
     rw[HR.out];go_ret
     exact⟨rfl,rfl⟩
    ·by_cases h2:2147483647<y
     ·have HR:Hid (R=false):=by show R=false;rw[HD.out,decide_eq_false (fun h=>by have:=h.2;omega)];rfl
      go_wp2_with fail
      rw[HR.out];go_ret
      exact⟨rfl,rfl⟩
     ·have HR:Hid (R=qp (l.drop (k+1))):=by show R=_;rw[HD.out,decide_eq_true ⟨by omega,by omega⟩,Bool.true_and]
      go_wp2_with fail
      go_roundw
      case rel=>exact⟨k+1,by omega,by go_num,by trivial,HR⟩
      case measure=>simp only[intOf];omega
   ·obtain rfl:k=n:=by omega
    have lD:¬(k:Int)<(k:Int):=by omega
    have HR:Hid (R=true):=by show R=true;rw[HC.out,List.drop_of_length_le (by rw[←HN.out];exact nrq)];rfl
    clear HC;go_wp2_with fail
    rw[HR.out];go_ret
    exact⟨rfl,rfl⟩
theorem wG{B:Nat}{W:World}{ops:Array Oper}{rest:List Oper}{o:Oper}{a:Act}{Q:Exit→Act→World→Prop}(hgd:o.guard=none)(s y:Operand)(ho:o.op=.call {callee:=.builtin .append,args:= #[s,y],argTypes:= #[24,24]})
  {ad:Option Addr} {n c:Nat} {l:List Int} (hs:a.eval s=.slice none 0 0) (hy:a.eval y=.slice ad n c) (hi:bz B W (.slice ad n c) l) (BH:ad=none→c=0) (hk:l.length≤1100000)
  (h:∀v' w',bP W.heap.size w' v' l→Below W.heap.size W w'→wpList Tryz.prog ops Q rest (a.put o.dst v') w'):wpList Tryz.prog ops Q (o :: rest) a W:=by
 obtain⟨i,hii,hz,hsz,hb⟩:=info_parts Tryz.lY
 have key:∀p,ad=some p→(∀(j:Nat) (u:Value),(ints l)[j]?=some u→W.cell? (p.add j)=some u)→n=l.length→wpList Tryz.prog ops Q (o :: rest) a W:=fun p hp hc hn=>by
  subst hp;refine wpList_append_own W hgd s y 24 ho W.heap.size 3 i (.int .i64 0) 1 8 Tryz.underlying24 hii hz hsz hb rfl (by decide) (.slice none 0 0) 0 [] hs (World.ownsRow_nil _ _ _ _) p n c (ints l) hy (by simp[ints,hn]) hc (fun v hv'=>by obtain⟨z,_,rfl⟩:=List.mem_map.1 hv';rfl) (by unfold maxLen;omega) (by omega) nrq (fun v' w' h1 h2 _=>?_);refine h v' w' ?_ ((aj.bD h2).toBelow nrq (fun b hb e=>by cases e));rw[Nat.zero_add,List.nil_append,hn]at h1;exact h1
 rcases hi with ⟨rfl,a',c',hv⟩|⟨pb,po,c',hv,h1,h2,h3⟩
 ·obtain⟨rfl,rfl,rfl⟩:ad=a'∧n=0∧c=c':=by simpa using hv
  cases ad with
  |none=>
   obtain rfl:=BH rfl;refine wpList_plain hgd fun K hK=>?_
   have hrun:=run_append_owned_none (P:=Tryz.prog) W W.heap.size 24 o.type 3 i 1 Tryz.underlying24 hii (.slice none 0 0) 0 [] (World.ownsRow_nil _ _ _ _);unfold Oper.wp execOp;simp only[ho,resolve,invoke,builtin,Sem.run_bind,Sem.run_pure,Result.andThen_ok,List.map_toArray,List.map_cons,List.map_nil,hs,hy,hrun];exact hK _ _ (h _ _ (World.ownsRow_nil _ _ _ _) brq)
  |some p=>exact key p rfl (fun j u hu=>by simp[ints]at hu) rfl
 ·obtain⟨rfl,rfl,rfl⟩:ad=some ⟨pb,po,none⟩∧n=l.length∧c=c':=by simpa using hv
  refine key _ rfl (fun j u hu=>?_) rfl;rw[Addr.add_lit];rw[List.getElem?_map]at hu;obtain⟨z,hz1,rfl⟩:=Option.map_eq_some_iff.1 hu;exact h3 j z hz1
theorem QZ{B:Nat}{w:World}{sb:Nat}{sv:Value}{ws:List RW}{sc sk:Int}{k:Nat}{y:RW}{va:Option Addr}{vn vc:Nat}{ta:Option Addr}{tn tc:Nat}{st:List Int}(gQ:aK w sb sv ws sc sk)(sS:ws.length≤1100000)(hk:ws[k]?=some y)(hyi:y.items=.slice va vn vc)
  (hs:bz B w (.slice ta tn tc) st) (BH:ta=none→tc=0) (hB:B≤w.heap.size) (hl:st.length≤32):
  Calls Tryz.prog 132 #[.pointer (some ⟨sb,0,none⟩),.int .i64 k,.slice ta tn tc] w fun e w'=>∃mb fv RJ RP RQ,e=.returned (.pointer (some ⟨mb,0,none⟩))∧w.heap.size≤mb∧az w' mb #[.pointer (some ⟨sb,0,none⟩),fv,.slice RJ RP RQ,.bool false,.int .i64 0] 226∧MK w.heap.size w' fv [(.slice va vn vc,⟨y.its,0,3,0,0⟩)]∧bP w.heap.size w' (.slice RJ RP RQ) st∧Below w.heap.size w w':=by
 obtain⟨sg,Lr,hsv,hsc,Wi,AQ,hwc⟩:=gQ.word hk;have s0:=gQ.blk.cell 0 _ rfl;have hsl:=gQ.blk.lt;simp only[List.getElem_toArray,List.getElem_cons_zero]at s0;rw[hsv]at s0;have d2:w.cell? ⟨sg,k*8+2,none⟩=some (.slice va vn vc):=hwc 2 _ (by simp[RW.cells,hyi]);obtain⟨mb,gX⟩:=exq (w.heap.size);obtain⟨X,hX⟩:=exq (w.alloc (.cells #[.pointer (some ⟨sb,0,none⟩),.slice none 0 0,.slice none 0 0,.bool false,.int .i64 0] 226 (0,0)):World);have hbX:Below w.heap.size w X:=by rw[hX];exact brq.alloc nrq _
 have bU:az X mb #[.pointer (some ⟨sb,0,none⟩),.slice none 0 0,.slice none 0 0,.bool false,.int .i64 0] 226:=by rw[hX,gX];exact ay w _ _
 have Rh:=(hs.below (hbX.mono hB));have m2:X.cell? ⟨mb,2,none⟩=some (.slice none 0 0):=bU.cell 2 _ rfl;have zB:=bU.lt;have hk0:(0:Int)≤(k:Int):=by omega
 have dM:(k:Int)<(ws.length:Int):=by omega
 have HX:=ast hX;have Gu:=ast gX;have lV:=ast hbX;have jX:=ast bU;have Kw:=ast Rh;have HNC:=ast BH;clear hX gX hbX bU Rh hs BH hwc hk gQ hyi hsv;generalize ws.length=N at *;go_enter Tryz.func132,Tryz.ntmps132
 go_upto_region 2 with fail
 rw[←HX.out,←Gu.out];go_wp2_with (at_builtin;refine wG rfl _ _ rfl rfl rfl Kw.out HNC.out (by omega) ?_)
 intro v1 w1 hr1 hb1;obtain⟨RJ,RP,RQ,rfl⟩:=eG hr1;have Nr:=jX.out.sub hb1 jX.out.lt;have q2:w1.cell? ⟨mb,2,none⟩=some (.slice none 0 0):=Nr.cell 2 _ rfl;have q1:w1.cell? ⟨mb,1,none⟩=some (.slice none 0 0):=Nr.cell 1 _ rfl;have f1:=Nr.frozen 1;have f2:=Nr.frozen 2;have hm1:=Nr.lt;have lK:Below w.heap.size w w1:=lV.out.trans (hb1.mono lV.out.size);have t0:w1.cell? ⟨sb,0,none⟩=some (.slice (some ⟨sg,0,none⟩) N Lr):=(lK.cell (p:=⟨sb,0,none⟩) hsl).trans s0;have t2:w1.cell? ⟨sg,k*8+2,none⟩=some (.slice va vn vc):=(lK.cell (p:=⟨sg,k*8+2,none⟩) Wi).trans d2;have aq3:sb<w1.heap.size:=Nat.lt_of_lt_of_le hsl lK.size;have aq4:sg<w1.heap.size:=Nat.lt_of_lt_of_le Wi lK.size;have agC:sb≠mb:=by have:=Gu.out;omega
 have wY:sg≠mb:=by have:=Gu.out;omega
 have JG:=ast hr1;have dX:=ast lK;have pU:=ast Nr;clear hr1 hb1 Nr lK m2 s0 d2 Kw HX;go_wp2_with fail
 go_ret
 obtain⟨Y,hY⟩:=exq ((w1.setCell ⟨mb,2,none⟩ (.slice RJ RP RQ)).setCell ⟨mb,1,none⟩ (.slice (some ⟨w1.heap.size,0,none⟩) 1 1):World);obtain⟨U,hU⟩:=exq (Y.alloc (.cells #[.slice va vn vc,.int .i64 0,.int .i64 3,.int .i64 0,.int .i64 0] 257 (0,0)):World);have hYs:Y.heap.size=w1.heap.size:=by rw[hY];simp
 have Ci:aj (fun b=>b=mb) w1 Y:=by rw[hY];exact((aj.refl (fun b=>b=mb) w1).setCell (p:=⟨mb,2,none⟩) rfl _).setCell (p:=⟨mb,1,none⟩) rfl _
 have Lp:az Y mb #[.pointer (some ⟨sb,0,none⟩),.slice (some ⟨w1.heap.size,0,none⟩) 1 1,.slice RJ RP RQ,.bool false,.int .i64 0] 226:=by
  rw[hY];have:=(pU.out.set (o:=2) (.slice RJ RP RQ)).set (o:=1) (.slice (some ⟨w1.heap.size,0,none⟩) 1 1);simpa using this
 have hrU:U.ownsRow w.heap.size 257 5 (.slice (some ⟨w1.heap.size,0,none⟩) 1 1) 1 [.slice va vn vc,.int .i64 0,.int .i64 3,.int .i64 0,.int .i64 0]:=by
  rw[hU,←hYs];exact World.ownsRow_lit Y #[.slice va vn vc,.int .i64 0,.int .i64 3,.int .i64 0,.int .i64 0] 1 (by rw[hYs];exact dX.out.size) (by unfold maxLen;omega) rfl
 have hcU:aj (fun b=>b=mb) w1 U:=by rw[hU];exact Ci.alloc _
 have hI:bP w.heap.size w1 (.slice RJ RP RQ) st:=lN JG.out lV.out.size;rw[←hY,←hU];refine⟨mb,.slice (some ⟨w1.heap.size,0,none⟩) 1 1,RJ,RP,RQ,rfl,by have:=Gu.out;omega,?_,?_,?_,?_⟩
 ·rw[hU];exact Lp.alloc _
 ·show World.ownsRow _ _ _ _ _ _ _
  simp only[List.length_cons,List.length_nil,List.reverse_cons,List.reverse_nil,List.nil_append,List.flatMap_cons,List.flatMap_nil,List.append_nil,Fr.cells];exact hrU
 ·exact af hI hcU (fun b hb e=>by subst e;exact ah hI pU.out (by decide) hb)
 ·exact dX.out.trans (hcU.toBelow dX.out.size (fun b hb e=>by have:=Gu.out;omega))
end
section
def nI(ws:List RW)(s:ByteArray)(st ins:List Int)(f:Int):Int:=if(kL ws s).2≠0 then 3 else if nC st ins f then 0 else 1
def y9(ws:List RW)(nv:Nat)(s:ByteArray)(st ins:List Int)(f:Nat):Nat×Int×List Int×MW:=
 nH ws f 0 [⟨((ws[(dB ws s).toNat]?).map RW.its).getD [],0,3,0,0⟩] st.reverse ⟨List.replicate nv 0,[],ins⟩
def zD(w:World)(c:Int)(D:Nat×Int×List Int×MW)(e:Ending)(w':World):Prop:=
 ((c≠0∧e=.returned (.tuple #[oq,.int .i64 c]))∨(c=0∧∃xv ov vv,e=.returned (.tuple #[MI xv ov vv D.1 D.2.1,.int .i64 0])∧nD w.heap.size w' xv ov vv ⟨D.2.2.1,[],[],0⟩ D.2.2.2))∧Below w.heap.size w w'
section
variable{es:List PE}{code:List Int}{ws:List RW}
theorem uj(hc:kE es code ws)(ha:Alike es ws)(s:ByteArray):
  (jW (eH es s es.length)=none∧(kL ws s).2=3)∨∃(k p q:Nat) (y:RW),dB ws s=(k:Int)∧ws[k]?=some y∧y.var= -1∧jW (eH es s es.length)=some (p:Int)∧(kL ws s).2=0∧p<code.length∧dD es code false y.its p q∧code[q]?=some 34:=by
 rw[AX ha.names s];have hlk:=qy (nameAt ws) s ws.length;have hf: -1≤dB ws s∧dB ws s<ws.length:=⟨hlk.2,hlk.1⟩
 by_cases h0:0≤dB ws s
 ·obtain⟨k,hk⟩:∃k:Nat,dB ws s=k:=⟨(dB ws s).toNat,by omega⟩
  rw[if_pos h0];rw[hk]at hf ⊢;have AQ:k<ws.length:=by omega
  have hke:k<es.length:=by rw[ha.len];exact AQ
  have hx:es[k]?=some es[k]:=List.getElem?_eq_getElem hke;have hy:ws[k]?=some ws[k]:=List.getElem?_eq_getElem AQ;have hg:es.getD (k:Int).toNat PE.zero=es[k]:=by simp[hke]
  rw[hg]
  have hfi:(kL ws s).2=if 0≤(ws[k]).var then 3 else 0:=by
   unfold kL;rw[if_neg (by omega),hk];simp only[Int.toNat_natCast,hy]
   split<;>rfl
  cases hv:(es[k]).var with
  |true=>
   obtain⟨_,e2⟩:=(ha.use k _ _ hx hy).1 hv
   left
   refine⟨by simp[jW,hv],?_⟩;rw[hfi,if_pos e2]
  |false=>
   obtain⟨e1,_⟩:=(ha.use k _ _ hx hy).2 hv;obtain⟨p,q,k1,k2,k3,k4⟩:=hc.w k _ _ hx hy hv
   right
   have hpq:=k3.le k2;have hq:=eF k4;refine⟨k,p,q,ws[k],rfl,hy,e1,by simp[jW,hv,k1],?_,by omega,k3,k4⟩;rw[hfi,if_neg (by omega)]
 ·left
  rw[if_neg h0];refine⟨rfl,?_⟩;unfold kL;rw[if_pos (by omega)]
theorem Em{l:List Int}(h:qp l=true):∀a∈l,Cell a:=by
 intro a ha;unfold qp at h;exact of_decide_eq_true (List.all_eq_true.1 h a ha)
theorem xQ{y:RW}{p q nv:Nat}{st ins:List Int}{f:Int}(h1:dD es code false y.its p q)(hp:p≤code.length)(h2:code[q]?=some 34)(hm:nC st ins f=true):Xc es code 0 [⟨y.its,0,3,0,0⟩] ⟨st.reverse,[],[],p⟩ ⟨List.replicate nv 0,[],ins⟩:=by
 simp only[nC,Bool.and_eq_true,decide_eq_true_eq]at hm;obtain⟨m1,m2,m3,_,_⟩:=hm;refine⟨⟨false,.last _ p q ⟨rfl,h1.most hp⟩ (by simpa using h1) h2⟩,⟨fun a ha=>Em m2 a (by simpa using ha),fun a ha=>?_,Em m3,by simpa using m1⟩,nrq,nrq,nrq,nrq⟩;rw[(List.mem_replicate.1 ha).2];exact⟨by omega,by omega⟩
end
theorem Ns{w:World}{bb:Nat}{ev cv:Value}{es:List PE}{nv nt:Int}{code:List Int}{ws:List RW}{B:Nat}{sv iv:Value}{st ins:List Int}(s:ByteArray)(f:Int)(h:iC w bb ev cv es nv nt code)(hi:mi es nv nt code)(ht:lh w)(hk:ZU es code ws)
  (hs:bz B w sv st) (hj:bz B w iv ins) (hB:B≤w.heap.size) (hl:st.length≤1100000) (hl2:ins.length≤1100000):
  Calls Tryz.prog 21 #[.pointer (some ⟨bb,0,none⟩),.string s,sv,iv,.int .i64 f] w (zD w (nI ws s st ins f) (y9 ws nv.toNat s st ins f.toNat)):=by
 rcases uj hk.vP hk.toAlike s with ⟨e1,e2⟩|⟨k,p,q,y,e1,e2,e3,e4,e5,e6,e7,e8⟩
 ·refine(wu s f h hi hs hj hB hl hl2 (Or.inl e1)).mono ?_
  rintro e w' ⟨rfl,hb⟩;rw[if_pos e1];have hc:nI ws s st ins f=3:=by unfold nI;rw[if_pos (by omega)]
  rw[hc];exact⟨Or.inl ⟨by decide,rfl⟩,hb⟩
 ·by_cases hm:nC st ins f=true
  ·have hc:nI ws s st ins f=0:=by unfold nI;rw[if_neg (by omega),if_pos hm]
   rw[hc];have wL:=hm;simp only[nC,Bool.and_eq_true,decide_eq_true_eq]at wL;obtain⟨_,_,_,f0,f1⟩:=wL;obtain⟨n,rfl⟩:∃n:Nat,f=n:=⟨f.toNat,by omega⟩;have Nu:=xQ (nv:=nv.toNat) e7 (by omega) e8 hm;refine(QS s n h hi ht hs hj hB hl hl2 e4 hm e6 (fun j m u=>∃fs,Xc es code j fs m u) ⟨_,Nu⟩ ?_).mono ?_
   ·rintro j m u hjn ⟨fs,hS⟩
    refine⟨hS.ok hk.vP hk.toAlike (by omega),fun he=>?_⟩;obtain⟨h1,h2,h3,h4⟩:=hS.step hk.vP hk.toAlike;exact⟨_,h4 (h1 ▸ he)⟩
   ·rintro e w' ⟨xv,ov,vv,rfl,hro,hb⟩
    obtain⟨r1,r2,r3,r4⟩:=run_eq hk.vP hk.toAlike n 0 _ _ _ Nu
    have hD:y9 ws nv.toNat s st ins (n:Int).toNat=nH ws n 0 [⟨y.its,0,3,0,0⟩] st.reverse ⟨List.replicate nv.toNat 0,[],ins⟩:=by
     unfold y9;rw[e1];simp only[Int.toNat_natCast,e2,Option.map_some,Option.getD_some]
    rw[hD];refine⟨Or.inr ⟨rfl,xv,ov,vv,by rw[r1,r2],?_⟩,hb⟩;rw[←r4];exact⟨by rw[←r3];exact hro.s,hro.o,hro.v,hro.so,hro.ov⟩
  ·have wL:nC st ins f=false:=by simpa using hm
   refine(wu s f h hi hs hj hB hl hl2 (Or.inr wL)).mono ?_;rintro e w' ⟨rfl,hb⟩;rw[if_neg (by rw[e4];simp)];have hc:nI ws s st ins f=1:=by unfold nI;rw[if_neg (by omega),if_neg hm]
   rw[hc];exact⟨Or.inl ⟨by decide,rfl⟩,hb⟩
end
section
attribute [local go_sem] dK
theorem wH{B:Nat}{w:World}{a:Option Addr}{n c:Nat}{l:List Int}(h:bz B w (.slice a n c) l):n=l.length:=by
 obtain⟨a',c',e⟩:=iH h;simpa using(by injection e:n=l.length)
theorem aK.below{w w':World}{sb:Nat}{v:Value}{ws:List RW}{c k:Int}(h:aK w sb v ws c k)(hb:Below w.heap.size w w'):aK w' sb v ws c k:=h.aA (aj.au (S:=fun _=>False) hb) id (fun _ _=>id)
theorem Jq{w:World}{sb:Nat}{sv:Value}{ws:List RW}{sc sk:Int}{B:Nat}{ta ia:Option Addr}{tn tc Gj ic:Nat}{st ins:List Int}(s:ByteArray)(f:Int)(gQ:aK w sb sv ws sc sk)(sS:ws.length≤1100000)
  (hs:bz B w (.slice ta tn tc) st) (hj:bz B w (.slice ia Gj ic) ins) (hB:B≤w.heap.size) (hl:st.length≤1100000) (hl2:ins.length≤1100000) (hno:(kL ws s).2=3):
  Calls Tryz.prog 95 #[.pointer (some ⟨sb,0,none⟩),.string s,.slice ta tn tc,.slice ia Gj ic,.int .i64 f] w fun e w'=>e=.returned (.tuple #[oq,.int .i64 3])∧Below w.heap.size w w':=by
 have hF:=fun w' (hb:Below w.heap.size w w')=>zI s w' (gQ.below hb) sS
 obtain⟨P,hP⟩:=exq (kL ws s);rw[←hP]at hF hno;obtain⟨i,e3⟩:=P;simp only at hF hno;subst hno;simp only[Inf.val]at hF;have HF:=ast hF;clear hF hP gQ hs hj;go_enter Tryz.func95,Tryz.ntmps95
 go_wp2_with fail
 have hb0:Below w.heap.size w (w.alloc (.cells ku 43 (0,0))):=brq.alloc nrq _;have hk0:=ay w ku 43;refine(HF.out _ hb0).mono ?_;rintro e w1 ⟨rfl,hb1⟩;have dM:=hk0.sub hb1 (by simp);have dX:=ast (hb0.trans (hb1.mono (by simp)));have pU:=ast dM;have iD:=dM.lt;obtain⟨g0,g1,g2,g3,g4⟩:=dM.free;obtain⟨z0,z1,z2,z3,z4⟩:=dM.ku;clear hb0 hk0 hb1 dM HF;go_wp2_with fail
 refine bodyPost_ret (v:=.tuple #[oq,.int .i64 3]) (by simp[results,Tryz.results95,go_sem,z0,z1,z2,z3,z4,oq,iD]) rfl ⟨rfl,?_⟩;have hb5:=(((((dX.out.setCell (p:=⟨w.heap.size,0,none⟩) nrq (.slice none 0 0)).setCell (p:=⟨w.heap.size,1,none⟩) nrq (.slice none 0 0)).setCell (p:=⟨w.heap.size,2,none⟩) nrq (.slice none 0 0)).setCell (p:=⟨w.heap.size,3,none⟩) nrq (.int .i64 0)).setCell (p:=⟨w.heap.size,4,none⟩) nrq (.int .i64 0));exact hb5.alloc hb5.size _
theorem Jr{w:World}{sb:Nat}{sv:Value}{ws:List RW}{sc sk:Int}{B:Nat}{ta ia:Option Addr}{tn tc Gj ic:Nat}{st ins:List Int}(s:ByteArray)(f:Int)(gQ:aK w sb sv ws sc sk)(sS:ws.length≤1100000)
  (hs:bz B w (.slice ta tn tc) st) (hj:bz B w (.slice ia Gj ic) ins) (hB:B≤w.heap.size) (hl:st.length≤1100000) (hl2:ins.length≤1100000) (hno:(kL ws s).2=0) (hm:nC st ins f=false):
  Calls Tryz.prog 95 #[.pointer (some ⟨sb,0,none⟩),.string s,.slice ta tn tc,.slice ia Gj ic,.int .i64 f] w fun e w'=>e=.returned (.tuple #[oq,.int .i64 1])∧Below w.heap.size w w':=by
 have hF:=fun w' (hb:Below w.heap.size w w')=>zI s w' (gQ.below hb) sS
 obtain⟨P,hP⟩:=exq (kL ws s);rw[←hP]at hF hno;obtain⟨i,e3⟩:=P;simp only at hF hno;subst hno;simp only[Inf.val]at hF;have HF:=ast hF;have Ae:=fun w' (hb:Below w.heap.size w w')=>rO (w:=w') (hs.below (hb.mono hB)) (Nat.le_trans hB hb.size) hl
 have hC2:=fun w' (hb:Below w.heap.size w w')=>rO (w:=w') (hj.below (hb.mono hB)) (Nat.le_trans hB hb.size) hl2
 have htn:=wH hs;have hin:=wH hj;obtain⟨ca,hca⟩:=exq (qp st);obtain⟨cb,hcb⟩:=exq (qp ins);rw[←hca]at Ae;rw[←hcb]at hC2
 have wL:¬(tn≤32∧ca=true∧cb=true∧0≤f∧f≤1000000):=fun ⟨a,b,c,d,e⟩=>by
  simp[nC,←hca,←hcb,b,c,d,e,←htn,a]at hm
 have BI:=ast Ae;have Fb:=ast hC2;have HMM:=ast wL;have htl:tn≤1100000:=by omega
 clear hF hP gQ hs hj hca hcb hm wL Ae hC2 htn hin;go_enter Tryz.func95,Tryz.ntmps95
 go_wp2_with fail
 have hb0:Below w.heap.size w (w.alloc (.cells ku 43 (0,0))):=brq.alloc nrq _;have hk0:=ay w ku 43;refine(HF.out _ hb0).mono ?_;rintro e w1 ⟨rfl,hb1⟩;have dM:=hk0.sub hb1 (by simp);have dX:=ast (hb0.trans (hb1.mono (by simp)));have pU:=ast dM;have iD:=dM.lt;obtain⟨g0,g1,g2,g3,g4⟩:=dM.free;obtain⟨z0,z1,z2,z3,z4⟩:=dM.ku;clear hb0 hk0 hb1 dM HF;go_upto_region 4 with fail
 obtain⟨U,hU⟩:=exq (w1.alloc (.cells #[.int .i64 i.need,.int .i64 i.bu,.int .i64 i.high,.int .i64 i.steps,.bool i.str] 36 (0,0)):World);have hbU:Below w.heap.size w U:=by rw[hU];exact dX.out.alloc dX.out.size _
 have Wu:az U w.heap.size ku 43:=by rw[hU];exact pU.out.alloc _
 rw[←hU];clear hU z0 z1 z2 z3 z4 g0 g1 g2 g3 g4 iD;have iD:=Wu.lt;obtain⟨g0,g1,g2,g3,g4⟩:=Wu.free;obtain⟨z0,z1,z2,z3,z4⟩:=Wu.ku;have Nv:=ast hbU;have HKU:=ast Wu;clear hbU Wu dX pU;go_wp2_with fail
 refine(BI.out _ Nv.out).mono ?_;rintro e w2 ⟨rfl,rfl⟩;clear BI;go_wp2_with fail
 refine(Fb.out _ Nv.out).mono ?_;rintro e w3 ⟨rfl,rfl⟩;clear Fb
 cases ca with
 |false=>
  go_wp2_with fail
  refine bodyPost_ret (v:=.tuple #[oq,.int .i64 1]) (by simp[results,Tryz.results95,go_sem,z0,z1,z2,z3,z4,oq,iD]) rfl ⟨rfl,?_⟩;exact(((((Nv.out.setCell nrq _).setCell nrq _).setCell nrq _).setCell nrq _).setCell nrq _)
 |true=>
  cases cb with
  |false=>
   go_wp2_with fail
   refine bodyPost_ret (v:=.tuple #[oq,.int .i64 1]) (by simp[results,Tryz.results95,go_sem,z0,z1,z2,z3,z4,oq,iD]) rfl ⟨rfl,?_⟩;exact(((((Nv.out.setCell nrq _).setCell nrq _).setCell nrq _).setCell nrq _).setCell nrq _)
  |true=>
   by_cases LQ:(32:Int)<(tn:Int)
   ·go_wp2_with fail
    refine bodyPost_ret (v:=.tuple #[oq,.int .i64 1]) (by simp[results,Tryz.results95,go_sem,z0,z1,z2,z3,z4,oq,iD]) rfl ⟨rfl,?_⟩;exact(((((Nv.out.setCell nrq _).setCell nrq _).setCell nrq _).setCell nrq _).setCell nrq _)
   ·by_cases hf0:f<0
    ·go_wp2_with fail
     refine bodyPost_ret (v:=.tuple #[oq,.int .i64 1]) (by simp[results,Tryz.results95,go_sem,z0,z1,z2,z3,z4,oq,iD]) rfl ⟨rfl,?_⟩;exact(((((Nv.out.setCell nrq _).setCell nrq _).setCell nrq _).setCell nrq _).setCell nrq _)
    ·have hf1:1000000<f:=by
      have:=HMM.out;rcases Int.lt_or_le 1000000 f with h|h
      ·exact h
      ·exact absurd ⟨by omega,rfl,rfl,by omega,h⟩ this
     go_wp2_with fail
     refine bodyPost_ret (v:=.tuple #[oq,.int .i64 1]) (by simp[results,Tryz.results95,go_sem,z0,z1,z2,z3,z4,oq,iD]) rfl ⟨rfl,?_⟩;exact(((((Nv.out.setCell nrq _).setCell nrq _).setCell nrq _).setCell nrq _).setCell nrq _)
end
section
attribute [local go_sem] dK
def ag1(es:List PE)(code:List Int)(ws:List RW)(B:Nat)(w9:World)(sb:Nat)(F:Nat→Prop)(x0:DX)(fuel:Nat)(R:Nat×Int×List Int×MW)(n:Nat)(wr:World):Prop:=
 ∃(m1:DM) (u1:MW) (y:DX) (t:Nat),t≤n∧DN B w9 sb F {x0 with tk:=t} m1 u1 wr y∧
  ((m1.done=false∧m1.ed=0∧(∃ms:MS,Xc es code n (m1.fs.map Prod.snd) ms u1∧ms.ak=m1.ak)∧R=nH ws (fuel - n) n (m1.fs.map Prod.snd) m1.ak u1)∨(m1.done=true∧R=(n,m1.ed,m1.ak,u1)))
theorem Nw{w:World}{sb:Nat}{sv:Value}{ws:List RW}{sk:Int}{nn B:Nat}{ta ia:Option Addr}{tn tc Gj ic:Nat}{st ins:List Int}{F:Nat→Prop}{es:List PE}{code:List Int}{k p q:Nat}{y:RW}(s:ByteArray)(fuel:Nat)(gQ:aK w sb sv ws nn sk)(sS:ws.length≤1100000)(hnn:nn≤1000)
  (Xd:bM F w ws) (hFw:∀k,F k→k<w.heap.size) (gG:FI ws) (jB:kE es code ws) (hal:Alike es ws) (hcl:code.length≤1000000) (hfw:dB ws s=(k:Int)) (hy:ws[k]?=some y) (hyv:y.var= -1) (hC7:dD es code false y.its p q) (YB:p≤code.length) (hC8:code[q]?=some 34)
  (hs:bz B w (.slice ta tn tc) st) (hj:bz B w (.slice ia Gj ic) ins) (BH:ta=none→tc=0) (hB:B≤w.heap.size) (hl:st.length≤1100000) (hl2:ins.length≤1100000) (hno:(kL ws s).2=0) (hm:nC st ins fuel=true):
  Calls Tryz.prog 95 #[.pointer (some ⟨sb,0,none⟩),.string s,.slice ta tn tc,.slice ia Gj ic,.int .i64 fuel] w fun e w'=>∃xv ov vv,e=.returned (.tuple #[MI xv ov vv (nH ws fuel 0 [⟨y.its,0,3,0,0⟩] st.reverse ⟨List.replicate nn 0,[],ins⟩).1 (nH ws fuel 0 [⟨y.its,0,3,0,0⟩] st.reverse ⟨List.replicate nn 0,[],ins⟩).2.1,.int .i64 0])∧nD w.heap.size w' xv ov vv ⟨(nH ws fuel 0 [⟨y.its,0,3,0,0⟩] st.reverse ⟨List.replicate nn 0,[],ins⟩).2.2.1,[],[],0⟩ (nH ws fuel 0 [⟨y.its,0,3,0,0⟩] st.reverse ⟨List.replicate nn 0,[],ins⟩).2.2.2∧Below w.heap.size w w':=by
 have hF:=fun w' (hb:Below w.heap.size w w')=>zI s w' (gQ.below hb) sS
 obtain⟨P,hP⟩:=exq (kL ws s);rw[←hP]at hF hno;obtain⟨i,e3⟩:=P;simp only at hF hno;subst hno;simp only[Inf.val]at hF;have HF:=ast hF;have Ae:=fun w' (hb:Below w.heap.size w w')=>rO (w:=w') (hs.below (hb.mono hB)) (Nat.le_trans hB hb.size) hl
 have hC2:=fun w' (hb:Below w.heap.size w w')=>rO (w:=w') (hj.below (hb.mono hB)) (Nat.le_trans hB hb.size) hl2
 have htn:=wH hs;have hin:=wH hj;have Nu:=xQ (nv:=nn) hC7 YB hC8 hm;have wL:=hm;simp only[nC,Bool.and_eq_true,decide_eq_true_eq]at wL;obtain⟨LQ,hca,hcb,hf0,hf1⟩:=wL;rw[hca]at Ae;rw[hcb]at hC2;obtain⟨R,hR⟩:=exq (nH ws fuel 0 [⟨y.its,0,3,0,0⟩] st.reverse ⟨List.replicate nn 0,[],ins⟩);rw[←hR];obtain⟨va,vn,vc,hyi⟩:=(gG y (List.mem_of_getElem? hy)).2;have hTy:=Xd y (List.mem_of_getElem? hy) (by omega);rw[hyi]at hTy;have hFi:=fun w' (hb:Below w.heap.size w w')=>uN s w' (gQ.below hb) sS
 rw[hfw]at hFi;have hBe:=fun w' (hb:Below w.heap.size w w')=>QZ (w:=w') (gQ.below hb) sS hy hyi (hs.below (hb.mono hB)) BH (Nat.le_trans hB hb.size) LQ
 have s1:=gQ.blk.cell 1 _ rfl;simp only[List.getElem_toArray,List.getElem_cons_succ,List.getElem_cons_zero]at s1;have hsl:=gQ.blk.lt;have aq6:¬(32:Int)<(tn:Int):=by omega
 have als:¬(fuel:Int)<0:=by omega
 have aq7:¬1000000<(fuel:Int):=by omega
 have hfl:fuel≤1000000:=by omega
 have BI:=ast Ae;have Fb:=ast hC2;have Ls:=ast hFi;have Rq:=ast hBe;have ag2:=ast Nu;have HR:=ast hR;have HTY:=ast hTy;have HSY:=ast gQ;have HTA:=ast Xd;have HFW:=ast hFw;have HCD:=ast (And.intro jB hal);have HJ:=ast (hj.mono hB);have hmk:=Bo (P:=Tryz.prog) 24 3 (.int .i64 0) #[.int .i64 0] 1 8 rfl Tryz.underlying24 Tryz.lY nn (by omega) (by omega);clear hF hP gQ hs hj Ae hC2 htn hin hFi hBe Nu hR hTy Xd hFw jB hal hm hca hcb hfw hy hyi hC7 hC8 hf0 hf1 hyv;go_enter Tryz.func95,Tryz.ntmps95
 go_wp2_with fail
 have hb0:Below w.heap.size w (w.alloc (.cells ku 43 (0,0))):=brq.alloc nrq _;have hk0:=ay w ku 43;refine(HF.out _ hb0).mono ?_;rintro e w1 ⟨rfl,hb1⟩;have dM:=hk0.sub hb1 (by simp);have dX:=ast (hb0.trans (hb1.mono (by simp)));have pU:=ast dM;have iD:=dM.lt;obtain⟨g0,g1,g2,g3,g4⟩:=dM.free;obtain⟨z0,z1,z2,z3,z4⟩:=dM.ku;clear hb0 hk0 hb1 dM HF;go_upto_region 4 with fail
 obtain⟨U,hU⟩:=exq (w1.alloc (.cells #[.int .i64 i.need,.int .i64 i.bu,.int .i64 i.high,.int .i64 i.steps,.bool i.str] 36 (0,0)):World);have hbU:Below w.heap.size w U:=by rw[hU];exact dX.out.alloc dX.out.size _
 have Wu:az U w.heap.size ku 43:=by rw[hU];exact pU.out.alloc _
 rw[←hU];clear hU z0 z1 z2 z3 z4 g0 g1 g2 g3 g4 iD;have iD:=Wu.lt;obtain⟨g0,g1,g2,g3,g4⟩:=Wu.free;obtain⟨z0,z1,z2,z3,z4⟩:=Wu.ku;have Nv:=ast hbU;have HKU:=ast Wu;clear hbU Wu dX pU;go_wp2_with fail
 refine(BI.out _ Nv.out).mono ?_;rintro e w2 ⟨rfl,rfl⟩;clear BI;go_wp2_with fail
 refine(Fb.out _ Nv.out).mono ?_;rintro e w3 ⟨rfl,rfl⟩;clear Fb;have s1U:w3.cell? ⟨sb,1,none⟩=some (.int .i64 nn):=(Nv.out.cell (p:=⟨sb,1,none⟩) hsl).trans s1;have alD:sb<w3.heap.size:=Nat.lt_of_lt_of_le hsl Nv.out.size;obtain⟨vg,hvg⟩:=exq (w3.heap.size);obtain⟨X,hX⟩:=exq (w3.alloc (.cells (madeCells #[.int .i64 0] nn) 3 (0,0)):World);have hbX:Below w3.heap.size w3 X:=by rw[hX];exact brq.alloc nrq _
 have YG:X.ownsRow w3.heap.size 3 1 (.slice (some ⟨vg,0,none⟩) nn nn) nn (madeCells #[.int .i64 0] nn).toList:=by
  rw[hX,hvg];exact World.ownsRow_lit w3 _ nn nrq (by unfold maxLen;omega) (by rw[size_madeCells,Nat.mul_one])
 have ZY:w3.heap.size+1=X.heap.size:=by rw[hX];exact(Array.size_push _).symm
 obtain⟨wp,YO⟩:=exq (vg+1);obtain⟨Y,hY⟩:=exq (X.alloc (.cells #[.slice (some ⟨vg,0,none⟩) nn nn,.slice ia Gj ic,.int .i64 0,.slice none 0 0] 221 (0,0)):World);have A7:=ast hvg;have HX:=ast hX;have lV:=ast hbX;have BZ:=ast YG;have HXS:=ast ZY;have HWP:=ast YO;have HY:=ast hY;clear hvg hX hbX YG ZY YO hY;go_upto_region 9 with fail
 rw[←HX.out,←A7.out,←HY.out,←HWP.out];have ag3:wp=X.heap.size:=by rw[HWP.out,A7.out,HXS.out]
 have Am:Below w3.heap.size w3 Y:=by rw[HY.out];exact lV.out.alloc lV.out.size _
 have Lp:az Y wp #[.slice (some ⟨vg,0,none⟩) nn nn,.slice ia Gj ic,.int .i64 0,.slice none 0 0] 221:=by rw[HY.out,ag3];exact ay X _ _
 have hrY:bP w.heap.size Y (.slice (some ⟨vg,0,none⟩) nn nn) (List.replicate nn 0):=by
  have h:=BZ.out.alloc (.cells #[.slice (some ⟨vg,0,none⟩) nn nn,.slice ia Gj ic,.int .i64 0,.slice none 0 0] 221 (0,0));have e:=Ef nn;rw[Nat.mul_one]at e;rw[e,←HY.out]at h;refine lN (B:=w3.heap.size) ?_ Nv.out.size;unfold bP;rw[List.length_replicate];exact h
 have ag4:Below w.heap.size w Y:=Nv.out.trans (Am.mono Nv.out.size);have hkO:az Y w.heap.size ku 43:=HKU.out.sub Am HKU.out.lt;have nO:=ast Am;have Rj:=ast Lp;have Yj:=ast hrY;have Js:=ast ag4;have acA:=ast hkO;have HSV:Hid (∀k,sv.ownBlock=some k→k<w.heap.size):=ast (fun k hk=>bg HSY.out.row hk);clear Am Lp hrY ag4 hkO s1U alD hmk ag3 s1;go_wp2_with fail
 refine(Ls.out _ Js.out).mono ?_;rintro e w4 ⟨rfl,rfl⟩;clear Ls;go_wp2_with fail
 refine(Rq.out _ Js.out).mono ?_;rintro e w5 ⟨mb,fv,RJ,RP,RQ,rfl,gX,hk5,hf5,ht5,hb5⟩;have alG:w.heap.size<vg:=by rw[A7.out];exact iD
 have alH:vg<w4.heap.size:=bg Yj.out (k:=vg) rfl;have alI:w.heap.size<wp:=by rw[HWP.out];omega
 have ag5:wp<w4.heap.size:=Rj.out.lt;have Y1:Below w.heap.size w w5:=Js.out.trans (hb5.mono Js.out.size);have acB:bz w.heap.size w5 (.slice ia Gj ic) ins:=HJ.out.below Y1;have ag6:Gj=ins.length:=wH acB
 have jI:gI w.heap.size w5 sb F ⟨mb,wp,fv,.slice RJ RP RQ,.slice (some ⟨vg,0,none⟩) nn nn,.slice ia Gj ic,.slice none 0 0,ins,0⟩ ⟨[(.slice va vn vc,⟨y.its,0,3,0,0⟩)],st.reverse,false,0⟩ ⟨List.replicate nn 0,[],ins⟩:=by
  refine⟨hk5,ownsRow_base hf5 (fun b hb=>Nat.le_trans Js.out.size (aF hf5 hb)),?_,Rj.out.sub hb5 Rj.out.lt,af Yj.out (aj.au (S:=fun _=>False) hb5) (fun _ _=>id),World.ownsRow_nil _ _ _ _,acB,rfl,fun k hk=>⟨fun e=>?_,fun e=>by simp[Value.ownBlock]at e⟩,fun k hk e=>by simp[Value.ownBlock]at e,by simp only;have:=Js.out.size;omega,by simp only;omega,fun p hp=>?_,HFW.out,by simp,by simpa using LQ,by simp,by simp only;omega,by simpa using hnn,by simp⟩
  ·simp only[List.reverse_reverse]
   exact lN ht5 Js.out.size
  ·have h1:=aF ht5 hk
   simp only[Value.ownBlock,Option.some.injEq]at e;omega
  ·simp only[List.mem_cons,List.not_mem_nil,or_false]at hp
   subst hp;exact HTY.out.below HFW.out Y1
 have lQ:¬DX.S ⟨mb,wp,fv,.slice RJ RP RQ,.slice (some ⟨vg,0,none⟩) nn nn,.slice ia Gj ic,.slice none 0 0,ins,0⟩ w.heap.size:=by
  rintro (e|e|e|e|e)
  ·simp only at e;have:=Js.out.size;omega
  ·simp only at e;omega
  ·simp only at e;have:=aF hf5 e;omega
  ·simp only[Value.ownBlock,Option.some.injEq]at e;omega
  ·simp[Value.ownBlock]at e
 obtain⟨x0,hx0⟩:=exq (⟨mb,wp,fv,.slice RJ RP RQ,.slice (some ⟨vg,0,none⟩) nn nn,.slice ia Gj ic,.slice none 0 0,ins,0⟩:DX);have hxm:x0.mb=mb:=by rw[hx0]
 have hxw:x0.wp=wp:=by rw[hx0]
 have hxt:x0={x0 with tk:=0}:=by rw[hx0]
 rw[←hx0]at jI lQ;have vw:=ast jI;have wM:=ast lQ;have nJ:=ast Y1;have HKO:Hid (az w5 w.heap.size ku 43):=ast (acA.out.sub hb5 acA.out.lt);have HXM:=ast (And.intro hxm (And.intro hxw hxt));have HX0:Hid (ag1 es code ws w.heap.size w5 sb F x0 fuel R 0 w5):=ast ⟨⟨[(.slice va vn vc,⟨y.its,0,3,0,0⟩)],st.reverse,false,0⟩,⟨List.replicate nn 0,[],ins⟩,x0,0,nrq,by rw[←hxt];exact jI.below brq,Or.inl ⟨rfl,rfl,⟨_,ag2.out,rfl⟩,HR.out⟩⟩;have nX:wp<w5.heap.size:=Nat.lt_of_lt_of_le ag5 hb5.size;clear gX hk5 hf5 ht5 hb5 Y1 acB ag6 jI lQ hx0 hxm hxw hxt Rq ag2 HR HJ Rj Yj nO acA BZ HTY alG alH alI ag5;go_wp2_with fail
 go_loopw[18] (fun s wr=>∃n:Nat,n≤fuel∧s=.int .i64 n∧Hid (ag1 es code ws w.heap.size w5 sb F x0 fuel R n wr)) (fun s _=>fuel - (intOf s).toNat)
 case atStart=>exact⟨0,Nat.zero_le _,rfl,HX0⟩
 case round=>
  clear HX0;obtain⟨n,hn,rfl,HI⟩:=hrel;obtain⟨m1,u1,y1,t,ht,hD,ag9⟩:=HI.out;obtain⟨hxm,hxw,hxt⟩:=HXM.out;have hDm:y1.mb=mb:=hD.mb.trans hxm;have hDw:y1.wp=wp:=hD.wp.trans hxw;have d3:wr.cell? ⟨mb,3,none⟩=some (.bool m1.done):=by have:=hD.at_.cells.2.2.2.1;rw[hDm]at this;exact this
  have hmr:mb<wr.heap.size:=by have:=hD.at_.iM.lt;rw[hDm]at this;exact this
  have HD:=ast (And.intro hD (And.intro hDm hDw));clear HI hxm hxw hxt hDm hDw hD;rcases ag9 with ⟨hd,hed,⟨ms,hS,hms⟩,hRR⟩|⟨hd,hRR⟩
  case' inl=>
   rw[hd]at d3
   by_cases hlt:n<fuel
   case pos=>
    have lD:(n:Int)<(fuel:Int):=by omega
    obtain⟨dd,hrel⟩:=hS.rel;have RI:Below w.heap.size w wr:=nJ.out.trans (vw.out.toBelow HD.out.1.aA (fun _ e=>e));have hst:=Wp HD.out.1.at_ (HSY.out.agV ⟨hsl,HSV.out⟩ RI) ⟨hsl,HSV.out⟩ sS (HTA.out.mono (fun k cs hk _=>⟨hk,RI.block k (HFW.out k hk)⟩)) gG HCD.out.1 HCD.out.2 hcl hrel (by rw[←hms];exact hS.wl) (by rw[HD.out.1.tk];simp only;omega) (by have:=hS.l3;omega) (by have:=hS.l4;rw[List.length_map]at this;omega);rw[HD.out.2.1,HD.out.2.2]at hst;have HST:=ast hst;have HSI:=ast (And.intro hS (And.intro hms (And.intro hRR (And.intro hd hed))));clear hst hS hms hRR hd hed hrel RI;go_wp2_with fail
    refine HST.out.mono ?_;rintro e w6 ⟨rfl,t2,m2,u2,ht2,⟨z,hz⟩,hAf⟩;have HZ:=ast (HD.out.1.Wn hz);have HAF:=ast hAf;clear hz hAf HST d3;go_wp2_with fail
    go_roundw
    case rel=>
     obtain⟨hS,hms,hRR,hd,hed⟩:=HSI.out;obtain⟨s1,s2,s3,s4⟩:=hS.step HCD.out.1 HCD.out.2;obtain⟨a1,a2,a3⟩:=HAF.out;rw[hms]at s1 s2 s3 s4;refine⟨n+1,by omega,by go_num,ast ⟨m2,u2,z,t+t2,by omega,HZ.out,?_⟩⟩;rw[show fuel - n=(fuel - (n+1))+1 by omega,nH]at hRR;rcases a3 with ⟨b1,b2,b3,b4⟩|⟨b1,b2,b3⟩
     ·rw[if_pos b1]at hRR
      refine Or.inl ⟨b3.trans hd,b4.trans hed,⟨_,?_,s2.trans a1.symm⟩,?_⟩
      ·rw[b2,a2,←s3];exact s4 b1
      ·rw[b2,a1,a2];exact hRR
     ·rw[if_neg b1]at hRR
      exact Or.inr ⟨b2,by rw[hRR,b3,a1,a2]⟩
    case measure=>simp only[intOf];omega
   case' neg=>
    obtain rfl:n=fuel:=by omega
    obtain⟨mF,hmF⟩:∃mF:DM,mF={m1 with done:=false,ed:=4}:=⟨_,rfl⟩;have lD:¬(n:Int)<(n:Int):=by omega
    have f4:wr.frozen? ⟨mb,4,none⟩=false:=by have:=HD.out.1.at_.iM.frozen 4;rw[HD.out.2.1]at this;exact this
    have d4:wr.cell? ⟨mb,4,none⟩=some (.int .i64 m1.ed):=by have:=HD.out.1.at_.cells.2.2.2.2.1;rw[HD.out.2.1]at this;exact this
    obtain⟨V,hV⟩:=exq (wr.setCell ⟨mb,4,none⟩ (.int .i64 4):World)
    have ahb:=HD.out.1.at_.flags (w':=V) (done':=false) (ed':=4) (by rw[hV,HD.out.2.1];exact(aj.refl (fun b=>b=mb) wr).setCell (p:=⟨mb,4,none⟩) rfl _) (by
     have hk:=HD.out.1.at_.iM.set (o:=4) (.int .i64 4);rw[HD.out.2.1]at hk ⊢;rw[hV];simpa [nG,hd]using hk)
    have HV0:=ast (HD.out.1.trans ahb);have HRR:Hid (R=(n,mF.ed,mF.ak,u1)):=ast (by rw[hRR,hmF,Nat.sub_self];rfl);have HVV:=ast hV;clear hV ahb hS hms hRR hed;go_upto_region 16 with fail
    rw[←HVV.out];clear d3 d4 f4;have HV:Hid (DN w.heap.size w5 sb F {x0 with tk:=t} mF u1 V y1∧y1.mb=mb∧y1.wp=wp):=ast ⟨by rw[hmF];exact HV0.out,HD.out.2.1,HD.out.2.2⟩;clear hmF HV0 HVV
  case' inr=>
   rw[hd]at d3;obtain⟨mF,hmF⟩:=exq (m1:DM);obtain⟨V,hV⟩:=exq (wr:World);have HRR:Hid (R=(n,mF.ed,mF.ak,u1)):=ast (by rw[hmF];exact hRR);have HV:Hid (DN w.heap.size w5 sb F {x0 with tk:=t} mF u1 V y1∧y1.mb=mb∧y1.wp=wp):=ast (by rw[hV,hmF];exact HD.out);clear hRR hmF;go_upto_region 16 with fail
   rw[←hV];clear d3 hV
  all_goals
   obtain⟨xa,xn,xc,hxv⟩:=eG HV.out.1.at_.eP;obtain⟨oa,on,oc,hov⟩:=eG HV.out.1.at_.jV;obtain⟨ca,cn,cc,hcv⟩:=eG HV.out.1.at_.fB;have v2:V.cell? ⟨mb,2,none⟩=some (.slice xa xn xc):=by have:=HV.out.1.at_.cells.2.2.1;rw[hxv,HV.out.2.1]at this;exact this
   have v4:V.cell? ⟨mb,4,none⟩=some (.int .i64 mF.ed):=by have:=HV.out.1.at_.cells.2.2.2.2.1;rw[HV.out.2.1]at this;exact this
   have u3:V.cell? ⟨wp,3,none⟩=some (.slice oa on oc):=by have:=HV.out.1.at_.shared.2.2.2.1;rw[hov,HV.out.2.2]at this;exact this
   have u0:V.cell? ⟨wp,0,none⟩=some (.slice ca cn cc):=by have:=HV.out.1.at_.shared.1;rw[hcv,HV.out.2.2]at this;exact this
   have hmV:mb<V.heap.size:=by have:=HV.out.1.at_.iM.lt;rw[HV.out.2.1]at this;exact this
   have QU:wp<V.heap.size:=by have:=HV.out.1.at_.dN.lt;rw[HV.out.2.2]at this;exact this
   have BU:az V w.heap.size ku 43:=HKO.out.aA HV.out.1.aA wM.out
   have FZ:Hid (nD w.heap.size V (.slice xa xn xc) (.slice oa on oc) (.slice ca cn cc) ⟨mF.ak,[],[],0⟩ u1):=ast (by
    have h1:=HV.out.1.at_.eP;have h2:=HV.out.1.at_.jV;have h3:=HV.out.1.at_.fB;have h4:=HV.out.1.at_.ML;have h5:=HV.out.1.at_.uh;rw[hxv]at h1 h4;rw[hov]at h2 h4 h5;rw[hcv]at h3 h4 h5;exact⟨h1,h2,h3,fun k hk=>⟨(h4 k hk).2,(h4 k hk).1⟩,fun k hk e=>h5 k e hk⟩)
   have rC:Hid (Below w.heap.size w V):=ast (nJ.out.trans (vw.out.toBelow HV.out.1.aA (fun _ e=>e)));have Oz:=ast BU;have PU:=BU.lt;clear BU hxv hov hcv;have hc:=fun (B:Nat) (w0:World) (u:gW B w0) (b o:Nat) (h:b<B)=>u.cell b o h
   have hne:=gW.ne;refine aP V.heap.size 18 (by kernel_rfl) (by kernel_rfl) ?_;simp only[List.take_succ_cons,List.take_zero,List.drop_succ_cons,List.drop_zero]
   repeat (go_big_quiet_step (fail))
   refine wpQuiet_nil ?_;intro uu;obtain⟨V2,hb2⟩:=uu;dsimp only;have hk2:=Oz.out.sub hb2 PU;have sW:=ast hk2
   have HO2:Hid (nD w.heap.size V2 (.slice xa xn xc) (.slice oa on oc) (.slice ca cn cc) ⟨mF.ak,[],[],0⟩ u1):=ast (by
    have RH:∀{v:Value} {l:List Int},bP w.heap.size V v l→bP w.heap.size V2 v l:=fun h=>af h (aj.au (S:=fun _=>False) hb2) (fun _ _=>id)
    exact⟨RH FZ.out.s,RH FZ.out.o,RH FZ.out.v,FZ.out.so,FZ.out.ov⟩)
   have gK:Hid (Below w.heap.size w V2):=ast (rC.out.trans (hb2.mono rC.out.size));clear z0 z1 z2 z3 z4 g0 g1 g2 g3 g4 iD;have iD:=hk2.lt;obtain⟨g0,g1,g2,g3,g4⟩:=hk2.free;obtain⟨z0,z1,z2,z3,z4⟩:=hk2.ku;clear hc hne hb2 hk2 v2 v4 u3 u0;go_wp2_with fail
   refine bodyPost_ret (v:=.tuple #[MI (.slice xa xn xc) (.slice oa on oc) (.slice ca cn cc) n mF.ed,.int .i64 0]) (by simp[results,Tryz.results95,go_sem,z0,z1,z2,z3,z4,MI,iD]) rfl ⟨.slice xa xn xc,.slice oa on oc,.slice ca cn cc,by rw[HRR.out],?_,?_⟩
   ·rw[HRR.out]
    have hcc:=(((((aj.refl (fun b=>b=w.heap.size) V2).setCell (p:=⟨w.heap.size,0,none⟩) rfl (.slice xa xn xc)).setCell (p:=⟨w.heap.size,1,none⟩) rfl (.slice oa on oc)).setCell (p:=⟨w.heap.size,2,none⟩) rfl (.slice ca cn cc)).setCell (p:=⟨w.heap.size,3,none⟩) rfl (.int .i64 n)).setCell (p:=⟨w.heap.size,4,none⟩) rfl (.int .i64 mF.ed);exact HO2.out.aA hcc sW.out (by decide)
   ·exact(((((gK.out.setCell nrq _).setCell nrq _).setCell nrq _).setCell nrq _).setCell nrq _)
end
section
theorem Wv{w:World}{sb:Nat}{sv:Value}{ws:List RW}{sk:Int}{nv:Int}{B:Nat}{ta ia:Option Addr}{tn tc Gj ic:Nat}{st ins:List Int}{F:Nat→Prop}{es:List PE}{code:List Int}(s:ByteArray)(f:Int)(gQ:aK w sb sv ws nv sk)(sS:ws.length≤1100000)(h0:0≤nv)(h1:nv≤1000)
  (Xd:bM F w ws) (hFw:∀k,F k→k<w.heap.size) (gG:FI ws) (hk:ZU es code ws) (hcl:code.length≤1000000)
  (hs:bz B w (.slice ta tn tc) st) (hj:bz B w (.slice ia Gj ic) ins) (BH:ta=none→tc=0) (hB:B≤w.heap.size) (hl:st.length≤1100000) (hl2:ins.length≤1100000):
  Calls Tryz.prog 95 #[.pointer (some ⟨sb,0,none⟩),.string s,.slice ta tn tc,.slice ia Gj ic,.int .i64 f] w (zD w (nI ws s st ins f) (y9 ws nv.toNat s st ins f.toNat)):=by
 rcases uj hk.vP hk.toAlike s with ⟨e1,e2⟩|⟨k,p,q,y,e1,e2,e3,e4,e5,e6,e7,e8⟩
 ·refine(Jq s f gQ sS hs hj hB hl hl2 e2).mono ?_
  rintro e w' ⟨rfl,hb⟩;have hc:nI ws s st ins f=3:=by unfold nI;rw[if_pos (by omega)]
  rw[hc];exact⟨Or.inl ⟨by decide,rfl⟩,hb⟩
 ·by_cases hm:nC st ins f=true
  ·have hc:nI ws s st ins f=0:=by unfold nI;rw[if_neg (by omega),if_pos hm]
   rw[hc];have wL:=hm;simp only[nC,Bool.and_eq_true,decide_eq_true_eq]at wL;obtain⟨_,_,_,f0,f1⟩:=wL;obtain⟨n,rfl⟩:∃n:Nat,f=n:=⟨f.toNat,by omega⟩;obtain⟨nn,rfl⟩:∃nn:Nat,nv=nn:=⟨nv.toNat,by omega⟩;refine(Nw s n gQ sS (by omega) Xd hFw gG hk.vP hk.toAlike hcl e1 e2 e3 e7 (by omega) e8 hs hj BH hB hl hl2 e5 hm).mono ?_;rintro e w' ⟨xv,ov,vv,rfl,hro,hb⟩
   have hD:y9 ws (nn:Int).toNat s st ins (n:Int).toNat=nH ws n 0 [⟨y.its,0,3,0,0⟩] st.reverse ⟨List.replicate nn 0,[],ins⟩:=by
    unfold y9;rw[e1];simp only[Int.toNat_natCast,e2,Option.map_some,Option.getD_some]
   rw[hD];exact⟨Or.inr ⟨rfl,xv,ov,vv,rfl,hro⟩,hb⟩
  ·have wL:nC st ins f=false:=by simpa using hm
   refine(Jr s f gQ sS hs hj hB hl hl2 e5 wL).mono ?_;rintro e w' ⟨rfl,hb⟩;have hc:nI ws s st ins f=1:=by unfold nI;rw[if_neg (by omega),if_neg hm]
   rw[hc];exact⟨Or.inl ⟨by decide,rfl⟩,hb⟩
end
end Go.Proofs.YtcphhbofjkenaaaGreatDoor
