import Derived.Test.YtcphhbofjkenaaaGreatDoorM35
namespace Go.Proofs.YtcphhbofjkenaaaGreatDoor
open Go Go.RowKit
set_option linter.unusedVariables false
set_option linter.unusedSimpArgs false
set_option maxRecDepth 100000
set_option maxHeartbeats 16000000
section
attribute [local go_sem] dK
def lq:List (List UInt8):=[[64],[33],[105,110],[111,117,116],[105],[110,101,103,97,116,101],[97,98,115],[48,61],[100,117,112],[100,114,111,112],[115,119,97,112],[111,118,101,114],[116,117,99,107],[114,111,116]]
section
variable{B:Nat}{w w':World}{sb:Nat}{F:Nat→Prop}{x:DX}{m m':DM}{u u':MW}
theorem wB(q:ByteArray){a b R:Int}{s:List Int}(h:gI B w sb F x m u)(hs:m.ak=b :: a :: s)(hth:ax q=(2,1,true))(hne:∀l∈lq,(q.toList == l)=false)(htw:∀w,Calls Tryz.prog 211 #[.string q,.int .i64 a,.int .i64 b] w fun e w'=>e=.returned (.int .i64 R)∧w'=w)(ry: -9000000000000000000≤R∧R≤9000000000000000000):
  Calls Tryz.prog 199 #[.pointer (some ⟨x.mb,0,none⟩),.string q,.pointer (some ⟨x.wp,0,none⟩)] w fun r w'=>r=.returned (.tuple #[])∧di B w sb F x {m with ak:=w32 R :: s} u w':=by
 obtain⟨z0,z1,z2,z3,z4,hlt⟩:=h.cells;obtain⟨ad,cap,dI,_,_⟩:=ag h.eP;rw[dI,List.length_reverse]at z2;have hl:=h.len.2.1;have hlen:m.ak.length=s.length+2:=by rw[hs];rfl
 have HT:=ast (fun w=>bF q w);rw[hth]at HT;have H:=ast h;have HS:=ast hs;have jc:=ast hlen;obtain⟨k,hk⟩:=exq (m.ak.length);rw[←hk]at z2 hl hlen;have hk2:¬(k:Int)<2:=by omega
 have HK:=ast hk;have gu:=ast htw;have e0:=hne [64] (by simp[lq]);have e1:=hne [33] (by simp[lq]);have e2:=hne [105,110] (by simp[lq]);have e3:=hne [111,117,116] (by simp[lq]);have e4:=hne [105] (by simp[lq]);have e5:=hne [110,101,103,97,116,101] (by simp[lq]);have e6:=hne [97,98,115] (by simp[lq]);have e7:=hne [48,61] (by simp[lq]);have e8:=hne [100,117,112] (by simp[lq]);have e9:=hne [100,114,111,112] (by simp[lq]);have e10:=hne [115,119,97,112] (by simp[lq]);have e11:=hne [111,118,101,114] (by simp[lq]);have e12:=hne [116,117,99,107] (by simp[lq]);have e13:=hne [114,111,116] (by simp[lq]);clear h hs dI z0 z1 z3 z4 hth hlen hk htw hne;go_enter Tryz.func199,Tryz.ntmps199
 go_wp2_with fail
 refine(HT.out _).mono ?_;rintro e w1 ⟨rfl,rfl⟩;clear HT;go_wp2_with fail
 go_quiet (fail)
 have hbq:Below w1.heap.size w1 (w1.drewN nq):=bdq;obtain⟨V,hV⟩:=exq (w1.drewN nq:World);rw[←hV]at hbq;have jA:=ast (H.out.below hbq);clear hbq z2;go_wp2_with fail
 rw[←hV];clear hV;refine(aQ 1 jA.out.at_ (show m.ak[1]?=some a by rw[HS.out];rfl) (by omega)).mono ?_;rintro e v1 ⟨rfl,hb1⟩;have gY:=ast (jA.out.trans (jA.out.at_.below hb1));clear hb1 jA;go_wp2_with fail
 refine(aQ 0 gY.out.at_ (show m.ak[0]?=some b by rw[HS.out];rfl) (by omega)).mono ?_;rintro e v2 ⟨rfl,hb2⟩;have dZ:=ast (gY.out.trans (gY.out.at_.below hb2));clear hb2 gY;go_wp2_with fail
 refine(gu.out _).mono ?_;rintro e v3 ⟨rfl,rfl⟩;clear gu;have HB:=ast (dZ.out.trans (dZ.out.at_.below (show Below v3.heap.size v3 (v3.alloc (.cells #[.int .i64 (R)] 3 (0,0)))from brq.alloc nrq _)));have jl:Hid (bz (v3.alloc (.cells #[.int .i64 (R)] 3 (0,0))).heap.size (v3.alloc (.cells #[.int .i64 (R)] 3 (0,0))) (.slice (some ⟨v3.heap.size,0,none⟩) 1 1) [R]):=ast (fH v3 [R]);clear dZ;go_wp2_with fail
 refine(aX 2 [R] HB.out.at_ (by have:=jc.out;omega) (by have:=HK.out;have:=jc.out;simp only[List.length_cons,List.length_nil];omega) jl.out (fun y hy=>by rw[List.mem_singleton.1 hy];omega)).mono ?_;rintro e w6 ⟨rfl,y,hy⟩;have HF:=ast (HB.out.trans hy);clear hy HB jl;go_wp2_with fail
 go_end0
 refine⟨rfl,y,?_⟩;have:=HF.out;rw[HS.out]at this;exact this
end
end
section
attribute [local go_sem] dK
section
variable{B:Nat}{w w':World}{sb:Nat}{F:Nat→Prop}{x:DX}{m m':DM}{u u':MW}
theorem BA(k:Nat){a:Int}(h:gI B w sb F x m u)(hk:m.ak[k]?=some a)(hk3:k≤3)(q:Nat):
  Calls Tryz.prog 201 #[.pointer (some ⟨x.mb,0,none⟩),.int .i64 k] (w.drewN q) fun r w'=>r=.returned (.int .i64 a)∧∃j,w'=(w.drewN q).drewN j:=by
 obtain⟨c0,c1,c2,c3,c4,hlt⟩:=h.cells;obtain⟨g,cap,h1,h2,h3,h4⟩:=h.OD k hk;have AQ:=(List.getElem?_eq_some_iff.1 hk).1;have hl:=h.len.2.1;rw[h1]at c2;obtain⟨W,hW⟩:=exq (w.drewN q:World);rw[←hW];have c2':W.cell? ⟨x.mb,2,none⟩=some (.slice (some ⟨g,0,none⟩) m.ak.length cap):=by rw[hW];exact c2
 have h4':W.cell? ⟨g,m.ak.length - 1 - k,none⟩=some (.int .i64 a):=by rw[hW];exact h4
 have aqD:x.mb<W.heap.size:=by rw[hW];exact hlt
 have h3':g<W.heap.size:=by rw[hW];exact h3
 clear h c0 c1 c2 c3 c4 h1 hk h3 h4 hlt hW;obtain⟨n,hn⟩:=exq (m.ak.length);rw[←hn]at c2' h2 h4' AQ hl;obtain⟨p,hp⟩:=exq (n - 1 - k:Nat);have WU:(n:Int) - 1 - (k:Int)=(p:Int):=by omega
 rw[←hp]at h4';have ZG:(0:Int)≤(p:Int):=by omega
 have O0:(p:Int)<(n:Int):=by omega
 clear hn hp;go_enter Tryz.func201,Tryz.ntmps201
 go_wp2_with fail
 go_quiet (fail)
 go_wp2_with fail
 go_ret
 exact⟨rfl,_,rfl⟩
theorem wC(q:ByteArray)(hq:q=⟨#[64]⟩∨q=⟨#[33]⟩){a:Int}{s:List Int}(h:gI B w sb F x m u)(hs:m.ak=a :: s)(htl:(ax q).1≤m.ak.length)(ha:Cell a)(hno:a<0∨(u.vars.length:Int)≤a):
  Calls Tryz.prog 199 #[.pointer (some ⟨x.mb,0,none⟩),.string q,.pointer (some ⟨x.wp,0,none⟩)] w fun r w'=>r=.returned (.tuple #[])∧di B w sb F x {m with done:=true,ed:=3} u w':=by
 obtain⟨z0,z1,z2,z3,z4,hlt⟩:=h.cells;obtain⟨y0,y1,y2,y3,nX⟩:=h.shared;obtain⟨ad,cap,dI,_,_⟩:=ag h.eP;obtain⟨ca,cc,hcv,hcc,_⟩:=ag h.fB;rw[dI,List.length_reverse]at z2;rw[hcv]at y0;have hl:=h.len.2.1;have EY:=h.len.2.2.2.2.1;have hlen:m.ak.length=s.length+1:=by rw[hs];rfl
 have HT:=ast (fun w=>bF q w);obtain⟨T,hth⟩:=exq (ax q);rw[←hth]at HT htl;obtain⟨t0,p0,b0⟩:=T;simp only at HT htl;have H:=ast h;have HS:=ast hs;have jc:=ast hlen;obtain⟨k,hk⟩:=exq (m.ak.length);rw[←hk]at z2 hl hlen;have hk2:¬(k:Int)<t0:=by rw[hk];omega
 have HK:=ast hk;have yj:=ast hcv;obtain⟨n,hn⟩:=exq (u.vars.length);rw[←hn]at y0 hcc EY;have HN:=ast hn;obtain⟨a1,a2⟩:=ha;rw[←hn]at hno
 have hfa:decide (a<0)=true∨(¬a<0∧decide (a<0)=false∧decide ((n:Int)≤a)=true):=by
  by_cases h0:a<0
  ·exact Or.inl (decide_eq_true h0)
  ·exact Or.inr ⟨h0,decide_eq_false h0,decide_eq_true (hno.resolve_left h0)⟩
 clear h hs dI hcv z0 z1 z3 z4 y1 y2 y3 hth hlen hk hn;clear hno;rcases hq with rfl|rfl<;>rcases hfa with hdd|⟨hnn,hdd,hde⟩
 all_goals
  go_enter Tryz.func199,Tryz.ntmps199
  go_wp2_with fail
  refine(HT.out _).mono ?_;rintro e w1 ⟨rfl,rfl⟩;clear HT;have HTQ:=ast (fun n=>BA 0 H.out (show m.ak[0]?=some a by rw[HS.out];rfl) (by omega) n);go_wp2_with fail
  go_quiet ((go_at_call 201;exact Calls.quiet_of (HTQ.out _)))
  have hbq:Below w1.heap.size w1 (w1.drewN nq):=bdq;obtain⟨V,hV⟩:=exq (w1.drewN nq:World);rw[←hV]at hbq;have HA:=ast (H.out.below hbq);clear hbq z2 HTQ;go_wp2_with fail
  rw[←hV];clear hV;refine(jE 3 HA.out.at_).mono ?_;rintro e w5 ⟨rfl,KI⟩;have HF:=ast (HA.out.trans KI);clear KI HA;go_wp2_with fail
  exact bodyPost_ret (results_none rfl _ _ _) rfl ⟨rfl,_,HF.out⟩
end
end
section
attribute [local go_sem] dK
theorem xO{w:World}{base:Nat}{e:TypeId}{size g n cap:Nat}{xs:List Value}(h:w.ownsRow base e size (.slice (some ⟨g,0,none⟩) n cap) n xs)(k:Nat):w.frozen? ⟨g,k,none⟩=false:=by
 rcases h.2 with ⟨h0,_⟩|⟨g',cap',cur,hv,_,hh,_⟩
 ·cases h0
 ·obtain⟨rfl,rfl⟩:g=g'∧cap=cap':=by simpa using hv
  simp[World.frozen?,hh]
section
variable{B:Nat}{w w':World}{sb:Nat}{F:Nat→Prop}{x:DX}{m m':DM}{u u':MW}
theorem MN{i:Nat}{s:List Int}(h:gI B w sb F x m u)(hs:m.ak=(i:Int) :: s)(hi:i<u.vars.length)(hc:∀y∈u.vars,Cell y):
  Calls Tryz.prog 199 #[.pointer (some ⟨x.mb,0,none⟩),.string ⟨#[64]⟩,.pointer (some ⟨x.wp,0,none⟩)] w fun r w'=>r=.returned (.tuple #[])∧di B w sb F x {m with ak:=(iW 23 (aG m.fs) m.ak u).1} (iW 23 (aG m.fs) m.ak u).2 w':=by
 have hop:∀y,u.vars[i]?=some y→iW 23 (aG m.fs) m.ak u=(w32 y :: s,u):=fun y hy=>by
  have Ro:=hc y (List.mem_of_getElem? hy);rw[hs,fA Ro];have e:u.vars.getD i 0=y:=by rw[List.getD_eq_getElem?_getD,hy];rfl
  simp[iW,fV,hy]
 obtain⟨z0,z1,z2,z3,z4,hlt⟩:=h.cells;obtain⟨y0,y1,y2,y3,nX⟩:=h.shared;obtain⟨ad,cap,dI,_,_⟩:=ag h.eP;obtain⟨ca,cc,hcv,hcc,_⟩:=ag h.fB;rw[dI,List.length_reverse]at z2;rw[hcv]at y0;have hl:=h.len.2.1;have EY:=h.len.2.2.2.2.1;have hth:ax ⟨#[64]⟩=(1,1,true):=by decide +kernel
 have HT:=ast (fun w=>bF ⟨#[64]⟩ w);rw[hth]at HT;have H:=ast h;obtain⟨k,hk⟩:=exq (m.ak.length);rw[←hk]at z2 hl;have HK:=ast hk;have yj:=ast hcv;obtain⟨n,hn⟩:=exq (u.vars.length);rw[←hn]at y0 hcc EY;have HN:=ast hn;obtain⟨cg,bf,jh,_,V4,_,_,hcell⟩:=aB h.fB (by omega)
 obtain rfl:ca=some ⟨cg,0,none⟩:=by
  have:=yj.out.symm.trans jh;injection this
 obtain⟨y,hy⟩:∃y,u.vars[i]?=some y:=⟨_,List.getElem?_eq_getElem hi⟩;have hyv:w.cell? ⟨cg,i,none⟩=some (.int .i64 y):=hcell i _ (by rw[List.getElem?_map,hy];rfl);have hi0:(0:Int)≤(i:Int):=by omega
 have hi1:(i:Int)<(n:Int):=by omega
 have hnn:¬(i:Int)<0:=by omega
 have hdd:decide ((i:Int)<0)=false:=decide_eq_false hnn;have hde:decide ((n:Int)≤(i:Int))=false:=decide_eq_false (by omega);have Ro:=hc y (List.mem_of_getElem? hy);rw[hop y hy];have hlen:k=s.length+1:=by rw[hk,hs];rfl
 have hk2:¬(k:Int)<1:=by omega
 have HS:=ast hs;have jc:=ast hlen;obtain⟨yc1,yc2⟩:=Ro;clear h hs dI hcv z0 z1 z3 z4 y1 y2 y3 hth hk hn hop hcell jh hi hy hc hlen;go_enter Tryz.func199,Tryz.ntmps199
 go_wp2_with fail
 refine(HT.out _).mono ?_;rintro e w1 ⟨rfl,rfl⟩;clear HT;have HTQ:=ast (fun n=>BA 0 H.out (show m.ak[0]?=some (i:Int) by rw[HS.out];rfl) (by omega) n);go_wp2_with fail
 go_quiet ((go_at_call 201;exact Calls.quiet_of (HTQ.out _)))
 have hbq:Below w1.heap.size w1 (w1.drewN nq):=bdq;obtain⟨V,hV⟩:=exq (w1.drewN nq:World);rw[←hV]at hbq;have HA:=ast (H.out.below hbq);clear z2 HTQ hbq;go_upto_region 9 with fail
 rw[←hV];have y0V:V.cell? ⟨x.wp,0,none⟩=some (.slice (some ⟨cg,0,none⟩) n cc):=by rw[hV];exact y0
 have yvV:V.cell? ⟨cg,i,none⟩=some (.int .i64 y):=by rw[hV];exact hyv
 have QU:x.wp<V.heap.size:=by rw[hV];exact nX
 have hgV:cg<V.heap.size:=by rw[hV];exact V4
 have HTU:=ast (fun (v:gW V.heap.size V)=>aQ 0 (HA.out.at_.below v.below).at_ (show m.ak[0]?=some (i:Int) by rw[HS.out];rfl) (by omega));clear hV y0 hyv nX V4;have k0:∀v:{v:World // v.cell? ⟨x.wp,0,none⟩=some (.slice (some ⟨cg,0,none⟩) n cc)∧v.cell? ⟨cg,i,none⟩=some (.int .i64 y)},v.val.cell? ⟨x.wp,0,none⟩=some (.slice (some ⟨cg,0,none⟩) n cc):=fun v=>v.property.1
 have k1:∀v:{v:World // v.cell? ⟨x.wp,0,none⟩=some (.slice (some ⟨cg,0,none⟩) n cc)∧v.cell? ⟨cg,i,none⟩=some (.int .i64 y)},v.val.cell? ⟨cg,i,none⟩=some (.int .i64 y):=fun v=>v.property.2
 have hne:Nonempty {v:World // v.cell? ⟨x.wp,0,none⟩=some (.slice (some ⟨cg,0,none⟩) n cc)∧v.cell? ⟨cg,i,none⟩=some (.int .i64 y)}:=⟨⟨V,y0V,yvV⟩⟩;have HD:=ast (HA.out.trans (HA.out.at_.below (Below.refl _ V).drew));have QV:=ast (And.intro y0V yvV);clear y0V yvV HTU;refine aH (C:=fJ fun v=>v.cell? ⟨x.wp,0,none⟩=some (.slice (some ⟨cg,0,none⟩) n cc)∧v.cell? ⟨cg,i,none⟩=some (.int .i64 y)) 10 [6,9] ⟨V.drew,QV.out⟩ (by kernel_rfl) (by kernel_rfl) rfl ?_;rw[show List.range 10=[0,1,2,3,4,5,6,7,8,9]from rfl]
 repeat (refine aO rfl rfl (fun K hK=>?_);go_simp;refine hK _ ?_;clear hK K)
 refine bG rfl rfl 201 #[.pointer (some ⟨x.mb,0,none⟩),.int .i64 0] (by go_simp) ((aQ 0 HD.out.at_ (show m.ak[0]?=some (i:Int) by rw[HS.out];rfl) (by omega)).mono ?_);rintro e w2 ⟨rfl,hb2⟩;have hy2:w2.cell? ⟨x.wp,0,none⟩=some (.slice (some ⟨cg,0,none⟩) n cc)∧w2.cell? ⟨cg,i,none⟩=some (.int .i64 y):=⟨(hb2.cell (p:=⟨x.wp,0,none⟩) QU).trans QV.out.1,(hb2.cell (p:=⟨cg,i,none⟩) hgV).trans QV.out.2⟩;refine⟨_,rfl,hy2,?_⟩
 repeat (refine aO rfl rfl (fun K hK=>?_);go_simp;refine hK _ ?_;clear hK K)
 have dZ:=ast (HD.out.trans (HD.out.at_.below hb2));have wJ:Below w2.heap.size w2 (w2.alloc (.cells #[.int .i64 y] 3 (0,0))):=brq.alloc nrq _;have hl2:V.heap.size≤w2.heap.size:=hb2.size;refine eu rfl rfl (.slice (some ⟨w2.heap.size,0,none⟩) 1 1) (w2.alloc (.cells #[.int .i64 y] 3 (0,0))) ⟨(wJ.cell (p:=⟨x.wp,0,none⟩) (Nat.lt_of_lt_of_le QU hl2)).trans hy2.1,(wJ.cell (p:=⟨cg,i,none⟩) (Nat.lt_of_lt_of_le hgV hl2)).trans hy2.2⟩ (Or.inl (by go_simp)) ?_;refine df ?_;intro w' hw';rw[show w'=w2.alloc (.cells #[.int .i64 y] 3 (0,0))from hw'];have HB:=ast (dZ.out.trans (dZ.out.at_.below wJ));have jl:Hid (bz (w2.alloc (.cells #[.int .i64 y] 3 (0,0))).heap.size (w2.alloc (.cells #[.int .i64 y] 3 (0,0))) (.slice (some ⟨w2.heap.size,0,none⟩) 1 1) [y]):=ast (fH w2 [y]);clear hw' w' k0 k1 hne hb2 hy2 wJ hl2 dZ HD QV;simp only[List.drop_succ_cons,List.drop_zero];go_wp2_with fail
 refine(aX 1 [y] HB.out.at_ (by have:=HK.out;have:=jc.out;omega) (by have:=HK.out;have:=jc.out;simp only[List.length_cons,List.length_nil];omega) jl.out (fun z hz=>by rw[List.mem_singleton.1 hz];omega)).mono ?_;rintro e w6 ⟨rfl,y',hy'⟩;have HF:=ast (HB.out.trans hy');clear hy' HB jl;go_wp2_with fail
 go_end0
 refine⟨rfl,y',?_⟩;have:=HF.out;rw[HS.out]at this;exact this
theorem MO{i:Nat}{b:Int}{s:List Int}(h:gI B w sb F x m u)(hs:m.ak=(i:Int) :: b :: s)(hi:i<u.vars.length):
  Calls Tryz.prog 199 #[.pointer (some ⟨x.mb,0,none⟩),.string ⟨#[33]⟩,.pointer (some ⟨x.wp,0,none⟩)] w fun r w'=>r=.returned (.tuple #[])∧di B w sb F x {m with ak:=(iW 24 (aG m.fs) m.ak u).1} (iW 24 (aG m.fs) m.ak u).2 w':=by
 have hop:iW 24 (aG m.fs) m.ak u=(s,{u with vars:=u.vars.set i b}):=by rw[hs];simp[iW,fV]
 rw[hop];obtain⟨z0,z1,z2,z3,z4,hlt⟩:=h.cells;obtain⟨y0,y1,y2,y3,nX⟩:=h.shared;obtain⟨ad,cap,dI,_,_⟩:=ag h.eP;obtain⟨ca,cc,hcv,hcc,_⟩:=ag h.fB;rw[dI,List.length_reverse]at z2;rw[hcv]at y0;have hl:=h.len.2.1;have EY:=h.len.2.2.2.2.1;have hth:ax ⟨#[33]⟩=(2,0,true):=by decide +kernel
 have HT:=ast (fun w=>bF ⟨#[33]⟩ w);rw[hth]at HT;have H:=ast h;obtain⟨k,hk⟩:=exq (m.ak.length);rw[←hk]at z2 hl;have HK:=ast hk;have yj:=ast hcv;obtain⟨n,hn⟩:=exq (u.vars.length);rw[←hn]at y0 hcc EY;have HN:=ast hn;obtain⟨cg,bf,jh,_,V4,_,_,hcell⟩:=aB h.fB (by omega)
 obtain rfl:ca=some ⟨cg,0,none⟩:=by
  have:=yj.out.symm.trans jh;injection this
 obtain⟨y,hy⟩:∃y,u.vars[i]?=some y:=⟨_,List.getElem?_eq_getElem hi⟩;have hyv:w.cell? ⟨cg,i,none⟩=some (.int .i64 y):=hcell i _ (by rw[List.getElem?_map,hy];rfl);have hi0:(0:Int)≤(i:Int):=by omega
 have hi1:(i:Int)<(n:Int):=by omega
 have hnn:¬(i:Int)<0:=by omega
 have hdd:decide ((i:Int)<0)=false:=decide_eq_false hnn;have hde:decide ((n:Int)≤(i:Int))=false:=decide_eq_false (by omega);have hlen:k=s.length+2:=by rw[hk,hs];rfl
 have hk2:¬(k:Int)<2:=by omega
 have HS:=ast hs;have jc:=ast hlen;have HIL:=ast hi;clear h hs dI hcv z0 z1 z3 z4 y1 y2 y3 hth hk hn hop hcell jh hi hy hlen;go_enter Tryz.func199,Tryz.ntmps199
 go_wp2_with fail
 refine(HT.out _).mono ?_;rintro e w1 ⟨rfl,rfl⟩;clear HT;have HTQ:=ast (fun n=>BA 0 H.out (show m.ak[0]?=some (i:Int) by rw[HS.out];rfl) (by omega) n);go_wp2_with fail
 go_quiet ((go_at_call 201;exact Calls.quiet_of (HTQ.out _)))
 have hbq:Below w1.heap.size w1 (w1.drewN nq):=bdq;obtain⟨V,hV⟩:=exq (w1.drewN nq:World);rw[←hV]at hbq;have HA:=ast (H.out.below hbq);clear z2 HTQ hbq;go_upto_region 11 with fail
 rw[←hV];have y0V:V.cell? ⟨x.wp,0,none⟩=some (.slice (some ⟨cg,0,none⟩) n cc):=by rw[hV];exact y0
 have yvV:V.cell? ⟨cg,i,none⟩=some (.int .i64 y):=by rw[hV];exact hyv
 have QU:x.wp<V.heap.size:=by rw[hV];exact nX
 have hgV:cg<V.heap.size:=by rw[hV];exact V4
 have HTU:=ast (fun (v:gW V.heap.size V)=>aQ 0 (HA.out.at_.below v.below).at_ (show m.ak[0]?=some (i:Int) by rw[HS.out];rfl) (by omega));have alb:=ast (fun (v:gW V.heap.size V)=>aQ 1 (HA.out.at_.below v.below).at_ (show m.ak[1]?=some b by rw[HS.out];rfl) (by omega));clear hV y0 hyv nX V4 HTU alb;have k0:∀v:{v:World // v.cell? ⟨x.wp,0,none⟩=some (.slice (some ⟨cg,0,none⟩) n cc)},v.val.cell? ⟨x.wp,0,none⟩=some (.slice (some ⟨cg,0,none⟩) n cc):=fun v=>v.property
 have hne:Nonempty {v:World // v.cell? ⟨x.wp,0,none⟩=some (.slice (some ⟨cg,0,none⟩) n cc)}:=⟨⟨V,y0V⟩⟩;have HD:=ast (HA.out.trans (HA.out.at_.below (Below.refl _ V).drew));have QV:=ast y0V;clear y0V;refine iy (C:=fJ fun v=>v.cell? ⟨x.wp,0,none⟩=some (.slice (some ⟨cg,0,none⟩) n cc)) 9 [0,1,2,3,4,6,5,7,8] [5,7] ⟨V.drew,QV.out⟩ (by kernel_rfl) (by kernel_rfl) rfl ?_
 repeat (refine aO rfl rfl (fun K hK=>?_);go_simp;refine hK _ ?_;clear hK K)
 refine bG rfl rfl 201 #[.pointer (some ⟨x.mb,0,none⟩),.int .i64 0] (by go_simp) ((aQ 0 HD.out.at_ (show m.ak[0]?=some (i:Int) by rw[HS.out];rfl) (by omega)).mono ?_);rintro e v2 ⟨rfl,hb1⟩;have hy1:v2.cell? ⟨x.wp,0,none⟩=some (.slice (some ⟨cg,0,none⟩) n cc):=(hb1.cell (p:=⟨x.wp,0,none⟩) QU).trans QV.out;refine⟨_,rfl,hy1,?_⟩;have gY:=ast (HD.out.trans (HD.out.at_.below hb1));refine bG rfl rfl 201 #[.pointer (some ⟨x.mb,0,none⟩),.int .i64 1] (by go_simp) ((aQ 1 gY.out.at_ (show m.ak[1]?=some b by rw[HS.out];rfl) (by omega)).mono ?_);rintro e w2 ⟨rfl,qC⟩;have hb2:Below V.heap.size V w2:=((Below.refl _ V).drew.trans hb1).trans (qC.mono hb1.size);have hy2:w2.cell? ⟨x.wp,0,none⟩=some (.slice (some ⟨cg,0,none⟩) n cc):=(hb2.cell (p:=⟨x.wp,0,none⟩) QU).trans QV.out;refine⟨_,rfl,hy2,?_⟩;have dZ:=ast (gY.out.trans (gY.out.at_.below qC))
 repeat (refine aO rfl rfl (fun K hK=>?_);go_simp;refine hK _ ?_;clear hK K)
 refine df ?_;intro w' hw';rw[show w'=w2 from hw'];simp only[List.drop_succ_cons,List.drop_zero];clear hw' w' k0 hne hb1 qC hy1 hy2 HD QV gY;have yv2:w2.cell? ⟨cg,i,none⟩=some (.int .i64 y):=(hb2.cell (p:=⟨cg,i,none⟩) hgV).trans yvV;have hg2:cg<w2.heap.size:=Nat.lt_of_lt_of_le hgV hb2.size;have hcv2:x.cv=.slice (some ⟨cg,0,none⟩) u.vars.length cc:=yj.out;have hcr:=dZ.out.at_.fB;rw[hcv2]at hcr;have f2:=xO hcr i;obtain⟨Z,hZ⟩:=exq (w2.setCell ⟨cg,i,none⟩ (.int .i64 b):World)
 have Cj:aj (fun k=>k=x.wp∨x.cv.ownBlock=some k∨x.ov.ownBlock=some k) w2 Z:=by
  rw[hZ];exact(aj.refl (fun k=>k=x.wp∨x.cv.ownBlock=some k∨x.ov.ownBlock=some k) w2).setCell (p:=⟨cg,i,none⟩) (Or.inr (Or.inl (by rw[hcv2];rfl))) _
 have acm:aj (fun k=>k=cg) w2 Z:=by rw[hZ];exact(aj.refl (fun k=>k=cg) w2).setCell (p:=⟨cg,i,none⟩) rfl _
 have iL:=fO hcr i (.int .i64 b);rw[←hZ]at iL
 have YS:=dZ.out.at_.world (u':={u with vars:=u.vars.set i b}) (yE:=x.ov) (BQ:=x.tk) Cj (dZ.out.at_.dN.aA acm (fun e=>ah hcr dZ.out.at_.dN (by decide) (by rw[e];rfl))) (by
   rw[hcv2]
   show World.ownsRow _ _ _ _ _ _ _
   rw[List.length_set];have e:ints (u.vars.set i b)=(ints u.vars).set i (.int .i64 b):=by simp[ints,List.map_set]
   rw[e];exact iL) (af dZ.out.at_.jV acm (fun q hq e=>dZ.out.at_.uh q (by rw[hcv2,e];rfl) hq)) (Lc.refl _ _) dZ.out.at_.rest (by
   obtain⟨_,_,n3,_,n5,n6⟩:=dZ.out.at_.len;exact⟨n3,by simp only[List.length_set];exact n5,n6⟩)
 have HZ:=ast (dZ.out.trans YS);clear dZ hb2 yvV hcv2 hcr Cj acm iL YS;go_upto_region 12 with fail
 rw[←hZ];clear hZ f2 yv2;go_wp2_with fail
 refine(aX 2 [] HZ.out.at_ (by have:=HK.out;have:=jc.out;omega) (by have:=HK.out;have:=jc.out;simp only[List.length_nil];omega) (Or.inl ⟨rfl,none,0,rfl⟩) (fun z hz=>by cases hz)).mono ?_;rintro e w6 ⟨rfl,y',hy'⟩;have HF:=ast (HZ.out.trans hy');clear hy' HZ;go_wp2_with fail
 go_end0
 refine⟨rfl,y',?_⟩;have:=HF.out;rw[HS.out]at this;exact this
end
end
end Go.Proofs.YtcphhbofjkenaaaGreatDoor
