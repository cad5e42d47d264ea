import Derived.Test.YtcphhbofjkenaaaGreatDoorM19
namespace Go.Proofs.YtcphhbofjkenaaaGreatDoor
open Go Go.RowKit
set_option linter.unusedVariables false
set_option linter.unusedSimpArgs false
set_option maxRecDepth 100000
set_option maxHeartbeats 16000000
section
open Go.RowKit
theorem Ia{w0 w:World}{rb bb db:Nat}{rc:RC}{ev bI bC bv:Value}{es:List PE}{nv nt:Int}{pc dc:List Int}{tk:Int}{bs:List PB}{b:PB}{kn:Inf}
  (h:DS w0 w rb rc bb db ev bI bC bv es nv nt pc dc tk (bs++[b]) kn) (hop:b.opener≠29) (hl:bs.length≤10000000):
  Calls Tryz.prog 158 #[.pointer (some ⟨db,0,none⟩)] w fun e w'=>e=.returned (.int .i64 5)∧DS w0 w' rb rc bb db ev bI bC bv es nv nt pc dc tk (bs++[b]) kn:=by
 obtain⟨g,cap,hv,hcap,hge,hg,hfr,hcell⟩:=h.last;have H1:=ast (bZ h (by omega) g cap hv hcap);have d0:w.cell? ⟨g,bs.length*17,none⟩=some (.int .i64 b.opener):=by simpa using hcell 0 _ rfl
 have AA:(b.opener == 29)=false:=by simpa using hop
 have HD:=ast h;clear h hcell hfr hop;go_enter Tryz.func158,Tryz.ntmps158
 go_wp2_with fail
 refine H1.out.mono ?_;rintro e w1 ⟨rfl,hb1⟩;replace d0:=(hb1.cell (p:=⟨g,bs.length*17,none⟩) hg).trans d0;have HB:=ast hb1;clear H1 hb1;go_wp2_with fail
 go_ret
 exact⟨rfl,HD.out.below HB.out⟩
theorem Ue{c:PB}{w0 w:World}{rb bb db:Nat}{rc:RC}{ev bI bC bv:Value}{es:List PE}{nv nt:Int}{pc dc:List Int}{tk:Int}{bs:List PB}{b:PB}{kn:Inf}
  (h:DS w0 w rb rc bb db ev bI bC bv es nv nt pc dc tk (bs++[c]++[b]) kn) (hop:b.opener=29) (hd:b.does.Ok) (k:Nat) (hk:b.hole=k) (dM:pc.length≤k) (hk2:k<dc.length) (hl:bs.length≤10000000) (hc:dc.length≤10000000):
  Calls Tryz.prog 158 #[.pointer (some ⟨db,0,none⟩)] w fun e w'=>e=.returned (.int .i64 0)∧(∃iK rE,DS w0 w' rb rc bb db ev bI iK rE es nv nt pc ((dc++[30,0]).set k (dc.length+2)) tk (bs++[c]++[PB.opened {PB.zero with opener:=30,other:=b.does.then (ai 30)} c (dc.length+2)]) kn):=by
 obtain⟨g,cap,hv,hcap,hge,hg,hfr,hcell⟩:=h.last;have H0:=ast (bZ h (by simp;omega) g cap hv hcap);have d0:w.cell? ⟨g,(bs.length+1)*17,none⟩=some (.int .i64 b.opener):=by simpa using hcell 0 _ rfl
 rw[hop]at d0;have HD:=ast h;have JF:=ast hd;clear h hcell hfr hd;go_enter Tryz.func158,Tryz.ntmps158
 go_wp2_with fail
 refine H0.out.mono ?_;rintro e w1 ⟨rfl,hb1⟩;replace d0:=(hb1.cell (p:=⟨g,(bs.length+1)*17,none⟩) hg).trans d0;have jf:=HD.out.below hb1;obtain⟨h1,hs1⟩:=jf.PH 0;have H1:=ast (jM h1 30 _ [0] hs1 (by omega));clear H0 hb1 jf h1 hs1;go_wp2_with fail
 refine H1.out.mono ?_;rintro e w2 ⟨rfl,⟨v1,h2⟩,_⟩;have H2:=ast (dV 30 w2 (by omega) h2.tab);have oz:=ast h2;clear H1 h2 d0;go_wp2_with fail
 refine H2.out.mono ?_;rintro e w3 ⟨rfl,hb3⟩;have H3:=ast (jO (oz.out.below hb3) (ai 30) (kR 30 (by omega)) JF.out (by simp;omega));clear H2 oz hb3;go_wp2_with fail
 refine H3.out.mono ?_;rintro e w4 ⟨rfl,h4,_⟩;have H4:=ast (xh h4 k hk dM (by simp;omega) (by simp;omega) (by simp;omega));clear H3 h4;go_wp2_with fail
 refine H4.out.mono ?_;rintro e w5 ⟨rfl,⟨bv5,h5⟩,_⟩;have PK:=ast h5;clear H4 h5;simp only[PB.val,PB.cells,PB.add];go_wp2_with fail
 refine(Az (PK.out.below (brq.alloc nrq _)) {PB.zero with opener:=30,other:=b.does.then (ai 30)} (by omega) (by simp) (by simp;omega)).mono ?_;rintro e w6 ⟨rfl,⟨bv6,h6⟩,_⟩;have PL:=ast h6;clear h6 PK;go_wp2_with fail
 go_ret
 exact⟨rfl,v1,bv6,by simpa using PL.out⟩
end
section
open Go.RowKit
theorem PM{w0 w:World}{rb bb db:Nat}{rc:RC}{ev bI bC bv:Value}{es:List PE}{nv nt:Int}{pc dc:List Int}{tk:Int}{bs:List PB}{b:PB}{kn:Inf}
  (h:DS w0 w rb rc bb db ev bI bC bv es nv nt pc dc tk (bs++[b]) kn) (hn:b.numbers<2) (hl:bs.length≤10000000):
  Calls Tryz.prog 160 #[.pointer (some ⟨db,0,none⟩)] w fun e w'=>e=.returned (.int .i64 5)∧DS w0 w' rb rc bb db ev bI bC bv es nv nt pc dc tk (bs++[b]) kn:=by
 obtain⟨g,cap,hv,hcap,hge,hg,hfr,hcell⟩:=h.last;have H1:=ast (bZ h (by omega) g cap hv hcap);have d14:w.cell? ⟨g,bs.length*17+14,none⟩=some (.int .i64 b.numbers):=hcell 14 _ rfl;have HD:=ast h;clear h hcell hfr;go_enter Tryz.func160,Tryz.ntmps160
 go_wp2_with fail
 refine H1.out.mono ?_;rintro e w1 ⟨rfl,hb1⟩;replace d14:=(hb1.cell (p:=⟨g,bs.length*17+14,none⟩) hg).trans d14;have HB:=ast hb1;clear H1 hb1;go_wp2_with fail
 go_ret
 exact⟨rfl,HD.out.below HB.out⟩
theorem Ib{w0 w:World}{rb bb db:Nat}{rc:RC}{ev bI bC bv:Value}{es:List PE}{nv nt:Int}{pc dc:List Int}{tk:Int}{bs:List PB}{b:PB}{kn:Inf}
  (h:DS w0 w rb rc bb db ev bI bC bv es nv nt pc dc tk (bs++[b]) kn) (hn:¬b.numbers<2) (ha0: -2147483648≤b.a0) (ha1:b.a0≤2147483647) (hb0: -2147483648≤b.a1) (hb1:b.a1≤2147483647) (hm:1000<b.a0 - b.a1) (hl:bs.length≤10000000):
  Calls Tryz.prog 160 #[.pointer (some ⟨db,0,none⟩)] w fun e w'=>e=.returned (.int .i64 7)∧DS w0 w' rb rc bb db ev bI bC bv es nv nt pc dc tk (bs++[b]) kn:=by
 obtain⟨g,cap,hv,hcap,hge,hg,hfr,hcell⟩:=h.last;have H1:=ast (bZ h (by omega) g cap hv hcap);have d14:w.cell? ⟨g,bs.length*17+14,none⟩=some (.int .i64 b.numbers):=hcell 14 _ rfl;have d15:w.cell? ⟨g,bs.length*17+15,none⟩=some (.int .i64 b.a0):=hcell 15 _ rfl;have d16:w.cell? ⟨g,bs.length*17+16,none⟩=some (.int .i64 b.a1):=hcell 16 _ rfl;have hmx:max 0 (b.a0 - b.a1)=b.a0 - b.a1:=by omega
 have HD:=ast h;clear h hcell hfr;go_enter Tryz.func160,Tryz.ntmps160
 go_wp2_with fail
 refine H1.out.mono ?_;rintro e w1 ⟨rfl,hbb⟩;replace d14:=(hbb.cell (p:=⟨g,bs.length*17+14,none⟩) hg).trans d14;replace d15:=(hbb.cell (p:=⟨g,bs.length*17+15,none⟩) hg).trans d15;replace d16:=(hbb.cell (p:=⟨g,bs.length*17+16,none⟩) hg).trans d16;have HB:=ast hbb;clear H1 hbb;go_wp2_with fail
 go_quiet (fail)
 go_wp2_with fail
 go_ret
 exact⟨rfl,HD.out.below (HB.out.trans ⟨rfl,rfl,rfl,nrq,fun _ _=>rfl⟩)⟩
theorem aa8{w0 w:World}{rb bb db:Nat}{rc:RC}{ev bI bC bv:Value}{es:List PE}{nv nt:Int}{pc dc:List Int}{tk:Int}{bs:List PB}{b:PB}{kn:Inf}
  (h:DS w0 w rb rc bb db ev bI bC bv es nv nt pc dc tk (bs++[b]) kn) (hn:¬b.numbers<2) (ha0: -2147483648≤b.a0) (ha1:b.a0≤2147483647) (hb0: -2147483648≤b.a1) (hb1:b.a1≤2147483647) (hm:¬1000<max 0 (b.a0 - b.a1)) (hd:b.does.Ok) (hl:bs.length≤10000000) (hc:dc.length≤10000000):
  Calls Tryz.prog 160 #[.pointer (some ⟨db,0,none⟩)] w fun e w'=>e=.returned (.int .i64 0)∧(∃iK rE,DS w0 w' rb rc bb db ev bI iK rE es nv nt pc (dc++[31,0]) tk (bs++[b.add (ai 31)]++[PB.opened {PB.zero with opener:=31,times:=max 0 (b.a0 - b.a1)} (b.add (ai 31)) (dc.length+2)]) kn):=by
 obtain⟨g,cap,hv,hcap,hge,hg,hfr,hcell⟩:=h.last;have H1:=ast (bZ h (by omega) g cap hv hcap);have d14:w.cell? ⟨g,bs.length*17+14,none⟩=some (.int .i64 b.numbers):=hcell 14 _ rfl;have d15:w.cell? ⟨g,bs.length*17+15,none⟩=some (.int .i64 b.a0):=hcell 15 _ rfl;have d16:w.cell? ⟨g,bs.length*17+16,none⟩=some (.int .i64 b.a1):=hcell 16 _ rfl;have HD:=ast h;have JF:=ast hd;clear h hcell hfr hd;go_enter Tryz.func160,Tryz.ntmps160
 go_wp2_with fail
 refine H1.out.mono ?_;rintro e w1 ⟨rfl,hbb⟩;replace d14:=(hbb.cell (p:=⟨g,bs.length*17+14,none⟩) hg).trans d14;replace d15:=(hbb.cell (p:=⟨g,bs.length*17+15,none⟩) hg).trans d15;replace d16:=(hbb.cell (p:=⟨g,bs.length*17+16,none⟩) hg).trans d16;have HB:=ast hbb;clear H1 hbb;go_wp2_with fail
 go_quiet (fail)
 have hdq:=HD.out.below (HB.out.trans (show Below w.heap.size w1 (w1.drewN nq)from⟨rfl,rfl,rfl,nrq,fun _ _=>rfl⟩));obtain⟨h1,hs1⟩:=hdq.PH 0;have H1:=ast (jM h1 31 _ [0] hs1 (by omega));clear h1 hs1 hdq;go_wp2_with fail
 refine H1.out.mono ?_;rintro e w2 ⟨rfl,⟨v1,h2⟩,_⟩;have H2:=ast (dV 31 w2 (by omega) h2.tab);have oz:=ast h2;clear H1 h2 d14 d15 d16;go_wp2_with fail
 refine H2.out.mono ?_;rintro e w3 ⟨rfl,hb3⟩;have H3:=ast (jO (oz.out.below hb3) (ai 31) (kR 31 (by omega)) JF.out (by omega));clear H2 oz hb3;go_wp2_with fail
 refine H3.out.mono ?_;rintro e w4 ⟨rfl,h4,_⟩;have Cm:=ast h4;clear H3 h4;go_wp2_with fail
 refine(Az Cm.out {PB.zero with opener:=31,times:=max 0 (b.a0 - b.a1)} (by omega) (by simp) (by simp;omega)).mono ?_;rintro e w5 ⟨rfl,⟨rE,h5⟩,_⟩;have H5:=ast h5;clear Cm h5;go_wp2_with fail
 go_ret
 exact⟨rfl,v1,rE,by simpa using H5.out⟩
end
section
open Go.RowKit
def Inf.eU(a:Inf)(n:Int):Inf:=if n=0 then⟨0,0,0,0,a.str⟩else{a with steps:=min (a.steps*n) 1000000001}
theorem PN(a:Inf)(n:Int)(h0:0≤n)(h1:n≤1000)(hs0:0≤a.steps)(hs1:a.steps≤1000000001)(w:World):
  Calls Tryz.prog 189 #[a.tm,.int .i64 n] w fun e w'=>e=.returned (a.eU n).tm∧Below w.heap.size w w':=by
 unfold Inf.eU
 by_cases h:n=0
 ·subst h
  rw[if_pos rfl];exact JW a.need a.bu a.high a.steps (!a.str) w
 ·rw[if_neg h]
  exact JV a.need a.bu a.high a.steps n (!a.str) w h h0 h1 hs0 hs1
theorem Ic{w0 w:World}{rb bb db:Nat}{rc:RC}{ev bI bC bv:Value}{es:List PE}{nv nt:Int}{pc dc:List Int}{tk:Int}{bs:List PB}{b:PB}{kn:Inf}
  (h:DS w0 w rb rc bb db ev bI bC bv es nv nt pc dc tk (bs++[b]) kn) (hop:b.opener≠31) (hl:bs.length≤10000000):
  Calls Tryz.prog 161 #[.pointer (some ⟨db,0,none⟩)] w fun e w'=>e=.returned (.int .i64 5)∧DS w0 w' rb rc bb db ev bI bC bv es nv nt pc dc tk (bs++[b]) kn:=by
 obtain⟨g,cap,hv,hcap,hge,hg,hfr,hcell⟩:=h.last;have H1:=ast (bZ h (by omega) g cap hv hcap);have d0:w.cell? ⟨g,bs.length*17,none⟩=some (.int .i64 b.opener):=by simpa using hcell 0 _ rfl
 have AA:(b.opener != 31)=true:=by simpa using hop
 have afh:(b.opener == 31)=false:=by simpa using hop
 have HD:=ast h;clear h hcell hfr hop;go_enter Tryz.func161,Tryz.ntmps161
 go_wp2_with fail
 refine H1.out.mono ?_;rintro e w1 ⟨rfl,hb1⟩;replace d0:=(hb1.cell (p:=⟨g,bs.length*17,none⟩) hg).trans d0;have HB:=ast hb1;clear H1 hb1;go_wp2_with fail
 go_ret
 exact⟨rfl,HD.out.below HB.out⟩
theorem CB{w0 w:World}{rb bb db:Nat}{rc:RC}{ev bI bC bv:Value}{es:List PE}{nv nt:Int}{pc dc:List Int}{tk:Int}{bs:List PB}{b:PB}{kn:Inf}
  (h:DS w0 w rb rc bb db ev bI bC bv es nv nt pc dc tk (bs++[b]) kn) (hop:b.opener=31) (hne:b.does.bu≠0) (hl:bs.length≤10000000):
  Calls Tryz.prog 161 #[.pointer (some ⟨db,0,none⟩)] w fun e w'=>e=.returned (.int .i64 6)∧DS w0 w' rb rc bb db ev bI bC bv es nv nt pc dc tk (bs++[b]) kn:=by
 obtain⟨g,cap,hv,hcap,hge,hg,hfr,hcell⟩:=h.last;have H1:=ast (bZ h (by omega) g cap hv hcap);have d0:w.cell? ⟨g,bs.length*17,none⟩=some (.int .i64 b.opener):=by simpa using hcell 0 _ rfl
 have d4:w.cell? ⟨g,bs.length*17+4,none⟩=some (.int .i64 b.does.need):=hcell 4 _ rfl;have d5:w.cell? ⟨g,bs.length*17+5,none⟩=some (.int .i64 b.does.bu):=hcell 5 _ rfl;have d6:w.cell? ⟨g,bs.length*17+6,none⟩=some (.int .i64 b.does.high):=hcell 6 _ rfl;have hnb:(b.does.bu == 0)=false:=by simpa using hne
 have HA:=ast (fun w'=>Du b.does.need b.does.bu b.does.high w');rw[hnb]at HA;rw[hop]at d0;have HD:=ast h;clear h hcell hfr hop hne;go_enter Tryz.func161,Tryz.ntmps161
 go_wp2_with fail
 refine H1.out.mono ?_;rintro e w1 ⟨rfl,hb1⟩;replace d0:=(hb1.cell (p:=⟨g,bs.length*17,none⟩) hg).trans d0;replace d4:=(hb1.cell (p:=⟨g,bs.length*17+4,none⟩) hg).trans d4;replace d5:=(hb1.cell (p:=⟨g,bs.length*17+5,none⟩) hg).trans d5;replace d6:=(hb1.cell (p:=⟨g,bs.length*17+6,none⟩) hg).trans d6;have HB:=ast hb1;clear H1 hb1;go_wp2_with fail
 refine(HA.out _).mono ?_;rintro e w2 ⟨rfl,hb2⟩;have gK:=ast hb2;clear hb2;go_wp2_with fail
 go_ret
 exact⟨rfl,(HD.out.below HB.out).below gK.out⟩
theorem Uf{c:PB}{w0 w:World}{rb bb db:Nat}{rc:RC}{ev bI bC bv:Value}{es:List PE}{nv nt:Int}{pc dc:List Int}{tk:Int}{bs:List PB}{b:PB}{kn:Inf}
  (h:DS w0 w rb rc bb db ev bI bC bv es nv nt pc dc tk (bs++[c]++[b]) kn) (hop:b.opener=31) (heq:b.does.bu=0) (k:Nat) (hk:b.hole=k) (dM:pc.length≤k) (hk2:k<dc.length) (ht0:0≤b.times) (ht1:b.times≤1000)
  (ry:b.does.Ok) (hso:(b.does.then (ai 32)).Ok) (Rl:((b.does.then (ai 32)).eU b.times).Ok) (jB:c.does.Ok) (hl:bs.length≤10000000) (hc:dc.length≤10000000):
  Calls Tryz.prog 161 #[.pointer (some ⟨db,0,none⟩)] w fun e w'=>e=.returned (.int .i64 0)∧(∃iK rE,DS w0 w' rb rc bb db ev bI iK rE es nv nt pc ((dc++[32,(k:Int)+1]).set k (dc.length+2)) tk (bs++[c.add ((b.does.then (ai 32)).eU b.times)]) kn):=by
 obtain⟨g,cap,hv,hcap,hge,hg,hfr,hcell⟩:=h.last;have H1:=ast (bZ h (by simp;omega) g cap hv hcap);simp only[List.length_append,List.length_singleton]at hcell;have d0:w.cell? ⟨g,(bs.length+1)*17,none⟩=some (.int .i64 b.opener):=by simpa using hcell 0 _ rfl
 have d2:w.cell? ⟨g,(bs.length+1)*17+2,none⟩=some (.int .i64 b.hole):=hcell 2 _ rfl;have d4:w.cell? ⟨g,(bs.length+1)*17+4,none⟩=some (.int .i64 b.does.need):=hcell 4 _ rfl;have d5:w.cell? ⟨g,(bs.length+1)*17+5,none⟩=some (.int .i64 b.does.bu):=hcell 5 _ rfl;have d6:w.cell? ⟨g,(bs.length+1)*17+6,none⟩=some (.int .i64 b.does.high):=hcell 6 _ rfl;have hnb:(b.does.bu == 0)=true:=by simpa using heq
 have HA:=ast (fun w'=>Du b.does.need b.does.bu b.does.high w');rw[hnb]at HA;rw[hop]at d0;rw[hk]at d2;have hk8:(k:Int)≤10000000:=by omega
 have HD:=ast h;have HK:=ast hk;have HEQ:=ast heq;clear h hcell hfr hk heq hop;go_enter Tryz.func161,Tryz.ntmps161
 go_wp2_with fail
 refine H1.out.mono ?_;rintro e w1 ⟨rfl,hb1⟩;simp only[List.length_append,List.length_singleton];replace d0:=(hb1.cell (p:=⟨g,(bs.length+1)*17,none⟩) hg).trans d0;replace d2:=(hb1.cell (p:=⟨g,(bs.length+1)*17+2,none⟩) hg).trans d2;replace d4:=(hb1.cell (p:=⟨g,(bs.length+1)*17+4,none⟩) hg).trans d4;replace d5:=(hb1.cell (p:=⟨g,(bs.length+1)*17+5,none⟩) hg).trans d5;replace d6:=(hb1.cell (p:=⟨g,(bs.length+1)*17+6,none⟩) hg).trans d6;have hg1:g<w1.heap.size:=Nat.lt_of_lt_of_le hg hb1.size;have HB:=ast hb1;clear H1 hb1;go_wp2_with fail
 refine(HA.out _).mono ?_;rintro e w2 ⟨rfl,hb2⟩;replace d2:=(hb2.cell (p:=⟨g,(bs.length+1)*17+2,none⟩) hg1).trans d2;have hdq:=(HD.out.below HB.out).below hb2;clear hb2 d0 d4 d5 d6 HB;obtain⟨h1,hs1⟩:=hdq.PH ((k:Int)+1);have H1:=ast (jM h1 32 _ [(k:Int)+1] hs1 (by omega));clear h1 hs1 hdq;go_wp2_with fail
 refine H1.out.mono ?_;rintro e w3 ⟨rfl,⟨v1,h2⟩,_⟩;have H2:=ast (dV 32 w3 (by omega) h2.tab);have oz:=ast h2;clear H1 h2 d2;go_wp2_with fail
 refine H2.out.mono ?_;rintro e w4 ⟨rfl,hb4⟩;have H3:=ast (jO (oz.out.below hb4) (ai 32) (kR 32 (by omega)) ry (by simp;omega));clear H2 oz hb4;go_wp2_with fail
 refine H3.out.mono ?_;rintro e w5 ⟨rfl,h5,_⟩;have PK:=ast h5;clear H3 h5;go_wp2_with fail
 refine(xh PK.out k HK.out dM (by simp;omega) (by simp;omega) (by simp;omega)).mono ?_;rintro e w6 ⟨rfl,⟨bv6,h6⟩,_⟩;have PL:=ast h6;clear h6 PK;obtain⟨r,hr⟩:=exq (b.does.then (ai 32));simp only[PB.val,PB.cells,PB.add];rw[←hr]at Rl hso ⊢;have HRR:=ast hr;clear hr;go_wp2_with fail
 refine(PN r b.times ht0 ht1 hso.s0 hso.s1 _).mono ?_;rintro e w7 ⟨rfl,zk⟩;have HD7:=ast ((PL.out.below (brq.alloc nrq _)).below zk);clear PL zk;go_wp2_with fail
 refine(jO HD7.out (r.eU b.times) Rl jB (by omega)).mono ?_;rintro e w8 ⟨rfl,h8,_⟩;have HD8:=ast h8;clear HD7 h8;go_wp2_with fail
 go_ret
 exact⟨rfl,v1,bv6,by rw[←HRR.out];simpa using HD8.out⟩
end
end Go.Proofs.YtcphhbofjkenaaaGreatDoor
