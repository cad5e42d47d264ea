import Derived.Test.YtcphhbofjkenaaaGreatDoorM18
namespace Go.Proofs.YtcphhbofjkenaaaGreatDoor
open Go Go.RowKit
set_option linter.unusedVariables false
set_option linter.unusedSimpArgs false
set_option maxRecDepth 100000
set_option maxHeartbeats 16000000
section
open Go.RowKit
def PB.zero:PB:=⟨0,false,0,0,Inf.zero,Inf.zero,0,0,0⟩
theorem kR(k:Nat)(h:k<35):(ai k).Ok:=by
 obtain⟨a,b,c,d⟩:=qL k h
 constructor<;>simp only[ai]<;>omega
theorem DS.PH{w0 w:World}{rb bb db:Nat}{rc:RC}{ev bI bC bv:Value}{es:List PE}{nv nt:Int}{pc dc:List Int}{tk:Int}{bs:List PB}{kn:Inf}
  (h:DS w0 w rb rc bb db ev bI bC bv es nv nt pc dc tk bs kn) (x:Int):DS w0 (w.alloc (.cells #[.int .i64 x] 3 (0,0))) rb rc bb db ev bI bC bv es nv nt pc dc tk bs kn∧ae6 (w.alloc (.cells #[.int .i64 x] 3 (0,0))) bC (.slice (some ⟨w.heap.size,0,none⟩) 1 1) [x]:=
 ⟨h.below (brq.alloc nrq _),Or.inr ⟨w.heap.size,x,rfl,rfl,by simp,by simp,(h.there nrq).2.2.2.2.2.1⟩⟩
theorem aa7{w0 w:World}{rb bb db:Nat}{rc:RC}{ev bI bC bv:Value}{es:List PE}{nv nt:Int}{pc dc:List Int}{tk:Int}{bs:List PB}{b:PB}{kn:Inf}
  (h:DS w0 w rb rc bb db ev bI bC bv es nv nt pc dc tk (bs++[b]) kn) (hd:b.does.Ok) (hl:bs.length≤10000000) (hc:dc.length≤10000000):
  Calls Tryz.prog 157 #[.pointer (some ⟨db,0,none⟩)] w fun e w'=>e=.returned (.int .i64 0)∧(∃iK rE,DS w0 w' rb rc bb db ev bI iK rE es nv nt pc (dc++[29,0]) tk (bs++[b.add (ai 29)]++[PB.opened {PB.zero with opener:=29} (b.add (ai 29)) (dc.length+2)]) kn):=by
 obtain⟨h1,hs1⟩:=h.PH 0;have H1:=ast (jM h1 29 _ [0] hs1 (by omega));have JF:=ast hd;clear h h1 hs1 hd;go_enter Tryz.func157,Tryz.ntmps157
 go_wp2_with fail
 refine H1.out.mono ?_;rintro e w1 ⟨rfl,⟨v1,h2⟩,_⟩;have H2:=ast (dV 29 w1 (by omega) h2.tab);have oz:=ast h2;clear H1 h2;go_wp2_with fail
 refine H2.out.mono ?_;rintro e w2 ⟨rfl,hb2⟩;have H3:=ast (jO (oz.out.below hb2) (ai 29) (kR 29 (by omega)) JF.out (by omega));clear H2 oz hb2;go_wp2_with fail
 refine H3.out.mono ?_;rintro e w3 ⟨rfl,h3,_⟩;have H4:=ast (Az h3 {PB.zero with opener:=29} (by omega) (by simp) (by simp;omega));clear H3 h3;go_wp2_with fail
 refine H4.out.mono ?_;rintro e w4 ⟨rfl,⟨rE,h4⟩,_⟩;have H5:=ast h4;clear H4 h4;go_wp2_with fail
 go_ret
 exact⟨rfl,v1,rE,by simpa using H5.out⟩
end
section
open Go.RowKit
theorem KG{w0 w:World}{rb bb db:Nat}{rc:RC}{ev bI bC bv:Value}{es:List PE}{nv nt:Int}{pc dc:List Int}{tk:Int}{bs:List PB}{b:PB}{kn:Inf}
  (h:DS w0 w rb rc bb db ev bI bC bv es nv nt pc dc tk (bs++[b]) kn) (x:Int) (ry:b.does.Ok) (wK:0≤b.numbers) (hn1:b.numbers≤2) (hl:bs.length≤10000000) (hc:dc.length≤10000000):
  Calls Tryz.prog 163 #[.pointer (some ⟨db,0,none⟩),.int .i64 x] w fun e w'=>e=.returned (.int .i64 0)∧(∃iK,DS w0 w' rb rc bb db ev bI iK bv es nv nt pc (dc++[28,x]) tk (bs++[{b.add (ai 28)with numbers:=min (b.numbers+1) 2,a0:=b.a1,a1:=x}]) kn):=by
 obtain⟨g,cap,hv,hcap,hge,hg,hfr,hcell⟩:=h.last;have H1:=ast (bZ h (by omega) g cap hv hcap);have d14:w.cell? ⟨g,bs.length*17+14,none⟩=some (.int .i64 b.numbers):=hcell 14 _ rfl;have HD:=ast h;have JF:=ast ry;clear h hcell hfr ry;go_enter Tryz.func163,Tryz.ntmps163
 go_wp2_with fail
 refine H1.out.mono ?_;rintro e w1 ⟨rfl,hb1⟩;replace d14:=(hb1.cell (p:=⟨g,bs.length*17+14,none⟩) hg).trans d14;obtain⟨h1,hs1⟩:=(HD.out.below hb1).PH x;have H2:=ast (jM h1 28 _ [x] hs1 (by omega));clear H1 hb1 h1 hs1;go_wp2_with fail
 refine H2.out.mono ?_;rintro e w2 ⟨rfl,⟨v1,h2⟩,_⟩;have H3:=ast (dV 28 w2 (by omega) h2.tab);have oz:=ast h2;clear H2 h2 d14;go_wp2_with fail
 refine H3.out.mono ?_;rintro e w3 ⟨rfl,hb3⟩;have H4:=ast (jO (oz.out.below hb3) (ai 28) (kR 28 (by omega)) JF.out (by omega));clear H3 oz hb3;go_wp2_with fail
 refine H4.out.mono ?_;rintro e w4 ⟨rfl,h4,_⟩;obtain⟨g',cap',hv',aff,ajW,Xe,PI,kV⟩:=h4.last;obtain⟨rfl,rfl⟩:g=g'∧cap=cap':=by rw[hv]at hv';simpa using hv'
 have e14:w4.cell? ⟨g,bs.length*17+14,none⟩=some (.int .i64 0):=kV 14 _ rfl;have e15:w4.cell? ⟨g,bs.length*17+15,none⟩=some (.int .i64 b.a0):=kV 15 _ rfl;have e16:w4.cell? ⟨g,bs.length*17+16,none⟩=some (.int .i64 b.a1):=kV 16 _ rfl;have q14:=PI (bs.length*17+14);have q15:=PI (bs.length*17+15);have q16:=PI (bs.length*17+16);have Cm:=ast h4;clear H4 h4 kV PI hv';go_wp2_with fail
 go_ret
 subst hv;have hrow:=Cm.out.row;rw[List.length_append,List.length_singleton,List.flatMap_append,List.flatMap_singleton]at hrow;have hF:=flat_length PB.cells 17 (fun _=>rfl) bs;have s1:=dA hrow hF 14 (.int .i64 (min (b.numbers+1) 2));have s2:=dA s1 hF 15 (.int .i64 b.a1);have s3:=dA s2 hF 16 (.int .i64 x);refine⟨rfl,v1,Cm.out.setLast (b':={b.add (ai 28)with numbers:=min (b.numbers+1) 2,a0:=b.a1,a1:=x}) ?_ s3⟩;exact(((aj.refl (fun k=>k=g) w4).setCell (p:=⟨g,bs.length*17+14,none⟩) rfl _).setCell (p:=⟨g,bs.length*17+15,none⟩) rfl _).setCell (p:=⟨g,bs.length*17+16,none⟩) rfl _
end
end Go.Proofs.YtcphhbofjkenaaaGreatDoor
