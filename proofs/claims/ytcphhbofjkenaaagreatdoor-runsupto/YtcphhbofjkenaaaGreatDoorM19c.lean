import Derived.Test.YtcphhbofjkenaaaGreatDoorM19
namespace Go.Proofs.YtcphhbofjkenaaaGreatDoor
open Go Go.RowKit
set_option linter.unusedVariables false
set_option linter.unusedSimpArgs false
set_option maxRecDepth 100000
set_option maxHeartbeats 16000000
section
open Go.RowKit
def Inf.yt(a b:Inf):Inf:=⟨max a.need b.need,a.bu,max a.high b.high,max a.steps b.steps,a.str&&b.str⟩
theorem aa9(a b:Inf)(w:World):
  Calls Tryz.prog 187 #[a.tm,b.tm] w fun e w'=>e=.returned (a.yt b).tm∧Below w.heap.size w w':=by
 refine(Xg a.need a.bu a.high a.steps b.need b.bu b.high b.steps (!a.str) (!b.str) w).mono ?_;rintro e w1 ⟨rfl,h⟩;exact⟨by simp[Inf.yt,Inf.tm],h⟩
theorem Ie{w0 w:World}{rb bb db:Nat}{rc:RC}{ev bI bC bv:Value}{es:List PE}{nv nt:Int}{pc dc:List Int}{tk:Int}{bs:List PB}{b:PB}{kn:Inf}
  (h:DS w0 w rb rc bb db ev bI bC bv es nv nt pc dc tk (bs++[b]) kn) (hop:b.opener≠29) (Ug:b.opener≠30) (hl:bs.length≤10000000):
  Calls Tryz.prog 159 #[.pointer (some ⟨db,0,none⟩)] w fun e w'=>e=.returned (.int .i64 5)∧DS w0 w' rb rc bb db ev bI bC bv es nv nt pc dc tk (bs++[b]) kn:=by
 obtain⟨g,cap,hv,hcap,hge,hg,hfr,hcell⟩:=h.last;have H1:=ast (bZ h (by omega) g cap hv hcap);have d0:w.cell? ⟨g,bs.length*17,none⟩=some (.int .i64 b.opener):=by simpa using hcell 0 _ rfl
 have AA:(b.opener != 29)=true:=by simpa using hop
 have afh:(b.opener != 30)=true:=by simpa using Ug
 have HD:=ast h;clear h hcell hfr hop Ug;go_enter Tryz.func159,Tryz.ntmps159
 go_wp2_with fail
 refine H1.out.mono ?_;rintro e w1 ⟨rfl,hb1⟩;replace d0:=(hb1.cell (p:=⟨g,bs.length*17,none⟩) hg).trans d0;have HB:=ast hb1;clear H1 hb1;go_wp2_with fail
 go_ret
 exact⟨rfl,HD.out.below HB.out⟩
theorem CE{w0 w:World}{rb bb db:Nat}{rc:RC}{ev bI bC bv:Value}{es:List PE}{nv nt:Int}{pc dc:List Int}{tk:Int}{bs:List PB}{b:PB}{kn:Inf}
  (h:DS w0 w rb rc bb db ev bI bC bv es nv nt pc dc tk (bs++[b]) kn) (hop:b.opener=29∨b.opener=30) (hne:b.does.bu≠b.other.bu) (hl:bs.length≤10000000):
  Calls Tryz.prog 159 #[.pointer (some ⟨db,0,none⟩)] w fun e w'=>e=.returned (.int .i64 6)∧DS w0 w' rb rc bb db ev bI bC bv es nv nt pc dc tk (bs++[b]) kn:=by
 obtain⟨g,cap,hv,hcap,hge,hg,hfr,hcell⟩:=h.last;have H1:=ast (bZ h (by omega) g cap hv hcap);have d0:w.cell? ⟨g,bs.length*17,none⟩=some (.int .i64 b.opener):=by simpa using hcell 0 _ rfl
 have d4:w.cell? ⟨g,bs.length*17+4,none⟩=some (.int .i64 b.does.need):=hcell 4 _ rfl;have d5:w.cell? ⟨g,bs.length*17+5,none⟩=some (.int .i64 b.does.bu):=hcell 5 _ rfl;have d6:w.cell? ⟨g,bs.length*17+6,none⟩=some (.int .i64 b.does.high):=hcell 6 _ rfl;have d9:w.cell? ⟨g,bs.length*17+9,none⟩=some (.int .i64 b.other.need):=hcell 9 _ rfl;have d10:w.cell? ⟨g,bs.length*17+10,none⟩=some (.int .i64 b.other.bu):=hcell 10 _ rfl;have d11:w.cell? ⟨g,bs.length*17+11,none⟩=some (.int .i64 b.other.high):=hcell 11 _ rfl;have hnb:(b.does.bu == b.other.bu)=false:=by simpa using hne
 have HA:=ast (fun w'=>zK b.does.need b.does.bu b.does.high b.other.need b.other.bu b.other.high w');rw[hnb]at HA;have HD:=ast h;have hoo:((b.opener != 29)&&(b.opener != 30))=false:=by rcases hop with e|e<;>simp[e]
 clear h hcell hfr hne;go_enter Tryz.func159,Tryz.ntmps159
 go_wp2_with fail
 refine H1.out.mono ?_;rintro e w1 ⟨rfl,hb1⟩;replace d0:=(hb1.cell (p:=⟨g,bs.length*17,none⟩) hg).trans d0;replace d4:=(hb1.cell (p:=⟨g,bs.length*17+4,none⟩) hg).trans d4;replace d5:=(hb1.cell (p:=⟨g,bs.length*17+5,none⟩) hg).trans d5;replace d6:=(hb1.cell (p:=⟨g,bs.length*17+6,none⟩) hg).trans d6;replace d9:=(hb1.cell (p:=⟨g,bs.length*17+9,none⟩) hg).trans d9;replace d10:=(hb1.cell (p:=⟨g,bs.length*17+10,none⟩) hg).trans d10;replace d11:=(hb1.cell (p:=⟨g,bs.length*17+11,none⟩) hg).trans d11;have hg1:g<w1.heap.size:=Nat.lt_of_lt_of_le hg hb1.size;have HB:=ast hb1;clear H1 hb1;rcases hop with hop|hop
 all_goals
  rw[hop]at d0;go_upto_region 4 with fail
  have hc:=fun (B:Nat) (w0:World) (u:gW B w0) (b o:Nat) (h:b<B)=>u.cell b o h
  have Dq:=gW.ne;refine mW w1.heap.size (by kernel_rfl) (by kernel_rfl) ?_
  repeat (go_big_quiet_step ((go_at_call 186;exact gW.calls nrq _ (HA.out _))))
  refine wpQuiet_nil ?_;intro u;obtain⟨w2,hb2⟩:=u;dsimp only;have gK:=ast hb2;clear hc Dq hb2;go_wp2_with fail
  go_ret
  exact⟨rfl,(HD.out.below HB.out).below gK.out⟩
theorem Uh{c:PB}{w0 w:World}{rb bb db:Nat}{rc:RC}{ev bI bC bv:Value}{es:List PE}{nv nt:Int}{pc dc:List Int}{tk:Int}{bs:List PB}{b:PB}{kn:Inf}
  (h:DS w0 w rb rc bb db ev bI bC bv es nv nt pc dc tk (bs++[c]++[b]) kn) (hop:b.opener=29∨b.opener=30) (heq:b.does.bu=b.other.bu) (k:Nat) (hk:b.hole=k) (dM:pc.length≤k) (hk2:k<dc.length) (Rl:(b.does.yt b.other).Ok) (jB:c.does.Ok) (hl:bs.length≤10000000) (hc:dc.length≤10000000):
  Calls Tryz.prog 159 #[.pointer (some ⟨db,0,none⟩)] w fun e w'=>e=.returned (.int .i64 0)∧(∃iK rE,DS w0 w' rb rc bb db ev bI iK rE es nv nt pc (dc.set k dc.length) tk (bs++[c.add (b.does.yt b.other)]) kn):=by
 obtain⟨g,cap,hv,hcap,hge,hg,hfr,hcell⟩:=h.last;have H1:=ast (bZ h (by simp;omega) g cap hv hcap);simp only[List.length_append,List.length_singleton]at hcell;have d0:w.cell? ⟨g,(bs.length+1)*17,none⟩=some (.int .i64 b.opener):=by simpa using hcell 0 _ rfl
 have d4:w.cell? ⟨g,(bs.length+1)*17+4,none⟩=some (.int .i64 b.does.need):=hcell 4 _ rfl;have d5:w.cell? ⟨g,(bs.length+1)*17+5,none⟩=some (.int .i64 b.does.bu):=hcell 5 _ rfl;have d6:w.cell? ⟨g,(bs.length+1)*17+6,none⟩=some (.int .i64 b.does.high):=hcell 6 _ rfl;have d9:w.cell? ⟨g,(bs.length+1)*17+9,none⟩=some (.int .i64 b.other.need):=hcell 9 _ rfl;have d10:w.cell? ⟨g,(bs.length+1)*17+10,none⟩=some (.int .i64 b.other.bu):=hcell 10 _ rfl;have d11:w.cell? ⟨g,(bs.length+1)*17+11,none⟩=some (.int .i64 b.other.high):=hcell 11 _ rfl;have hnb:(b.does.bu == b.other.bu)=true:=by simpa using heq
 have HA:=ast (fun w'=>zK b.does.need b.does.bu b.does.high b.other.need b.other.bu b.other.high w');rw[hnb]at HA;have HD:=ast h;clear h hcell hfr heq;go_enter Tryz.func159,Tryz.ntmps159
 go_wp2_with fail
 refine H1.out.mono ?_;rintro e w1 ⟨rfl,hb1⟩;simp only[List.length_append,List.length_singleton];replace d0:=(hb1.cell (p:=⟨g,(bs.length+1)*17,none⟩) hg).trans d0;replace d4:=(hb1.cell (p:=⟨g,(bs.length+1)*17+4,none⟩) hg).trans d4;replace d5:=(hb1.cell (p:=⟨g,(bs.length+1)*17+5,none⟩) hg).trans d5;replace d6:=(hb1.cell (p:=⟨g,(bs.length+1)*17+6,none⟩) hg).trans d6;replace d9:=(hb1.cell (p:=⟨g,(bs.length+1)*17+9,none⟩) hg).trans d9;replace d10:=(hb1.cell (p:=⟨g,(bs.length+1)*17+10,none⟩) hg).trans d10;replace d11:=(hb1.cell (p:=⟨g,(bs.length+1)*17+11,none⟩) hg).trans d11;have hg1:g<w1.heap.size:=Nat.lt_of_lt_of_le hg hb1.size;have HB:=ast hb1;clear H1 hb1;have hoo:b.opener=29∨b.opener=30:=hop;rcases hop with hop|hop
 all_goals
  rw[hop]at d0;go_upto_region 4 with fail
  have hc:=fun (B:Nat) (w0:World) (u:gW B w0) (b o:Nat) (h:b<B)=>u.cell b o h
  have Dq:=gW.ne;refine mW w1.heap.size (by kernel_rfl) (by kernel_rfl) ?_
  repeat (go_big_quiet_step ((go_at_call 186;exact gW.calls nrq _ (HA.out _))))
  refine wpQuiet_nil ?_;intro u;obtain⟨w2,hb2⟩:=u;dsimp only;have afi:=ast ((HD.out.below HB.out).below hb2);clear hc Dq hb2 d0 d4 d5 d6 d9 d10 d11;go_wp2_with fail
  refine(xh afi.out k hk dM hk2 (by simp;omega) (by omega)).mono ?_;rintro e w3 ⟨rfl,⟨bv3,h3⟩,_⟩;have PO:=ast h3;clear h3 afi;simp only[PB.val,PB.cells];go_wp2_with fail
  refine(aa9 b.does b.other _).mono ?_;rintro e w4 ⟨rfl,hb4⟩;have Cm:=ast ((PO.out.below (brq.alloc nrq _)).below hb4);clear PO hb4;go_wp2_with fail
  refine(jO Cm.out (b.does.yt b.other) Rl jB (by omega)).mono ?_;rintro e w5 ⟨rfl,h5,_⟩;have PK:=ast h5;clear Cm h5;go_wp2_with fail
  go_ret
  exact⟨rfl,_,_,PK.out⟩
end
section
open Go.RowKit
theorem DS.Ui{w0 w:World}{rb bb db:Nat}{rc:RC}{ev bI bC bv:Value}{es:List PE}{nv nt:Int}{pc dc:List Int}{tk:Int}{bs:List PB}{kn:Inf}
  (h:DS w0 w rb rc bb db ev bI bC bv es nv nt pc dc tk bs kn) (k:Inf):
  DS w0 (((((w.setCell ⟨db,4,none⟩ (.int .i64 k.need)).setCell ⟨db,5,none⟩ (.int .i64 k.bu)).setCell ⟨db,6,none⟩ (.int .i64 k.high)).setCell ⟨db,7,none⟩ (.int .i64 k.steps)).setCell ⟨db,8,none⟩ (.bool (!k.str))) rb rc bb db ev bI bC bv es nv nt pc dc tk bs k:=by
 have hrb:=h.bK.1;have hgb:=h.bK.2
 have hc:aj (fun b=>b=db) w (((((w.setCell ⟨db,4,none⟩ (.int .i64 k.need)).setCell ⟨db,5,none⟩ (.int .i64 k.bu)).setCell ⟨db,6,none⟩ (.int .i64 k.high)).setCell ⟨db,7,none⟩ (.int .i64 k.steps)).setCell ⟨db,8,none⟩ (.bool (!k.str))):=
  (((((aj.refl (fun b=>b=db) w).setCell (p:=⟨db,4,none⟩) rfl _).setCell (p:=⟨db,5,none⟩) rfl _).setCell (p:=⟨db,6,none⟩) rfl _).setCell (p:=⟨db,7,none⟩) rfl _).setCell (p:=⟨db,8,none⟩) rfl _
 have n1:bb≠db:=by rintro rfl;exact absurd (bH h.sys.blk h.blk) (by decide)
 have n2:rb≠db:=by rintro rfl;exact absurd (bH hrb h.blk) (by decide)
 have no:∀{base:Nat} {e:TypeId} {size n:Nat} {v:Value} {xs:List Value},w.ownsRow base e size v n xs→209≠e→∀k,v.ownBlock=some k→¬k=db:=fun ho hne k hk e=>ah ho h.blk hne (by rw[hk,e])
 refine⟨h.sys.aA hc n1 (no h.sys.row (by decide)) (no h.sys.iO (by decide)),?_,af h.iO hc (no h.iO (by decide)),af h.row hc (no h.row (by decide)),h.tab.aA hc (fun k e=>by have:=h.new;have:=h.tl;omega),⟨hrb.aA hc n2,hgb.aA hc (fun e=>kG h.blk hgb (by decide) e.symm)⟩,h.ru,h.tl,h.pre,h.new,h.loc,h.Cf.jG hc (fun k hk e=>by have:=h.new;omega)⟩;have:=((((h.blk.set (o:=4) (.int .i64 k.need)).set (o:=5) (.int .i64 k.bu)).set (o:=6) (.int .i64 k.high)).set (o:=7) (.int .i64 k.steps)).set (o:=8) (.bool (!k.str));simpa [oN]using this
theorem DS.clear{w0 w:World}{rb bb db:Nat}{rc:RC}{ev bI bC bv:Value}{es:List PE}{nv nt:Int}{pc dc:List Int}{tk:Int}{bs:List PB}{kn:Inf}
  (h:DS w0 w rb rc bb db ev bI bC bv es nv nt pc dc tk bs kn):DS w0 (w.setCell ⟨db,3,none⟩ (.slice none 0 0)) rb rc bb db ev bI bC (.slice none 0 0) es nv nt pc dc tk [] kn:=by
 have hrb:=h.bK.1;have hgb:=h.bK.2;have hc:aj (fun b=>b=db) w (w.setCell ⟨db,3,none⟩ (.slice none 0 0)):=(aj.refl (fun b=>b=db) w).setCell (p:=⟨db,3,none⟩) rfl _;have n1:bb≠db:=by rintro rfl;exact absurd (bH h.sys.blk h.blk) (by decide)
 have n2:rb≠db:=by rintro rfl;exact absurd (bH hrb h.blk) (by decide)
 have no:∀{base:Nat} {e:TypeId} {size n:Nat} {v:Value} {xs:List Value},w.ownsRow base e size v n xs→209≠e→∀k,v.ownBlock=some k→¬k=db:=fun ho hne k hk e=>ah ho h.blk hne (by rw[hk,e])
 refine⟨h.sys.aA hc n1 (no h.sys.row (by decide)) (no h.sys.iO (by decide)),?_,af h.iO hc (no h.iO (by decide)),World.ownsRow_nil _ _ _ _,h.tab.aA hc (fun k e=>by have:=h.new;have:=h.tl;omega),⟨hrb.aA hc n2,hgb.aA hc (fun e=>kG h.blk hgb (by decide) e.symm)⟩,h.ru,h.tl,h.pre,h.new,h.loc,h.Cf.jG hc (fun k hk e=>by have:=h.new;omega)⟩;have:=h.blk.set (o:=3) (.slice none 0 0);simpa [oN]using this
theorem KH{w0 w:World}{rb bb db:Nat}{rc:RC}{ev bI bC bv:Value}{es:List PE}{nv nt:Int}{pc dc:List Int}{tk:Int}{bs:List PB}{b:PB}{kn:Inf}
  (h:DS w0 w rb rc bb db ev bI bC bv es nv nt pc dc tk (bs++[b]) kn) (hop:b.opener≠34) (hl:bs.length≤10000000):
  Calls Tryz.prog 156 #[.pointer (some ⟨db,0,none⟩)] w fun e w'=>e=.returned (.int .i64 5)∧DS w0 w' rb rc bb db ev bI bC bv es nv nt pc dc tk (bs++[b]) kn:=by
 obtain⟨g,cap,hv,hcap,hge,hg,hfr,hcell⟩:=h.last;have H1:=ast (bZ h (by omega) g cap hv hcap);have d0:w.cell? ⟨g,bs.length*17,none⟩=some (.int .i64 b.opener):=by simpa using hcell 0 _ rfl
 have AA:(b.opener != 34)=true:=by simpa using hop
 have afh:(b.opener == 34)=false:=by simpa using hop
 have HD:=ast h;clear h hcell hfr hop;go_enter Tryz.func156,Tryz.ntmps156
 go_wp2_with fail
 refine H1.out.mono ?_;rintro e w1 ⟨rfl,hb1⟩;replace d0:=(hb1.cell (p:=⟨g,bs.length*17,none⟩) hg).trans d0;have HB:=ast hb1;clear H1 hb1;go_wp2_with fail
 go_ret
 exact⟨rfl,HD.out.below HB.out⟩
def jy(steps nt tk:Int):Int:=if 1000000000<steps then 7 else if 400<nt+tk then 8 else 0
def XK(w0:World)(rb:Nat)(rc:RC)(bb db:Nat)(ev bI:Value)(es:List PE)(nv nt:Int)(pc dc:List Int)(tk:Int)(r:Inf)(R:Int)(e:Ending)(w':World):Prop:=
 e=.returned (.int .i64 R)∧∃iK rE bs',DS w0 w' rb rc bb db ev bI iK rE es nv nt pc (dc++[34]) tk bs' r∧(R=0→bs'=[])
theorem XL{w0 w:World}{rb bb db:Nat}{rc:RC}{ev bI bC bv:Value}{es:List PE}{nv nt:Int}{pc dc:List Int}{tk:Int}{b:PB}{kn:Inf}
  (h:DS w0 w rb rc bb db ev bI bC bv es nv nt pc dc tk [b] kn) (hop:b.opener=34) (ry:b.does.Ok) (hc:dc.length≤10000000) (XM:0≤nt) (XN:nt≤100000) (lG:0≤tk) (iU:tk≤100000000):
  Calls Tryz.prog 156 #[.pointer (some ⟨db,0,none⟩)] w (XK w0 rb rc bb db ev bI es nv nt pc dc tk (b.does.then (ai 34)) (jy (b.does.then (ai 34)).steps nt tk)):=by
 obtain⟨r,hr⟩:=exq (b.does.then (ai 34));rw[←hr];have HRR:=ast hr;clear hr;obtain⟨R,hR⟩:=exq (jy r.steps nt tk);rw[←hR];have HR:=ast hR;clear hR;obtain⟨g,cap,hv,hcap,hge,hg,hfr,hcell⟩:=DS.last (bs:=[]) h;have H1:=ast (bZ (bs:=[]) h (by simp) g cap hv hcap);simp only[List.length_nil,Nat.zero_mul,Nat.zero_add]at hcell;have d0:w.cell? ⟨g,0,none⟩=some (.int .i64 b.opener):=by simpa using hcell 0 _ rfl
 rw[hop]at d0;have HD:=ast h;have JF:=ast ry;clear h hcell hfr hop ry;go_enter Tryz.func156,Tryz.ntmps156
 go_wp2_with fail
 refine H1.out.mono ?_;rintro e w1 ⟨rfl,hb1⟩;simp only[List.length_nil,Nat.zero_mul];replace d0:=(hb1.cell (p:=⟨g,0,none⟩) hg).trans d0;have H2:=ast (jM (HD.out.below hb1) 34 (.slice none 0 0) [] (Or.inl ⟨rfl,rfl⟩) (by omega));clear H1 hb1;go_wp2_with fail
 refine H2.out.mono ?_;rintro e w2 ⟨rfl,⟨v1,h2⟩,_⟩;have H3:=ast (dV 34 w2 (by omega) h2.tab);have oz:=ast h2;clear H2 h2 d0;go_wp2_with fail
 refine H3.out.mono ?_;rintro e w3 ⟨rfl,hb3⟩;have H4:=ast (jO (bs:=[]) (oz.out.below hb3) (ai 34) (kR 34 (by omega)) JF.out (by simp));clear H3 oz hb3;go_wp2_with fail
 refine H4.out.mono ?_;rintro e w4 ⟨rfl,h4,_⟩;simp only[List.nil_append]at h4;obtain⟨g',cap',hv',aff,ajW,Xe,PI,kV⟩:=DS.last (bs:=[]) h4;obtain⟨rfl,rfl⟩:g=g'∧cap=cap':=by rw[hv]at hv';simpa using hv'
 simp only[List.length_nil,Nat.zero_mul,Nat.zero_add]at kV;have e4:w4.cell? ⟨g,4,none⟩=some (.int .i64 r.need):=by rw[HRR.out];exact kV 4 _ rfl
 have e5:w4.cell? ⟨g,5,none⟩=some (.int .i64 r.bu):=by rw[HRR.out];exact kV 5 _ rfl
 have e6:w4.cell? ⟨g,6,none⟩=some (.int .i64 r.high):=by rw[HRR.out];exact kV 6 _ rfl
 have e7:w4.cell? ⟨g,7,none⟩=some (.int .i64 r.steps):=by rw[HRR.out];exact kV 7 _ rfl
 have e8:w4.cell? ⟨g,8,none⟩=some (.bool (!r.str)):=by rw[HRR.out];exact kV 8 _ rfl
 have H5:=ast (bZ (bs:=[]) h4 (by simp) g cap hv hcap);have Cm:=ast h4;clear H4 h4 kV PI hv';go_wp2_with fail
 refine H5.out.mono ?_;rintro e w5 ⟨rfl,hb5⟩;simp only[List.length_nil,Nat.zero_mul];have KI:=Cm.out.below hb5;replace e4:=(hb5.cell (p:=⟨g,4,none⟩) Xe).trans e4;replace e5:=(hb5.cell (p:=⟨g,5,none⟩) Xe).trans e5;replace e6:=(hb5.cell (p:=⟨g,6,none⟩) Xe).trans e6;replace e7:=(hb5.cell (p:=⟨g,7,none⟩) Xe).trans e7;replace e8:=(hb5.cell (p:=⟨g,8,none⟩) Xe).trans e8;have k4:=KI.blk.cell 4 _ rfl;have k5:=KI.blk.cell 5 _ rfl;have k6:=KI.blk.cell 6 _ rfl;have k7:=KI.blk.cell 7 _ rfl;have k8:=KI.blk.cell 8 _ rfl;have q4:=KI.blk.frozen 4;have q5:=KI.blk.frozen 5;have q6:=KI.blk.frozen 6;have q7:=KI.blk.frozen 7;have q8:=KI.blk.frozen 8;simp only[oN,List.getElem_toArray,List.getElem_cons_succ,List.getElem_cons_zero]at k4 k5 k6 k7 k8;have JA:=KI.Ui r;obtain⟨V,hV⟩:=exq (((((w5.setCell ⟨db,4,none⟩ (.int .i64 r.need)).setCell ⟨db,5,none⟩ (.int .i64 r.bu)).setCell ⟨db,6,none⟩ (.int .i64 r.high)).setCell ⟨db,7,none⟩ (.int .i64 r.steps)).setCell ⟨db,8,none⟩ (.bool (!r.str)):World);rw[←hV]at JA;have uD:=ast JA;clear H5 hb5 KI Cm JA;go_upto_region 6 with fail
 rw[←hV];clear hV e4 e5 e6 e7 e8 k4 k5 k6 k7 k8 q4 q5 q6 q7 q8;have k4:=uD.out.blk.cell 4 _ rfl;have k5:=uD.out.blk.cell 5 _ rfl;have k6:=uD.out.blk.cell 6 _ rfl;have k7:=uD.out.blk.cell 7 _ rfl;have k8:=uD.out.blk.cell 8 _ rfl;simp only[oN,List.getElem_toArray,List.getElem_cons_succ,List.getElem_cons_zero]at k4 k5 k6 k7 k8;go_wp2_with fail
 refine(Sl r.need r.bu r.high r.steps (!r.str) V).mono ?_;rintro e w6 ⟨rfl,Ig⟩;have hd6:=uD.out.below Ig;obtain⟨c0,c1,c2,c3⟩:=hd6.def;have apy:w6.cell? ⟨bb,2,none⟩=some (.int .i64 nt):=hd6.sys.blk.cell 2 _ rfl;have q3:=hd6.blk.frozen 3;have hlt:=hd6.blk.lt;obtain⟨ad3,qj,aj1,_⟩:=ag hd6.row;rw[aj1]at c3;have PL:=ast hd6;clear Ig hd6 uD k4 k5 k6 k7 k8 c2
 by_cases hst:1000000000<r.steps
 ·have HR7:=ast (show R=7 by rw[HR.out,jy,if_pos hst])
  go_wp2_with fail
  go_ret
  exact⟨by rw[HR7.out];rfl,v1,bv,_,PL.out,fun e=>by rw[HR7.out]at e;cases e⟩
 ·by_cases Gt:400<nt+tk
  ·have HR8:=ast (show R=8 by rw[HR.out,jy,if_neg hst,if_pos Gt])
   go_wp2_with fail
   go_quiet (fail)
   go_wp2_with fail
   go_ret
   exact⟨by rw[HR8.out];rfl,v1,bv,_,PL.out.below ⟨rfl,rfl,rfl,nrq,fun _ _=>rfl⟩,fun e=>by rw[HR8.out]at e;cases e⟩
  ·have HR0:=ast (show R=0 by rw[HR.out,jy,if_neg hst,if_neg Gt])
   go_wp2_with fail
   go_quiet (fail)
   go_wp2_with fail
   go_ret
   exact⟨by rw[HR0.out];rfl,v1,_,[],(PL.out.below (w':=w6.drewN nq) ⟨rfl,rfl,rfl,nrq,fun _ _=>rfl⟩).clear,fun _=>rfl⟩
end
section
open Go.RowKit
def PE.use(e:PE):Inf:=if e.var=true then ai 28 else(ai 33).then e.inf
def PE.op(e:PE):Int:=if e.var=true then 28 else 33
theorem DL(s:ByteArray):∀(l:List (ByteArray×Int×Int)) (j k:Nat),lW s l j=some k→k<j+l.length
 |[],j,k,h=>by cases h
 |x :: l,j,k,h=>by
  unfold lW at h
  split at h
  ·cases h;simp
  ·have:=DL s l (j+1) k h;simp;omega
theorem rF{s:ByteArray}{k:Nat}(h:fP s=some k):k<35:=by
 have:=DL s bW 0 k h;simpa [bW]using this
theorem E5{w0 w:World}{rb bb db:Nat}{rc:RC}{ev bI bC bv:Value}{es:List PE}{nv nt:Int}{pc dc:List Int}{tk:Int}{bs:List PB}{b:PB}{kn:Inf}
  (h:DS w0 w rb rc bb db ev bI bC bv es nv nt pc dc tk (bs++[b]) kn) (s:ByteArray) (x:PE) (hx:eH es s es.length=some x) (he:x.inf.Ok) (hu:x.use.Ok) (ry:b.does.Ok) (hes:es.length≤1000) (hl:bs.length≤10000000) (hc:dc.length≤10000000):
  Calls Tryz.prog 164 #[.pointer (some ⟨db,0,none⟩),.string s] w fun e w'=>e=.returned (.int .i64 0)∧(∃iK,DS w0 w' rb rc bb db ev bI iK bv es nv nt pc (dc++[x.op,x.place]) tk (bs++[b.add x.use]) kn):=by
 obtain⟨c0,c1,c2,c3⟩:=h.def;have H1:=ast (nS s h.sys hes);rw[hx]at H1;have HD:=ast h;have JF:=ast ry;clear h ry hx c1 c2 c3;simp only[rD,PE.val]at H1;go_enter Tryz.func164,Tryz.ntmps164
 go_wp2_with fail
 refine H1.out.mono ?_;rintro e w1 ⟨rfl,hb1⟩;have Au:=ast (HD.out.below hb1);clear H1 hb1 HD;go_wp2_with fail
 have KJ:=Au.out.below (brq.alloc nrq (.cells #[.string x.name,.bool x.var,.int .i64 x.place,.int .i64 x.inf.need,.int .i64 x.inf.bu,.int .i64 x.inf.high,.int .i64 x.inf.steps,.bool (!x.inf.str)] 153 (0,0)));have hkA:=ay w1 #[.string x.name,.bool x.var,.int .i64 x.place,.int .i64 x.inf.need,.int .i64 x.inf.bu,.int .i64 x.inf.high,.int .i64 x.inf.steps,.bool (!x.inf.str)] 153;refine(Pz x _ KJ.tab he).mono ?_;rintro e w2 ⟨rfl,hb2⟩;have hk2:=hkA.sub hb2 (by simp);have p2:w2.cell? ⟨w1.heap.size,2,none⟩=some (.int .i64 x.place):=hk2.cell 2 _ rfl;have hl2:=hk2.lt;have oz:=ast (KJ.below hb2);clear KJ hkA hb2 hk2 Au;obtain⟨y,hy⟩:=exq (x.use);obtain⟨o,ho⟩:=exq (x.op)
 show _
 rw[show(if x.var then ai 28 else(ai 33).then x.inf)=y from hy.symm,show(if x.var then(28:Int)else 33)=o from ho.symm];have HY:=ast hy;have HO:=ast ho;rw[←hy]at hu;clear hy ho;simp only[Inf.tm];go_wp2_with fail
 have hdB:=oz.out.below (brq.alloc nrq (.cells #[.int .i64 y.need,.int .i64 y.bu,.int .i64 y.high,.int .i64 y.steps,.bool (!y.str)] 151 (0,0)));have hkB:=ay w2 #[.int .i64 y.need,.int .i64 y.bu,.int .i64 y.high,.int .i64 y.steps,.bool (!y.str)] 151;obtain⟨h1,hs1⟩:=hdB.PH x.place;have hsz:(w2.alloc (.cells #[.int .i64 y.need,.int .i64 y.bu,.int .i64 y.high,.int .i64 y.steps,.bool (!y.str)] 151 (0,0))).heap.size=w2.heap.size+1:=by simp
 rw[hsz]at hs1;obtain⟨n1,n2,n3,n4,n5,n6,n7⟩:=oz.out.there nrq;refine(jM h1 o _ [x.place] hs1 (by omega)).mono ?_;rintro e w3 ⟨rfl,⟨v1,h3⟩,hc3⟩;have hk3:=(hkB.alloc _).aA hc3 (fun e=>e.elim (fun e=>n2 e.symm) (fun e=>n6 e));have i0:=hk3.cell 0 _ rfl;have i1:=hk3.cell 1 _ rfl;have i2:=hk3.cell 2 _ rfl;have i3:=hk3.cell 3 _ rfl;have i4:=hk3.cell 4 _ rfl;simp only[List.getElem_toArray,List.getElem_cons_succ,List.getElem_cons_zero]at i0 i1 i2 i3 i4;have PO:=ast h3;clear hdB hkB h1 hs1 hsz n1 n2 n3 n4 n5 n6 n7 h3 hc3 hk3 oz p2;go_wp2_with fail
 refine(jO PO.out y hu JF.out (by omega)).mono ?_;rintro e w4 ⟨rfl,h4,_⟩;have Cm:=ast h4;clear h4 PO;go_wp2_with fail
 go_ret
 exact⟨rfl,v1,by rw[←HO.out,←HY.out];exact Cm.out⟩
theorem Ih{w0 w:World}{rb bb db:Nat}{rc:RC}{ev bI bC bv:Value}{es:List PE}{nv nt:Int}{pc dc:List Int}{tk:Int}{bs:List PB}{b:PB}{kn:Inf}
  (h:DS w0 w rb rc bb db ev bI bC bv es nv nt pc dc tk (bs++[b]) kn) (s:ByteArray) (hx:eH es s es.length=none) (hf:fP s=none) (hes:es.length≤1000) (hl:bs.length≤10000000) (hc:dc.length≤10000000):
  Calls Tryz.prog 164 #[.pointer (some ⟨db,0,none⟩),.string s] w fun e w'=>e=.returned (.int .i64 3)∧DS w0 w' rb rc bb db ev bI bC bv es nv nt pc dc tk (bs++[b]) kn:=by
 obtain⟨c0,c1,c2,c3⟩:=h.def;have H1:=ast (nS s h.sys hes);rw[hx]at H1;have HD:=ast h;have HF:=ast hf;clear h hx c1 c2 c3 hf;simp only[rD,PE.val,PE.zero,Inf.zero]at H1;go_enter Tryz.func164,Tryz.ntmps164
 go_wp2_with fail
 refine H1.out.mono ?_;rintro e w1 ⟨rfl,hb1⟩;have Au:=ast (HD.out.below hb1);clear H1 hb1 HD;go_wp2_with fail
 have KJ:=Au.out.below (brq.alloc nrq (.cells #[.string ⟨#[]⟩,.bool false,.int .i64 0,.int .i64 0,.int .i64 0,.int .i64 0,.int .i64 0,.bool (!true)] 153 (0,0)));have H2:=ast (wZ s _ KJ.tab);rw[HF.out]at H2;refine H2.out.mono ?_;rintro e w2 ⟨rfl,hb2⟩;have oz:=ast (KJ.below hb2);clear KJ hb2 H2 Au;simp only[Oa];go_wp2_with fail
 go_ret
 exact⟨rfl,oz.out⟩
theorem CG{w0 w:World}{rb bb db:Nat}{rc:RC}{ev bI bC bv:Value}{es:List PE}{nv nt:Int}{pc dc:List Int}{tk:Int}{bs:List PB}{b:PB}{kn:Inf}
  (h:DS w0 w rb rc bb db ev bI bC bv es nv nt pc dc tk (bs++[b]) kn) (s:ByteArray) (hx:eH es s es.length=none) (hf:fP s=some 27) (hdo:b.lF=false) (hes:es.length≤1000) (hl:bs.length≤10000000) (hc:dc.length≤10000000):
  Calls Tryz.prog 164 #[.pointer (some ⟨db,0,none⟩),.string s] w fun e w'=>e=.returned (.int .i64 5)∧DS w0 w' rb rc bb db ev bI bC bv es nv nt pc dc tk (bs++[b]) kn:=by
 obtain⟨c0,c1,c2,c3⟩:=h.def;have H1:=ast (nS s h.sys hes);rw[hx]at H1;have HD:=ast h;have HF:=ast hf;clear h hx c1 c2 c3 hf;simp only[rD,PE.val,PE.zero,Inf.zero]at H1;go_enter Tryz.func164,Tryz.ntmps164
 go_wp2_with fail
 refine H1.out.mono ?_;rintro e w1 ⟨rfl,hb1⟩;have Au:=ast (HD.out.below hb1);clear H1 hb1 HD;go_wp2_with fail
 have KJ:=Au.out.below (brq.alloc nrq (.cells #[.string ⟨#[]⟩,.bool false,.int .i64 0,.int .i64 0,.int .i64 0,.int .i64 0,.int .i64 0,.bool (!true)] 153 (0,0)));have H2:=ast (wZ s _ KJ.tab);rw[HF.out]at H2;refine H2.out.mono ?_;rintro e w2 ⟨rfl,hb2⟩;have Aw:=KJ.below hb2;obtain⟨g,cap,hv,hcap,hge,hg,hfr,hcell⟩:=Aw.last;have H3:=ast (bZ Aw (by omega) g cap hv hcap);have d1:w2.cell? ⟨g,bs.length*17+1,none⟩=some (.bool b.lF):=hcell 1 _ rfl;rw[hdo]at d1;have oz:=ast Aw;clear KJ hb2 H2 Au Aw hcell hfr;simp only[Oa];go_wp2_with fail
 refine H3.out.mono ?_;rintro e w3 ⟨rfl,hb3⟩;replace d1:=(hb3.cell (p:=⟨g,bs.length*17+1,none⟩) hg).trans d1;have PO:=ast (oz.out.below hb3);clear H3 hb3 oz;go_wp2_with fail
 go_ret
 exact⟨rfl,PO.out⟩
theorem Uj{w0 w:World}{rb bb db:Nat}{rc:RC}{ev bI bC bv:Value}{es:List PE}{nv nt:Int}{pc dc:List Int}{tk:Int}{bs:List PB}{b:PB}{kn:Inf}
  (h:DS w0 w rb rc bb db ev bI bC bv es nv nt pc dc tk (bs++[b]) kn) (s:ByteArray) (k:Nat) (hx:eH es s es.length=none) (hf:fP s=some k) (hdo:k≠27∨b.lF=true) (ry:b.does.Ok) (hes:es.length≤1000) (hl:bs.length≤10000000) (hc:dc.length≤10000000):
  Calls Tryz.prog 164 #[.pointer (some ⟨db,0,none⟩),.string s] w fun e w'=>e=.returned (.int .i64 0)∧(∃iK,DS w0 w' rb rc bb db ev bI iK bv es nv nt pc (dc++[(k:Int)]) tk (bs++[b.add (ai k)]) kn):=by
 have hk:=rF hf;have JF:=ast ry;clear ry;obtain⟨c0,c1,c2,c3⟩:=h.def;have H1:=ast (nS s h.sys hes);rw[hx]at H1;have HD:=ast h;have HF:=ast hf;clear h hx c1 c2 c3 hf;simp only[rD,PE.val,PE.zero,Inf.zero]at H1;go_enter Tryz.func164,Tryz.ntmps164
 go_wp2_with fail
 refine H1.out.mono ?_;rintro e w1 ⟨rfl,hb1⟩;have Au:=ast (HD.out.below hb1);clear H1 hb1 HD;go_wp2_with fail
 have KJ:=Au.out.below (brq.alloc nrq (.cells #[.string ⟨#[]⟩,.bool false,.int .i64 0,.int .i64 0,.int .i64 0,.int .i64 0,.int .i64 0,.bool (!true)] 153 (0,0)));have H2:=ast (wZ s _ KJ.tab);rw[HF.out]at H2;refine H2.out.mono ?_;rintro e w2 ⟨rfl,hb2⟩;have Aw:=KJ.below hb2;obtain⟨g,cap,hv,hcap,hge,hg,hfr,hcell⟩:=Aw.last;have H3:=ast (bZ Aw (by omega) g cap hv hcap);have d1:w2.cell? ⟨g,bs.length*17+1,none⟩=some (.bool b.lF):=hcell 1 _ rfl;have oz:=ast Aw;clear KJ hb2 H2 Au Aw hcell hfr;simp only[Oa];have tail:∀w3,DS w0 w3 rb rc bb db ev bI bC bv es nv nt pc dc tk (bs++[b]) kn→True:=fun _ _=>trivial
 clear tail
 by_cases Xr:k=27
 ·subst Xr
  have hin:b.lF=true:=hdo.elim (fun e=>absurd rfl e) id;rw[hin]at d1;go_wp2_with fail
  refine H3.out.mono ?_;rintro e w3 ⟨rfl,hb3⟩;replace d1:=(hb3.cell (p:=⟨g,bs.length*17+1,none⟩) hg).trans d1;have PO:=ast (oz.out.below hb3);clear H3 hb3 oz;go_wp2_with fail
  refine(jM PO.out 27 (.slice none 0 0) [] (Or.inl ⟨rfl,rfl⟩) (by omega)).mono ?_;rintro e w4 ⟨rfl,⟨v1,h4⟩,_⟩;have Cm:=ast h4;clear h4 PO d1;go_wp2_with fail
  refine(dV 27 w4 (by omega) Cm.out.tab).mono ?_;rintro e w5 ⟨rfl,hb5⟩;have PK:=ast (Cm.out.below hb5);clear Cm hb5;go_wp2_with fail
  refine(jO PK.out (ai 27) (kR 27 (by omega)) JF.out (by omega)).mono ?_;rintro e w6 ⟨rfl,h6,_⟩;have PL:=ast h6;clear h6 PK;go_wp2_with fail
  go_ret
  exact⟨rfl,v1,PL.out⟩
 ·have hkb:((k:Int) == 27)=false:=by rw[beq_eq_false_iff_ne];omega
  have apz:(k:Int)<35:=by omega
  have HK:=ast hk;clear hk Xr H3 d1;go_wp2_with fail
  refine(jM oz.out k (.slice none 0 0) [] (Or.inl ⟨rfl,rfl⟩) (by omega)).mono ?_;rintro e w4 ⟨rfl,⟨v1,h4⟩,_⟩;have Cm:=ast h4;clear h4 oz;go_wp2_with fail
  refine(dV k w4 HK.out Cm.out.tab).mono ?_;rintro e w5 ⟨rfl,hb5⟩;have PK:=ast (Cm.out.below hb5);clear Cm hb5;go_wp2_with fail
  refine(jO PK.out (ai k) (kR k HK.out) JF.out (by omega)).mono ?_;rintro e w6 ⟨rfl,h6,_⟩;have PL:=ast h6;clear h6 PK;go_wp2_with fail
  go_ret
  exact⟨rfl,v1,PL.out⟩
end
section
open Go
theorem oP(s:ByteArray):s.toList=s.data.toList:=by
 have:=aN s.data.toList;simpa using this
theorem qO(s:ByteArray):∀(l:List (ByteArray×Int×Int)) (j k:Nat),lW s l j=some k→∃i x,k=j+i∧l[i]?=some x∧x.1.toList=s.toList∧s.toList≠[]
 |[],j,k,h=>by cases h
 |x :: l,j,k,h=>by
  unfold lW at h
  split at h
  ·rename_i hc
   cases h
   exact⟨0,x,rfl,rfl,by simpa using hc.1,by simpa using hc.2⟩
  ·obtain⟨i,y,h1,h2,h3,h4⟩:=qO s l (j+1) k h
   exact⟨i+1,y,by omega,by simpa using h2,h3,h4⟩
theorem yu(s:ByteArray):∀(l:List (ByteArray×Int×Int)) (j:Nat),lW s l j=none→∀x∈l,x.1.toList=s.toList→s.toList=[]
 |[],j,h,x,hx,_=>(List.not_mem_nil hx).elim
 |y :: l,j,h,x,hx,e=>by
  unfold lW at h
  split at h
  ·cases h
  ·rename_i hc
   rcases List.mem_cons.1 hx with rfl|hx
   ·cases hs:(s.toList == [])with
    |true=>simpa using hs
    |false=>exact absurd ⟨by simpa using e,hs⟩ hc
   ·exact yu s l (j+1) h x hx e
theorem abb:∀k,k<35→(bW.getD k (⟨#[]⟩,0,0)).1.data.toList≠[]→k<28∧zG (bW.getD k (⟨#[]⟩,0,0)).1.data.toList=((bW.getD k (⟨#[]⟩,0,0)).2.1,(bW.getD k (⟨#[]⟩,0,0)).2.2,true):=by decide +kernel
theorem abd:∀r∈tab,r.1≠[]∧∃x∈bW,x.1.data.toList=r.1:=by decide +kernel
theorem i_op:∀k,k<35→((bW.getD k (⟨#[]⟩,0,0)).1.data.toList=[105]↔k=27):=by decide +kernel
theorem oQ{s:ByteArray}{k:Nat}(h:fP s=some k):ax s=((bW.getD k (⟨#[]⟩,0,0)).2.1,(bW.getD k (⟨#[]⟩,0,0)).2.2,true)∧k<28∧(s.toList=[105]↔k=27):=by
 obtain⟨i,x,h1,h2,h3,h4⟩:=qO s bW 0 k h;have hk:=rF h;obtain rfl:k=i:=by omega
 have hx:bW.getD k (⟨#[]⟩,0,0)=x:=by simp[h2]
 have e:(bW.getD k (⟨#[]⟩,0,0)).1.data.toList=s.toList:=by rw[hx,←oP];exact h3
 obtain⟨t1,t2⟩:=abb k hk (by rw[e];exact h4);have t3:=i_op k hk;rw[e]at t2 t3;exact⟨t2,t1,t3⟩
theorem KL{s:ByteArray}(h:fP s=none):ax s=(0,0,false):=by
 unfold ax zG
 have:tab.find? (fun r=>r.1 == s.toList)=none:=by
  rw[List.find?_eq_none];intro r hr hc;obtain⟨n1,x,hx,e⟩:=abd r hr;have hc':r.1=s.toList:=by simpa using hc
  have:=yu s bW 0 h x hx (by rw[oP x.1,e,hc']);exact n1 (hc'.trans this)
 rw[this]
theorem PQ{s:ByteArray}{k:Nat}(h:fP s=some k):ai k=Inf.plain (ax s).1 (ax s).2.1:=by
 obtain⟨t1,t2,t3⟩:=oQ h;rw[t1];unfold ai Inf.plain;have:(k == 29)=false:=by rw[beq_eq_false_iff_ne];omega
 rw[this];rfl
end
end Go.Proofs.YtcphhbofjkenaaaGreatDoor
