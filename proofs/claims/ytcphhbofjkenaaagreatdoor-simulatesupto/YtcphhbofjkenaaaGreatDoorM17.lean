import Derived.Test.YtcphhbofjkenaaaGreatDoorMy
import Derived.Test.YtcphhbofjkenaaaGreatDoorM16
namespace Go.Proofs.YtcphhbofjkenaaaGreatDoor
open Go Go.RowKit Proofs.Tryz
set_option linter.unusedVariables false
set_option linter.unusedSimpArgs false
set_option maxRecDepth 100000
set_option maxHeartbeats 16000000
variable{w0 w:World}{rb bb db k q pn dn:Nat}{rc:RC}{ev aX aT bv:Value}{es:List PE}{nv nt tk:Int}{pc dc:List Int}{bs r:List PB}{kn a:Inf}{b c:PB}{s:ByteArray}
theorem IY{p:Prop}(h:p:=by
  have g8:(s.toList == [108,111,111,112])=false:=cn;clear hs hsl;have HX:=af (hX _ HT);clear hX HT;go_enter func125,ntmps125;go_wp2_with fail;refine HX.mono ?_;rintro e w1 ⟨r,rfl,hq⟩;have HQ:=af hq;clear hq HX;go_wp2_with fail;go_ret;exact⟨r,rfl,HQ⟩):p:=h
theorem Qp{p:Prop}(h:p:=by
  have g3:(s.toList == [59])=false:=cn;have g4:(s.toList == [105,102])=false:=cn;have g5:(s.toList == [101,108,115,101])=false:=cn;have g6:(s.toList == [116,104,101,110])=false:=cn;have g7:(s.toList == [100,111])=false:=cn;have g8:(s.toList == [108,111,111,112])=false:=cn;clear hs hsl;go_enter func125,ntmps125;go_wp2_with fail;go_ret;exact⟨rfl,HT⟩):p:=h
theorem Dv{p:Prop}(h:p:=by
  go_wp2_with fail
  refine H1.mono ?_;rintro e w1 ⟨rfl,hb1⟩;replace d0:=(hb1.cell (p:=ai g (bs.length*17)) hg).trans d0;have HB:=af hb1;clear H1 hb1;go_wp2_with fail;go_ret;exact⟨rfl,HD.below HB⟩):p:=h
theorem F3{p:Prop}(h:p:=by
  have g6:(s.toList == [116,104,101,110])=false:=cn;have g7:(s.toList == [100,111])=false:=cn;exact IY):p:=h
theorem RQ{p:Prop}(h:p:=by
  go_wp2_with fail
  refine HN.mono ?_;rintro e w1 ⟨rfl,hb1⟩;have HX1:=af (HX _ (HT.below hb1));clear hb1 HX HN HT;go_wp2_with fail;refine HX1.mono ?_;rintro e w2 ⟨r,rfl,hq⟩;have HQ:=af hq;clear hq HX1;go_wp2_with fail;go_ret;exact⟨r,rfl,HQ⟩):p:=h
theorem Dp{p:Prop}(h:p:=by
  rw[az ho]at hR;exact(bad 5 aj hR.symm).elim):p:=h
theorem Na{p:Prop}(h:p:=by
  rw[hm]at hu;simp only[UN]at hu;rcases hu with hu|hu<;>rw[hu]<;>exact⟨rfl,fun h=>kK⟩):p:=h
theorem Lt{p:Prop}(h:p:=by
  have g2:(s.toList == [118,97,114,105,97,98,108,101])=false:=cn;exact Qp):p:=h
section
open Go.RowKit
def PB.zero:PB:=⟨0,false,0,0,Inf.zero,Inf.zero,0,0,0⟩
theorem wI(k:Nat)(h:k<35):(aL k).Ok:=by
 obtain⟨a,b,c,d⟩:=Bz k h
 constructor<;>simp only[aL]<;>omega
theorem DS.yP
  (h:DS w0 w rb rc bb db ev aX aT bv es nv nt pc dc tk bs kn) (x:Int):DS w0 (w.alloc (.cells #[ae x] 3 (0,0))) rb rc bb db ev aX aT bv es nv nt pc dc tk bs kn∧R9 (w.alloc (.cells #[ae x] 3 (0,0))) aT (aD w.heap.size 1 1) [x]:=
 ⟨h.below (aQ.alloc aH _),aA ⟨w.heap.size,x,rfl,rfl,aF,aF,(h.there aH).2.2.2.2.2.1⟩⟩
theorem Ua
  (h:DS w0 w rb rc bb db ev aX aT bv es nv nt pc dc tk (bs++[b]) kn) (hd:b.does.Ok) (hl:bs.length≤10000000) (hc:dc.length≤10000000):
  Calls prog 157 #[ax db] w fun e w'=>e=.returned (ae 0)∧(∃eo eK,DS w0 w' rb rc bb db ev aX eo eK es nv nt pc (dc++[29,0]) tk (bs++[b.add (aL 29)]++[PB.opened {PB.zero with opener:=29} (b.add (aL 29)) (dc.length+2)]) kn):=by
 obtain⟨h1,hs1⟩:=h.yP 0;have H1:=af (uV h1 29 _ [0] hs1 ag);have eP:=af hd;clear h h1 hs1 hd;go_enter func157,ntmps157;go_wp2_with fail;refine H1.mono ?_;rintro e w1 ⟨rfl,⟨v1,h2⟩,_⟩;have H2:=af (sD 29 w1 ag h2.tab);have dL:=af h2;clear H1 h2;go_wp2_with fail;refine H2.mono ?_;rintro e w2 ⟨rfl,hb2⟩;have H3:=af (rS (dL.below hb2) (aL 29) (wI 29 ag) eP ag);clear H2 dL hb2;go_wp2_with fail;refine H3.mono ?_;rintro e w3 ⟨rfl,h3,_⟩;have H4:=af (G7 h3 {PB.zero with opener:=29} ag aF aK);clear H3 h3;go_wp2_with fail;refine H4.mono ?_;rintro e w4 ⟨rfl,⟨eK,h4⟩,_⟩;have H5:=af h4;clear H4 h4;go_wp2_with fail;go_ret;exact⟨rfl,v1,eK,by simpa using H5.out⟩
end
section
open Go.RowKit
theorem Xt
  (h:DS w0 w rb rc bb db ev aX aT bv es nv nt pc dc tk (bs++[b]) kn) (x:Int) (di:b.does.Ok) (eF:0≤b.numbers) (hn1:b.numbers≤2) (hl:bs.length≤10000000) (hc:dc.length≤10000000):
  Calls prog 163 #[ax db,ae x] w fun e w'=>e=.returned (ae 0)∧(∃eo,DS w0 w' rb rc bb db ev aX eo bv es nv nt pc (dc++[28,x]) tk (bs++[{b.add (aL 28)with numbers:=min (b.numbers+1) 2,a0:=b.a1,a1:=x}]) kn):=by
 obtain⟨g,cap,hv,hcap,hge,hg,hfr,hcell⟩:=h.last;have H1:=af (ko h ag g cap hv hcap);have d14:w.cell? (ai g (bs.length*17+14))=some (ae b.numbers):=hcell 14 _ rfl;have HD:=af h;have eP:=af di;clear h hcell hfr di;go_enter func163,ntmps163;go_wp2_with fail;refine H1.mono ?_;rintro e w1 ⟨rfl,hb1⟩;replace d14:=(hb1.cell (p:=ai g (bs.length*17+14)) hg).trans d14;obtain⟨h1,hs1⟩:=(HD.below hb1).yP x;have H2:=af (uV h1 28 _ [x] hs1 ag);clear H1 hb1 h1 hs1;go_wp2_with fail;refine H2.mono ?_;rintro e w2 ⟨rfl,⟨v1,h2⟩,_⟩;have H3:=af (sD 28 w2 ag h2.tab);have dL:=af h2;clear H2 h2 d14;go_wp2_with fail;refine H3.mono ?_;rintro e w3 ⟨rfl,hb3⟩;have H4:=af (rS (dL.below hb3) (aL 28) (wI 28 ag) eP ag);clear H3 dL hb3;go_wp2_with fail;refine H4.mono ?_;rintro e w4 ⟨rfl,h4,_⟩;obtain⟨g',cap',hv',Xm,UD,hg',yB,qE⟩:=h4.last;obtain⟨rfl,rfl⟩:g=g'∧cap=cap':=by rw[hv]at hv';simpa using hv'
 have e14:w4.cell? (ai g (bs.length*17+14))=some (ae 0):=qE 14 _ rfl;have e15:w4.cell? (ai g (bs.length*17+15))=some (ae b.a0):=qE 15 _ rfl;have e16:w4.cell? (ai g (bs.length*17+16))=some (ae b.a1):=qE 16 _ rfl;have q14:=yB (bs.length*17+14);have q15:=yB (bs.length*17+15);have q16:=yB (bs.length*17+16);have iK:=af h4;clear H4 h4 qE yB hv';go_wp2_with fail;go_ret;subst hv;have hrow:=iK.row;rw[cF,gJ,kS,List.flatMap_singleton]at hrow;have hF:=flat_length PB.cells 17 (fun _=>rfl) bs;have s1:=rz hrow hF 14 (ae (min (b.numbers+1) 2));have s2:=rz s1 hF 15 (ae b.a1);have s3:=rz s2 hF 16 (ae x);refine⟨rfl,v1,iK.setLast (b':={b.add (aL 28)with numbers:=min (b.numbers+1) 2,a0:=b.a1,a1:=x}) ?_ s3⟩;exact(((aq.refl (fun k=>k=g) w4).setCell (p:=ai g (bs.length*17+14)) rfl _).setCell (p:=ai g (bs.length*17+15)) rfl _).setCell (p:=ai g (bs.length*17+16)) rfl _
end
section
open Go.RowKit
theorem adr
  (h:DS w0 w rb rc bb db ev aX aT bv es nv nt pc dc tk (bs++[b]) kn) (hop:b.opener≠29) (hl:bs.length≤10000000):
  Calls prog 158 #[ax db] w fun e w'=>e=.returned (ae 5)∧DS w0 w' rb rc bb db ev aX aT bv es nv nt pc dc tk (bs++[b]) kn:=by
 obtain⟨g,cap,hv,hcap,hge,hg,hfr,hcell⟩:=h.last;have H1:=af (ko h ag g cap hv hcap);have d0:w.cell? (ai g (bs.length*17))=some (ae b.opener):=tO;have fV:(b.opener == 29)=false:=zr;have HD:=af h;clear h hcell hfr hop;go_enter func158,ntmps158;exact Dv
theorem Ys
  (h:DS w0 w rb rc bb db ev aX aT bv es nv nt pc dc tk (bs++[c]++[b]) kn) (hop:b.opener=29) (hd:b.does.Ok) (k:Nat) (hk:b.hole=k) (bA:pc.length≤k) (hk2:k<dc.length) (hl:bs.length≤10000000) (hc:dc.length≤10000000):
  Calls prog 158 #[ax db] w fun e w'=>e=.returned (ae 0)∧(∃eo eK,DS w0 w' rb rc bb db ev aX eo eK es nv nt pc ((dc++[30,0]).set k (dc.length+2)) tk (bs++[c]++[PB.opened {PB.zero with opener:=30,other:=b.does.then (aL 30)} c (dc.length+2)]) kn):=by
 obtain⟨g,cap,hv,hcap,hge,hg,hfr,hcell⟩:=h.last;have H0:=af (ko h aK g cap hv hcap);have d0:w.cell? (ai g ((bs.length+1)*17))=some (ae b.opener):=tO;rw[hop]at d0;have HD:=af h;have eP:=af hd;clear h hcell hfr hd;go_enter func158,ntmps158;go_wp2_with fail;refine H0.mono ?_;rintro e w1 ⟨rfl,hb1⟩;replace d0:=(hb1.cell (p:=ai g ((bs.length+1)*17)) hg).trans d0;have cq:=HD.below hb1;obtain⟨h1,hs1⟩:=cq.yP 0;have H1:=af (uV h1 30 _ [0] hs1 ag);clear H0 hb1 cq h1 hs1;go_wp2_with fail;refine H1.mono ?_;rintro e w2 ⟨rfl,⟨v1,h2⟩,_⟩;have H2:=af (sD 30 w2 ag h2.tab);have dL:=af h2;clear H1 h2 d0;go_wp2_with fail;refine H2.mono ?_;rintro e w3 ⟨rfl,hb3⟩;have H3:=af (rS (dL.below hb3) (aL 30) (wI 30 ag) eP aK);clear H2 dL hb3;go_wp2_with fail;refine H3.mono ?_;rintro e w4 ⟨rfl,h4,_⟩;have H4:=af (Gi h4 k hk bA aK aK aK);clear H3 h4;go_wp2_with fail;refine H4.mono ?_;rintro e w5 ⟨rfl,⟨bv5,h5⟩,_⟩;have ni:=af h5;clear H4 h5;simp only[PB.val,PB.cells,PB.add];go_wp2_with fail;refine(G7 (ni.below (aQ.alloc aH _)) {PB.zero with opener:=30,other:=b.does.then (aL 30)} ag aF aK).mono ?_;rintro e w6 ⟨rfl,⟨bv6,h6⟩,_⟩;have pA:=af h6;clear h6 ni;go_wp2_with fail;go_ret;exact⟨rfl,v1,bv6,by simpa using pA.out⟩
end
section
open Go.RowKit
theorem abj
  (h:DS w0 w rb rc bb db ev aX aT bv es nv nt pc dc tk (bs++[b]) kn) (hn:b.numbers<2) (hl:bs.length≤10000000):
  Calls prog 160 #[ax db] w fun e w'=>e=.returned (ae 5)∧DS w0 w' rb rc bb db ev aX aT bv es nv nt pc dc tk (bs++[b]) kn:=by
 obtain⟨g,cap,hv,hcap,hge,hg,hfr,hcell⟩:=h.last;have H1:=af (ko h ag g cap hv hcap);have d14:w.cell? (ai g (bs.length*17+14))=some (ae b.numbers):=hcell 14 _ rfl;have HD:=af h;clear h hcell hfr;go_enter func160,ntmps160;go_wp2_with fail;refine H1.mono ?_;rintro e w1 ⟨rfl,hb1⟩;replace d14:=(hb1.cell (p:=ai g (bs.length*17+14)) hg).trans d14;have HB:=af hb1;clear H1 hb1;go_wp2_with fail;go_ret;exact⟨rfl,HD.below HB⟩
theorem ZW
  (h:DS w0 w rb rc bb db ev aX aT bv es nv nt pc dc tk (bs++[b]) kn) (hn:¬b.numbers<2) (ha0: -2147483648≤b.a0) (ha1:b.a0≤2147483647) (hb0: -2147483648≤b.a1) (hb1:b.a1≤2147483647) (hm:1000<b.a0 - b.a1) (hl:bs.length≤10000000):
  Calls prog 160 #[ax db] w fun e w'=>e=.returned (ae 7)∧DS w0 w' rb rc bb db ev aX aT bv es nv nt pc dc tk (bs++[b]) kn:=by
 obtain⟨g,cap,hv,hcap,hge,hg,hfr,hcell⟩:=h.last;have H1:=af (ko h ag g cap hv hcap);have d14:w.cell? (ai g (bs.length*17+14))=some (ae b.numbers):=hcell 14 _ rfl;have d15:w.cell? (ai g (bs.length*17+15))=some (ae b.a0):=hcell 15 _ rfl;have d16:w.cell? (ai g (bs.length*17+16))=some (ae b.a1):=hcell 16 _ rfl;have hmx:max 0 (b.a0 - b.a1)=b.a0 - b.a1:=ag;have HD:=af h;clear h hcell hfr;go_enter func160,ntmps160;go_wp2_with fail;refine H1.mono ?_;rintro e w1 ⟨rfl,fK⟩;replace d14:=(fK.cell (p:=ai g (bs.length*17+14)) hg).trans d14;replace d15:=(fK.cell (p:=ai g (bs.length*17+15)) hg).trans d15;replace d16:=(fK.cell (p:=ai g (bs.length*17+16)) hg).trans d16;have HB:=af fK;clear H1 fK;go_wp2_with fail;go_quiet (fail);go_wp2_with fail;go_ret;exact⟨rfl,HD.below (HB.trans ⟨rfl,rfl,rfl,aH,fun _ _=>rfl⟩)⟩
theorem S5
  (h:DS w0 w rb rc bb db ev aX aT bv es nv nt pc dc tk (bs++[b]) kn) (hn:¬b.numbers<2) (ha0: -2147483648≤b.a0) (ha1:b.a0≤2147483647) (hb0: -2147483648≤b.a1) (hb1:b.a1≤2147483647) (hm:¬1000<max 0 (b.a0 - b.a1)) (hd:b.does.Ok) (hl:bs.length≤10000000) (hc:dc.length≤10000000):
  Calls prog 160 #[ax db] w fun e w'=>e=.returned (ae 0)∧(∃eo eK,DS w0 w' rb rc bb db ev aX eo eK es nv nt pc (dc++[31,0]) tk (bs++[b.add (aL 31)]++[PB.opened {PB.zero with opener:=31,times:=max 0 (b.a0 - b.a1)} (b.add (aL 31)) (dc.length+2)]) kn):=by
 obtain⟨g,cap,hv,hcap,hge,hg,hfr,hcell⟩:=h.last;have H1:=af (ko h ag g cap hv hcap);have d14:w.cell? (ai g (bs.length*17+14))=some (ae b.numbers):=hcell 14 _ rfl;have d15:w.cell? (ai g (bs.length*17+15))=some (ae b.a0):=hcell 15 _ rfl;have d16:w.cell? (ai g (bs.length*17+16))=some (ae b.a1):=hcell 16 _ rfl;have HD:=af h;have eP:=af hd;clear h hcell hfr hd;go_enter func160,ntmps160;go_wp2_with fail;refine H1.mono ?_;rintro e w1 ⟨rfl,fK⟩;replace d14:=(fK.cell (p:=ai g (bs.length*17+14)) hg).trans d14;replace d15:=(fK.cell (p:=ai g (bs.length*17+15)) hg).trans d15;replace d16:=(fK.cell (p:=ai g (bs.length*17+16)) hg).trans d16;have HB:=af fK;clear H1 fK;go_wp2_with fail;go_quiet (fail);have hdq:=HD.below (HB.trans (show Below w.heap.size w1 (w1.drewN nq)from⟨rfl,rfl,rfl,aH,fun _ _=>rfl⟩));obtain⟨h1,hs1⟩:=hdq.yP 0;have H1:=af (uV h1 31 _ [0] hs1 ag);clear h1 hs1 hdq;go_wp2_with fail;refine H1.mono ?_;rintro e w2 ⟨rfl,⟨v1,h2⟩,_⟩;have H2:=af (sD 31 w2 ag h2.tab);have dL:=af h2;clear H1 h2 d14 d15 d16;go_wp2_with fail;refine H2.mono ?_;rintro e w3 ⟨rfl,hb3⟩;have H3:=af (rS (dL.below hb3) (aL 31) (wI 31 ag) eP ag);clear H2 dL hb3;go_wp2_with fail;refine H3.mono ?_;rintro e w4 ⟨rfl,h4,_⟩;have iK:=af h4;clear H3 h4;go_wp2_with fail;refine(G7 iK {PB.zero with opener:=31,times:=max 0 (b.a0 - b.a1)} ag aF aK).mono ?_;rintro e w5 ⟨rfl,⟨eK,h5⟩,_⟩;have H5:=af h5;clear iK h5;go_wp2_with fail;go_ret
 exact⟨rfl,v1,eK,by simpa using H5.out⟩
end
section
open Go.RowKit
def Inf.je(a:Inf)(n:Int):Inf:=if n=0 then⟨0,0,0,0,a.str⟩else{a with steps:=min (a.steps*n) 1000000001}
theorem Un(a:Inf)(n:Int)(h0:0≤n)(h1:n≤1000)(hs0:0≤a.steps)(hs1:a.steps≤1000000001)(w:World):
  Calls prog 189 #[a.tm,ae n] w fun e w'=>e=.returned (a.je n).tm∧Below w.heap.size w w':=by
 unfold Inf.je
 by_cases h:n=0
 ·subst h
  rw[aG rfl];exact V8 a.need a.aM a.high a.steps (!a.str) w
 ·rw[az h]
  exact X9 a.need a.aM a.high a.steps n (!a.str) w h h0 h1 hs0 hs1
theorem Wv
  (h:DS w0 w rb rc bb db ev aX aT bv es nv nt pc dc tk (bs++[b]) kn) (hop:b.opener≠31) (hl:bs.length≤10000000):
  Calls prog 161 #[ax db] w fun e w'=>e=.returned (ae 5)∧DS w0 w' rb rc bb db ev aX aT bv es nv nt pc dc tk (bs++[b]) kn:=by
 obtain⟨g,cap,hv,hcap,hge,hg,hfr,hcell⟩:=h.last;have H1:=af (ko h ag g cap hv hcap);have d0:w.cell? (ai g (bs.length*17))=some (ae b.opener):=tO;have fV:(b.opener != 31)=true:=zr;have Lk:(b.opener == 31)=false:=zr;have HD:=af h;clear h hcell hfr hop;go_enter func161,ntmps161;exact Dv
theorem TT
  (h:DS w0 w rb rc bb db ev aX aT bv es nv nt pc dc tk (bs++[b]) kn) (hop:b.opener=31) (hne:b.does.aM≠0) (hl:bs.length≤10000000):
  Calls prog 161 #[ax db] w fun e w'=>e=.returned (ae 6)∧DS w0 w' rb rc bb db ev aX aT bv es nv nt pc dc tk (bs++[b]) kn:=by
 obtain⟨g,cap,hv,hcap,hge,hg,hfr,hcell⟩:=h.last;have H1:=af (ko h ag g cap hv hcap);have d0:w.cell? (ai g (bs.length*17))=some (ae b.opener):=tO;have d4:w.cell? (ai g (bs.length*17+4))=some (ae b.does.need):=hcell 4 _ rfl;have d5:w.cell? (ai g (bs.length*17+5))=some (ae b.does.aM):=hcell 5 _ rfl;have d6:w.cell? (ai g (bs.length*17+6))=some (ae b.does.high):=hcell 6 _ rfl;have hnb:(b.does.aM == 0)=false:=by simpa using hne
 have HA:=af (fun w'=>Ka b.does.need b.does.aM b.does.high w');rw[hnb]at HA;rw[hop]at d0;have HD:=af h;clear h hcell hfr hop hne;go_enter func161,ntmps161;go_wp2_with fail;refine H1.mono ?_;rintro e w1 ⟨rfl,hb1⟩;replace d0:=(hb1.cell (p:=ai g (bs.length*17)) hg).trans d0;replace d4:=(hb1.cell (p:=ai g (bs.length*17+4)) hg).trans d4;replace d5:=(hb1.cell (p:=ai g (bs.length*17+5)) hg).trans d5;replace d6:=(hb1.cell (p:=ai g (bs.length*17+6)) hg).trans d6;have HB:=af hb1;clear H1 hb1;go_wp2_with fail;refine(HA _).mono ?_;rintro e w2 ⟨rfl,hb2⟩;have aW:=af hb2;clear hb2;go_wp2_with fail;go_ret;exact⟨rfl,(HD.below HB).below aW⟩
theorem Ts
  (h:DS w0 w rb rc bb db ev aX aT bv es nv nt pc dc tk (bs++[c]++[b]) kn) (hop:b.opener=31) (heq:b.does.aM=0) (k:Nat) (hk:b.hole=k) (bA:pc.length≤k) (hk2:k<dc.length) (ht0:0≤b.times) (ht1:b.times≤1000)
  (di:b.does.Ok) (hso:(b.does.then (aL 32)).Ok) (hor:((b.does.then (aL 32)).je b.times).Ok) (dK:c.does.Ok) (hl:bs.length≤10000000) (hc:dc.length≤10000000):
  Calls prog 161 #[ax db] w fun e w'=>e=.returned (ae 0)∧(∃eo eK,DS w0 w' rb rc bb db ev aX eo eK es nv nt pc ((dc++[32,(k:Int)+1]).set k (dc.length+2)) tk (bs++[c.add ((b.does.then (aL 32)).je b.times)]) kn):=by
 obtain⟨g,cap,hv,hcap,hge,hg,hfr,hcell⟩:=h.last;have H1:=af (ko h aK g cap hv hcap);simp only[cF,gJ]at hcell;have d0:w.cell? (ai g ((bs.length+1)*17))=some (ae b.opener):=tO;have d2:w.cell? (ai g ((bs.length+1)*17+2))=some (ae b.hole):=hcell 2 _ rfl;have d4:w.cell? (ai g ((bs.length+1)*17+4))=some (ae b.does.need):=hcell 4 _ rfl;have d5:w.cell? (ai g ((bs.length+1)*17+5))=some (ae b.does.aM):=hcell 5 _ rfl;have d6:w.cell? (ai g ((bs.length+1)*17+6))=some (ae b.does.high):=hcell 6 _ rfl;have hnb:(b.does.aM == 0)=true:=by simpa using heq
 have HA:=af (fun w'=>Ka b.does.need b.does.aM b.does.high w');rw[hnb]at HA;rw[hop]at d0;rw[hk]at d2;have hk8:(k:Int)≤10000000:=ag;have HD:=af h;have HK:=af hk;have HEQ:=af heq;clear h hcell hfr hk heq hop;go_enter func161,ntmps161;go_wp2_with fail;refine H1.mono ?_;rintro e w1 ⟨rfl,hb1⟩;simp only[cF,gJ];replace d0:=(hb1.cell (p:=ai g ((bs.length+1)*17)) hg).trans d0;replace d2:=(hb1.cell (p:=ai g ((bs.length+1)*17+2)) hg).trans d2;replace d4:=(hb1.cell (p:=ai g ((bs.length+1)*17+4)) hg).trans d4;replace d5:=(hb1.cell (p:=ai g ((bs.length+1)*17+5)) hg).trans d5;replace d6:=(hb1.cell (p:=ai g ((bs.length+1)*17+6)) hg).trans d6;have hg1:g<w1.heap.size:=bF hg hb1.size;have HB:=af hb1;clear H1 hb1;go_wp2_with fail;refine(HA _).mono ?_;rintro e w2 ⟨rfl,hb2⟩;replace d2:=(hb2.cell (p:=ai g ((bs.length+1)*17+2)) hg1).trans d2;have hdq:=(HD.below HB).below hb2;clear hb2 d0 d4 d5 d6 HB;obtain⟨h1,hs1⟩:=hdq.yP ((k:Int)+1);have H1:=af (uV h1 32 _ [(k:Int)+1] hs1 ag);clear h1 hs1 hdq;go_wp2_with fail;refine H1.mono ?_;rintro e w3 ⟨rfl,⟨v1,h2⟩,_⟩;have H2:=af (sD 32 w3 ag h2.tab);have dL:=af h2;clear H1 h2 d2;go_wp2_with fail;refine H2.mono ?_;rintro e w4 ⟨rfl,hb4⟩;have H3:=af (rS (dL.below hb4) (aL 32) (wI 32 ag) di aK);clear H2 dL hb4;go_wp2_with fail;refine H3.mono ?_;rintro e w5 ⟨rfl,h5,_⟩;have ni:=af h5;clear H3 h5;go_wp2_with fail;refine(Gi ni k HK bA aK aK aK).mono ?_;rintro e w6 ⟨rfl,⟨bv6,h6⟩,_⟩;have pA:=af h6;clear h6 ni;obtain⟨r,hr⟩:=ak (b.does.then (aL 32));simp only[PB.val,PB.cells,PB.add];rw[←hr]at hor hso ⊢;have HRR:=af hr;clear hr;go_wp2_with fail
 refine(Un r b.times ht0 ht1 hso.s0 hso.s1 _).mono ?_;rintro e w7 ⟨rfl,iU⟩;have HD7:=af ((pA.below (aQ.alloc aH _)).below iU);clear pA iU;go_wp2_with fail;refine(rS HD7 (r.je b.times) hor dK ag).mono ?_;rintro e w8 ⟨rfl,h8,_⟩;have HD8:=af h8;clear HD7 h8;go_wp2_with fail;go_ret;exact⟨rfl,v1,bv6,by rw[←HRR.out];simpa using HD8.out⟩
end
section
open Go.RowKit
def Inf.gY(a b:Inf):Inf:=⟨max a.need b.need,a.aM,max a.high b.high,max a.steps b.steps,a.str&&b.str⟩
theorem abB(a b:Inf)(w:World):
  Calls prog 187 #[a.tm,b.tm] w fun e w'=>e=.returned (a.gY b).tm∧Below w.heap.size w w':=by
 refine(Xr a.need a.aM a.high a.steps b.need b.aM b.high b.steps (!a.str) (!b.str) w).mono ?_;rintro e w1 ⟨rfl,h⟩;exact⟨by simp[Inf.gY,Inf.tm],h⟩
theorem adw
  (h:DS w0 w rb rc bb db ev aX aT bv es nv nt pc dc tk (bs++[b]) kn) (hop:b.opener≠29) (Ae:b.opener≠30) (hl:bs.length≤10000000):
  Calls prog 159 #[ax db] w fun e w'=>e=.returned (ae 5)∧DS w0 w' rb rc bb db ev aX aT bv es nv nt pc dc tk (bs++[b]) kn:=by
 obtain⟨g,cap,hv,hcap,hge,hg,hfr,hcell⟩:=h.last;have H1:=af (ko h ag g cap hv hcap);have d0:w.cell? (ai g (bs.length*17))=some (ae b.opener):=tO;have fV:(b.opener != 29)=true:=zr;have Lk:(b.opener != 30)=true:=by simpa using Ae
 have HD:=af h;clear h hcell hfr hop Ae;go_enter func159,ntmps159;exact Dv
theorem Z0
  (h:DS w0 w rb rc bb db ev aX aT bv es nv nt pc dc tk (bs++[b]) kn) (hop:b.opener=29∨b.opener=30) (hne:b.does.aM≠b.other.aM) (hl:bs.length≤10000000):
  Calls prog 159 #[ax db] w fun e w'=>e=.returned (ae 6)∧DS w0 w' rb rc bb db ev aX aT bv es nv nt pc dc tk (bs++[b]) kn:=by
 obtain⟨g,cap,hv,hcap,hge,hg,hfr,hcell⟩:=h.last;have H1:=af (ko h ag g cap hv hcap);have d0:w.cell? (ai g (bs.length*17))=some (ae b.opener):=tO;have d4:w.cell? (ai g (bs.length*17+4))=some (ae b.does.need):=hcell 4 _ rfl;have d5:w.cell? (ai g (bs.length*17+5))=some (ae b.does.aM):=hcell 5 _ rfl;have d6:w.cell? (ai g (bs.length*17+6))=some (ae b.does.high):=hcell 6 _ rfl;have d9:w.cell? (ai g (bs.length*17+9))=some (ae b.other.need):=hcell 9 _ rfl;have d10:w.cell? (ai g (bs.length*17+10))=some (ae b.other.aM):=hcell 10 _ rfl;have d11:w.cell? (ai g (bs.length*17+11))=some (ae b.other.high):=hcell 11 _ rfl;have hnb:(b.does.aM == b.other.aM)=false:=by simpa using hne
 have HA:=af (fun w'=>PQ b.does.need b.does.aM b.does.high b.other.need b.other.aM b.other.high w');rw[hnb]at HA;have HD:=af h;have hoo:((b.opener != 29)&&(b.opener != 30))=false:=by rcases hop with e|e<;>simp[e]
 clear h hcell hfr hne;go_enter func159,ntmps159;go_wp2_with fail;refine H1.mono ?_;rintro e w1 ⟨rfl,hb1⟩;replace d0:=(hb1.cell (p:=ai g (bs.length*17)) hg).trans d0;replace d4:=(hb1.cell (p:=ai g (bs.length*17+4)) hg).trans d4;replace d5:=(hb1.cell (p:=ai g (bs.length*17+5)) hg).trans d5;replace d6:=(hb1.cell (p:=ai g (bs.length*17+6)) hg).trans d6;replace d9:=(hb1.cell (p:=ai g (bs.length*17+9)) hg).trans d9;replace d10:=(hb1.cell (p:=ai g (bs.length*17+10)) hg).trans d10;replace d11:=(hb1.cell (p:=ai g (bs.length*17+11)) hg).trans d11;have hg1:g<w1.heap.size:=bF hg hb1.size;have HB:=af hb1;clear H1 hb1;rcases hop with hop|hop
 all_goals
  rw[hop]at d0;go_upto_region 4 with fail
  have hc:=fun (B:Nat) (w0:World) (u:bN B w0) (b o:Nat) (h:b<B)=>u.cell b o h
  have jB:=bN.ne;refine Fb w1.heap.size aP aP ?_
  repeat (go_big_quiet_step ((go_at_call 186;exact bN.calls aH _ (HA _))))
  refine wpQuiet_nil ?_;intro u;obtain⟨w2,hb2⟩:=u;dsimp only;have aW:=af hb2;clear hc jB hb2;go_wp2_with fail;go_ret;exact⟨rfl,(HD.below HB).below aW⟩
theorem Xv
  (h:DS w0 w rb rc bb db ev aX aT bv es nv nt pc dc tk (bs++[c]++[b]) kn) (hop:b.opener=29∨b.opener=30) (heq:b.does.aM=b.other.aM) (k:Nat) (hk:b.hole=k) (bA:pc.length≤k) (hk2:k<dc.length) (hor:(b.does.gY b.other).Ok) (dK:c.does.Ok) (hl:bs.length≤10000000) (hc:dc.length≤10000000):
  Calls prog 159 #[ax db] w fun e w'=>e=.returned (ae 0)∧(∃eo eK,DS w0 w' rb rc bb db ev aX eo eK es nv nt pc (dc.set k dc.length) tk (bs++[c.add (b.does.gY b.other)]) kn):=by
 obtain⟨g,cap,hv,hcap,hge,hg,hfr,hcell⟩:=h.last;have H1:=af (ko h aK g cap hv hcap);simp only[cF,gJ]at hcell;have d0:w.cell? (ai g ((bs.length+1)*17))=some (ae b.opener):=tO;have d4:w.cell? (ai g ((bs.length+1)*17+4))=some (ae b.does.need):=hcell 4 _ rfl;have d5:w.cell? (ai g ((bs.length+1)*17+5))=some (ae b.does.aM):=hcell 5 _ rfl;have d6:w.cell? (ai g ((bs.length+1)*17+6))=some (ae b.does.high):=hcell 6 _ rfl;have d9:w.cell? (ai g ((bs.length+1)*17+9))=some (ae b.other.need):=hcell 9 _ rfl;have d10:w.cell? (ai g ((bs.length+1)*17+10))=some (ae b.other.aM):=hcell 10 _ rfl;have d11:w.cell? (ai g ((bs.length+1)*17+11))=some (ae b.other.high):=hcell 11 _ rfl;have hnb:(b.does.aM == b.other.aM)=true:=by simpa using heq
 have HA:=af (fun w'=>PQ b.does.need b.does.aM b.does.high b.other.need b.other.aM b.other.high w');rw[hnb]at HA;have HD:=af h;clear h hcell hfr heq;go_enter func159,ntmps159;go_wp2_with fail;refine H1.mono ?_;rintro e w1 ⟨rfl,hb1⟩;simp only[cF,gJ];replace d0:=(hb1.cell (p:=ai g ((bs.length+1)*17)) hg).trans d0;replace d4:=(hb1.cell (p:=ai g ((bs.length+1)*17+4)) hg).trans d4;replace d5:=(hb1.cell (p:=ai g ((bs.length+1)*17+5)) hg).trans d5;replace d6:=(hb1.cell (p:=ai g ((bs.length+1)*17+6)) hg).trans d6;replace d9:=(hb1.cell (p:=ai g ((bs.length+1)*17+9)) hg).trans d9;replace d10:=(hb1.cell (p:=ai g ((bs.length+1)*17+10)) hg).trans d10;replace d11:=(hb1.cell (p:=ai g ((bs.length+1)*17+11)) hg).trans d11;have hg1:g<w1.heap.size:=bF hg hb1.size;have HB:=af hb1;clear H1 hb1;have hoo:b.opener=29∨b.opener=30:=hop;rcases hop with hop|hop
 all_goals
  rw[hop]at d0;go_upto_region 4 with fail
  have hc:=fun (B:Nat) (w0:World) (u:bN B w0) (b o:Nat) (h:b<B)=>u.cell b o h
  have jB:=bN.ne;refine Fb w1.heap.size aP aP ?_
  repeat (go_big_quiet_step ((go_at_call 186;exact bN.calls aH _ (HA _))))
  refine wpQuiet_nil ?_;intro u;obtain⟨w2,hb2⟩:=u;dsimp only;have QF:=af ((HD.below HB).below hb2);clear hc jB hb2 d0 d4 d5 d6 d9 d10 d11;go_wp2_with fail;refine(Gi QF k hk bA hk2 aK ag).mono ?_;rintro e w3 ⟨rfl,⟨bv3,h3⟩,_⟩;have nC:=af h3;clear h3 QF;simp only[PB.val,PB.cells];go_wp2_with fail;refine(abB b.does b.other _).mono ?_;rintro e w4 ⟨rfl,hb4⟩;have iK:=af ((nC.below (aQ.alloc aH _)).below hb4);clear nC hb4;go_wp2_with fail;refine(rS iK (b.does.gY b.other) hor dK ag).mono ?_;rintro e w5 ⟨rfl,h5,_⟩;have ni:=af h5;clear iK h5;go_wp2_with fail;go_ret;exact⟨rfl,_,_,ni⟩
end
section
open Go.RowKit
theorem DS.Ui
  (h:DS w0 w rb rc bb db ev aX aT bv es nv nt pc dc tk bs kn) (k:Inf):
  DS w0 (((((w.setCell (ai db 4) (ae k.need)).setCell (ai db 5) (ae k.aM)).setCell (ai db 6) (ae k.high)).setCell (ai db 7) (ae k.steps)).setCell (ai db 8) (.bool (!k.str))) rb rc bb db ev aX aT bv es nv nt pc dc tk bs k:=by
 have hrb:=h.aO.1;have hgb:=h.aO.2
 have hc:aq (fun b=>b=db) w (((((w.setCell (ai db 4) (ae k.need)).setCell (ai db 5) (ae k.aM)).setCell (ai db 6) (ae k.high)).setCell (ai db 7) (ae k.steps)).setCell (ai db 8) (.bool (!k.str))):=
  (((((aq.refl (fun b=>b=db) w).setCell (p:=ai db 4) rfl _).setCell (p:=ai db 5) rfl _).setCell (p:=ai db 6) rfl _).setCell (p:=ai db 7) rfl _).setCell (p:=ai db 8) rfl _
 have n1:bb≠db:=E6;have n2:rb≠db:=Ex;have no:∀{base:Nat} {e:TypeId} {size n:Nat} {v:Value} {xs:List Value},w.ownsRow base e size v n xs→209≠e→∀k,v.ownBlock=some k→¬k=db:=fun ho hne k hk e=>aZ ho h.blk hne jr
 refine⟨h.sys.aB hc n1 (no h.sys.row aj) (no h.sys.bG aj),?_,aR h.bG hc (no h.bG aj),aR h.row hc (no h.row aj),h.tab.aB hc (fun k e=>zM),⟨hrb.aB hc n2,hgb.aB hc (fun e=>pK h.blk hgb aj e.symm)⟩,h.ru,h.tl,h.pre,h.new,h.loc,h.jS.fz hc (fun k hk e=>zj)⟩;have:=((((h.blk.set (o:=4) (ae k.need)).set (o:=5) (ae k.aM)).set (o:=6) (ae k.high)).set (o:=7) (ae k.steps)).set (o:=8) (.bool (!k.str));simpa [kV]using this
theorem DS.clear
  (h:DS w0 w rb rc bb db ev aX aT bv es nv nt pc dc tk bs kn):DS w0 (w.setCell (ai db 3) aI) rb rc bb db ev aX aT aI es nv nt pc dc tk [] kn:=by
 have hrb:=h.aO.1;have hgb:=h.aO.2;have hc:aq (fun b=>b=db) w (w.setCell (ai db 3) aI):=(aq.refl (fun b=>b=db) w).setCell (p:=ai db 3) rfl _;have n1:bb≠db:=E6;have n2:rb≠db:=Ex;have no:∀{base:Nat} {e:TypeId} {size n:Nat} {v:Value} {xs:List Value},w.ownsRow base e size v n xs→209≠e→∀k,v.ownBlock=some k→¬k=db:=fun ho hne k hk e=>aZ ho h.blk hne jr
 refine⟨h.sys.aB hc n1 (no h.sys.row aj) (no h.sys.bG aj),?_,aR h.bG hc (no h.bG aj),qQ _ _ _ _,h.tab.aB hc (fun k e=>zM),⟨hrb.aB hc n2,hgb.aB hc (fun e=>pK h.blk hgb aj e.symm)⟩,h.ru,h.tl,h.pre,h.new,h.loc,h.jS.fz hc (fun k hk e=>zj)⟩;have:=h.blk.set (o:=3) aI;simpa [kV]using this
theorem YE
  (h:DS w0 w rb rc bb db ev aX aT bv es nv nt pc dc tk (bs++[b]) kn) (hop:b.opener≠34) (hl:bs.length≤10000000):
  Calls prog 156 #[ax db] w fun e w'=>e=.returned (ae 5)∧DS w0 w' rb rc bb db ev aX aT bv es nv nt pc dc tk (bs++[b]) kn:=by
 obtain⟨g,cap,hv,hcap,hge,hg,hfr,hcell⟩:=h.last;have H1:=af (ko h ag g cap hv hcap);have d0:w.cell? (ai g (bs.length*17))=some (ae b.opener):=tO;have fV:(b.opener != 34)=true:=zr;have Lk:(b.opener == 34)=false:=zr;have HD:=af h;clear h hcell hfr hop;go_enter func156,ntmps156;exact Dv
def nY(steps nt tk:Int):Int:=if 1000000000<steps then 7 else if 400<nt+tk then 8 else 0
def Yj(w0:World)(rb:Nat)(rc:RC)(bb db:Nat)(ev aX:Value)(es:List PE)(nv nt:Int)(pc dc:List Int)(tk:Int)(r:Inf)(R:Int)(e:Ending)(w':World):Prop:=
 e=.returned (ae R)∧∃eo eK bs',DS w0 w' rb rc bb db ev aX eo eK es nv nt pc (dc++[34]) tk bs' r∧(R=0→bs'=[])
theorem Uw
  (h:DS w0 w rb rc bb db ev aX aT bv es nv nt pc dc tk [b] kn) (hop:b.opener=34) (di:b.does.Ok) (hc:dc.length≤10000000) (Eg:0≤nt) (DF:nt≤100000) (iT:0≤tk) (eE:tk≤100000000):
  Calls prog 156 #[ax db] w (Yj w0 rb rc bb db ev aX es nv nt pc dc tk (b.does.then (aL 34)) (nY (b.does.then (aL 34)).steps nt tk)):=by
 obtain⟨r,hr⟩:=ak (b.does.then (aL 34));rw[←hr];have HRR:=af hr;clear hr;obtain⟨R,hR⟩:=ak (nY r.steps nt tk);rw[←hR];have HR:=af hR;clear hR;obtain⟨g,cap,hv,hcap,hge,hg,hfr,hcell⟩:=DS.last (bs:=[]) h;have H1:=af (ko (bs:=[]) h aF g cap hv hcap);simp only[List.length_nil,Nat.zero_mul,Nat.zero_add]at hcell;have d0:w.cell? (ai g 0)=some (ae b.opener):=tO;rw[hop]at d0;have HD:=af h;have eP:=af di;clear h hcell hfr hop di;go_enter func156,ntmps156;go_wp2_with fail;refine H1.mono ?_;rintro e w1 ⟨rfl,hb1⟩;simp only[List.length_nil,Nat.zero_mul];replace d0:=(hb1.cell (p:=ai g 0) hg).trans d0;have H2:=af (uV (HD.below hb1) 34 aI [] (aC ⟨rfl,rfl⟩) ag);clear H1 hb1;go_wp2_with fail;refine H2.mono ?_;rintro e w2 ⟨rfl,⟨v1,h2⟩,_⟩;have H3:=af (sD 34 w2 ag h2.tab);have dL:=af h2;clear H2 h2 d0;go_wp2_with fail;refine H3.mono ?_;rintro e w3 ⟨rfl,hb3⟩;have H4:=af (rS (bs:=[]) (dL.below hb3) (aL 34) (wI 34 ag) eP aF);clear H3 dL hb3;go_wp2_with fail;refine H4.mono ?_;rintro e w4 ⟨rfl,h4,_⟩;simp only[List.nil_append]at h4;obtain⟨g',cap',hv',Xm,UD,hg',yB,qE⟩:=DS.last (bs:=[]) h4;obtain⟨rfl,rfl⟩:g=g'∧cap=cap':=by rw[hv]at hv';simpa using hv'
 simp only[List.length_nil,Nat.zero_mul,Nat.zero_add]at qE;have e4:w4.cell? (ai g 4)=some (ae r.need):=by rw[HRR.out];exact qE 4 _ rfl
 have e5:w4.cell? (ai g 5)=some (ae r.aM):=by rw[HRR.out];exact qE 5 _ rfl
 have e6:w4.cell? (ai g 6)=some (ae r.high):=by rw[HRR.out];exact qE 6 _ rfl
 have e7:w4.cell? (ai g 7)=some (ae r.steps):=by rw[HRR.out];exact qE 7 _ rfl
 have e8:w4.cell? (ai g 8)=some (.bool (!r.str)):=by rw[HRR.out];exact qE 8 _ rfl
 have H5:=af (ko (bs:=[]) h4 aF g cap hv hcap);have iK:=af h4;clear H4 h4 qE yB hv';go_wp2_with fail;refine H5.mono ?_;rintro e w5 ⟨rfl,hb5⟩;simp only[List.length_nil,Nat.zero_mul];have nB:=iK.below hb5;replace e4:=(hb5.cell (p:=ai g 4) hg').trans e4;replace e5:=(hb5.cell (p:=ai g 5) hg').trans e5;replace e6:=(hb5.cell (p:=ai g 6) hg').trans e6;replace e7:=(hb5.cell (p:=ai g 7) hg').trans e7;replace e8:=(hb5.cell (p:=ai g 8) hg').trans e8;have k4:=nB.blk.cell 4 _ rfl;have k5:=nB.blk.cell 5 _ rfl;have k6:=nB.blk.cell 6 _ rfl;have k7:=nB.blk.cell 7 _ rfl;have k8:=nB.blk.cell 8 _ rfl;have q4:=nB.blk.frozen 4;have q5:=nB.blk.frozen 5;have q6:=nB.blk.frozen 6;have q7:=nB.blk.frozen 7;have q8:=nB.blk.frozen 8;simp only[kV,List.getElem_toArray,List.getElem_cons_succ,List.getElem_cons_zero]at k4 k5 k6 k7 k8;have nN:=nB.Ui r;obtain⟨V,hV⟩:=ak (((((w5.setCell (ai db 4) (ae r.need)).setCell (ai db 5) (ae r.aM)).setCell (ai db 6) (ae r.high)).setCell (ai db 7) (ae r.steps)).setCell (ai db 8) (.bool (!r.str)):World);rw[←hV]at nN;have fJ:=af nN;clear H5 hb5 nB iK nN;go_upto_region 6 with fail
 rw[←hV];clear hV e4 e5 e6 e7 e8 k4 k5 k6 k7 k8 q4 q5 q6 q7 q8;have k4:=fJ.blk.cell 4 _ rfl;have k5:=fJ.blk.cell 5 _ rfl;have k6:=fJ.blk.cell 6 _ rfl;have k7:=fJ.blk.cell 7 _ rfl;have k8:=fJ.blk.cell 8 _ rfl;simp only[kV,List.getElem_toArray,List.getElem_cons_succ,List.getElem_cons_zero]at k4 k5 k6 k7 k8;go_wp2_with fail;refine(V6 r.need r.aM r.high r.steps (!r.str) V).mono ?_;rintro e w6 ⟨rfl,kL⟩;have hd6:=fJ.below kL;obtain⟨c0,c1,c2,c3⟩:=hd6.def;have aeh:w6.cell? (ai bb 2)=some (ae nt):=hd6.sys.blk.cell 2 _ rfl;have q3:=hd6.blk.frozen 3;have hlt:=hd6.blk.lt;obtain⟨ad3,lH,ac9,_⟩:=bo hd6.row;rw[ac9]at c3;have pA:=af hd6;clear kL hd6 fJ k4 k5 k6 k7 k8 c2
 by_cases hst:1000000000<r.steps
 ·have HR7:=af (show R=7 by rw[HR.out,nY,aG hst])
  go_wp2_with fail
  go_ret
  exact⟨by rw[HR7.out];rfl,v1,bv,_,pA,fun e=>by rw[HR7.out]at e;cases e⟩
 ·by_cases mW:400<nt+tk
  ·have HR8:=af (show R=8 by rw[HR.out,nY,az hst,aG mW])
   go_wp2_with fail
   go_quiet (fail)
   go_wp2_with fail
   go_ret
   exact⟨by rw[HR8.out];rfl,v1,bv,_,pA.below ⟨rfl,rfl,rfl,aH,fun _ _=>rfl⟩,fun e=>by rw[HR8.out]at e;cases e⟩
  ·have HR0:=af (show R=0 by rw[HR.out,nY,az hst,az mW])
   go_wp2_with fail
   go_quiet (fail)
   go_wp2_with fail
   go_ret
   exact⟨by rw[HR0.out];rfl,v1,_,[],(pA.below (w':=w6.drewN nq) ⟨rfl,rfl,rfl,aH,fun _ _=>rfl⟩).clear,fun _=>rfl⟩
end
section
open Go.RowKit
def PE.use(e:PE):Inf:=if e.var=true then aL 28 else(aL 33).then e.inf
def PE.op(e:PE):Int:=if e.var=true then 28 else 33
theorem RU(s:ByteArray):∀(l:List (ByteArray×Int×Int)) (j k:Nat),opFrom s l j=some k→k<j+l.length
 |[],j,k,h=>kK
 |x :: l,j,k,h=>by
  unfold opFrom at h
  split at h
  ·cases h;simp
  ·have:=RU s l (j+1) k h;simp;omega
theorem DJ(h:jT s=some k):k<35:=by
 have:=RU s cP 0 k h;simpa [cP]using this
theorem Tu
  (h:DS w0 w rb rc bb db ev aX aT bv es nv nt pc dc tk (bs++[b]) kn) (s:ByteArray) (x:PE) (hx:lastP es s es.length=some x) (he:x.inf.Ok) (hu:x.use.Ok) (di:b.does.Ok) (hes:es.length≤1000) (hl:bs.length≤10000000) (hc:dc.length≤10000000):
  Calls prog 164 #[ax db,.string s] w fun e w'=>e=.returned (ae 0)∧(∃eo,DS w0 w' rb rc bb db ev aX eo bv es nv nt pc (dc++[x.op,x.place]) tk (bs++[b.add x.use]) kn):=by
 obtain⟨c0,c1,c2,c3⟩:=h.def;have H1:=af (Bd s h.sys hes);rw[hx]at H1;have HD:=af h;have eP:=af di;clear h di hx c1 c2 c3;simp only[lastRes,PE.val]at H1;go_enter func164,ntmps164;go_wp2_with fail;refine H1.mono ?_;rintro e w1 ⟨rfl,hb1⟩;have nV:=af (HD.below hb1);clear H1 hb1 HD;go_wp2_with fail;have nM:=nV.below (aQ.alloc aH (.cells #[.string x.name,.bool x.var,ae x.place,ae x.inf.need,ae x.inf.aM,ae x.inf.high,ae x.inf.steps,.bool (!x.inf.str)] 153 (0,0)));have hkA:=bJ w1 #[.string x.name,.bool x.var,ae x.place,ae x.inf.need,ae x.inf.aM,ae x.inf.high,ae x.inf.steps,.bool (!x.inf.str)] 153;refine(TZ x _ nM.tab he).mono ?_;rintro e w2 ⟨rfl,hb2⟩;have hk2:=hkA.sub hb2 aF;have p2:w2.cell? (ai w1.heap.size 2)=some (ae x.place):=hk2.cell 2 _ rfl;have hl2:=hk2.lt;have dL:=af (nM.below hb2);clear nM hkA hb2 hk2 nV;obtain⟨y,hy⟩:=ak (x.use);obtain⟨o,ho⟩:=ak (x.op)
 show _
 rw[show(if x.var then aL 28 else(aL 33).then x.inf)=y from hy.symm,show(if x.var then(28:Int)else 33)=o from ho.symm];have HY:=af hy;have HO:=af ho;rw[←hy]at hu;clear hy ho;simp only[Inf.tm];go_wp2_with fail;have hdB:=dL.below (aQ.alloc aH (.cells #[ae y.need,ae y.aM,ae y.high,ae y.steps,.bool (!y.str)] 151 (0,0)));have hkB:=bJ w2 #[ae y.need,ae y.aM,ae y.high,ae y.steps,.bool (!y.str)] 151;obtain⟨h1,hs1⟩:=hdB.yP x.place;have hsz:(w2.alloc (.cells #[ae y.need,ae y.aM,ae y.high,ae y.steps,.bool (!y.str)] 151 (0,0))).heap.size=w2.heap.size+1:=aF;rw[hsz]at hs1;obtain⟨n1,n2,n3,n4,n5,n6,n7⟩:=dL.there aH;refine(uV h1 o _ [x.place] hs1 ag).mono ?_;rintro e w3 ⟨rfl,⟨v1,h3⟩,hc3⟩;have hk3:=(hkB.alloc _).aB hc3 (fun e=>e.elim (fun e=>n2 e.symm) (fun e=>n6 e));have i0:=hk3.cell 0 _ rfl;have i1:=hk3.cell 1 _ rfl;have i2:=hk3.cell 2 _ rfl;have i3:=hk3.cell 3 _ rfl;have i4:=hk3.cell 4 _ rfl;simp only[List.getElem_toArray,List.getElem_cons_succ,List.getElem_cons_zero]at i0 i1 i2 i3 i4;have nC:=af h3;clear hdB hkB h1 hs1 hsz n1 n2 n3 n4 n5 n6 n7 h3 hc3 hk3 dL p2;go_wp2_with fail;refine(rS nC y hu eP ag).mono ?_;rintro e w4 ⟨rfl,h4,_⟩;have iK:=af h4;clear h4 nC;go_wp2_with fail;go_ret;exact⟨rfl,v1,by rw[←HO.out,←HY.out];exact iK⟩
theorem Vq
  (h:DS w0 w rb rc bb db ev aX aT bv es nv nt pc dc tk (bs++[b]) kn) (s:ByteArray) (hx:lastP es s es.length=none) (hf:jT s=none) (hes:es.length≤1000) (hl:bs.length≤10000000) (hc:dc.length≤10000000):
  Calls prog 164 #[ax db,.string s] w fun e w'=>e=.returned (ae 3)∧DS w0 w' rb rc bb db ev aX aT bv es nv nt pc dc tk (bs++[b]) kn:=by
 obtain⟨c0,c1,c2,c3⟩:=h.def;have H1:=af (Bd s h.sys hes);rw[hx]at H1;have HD:=af h;have HF:=af hf;clear h hx c1 c2 c3 hf;simp only[lastRes,PE.val,PE.zero,Inf.zero]at H1;go_enter func164,ntmps164;go_wp2_with fail;refine H1.mono ?_;rintro e w1 ⟨rfl,hb1⟩;have nV:=af (HD.below hb1);clear H1 hb1 HD;go_wp2_with fail;have nM:=nV.below (aQ.alloc aH (.cells #[.string ⟨#[]⟩,.bool false,ae 0,ae 0,ae 0,ae 0,ae 0,.bool (!true)] 153 (0,0)));have H2:=af (Je s _ nM.tab);rw[HF.out]at H2;refine H2.mono ?_;rintro e w2 ⟨rfl,hb2⟩;have dL:=af (nM.below hb2);clear nM hb2 H2 nV;simp only[opRes];go_wp2_with fail;go_ret;exact⟨rfl,dL⟩
theorem XA
  (h:DS w0 w rb rc bb db ev aX aT bv es nv nt pc dc tk (bs++[b]) kn) (s:ByteArray) (hx:lastP es s es.length=none) (hf:jT s=some 27) (hdo:b.iN=false) (hes:es.length≤1000) (hl:bs.length≤10000000) (hc:dc.length≤10000000):
  Calls prog 164 #[ax db,.string s] w fun e w'=>e=.returned (ae 5)∧DS w0 w' rb rc bb db ev aX aT bv es nv nt pc dc tk (bs++[b]) kn:=by
 obtain⟨c0,c1,c2,c3⟩:=h.def;have H1:=af (Bd s h.sys hes);rw[hx]at H1;have HD:=af h;have HF:=af hf;clear h hx c1 c2 c3 hf;simp only[lastRes,PE.val,PE.zero,Inf.zero]at H1;go_enter func164,ntmps164;go_wp2_with fail;refine H1.mono ?_;rintro e w1 ⟨rfl,hb1⟩;have nV:=af (HD.below hb1);clear H1 hb1 HD;go_wp2_with fail;have nM:=nV.below (aQ.alloc aH (.cells #[.string ⟨#[]⟩,.bool false,ae 0,ae 0,ae 0,ae 0,ae 0,.bool (!true)] 153 (0,0)));have H2:=af (Je s _ nM.tab);rw[HF.out]at H2;refine H2.mono ?_;rintro e w2 ⟨rfl,hb2⟩;have fT:=nM.below hb2;obtain⟨g,cap,hv,hcap,hge,hg,hfr,hcell⟩:=fT.last;have H3:=af (ko fT ag g cap hv hcap);have d1:w2.cell? (ai g (bs.length*17+1))=some (.bool b.iN):=hcell 1 _ rfl;rw[hdo]at d1;have dL:=af fT;clear nM hb2 H2 nV fT hcell hfr;simp only[opRes];go_wp2_with fail;refine H3.mono ?_;rintro e w3 ⟨rfl,hb3⟩;replace d1:=(hb3.cell (p:=ai g (bs.length*17+1)) hg).trans d1;have nC:=af (dL.below hb3);clear H3 hb3 dL;go_wp2_with fail;go_ret;exact⟨rfl,nC⟩
theorem VR
  (h:DS w0 w rb rc bb db ev aX aT bv es nv nt pc dc tk (bs++[b]) kn) (s:ByteArray) (k:Nat) (hx:lastP es s es.length=none) (hf:jT s=some k) (hdo:k≠27∨b.iN=true) (di:b.does.Ok) (hes:es.length≤1000) (hl:bs.length≤10000000) (hc:dc.length≤10000000):
  Calls prog 164 #[ax db,.string s] w fun e w'=>e=.returned (ae 0)∧(∃eo,DS w0 w' rb rc bb db ev aX eo bv es nv nt pc (dc++[(k:Int)]) tk (bs++[b.add (aL k)]) kn):=by
 have hk:=DJ hf;have eP:=af di;clear di;obtain⟨c0,c1,c2,c3⟩:=h.def;have H1:=af (Bd s h.sys hes);rw[hx]at H1;have HD:=af h;have HF:=af hf;clear h hx c1 c2 c3 hf;simp only[lastRes,PE.val,PE.zero,Inf.zero]at H1;go_enter func164,ntmps164;go_wp2_with fail;refine H1.mono ?_;rintro e w1 ⟨rfl,hb1⟩;have nV:=af (HD.below hb1);clear H1 hb1 HD;go_wp2_with fail;have nM:=nV.below (aQ.alloc aH (.cells #[.string ⟨#[]⟩,.bool false,ae 0,ae 0,ae 0,ae 0,ae 0,.bool (!true)] 153 (0,0)));have H2:=af (Je s _ nM.tab);rw[HF.out]at H2;refine H2.mono ?_;rintro e w2 ⟨rfl,hb2⟩;have fT:=nM.below hb2;obtain⟨g,cap,hv,hcap,hge,hg,hfr,hcell⟩:=fT.last;have H3:=af (ko fT ag g cap hv hcap);have d1:w2.cell? (ai g (bs.length*17+1))=some (.bool b.iN):=hcell 1 _ rfl;have dL:=af fT;clear nM hb2 H2 nV fT hcell hfr;simp only[opRes];have tail:∀w3,DS w0 w3 rb rc bb db ev aX aT bv es nv nt pc dc tk (bs++[b]) kn→True:=fun _ _=>trivial
 clear tail
 by_cases h27:k=27
 ·subst h27
  have hin:b.iN=true:=hdo.elim (fun e=>absurd rfl e) id;rw[hin]at d1;go_wp2_with fail;refine H3.mono ?_;rintro e w3 ⟨rfl,hb3⟩;replace d1:=(hb3.cell (p:=ai g (bs.length*17+1)) hg).trans d1;have nC:=af (dL.below hb3);clear H3 hb3 dL;go_wp2_with fail;refine(uV nC 27 aI [] (aC ⟨rfl,rfl⟩) ag).mono ?_;rintro e w4 ⟨rfl,⟨v1,h4⟩,_⟩;have iK:=af h4;clear h4 nC d1;go_wp2_with fail;refine(sD 27 w4 ag iK.tab).mono ?_;rintro e w5 ⟨rfl,hb5⟩;have ni:=af (iK.below hb5);clear iK hb5;go_wp2_with fail;refine(rS ni (aL 27) (wI 27 ag) eP ag).mono ?_;rintro e w6 ⟨rfl,h6,_⟩;have pA:=af h6;clear h6 ni;go_wp2_with fail;go_ret;exact⟨rfl,v1,pA⟩
 ·have hkb:((k:Int) == 27)=false:=by rw[beq_eq_false_iff_ne];omega
  have aei:(k:Int)<35:=ag;have HK:=af hk;clear hk h27 H3 d1;go_wp2_with fail;refine(uV dL k aI [] (aC ⟨rfl,rfl⟩) ag).mono ?_;rintro e w4 ⟨rfl,⟨v1,h4⟩,_⟩;have iK:=af h4;clear h4 dL;go_wp2_with fail;refine(sD k w4 HK iK.tab).mono ?_;rintro e w5 ⟨rfl,hb5⟩;have ni:=af (iK.below hb5);clear iK hb5;go_wp2_with fail;refine(rS ni (aL k) (wI k HK) eP ag).mono ?_;rintro e w6 ⟨rfl,h6,_⟩;have pA:=af h6;clear h6 ni;go_wp2_with fail;go_ret;exact⟨rfl,v1,pA⟩
end
section
open Go
theorem wZ(s:ByteArray):s.toList=s.data.toList:=by
 have:=lZ s.data.toList;simpa using this
theorem EZ(s:ByteArray):∀(l:List (ByteArray×Int×Int)) (j k:Nat),opFrom s l j=some k→∃i x,k=j+i∧l[i]?=some x∧x.1.toList=s.toList∧s.toList≠[]
 |[],j,k,h=>kK
 |x :: l,j,k,h=>by
  unfold opFrom at h
  split at h
  ·rename_i hc
   cases h
   exact⟨0,x,rfl,rfl,by simpa using hc.1,by simpa using hc.2⟩
  ·obtain⟨i,y,h1,h2,h3,h4⟩:=EZ s l (j+1) k h
   exact⟨i+1,y,ag,by simpa using h2,h3,h4⟩
theorem MX(s:ByteArray):∀(l:List (ByteArray×Int×Int)) (j:Nat),opFrom s l j=none→∀x∈l,x.1.toList=s.toList→s.toList=[]
 |[],j,h,x,hx,_=>(List.not_mem_nil hx).elim
 |y :: l,j,h,x,hx,e=>by
  unfold opFrom at h
  split at h
  ·cases h
  ·rename_i hc
   rcases er.1 hx with rfl|hx
   ·cases hs:(s.toList == [])with
    |true=>simpa using hs
    |false=>exact absurd ⟨by simpa using e,hs⟩ hc
   ·exact MX s l (j+1) h x hx e
theorem acp:∀k,k<35→(cP.getD k (⟨#[]⟩,0,0)).1.data.toList≠[]→k<28∧thereL (cP.getD k (⟨#[]⟩,0,0)).1.data.toList=((cP.getD k (⟨#[]⟩,0,0)).2.1,(cP.getD k (⟨#[]⟩,0,0)).2.2,true):=dJ
theorem XM:∀r∈tab,r.1≠[]∧∃x∈cP,x.1.data.toList=r.1:=dJ
theorem i_op:∀k,k<35→((cP.getD k (⟨#[]⟩,0,0)).1.data.toList=[105]↔k=27):=dJ
theorem Cc(h:jT s=some k):bD s=((cP.getD k (⟨#[]⟩,0,0)).2.1,(cP.getD k (⟨#[]⟩,0,0)).2.2,true)∧k<28∧(s.toList=[105]↔k=27):=by
 obtain⟨i,x,h1,h2,h3,h4⟩:=EZ s cP 0 k h;have hk:=DJ h;obtain rfl:k=i:=ag;have hx:cP.getD k (⟨#[]⟩,0,0)=x:=yt;have e:(cP.getD k (⟨#[]⟩,0,0)).1.data.toList=s.toList:=by rw[hx,←wZ];exact h3
 obtain⟨t1,t2⟩:=acp k hk (by rw[e];exact h4);have t3:=i_op k hk;rw[e]at t2 t3;exact⟨t2,t1,t3⟩
theorem W7(h:jT s=none):bD s=(0,0,false):=by
 unfold bD thereL
 have:tab.find? (fun r=>r.1 == s.toList)=none:=by
  rw[List.find?_eq_none];intro r hr hc;obtain⟨n1,x,hx,e⟩:=XM r hr;have hc':r.1=s.toList:=by simpa using hc
  have:=MX s cP 0 h x hx (by rw[wZ x.1,e,hc']);exact n1 (hc'.trans this)
 rw[this]
theorem Ym(h:jT s=some k):aL k=Inf.plain (bD s).1 (bD s).2.1:=by
 obtain⟨t1,t2,t3⟩:=Cc h;rw[t1];unfold aL Inf.plain;have:(k == 29)=false:=Fy;rw[this];rfl
end
section
open Go
def numL:List UInt8→Int→Option Int
 |[],n=>some n
 |c :: r,n=>if c.toNat<48∨57<c.toNat then none else numL r (sat n c.toNat)
theorem Jy(s:ByteArray)(k:Nat)(h:k<s.size):∃c,s.data.toList[k]?=some c∧c.toNat=aJ s k:=by
 refine⟨s[k],?_,tB s k h⟩;rw[Array.getElem?_toList,Array.getElem?_eq_getElem h];rfl
theorem Np(s:ByteArray):∀(f k:Nat) (n:Int),s.size≤k+f→numAt s f k n=numL (s.data.toList.drop k) n
 |0,k,n,h=>by
  have hl:s.data.toList.length=s.size:=kP;rw[List.drop_eq_nil_of_le ag];rfl
 |f+1,k,n,h=>by
  have hl:s.data.toList.length=s.size:=kP;unfold numAt
  by_cases hk:k<s.size
  ·rw[aG hk]
   obtain⟨c,hc,hb⟩:=Jy s k hk
   have hd:s.data.toList.drop k=c :: s.data.toList.drop (k+1):=by
    rw[qh ag];rw[bE ag]at hc;rw[fy hc]
   rw[hd,numL,hb,Np s f (k+1) _ ag]
  ·rw[az hk,List.drop_eq_nil_of_le ag];rfl
theorem N9:∀l:List UInt8,numL l 2147483649=none∨numL l 2147483649=some 2147483649
 |[]=>aA rfl
 |c :: r=>by
  unfold numL
  by_cases h:c.toNat<48∨57<c.toNat
  ·rw[aG h];exact aC rfl
  ·rw[az h]
   have:sat 2147483649 c.toNat=2147483649:=by unfold sat;rw[aG ag]
   rw[this];exact N9 r
def UN(r:Option Int):Lib.NumEnd Nat→Prop
 |.ok u=>r=some (min (u:Int) 2147483649)
 |.syntax=>r=none
 |.range=>r=none∨r=some 2147483649
theorem IU:∀(l:List UInt8) (a:Nat) (n:Int),n=min (a:Int) 2147483649→a≤4294967295→UN (numL l n) (Lib.parseUintM 4294967295 a l)
 |[],a,n,hn,ha=>by unfold Lib.parseUintM numL UN;simp only;rw[hn]
 |c :: r,a,n,hn,ha=>by
  unfold Lib.parseUintM numL
  by_cases h:48≤c.toNat∧c.toNat≤57
  ·rw[aG h,az (by omega:¬(c.toNat<48∨57<c.toNat)),az (by omega:¬1844674407370955162≤a)]
   by_cases hm:4294967295<a*10+(c.toNat - 48)
   ·rw[aG hm]
    have:sat n c.toNat=2147483649:=by unfold sat;rw[aG ag]
    rw[this];exact N9 r
   ·rw[az hm]
    refine IU r _ _ ?_ ag;unfold sat
    split<;>omega
  ·rw[az h,aG (by omega:(c.toNat<48∨57<c.toNat))]
   rfl
theorem Ew(s:ByteArray):(numP s).2=(dC s).2∧((numP s).2=true→(numP s).1=(dC s).1):=by
 have hl:s.data.toList.length=s.size:=kP;have hp:(2:Nat) ^ 32 - 1=4294967295:=aj;have hq:(2:Nat) ^ (32 - 1)=2147483648:=aj
 cases hd:s.data.toList with
 |nil=>
  rw[hd]at hl;have hz:s.size=0:=by simpa using hl.symm
  have h1:numP s=(0,false):=by unfold numP;rw[hd];rfl
  have h2:dC s=(0,false):=by unfold dC numFrom;rw[az ag,aG ag]
  rw[h1,h2];exact⟨rfl,fun h=>kK⟩
 |cons c r=>
  rw[hd]at hl;have hz:s.size=r.length+1:=by simpa using hl.symm
  obtain⟨c',hc',hb⟩:=Jy s 0 ag;rw[hd]at hc';obtain rfl:c=c':=by simpa using hc'
  have hA:∀k n,numAt s s.size k n=numL ((c :: r).drop k) n:=fun k n=>by rw[Np s _ _ _ ag,hd]
  unfold numP dC Lib.parseIntB;rw[hd];simp only
  by_cases h45:c.toNat=45
  ·rw[aG (by omega:0<s.size∧aJ s 0=45),aG (aA h45:c.toNat=43∨c.toNat=45)]
   unfold numFrom Lib.parseUintB
   cases r with
   |nil=>
    rw[aG (show s.size≤1 by simp at hz;omega)];exact⟨rfl,fun h=>kK⟩
   |cons d r'=>
    rw[az (show ¬s.size≤1 by simp at hz;omega),hA,az (List.cons_ne_nil _ _),hp];have hu:=IU (d :: r') 0 0 aj ag;simp only[List.drop_succ_cons,List.drop_zero]
    have hpre:Lib.hasPrefix (c :: d :: r') [43]=false:=by
     have:c≠43:=by rintro rfl;exact absurd h45 aj
     simp[Lib.hasPrefix,List.isPrefixOf,this.symm]
    rw[hpre]
    cases hm:Lib.parseUintM 4294967295 0 (d :: r')with
    |«syntax»=>rw[hm]at hu;simp only[UN]at hu;rw[hu];exact⟨rfl,fun h=>kK⟩
    |range=>
     exact Na
    |ok u=>
     rw[hm]at hu;simp only[UN]at hu;rw[hu];simp only[h45,hq]
     by_cases hx:2147483648<u
     ·simp[hx,qD];omega
     ·simp[hx,qD];omega
  ·rw[az (by omega:¬(0<s.size∧aJ s 0=45))]
   unfold numFrom;rw[az (by omega:¬s.size≤0),hA];simp only[List.drop_zero]
   by_cases h43:c.toNat=43
   ·have hc:c=43:=UInt8.toNat_inj.1 (by rw[h43];rfl)
    have hpre:Lib.hasPrefix (c :: r) [43]=true:=by simp[Lib.hasPrefix,List.isPrefixOf,hc]
    have hn:numL (c :: r) 0=none:=by unfold numL;rw[aG ag]
    rw[hn,hpre];simp only[if_true]
    constructor
    ·split<;>rfl
    ·intro h;split at h<;>cases h
   ·rw[az (by omega:¬(c.toNat=43∨c.toNat=45))]
    unfold Lib.parseUintB;rw[az (List.cons_ne_nil _ _),hp];have hu:=IU (c :: r) 0 0 aj ag
    have hpre:Lib.hasPrefix (c :: r) [43]=false:=by
     have:c≠43:=by rintro rfl;exact absurd h43 aj
     simp[Lib.hasPrefix,List.isPrefixOf,this.symm]
    rw[hpre]
    cases hm:Lib.parseUintM 4294967295 0 (c :: r)with
    |«syntax»=>rw[hm]at hu;simp only[UN]at hu;rw[hu];exact⟨rfl,fun h=>kK⟩
    |range=>
     exact Na
    |ok u=>
     rw[hm]at hu;simp only[UN]at hu;rw[hu];simp only[h45,hq]
     by_cases hx:2147483648≤u
     ·simp[hx,qD];omega
     ·simp[hx,qD];omega
end
section
theorem DS.tick
  (h:DS w0 w rb rc bb db ev aX aT bv es nv nt pc dc tk bs kn) (x:Int):DS w0 (w.setCell (ai db 1) (ae x)) rb rc bb db ev aX aT bv es nv nt pc dc x bs kn:=by
 have hrb:=h.aO.1;have hgb:=h.aO.2;have hc:aq (fun b=>b=db) w (w.setCell (ai db 1) (ae x)):=(aq.refl (fun b=>b=db) w).setCell (p:=ai db 1) rfl _;have n1:bb≠db:=E6;have n2:rb≠db:=Ex;have no:∀{base:Nat} {e:TypeId} {size n:Nat} {v:Value} {xs:List Value},w.ownsRow base e size v n xs→209≠e→∀k,v.ownBlock=some k→¬k=db:=fun ho hne k hk e=>aZ ho h.blk hne jr
 refine⟨h.sys.aB hc n1 (no h.sys.row aj) (no h.sys.bG aj),?_,aR h.bG hc (no h.bG aj),aR h.row hc (no h.row aj),h.tab.aB hc (fun k e=>zM),⟨hrb.aB hc n2,hgb.aB hc (fun e=>pK h.blk hgb aj e.symm)⟩,h.ru,h.tl,h.pre,h.new,h.loc,h.jS.fz hc (fun k hk e=>zj)⟩;have:=h.blk.set (o:=1) (ae x);simpa [kV]using this
theorem aaS
  (h:DS w0 w rb rc bb db ev aX aT bv es nv nt pc dc tk bs kn) (iT:0≤tk) (eE:tk≤1000000000) (s:ByteArray) (hs:(s.toList == [])=true):
  Calls prog 125 #[ax db,.string s] w fun e w'=>e=.returned (ae 5)∧DS w0 w' rb rc bb db ev aX aT bv es nv nt pc dc (tk+1) bs kn:=by
 obtain⟨c0,c1,c2,c3⟩:=h.def;have q1:=h.blk.frozen 1;have htk:(tk:Int)≤1000000000:=eE;have HT:=af (h.tick (tk+1));clear h c0 c2 c3 eE;have hsl:s.toList=[]:=tP;have g0:(s.toList == [])=true:=cn;have g1:(s.toList == [58])=false:=cn;exact Lt
theorem acj
  (h:DS w0 w rb rc bb db ev aX aT bv es nv nt pc dc tk bs kn) (iT:0≤tk) (eE:tk≤1000000000) (s:ByteArray) (hs:(s.toList == [58])=true):
  Calls prog 125 #[ax db,.string s] w fun e w'=>e=.returned (ae 5)∧DS w0 w' rb rc bb db ev aX aT bv es nv nt pc dc (tk+1) bs kn:=by
 obtain⟨c0,c1,c2,c3⟩:=h.def;have q1:=h.blk.frozen 1;have htk:(tk:Int)≤1000000000:=eE;have HT:=af (h.tick (tk+1));clear h c0 c2 c3 eE;have hsl:s.toList=[58]:=tP;have g0:(s.toList == [])=false:=cn;have g1:(s.toList == [58])=true:=cn;exact Lt
theorem Vz
  (h:DS w0 w rb rc bb db ev aX aT bv es nv nt pc dc tk bs kn) (iT:0≤tk) (eE:tk≤1000000000) (s:ByteArray) (hs:(s.toList == [118,97,114,105,97,98,108,101])=true):
  Calls prog 125 #[ax db,.string s] w fun e w'=>e=.returned (ae 5)∧DS w0 w' rb rc bb db ev aX aT bv es nv nt pc dc (tk+1) bs kn:=by
 obtain⟨c0,c1,c2,c3⟩:=h.def;have q1:=h.blk.frozen 1;have htk:(tk:Int)≤1000000000:=eE;have HT:=af (h.tick (tk+1));clear h c0 c2 c3 eE;have hsl:s.toList=[118,97,114,105,97,98,108,101]:=tP;have g0:(s.toList == [])=false:=cn;have g1:(s.toList == [58])=false:=cn;have g2:(s.toList == [118,97,114,105,97,98,108,101])=true:=cn;exact Qp
theorem Tz
  (h:DS w0 w rb rc bb db ev aX aT bv es nv nt pc dc tk bs kn) (iT:0≤tk) (eE:tk≤1000000000) (s:ByteArray) (hs:(s.toList == [59])=true) (Q:Int→World→Prop)
  (hX:∀w',DS w0 w' rb rc bb db ev aX aT bv es nv nt pc dc (tk+1) bs kn→Calls prog 156 #[ax db] w' fun e w''=>∃r,e=.returned (ae r)∧Q r w''):
  Calls prog 125 #[ax db,.string s] w fun e w'=>∃r,e=.returned (ae r)∧Q r w':=by
 obtain⟨c0,c1,c2,c3⟩:=h.def;have q1:=h.blk.frozen 1;have htk:(tk:Int)≤1000000000:=eE;have HT:=af (h.tick (tk+1));clear h c0 c2 c3 eE;have hsl:s.toList=[59]:=tP;have g0:(s.toList == [])=false:=cn;have g1:(s.toList == [58])=false:=cn;have g2:(s.toList == [118,97,114,105,97,98,108,101])=false:=cn;have g3:(s.toList == [59])=true:=cn;have g4:(s.toList == [105,102])=false:=cn;have g5:(s.toList == [101,108,115,101])=false:=cn;exact F3
theorem Y4
  (h:DS w0 w rb rc bb db ev aX aT bv es nv nt pc dc tk bs kn) (iT:0≤tk) (eE:tk≤1000000000) (s:ByteArray) (hs:(s.toList == [105,102])=true) (Q:Int→World→Prop)
  (hX:∀w',DS w0 w' rb rc bb db ev aX aT bv es nv nt pc dc (tk+1) bs kn→Calls prog 157 #[ax db] w' fun e w''=>∃r,e=.returned (ae r)∧Q r w''):
  Calls prog 125 #[ax db,.string s] w fun e w'=>∃r,e=.returned (ae r)∧Q r w':=by
 obtain⟨c0,c1,c2,c3⟩:=h.def;have q1:=h.blk.frozen 1;have htk:(tk:Int)≤1000000000:=eE;have HT:=af (h.tick (tk+1));clear h c0 c2 c3 eE;have hsl:s.toList=[105,102]:=tP;have g0:(s.toList == [])=false:=cn;have g1:(s.toList == [58])=false:=cn;have g2:(s.toList == [118,97,114,105,97,98,108,101])=false:=cn;have g3:(s.toList == [59])=false:=cn;have g4:(s.toList == [105,102])=true:=cn;have g5:(s.toList == [101,108,115,101])=false:=cn;exact F3
theorem VA
  (h:DS w0 w rb rc bb db ev aX aT bv es nv nt pc dc tk bs kn) (iT:0≤tk) (eE:tk≤1000000000) (s:ByteArray) (hs:(s.toList == [101,108,115,101])=true) (Q:Int→World→Prop)
  (hX:∀w',DS w0 w' rb rc bb db ev aX aT bv es nv nt pc dc (tk+1) bs kn→Calls prog 158 #[ax db] w' fun e w''=>∃r,e=.returned (ae r)∧Q r w''):
  Calls prog 125 #[ax db,.string s] w fun e w'=>∃r,e=.returned (ae r)∧Q r w':=by
 obtain⟨c0,c1,c2,c3⟩:=h.def;have q1:=h.blk.frozen 1;have htk:(tk:Int)≤1000000000:=eE;have HT:=af (h.tick (tk+1));clear h c0 c2 c3 eE;have hsl:s.toList=[101,108,115,101]:=tP;have g0:(s.toList == [])=false:=cn;have g1:(s.toList == [58])=false:=cn;have g2:(s.toList == [118,97,114,105,97,98,108,101])=false:=cn;have g3:(s.toList == [59])=false:=cn;have g4:(s.toList == [105,102])=false:=cn;have g5:(s.toList == [101,108,115,101])=true:=cn;exact F3
theorem ZE
  (h:DS w0 w rb rc bb db ev aX aT bv es nv nt pc dc tk bs kn) (iT:0≤tk) (eE:tk≤1000000000) (s:ByteArray) (hs:(s.toList == [116,104,101,110])=true) (Q:Int→World→Prop)
  (hX:∀w',DS w0 w' rb rc bb db ev aX aT bv es nv nt pc dc (tk+1) bs kn→Calls prog 159 #[ax db] w' fun e w''=>∃r,e=.returned (ae r)∧Q r w''):
  Calls prog 125 #[ax db,.string s] w fun e w'=>∃r,e=.returned (ae r)∧Q r w':=by
 obtain⟨c0,c1,c2,c3⟩:=h.def;have q1:=h.blk.frozen 1;have htk:(tk:Int)≤1000000000:=eE;have HT:=af (h.tick (tk+1));clear h c0 c2 c3 eE;have hsl:s.toList=[116,104,101,110]:=tP;have g0:(s.toList == [])=false:=cn;have g1:(s.toList == [58])=false:=cn;have g2:(s.toList == [118,97,114,105,97,98,108,101])=false:=cn;have g3:(s.toList == [59])=false:=cn;have g4:(s.toList == [105,102])=false:=cn;have g5:(s.toList == [101,108,115,101])=false:=cn;have g6:(s.toList == [116,104,101,110])=true:=cn;have g7:(s.toList == [100,111])=false:=cn;exact IY
theorem Yw
  (h:DS w0 w rb rc bb db ev aX aT bv es nv nt pc dc tk bs kn) (iT:0≤tk) (eE:tk≤1000000000) (s:ByteArray) (hs:(s.toList == [100,111])=true) (Q:Int→World→Prop)
  (hX:∀w',DS w0 w' rb rc bb db ev aX aT bv es nv nt pc dc (tk+1) bs kn→Calls prog 160 #[ax db] w' fun e w''=>∃r,e=.returned (ae r)∧Q r w''):
  Calls prog 125 #[ax db,.string s] w fun e w'=>∃r,e=.returned (ae r)∧Q r w':=by
 obtain⟨c0,c1,c2,c3⟩:=h.def;have q1:=h.blk.frozen 1;have htk:(tk:Int)≤1000000000:=eE;have HT:=af (h.tick (tk+1));clear h c0 c2 c3 eE;have hsl:s.toList=[100,111]:=tP;have g0:(s.toList == [])=false:=cn;have g1:(s.toList == [58])=false:=cn;have g2:(s.toList == [118,97,114,105,97,98,108,101])=false:=cn;have g3:(s.toList == [59])=false:=cn;have g4:(s.toList == [105,102])=false:=cn;have g5:(s.toList == [101,108,115,101])=false:=cn;have g6:(s.toList == [116,104,101,110])=false:=cn;have g7:(s.toList == [100,111])=true:=cn;exact IY
theorem XZ
  (h:DS w0 w rb rc bb db ev aX aT bv es nv nt pc dc tk bs kn) (iT:0≤tk) (eE:tk≤1000000000) (s:ByteArray) (hs:(s.toList == [108,111,111,112])=true) (Q:Int→World→Prop)
  (hX:∀w',DS w0 w' rb rc bb db ev aX aT bv es nv nt pc dc (tk+1) bs kn→Calls prog 161 #[ax db] w' fun e w''=>∃r,e=.returned (ae r)∧Q r w''):
  Calls prog 125 #[ax db,.string s] w fun e w'=>∃r,e=.returned (ae r)∧Q r w':=by
 obtain⟨c0,c1,c2,c3⟩:=h.def;have q1:=h.blk.frozen 1;have htk:(tk:Int)≤1000000000:=eE;have HT:=af (h.tick (tk+1));clear h c0 c2 c3 eE;have hsl:s.toList=[108,111,111,112]:=tP;have g0:(s.toList == [])=false:=cn;have g1:(s.toList == [58])=false:=cn;have g2:(s.toList == [118,97,114,105,97,98,108,101])=false:=cn;have g3:(s.toList == [59])=false:=cn;have g4:(s.toList == [105,102])=false:=cn;have g5:(s.toList == [101,108,115,101])=false:=cn;have g6:(s.toList == [116,104,101,110])=false:=cn;have g7:(s.toList == [100,111])=false:=cn;have g8:(s.toList == [108,111,111,112])=true:=cn;clear hs hsl;have HX:=af (hX _ HT);clear hX HT;go_enter func125,ntmps125;go_wp2_with fail;refine HX.mono ?_;rintro e w1 ⟨r,rfl,hq⟩;have HQ:=af hq;clear hq HX;go_wp2_with fail;go_ret;exact⟨r,rfl,HQ⟩
theorem ZM
  (h:DS w0 w rb rc bb db ev aX aT bv es nv nt pc dc tk bs kn) (iT:0≤tk) (eE:tk≤1000000000) (s:ByteArray) (hsz:s.size≤100000000) (g0:(s.toList == [])=false) (g1:(s.toList == [58])=false) (g2:(s.toList == [118,97,114,105,97,98,108,101])=false) (g3:(s.toList == [59])=false) (g4:(s.toList == [105,102])=false) (g5:(s.toList == [101,108,115,101])=false) (g6:(s.toList == [116,104,101,110])=false) (g7:(s.toList == [100,111])=false) (g8:(s.toList == [108,111,111,112])=false) (hnum:(numP s).2=true) (Q:Int→World→Prop)
  (hX:∀w',DS w0 w' rb rc bb db ev aX aT bv es nv nt pc dc (tk+1) bs kn→Calls prog 163 #[ax db,ae (numP s).1] w' fun e w''=>∃r,e=.returned (ae r)∧Q r w''):
  Calls prog 125 #[ax db,.string s] w fun e w'=>∃r,e=.returned (ae r)∧Q r w':=by
 obtain⟨c0,c1,c2,c3⟩:=h.def;have q1:=h.blk.frozen 1;have htk:(tk:Int)≤1000000000:=eE;have HT:=af (h.tick (tk+1));clear h c0 c2 c3 eE;have HN:=af (Ip s _ hsz HT.tab);rw[hnum]at HN;have HX:=af hX;clear hX hnum hsz;obtain⟨n,hn⟩:=ak ((numP s).1);rw[←hn]at HN HX;clear hn;go_enter func125,ntmps125;exact RQ
theorem Yo
  (h:DS w0 w rb rc bb db ev aX aT bv es nv nt pc dc tk bs kn) (iT:0≤tk) (eE:tk≤1000000000) (s:ByteArray) (hsz:s.size≤100000000) (g0:(s.toList == [])=false) (g1:(s.toList == [58])=false) (g2:(s.toList == [118,97,114,105,97,98,108,101])=false) (g3:(s.toList == [59])=false) (g4:(s.toList == [105,102])=false) (g5:(s.toList == [101,108,115,101])=false) (g6:(s.toList == [116,104,101,110])=false) (g7:(s.toList == [100,111])=false) (g8:(s.toList == [108,111,111,112])=false) (hnum:(numP s).2=false) (Q:Int→World→Prop)
  (hX:∀w',DS w0 w' rb rc bb db ev aX aT bv es nv nt pc dc (tk+1) bs kn→Calls prog 164 #[ax db,.string s] w' fun e w''=>∃r,e=.returned (ae r)∧Q r w''):
  Calls prog 125 #[ax db,.string s] w fun e w'=>∃r,e=.returned (ae r)∧Q r w':=by
 obtain⟨c0,c1,c2,c3⟩:=h.def;have q1:=h.blk.frozen 1;have htk:(tk:Int)≤1000000000:=eE;have HT:=af (h.tick (tk+1));clear h c0 c2 c3 eE;have HN:=af (Ip s _ hsz HT.tab);rw[hnum]at HN;have HX:=af hX;clear hX hnum hsz;obtain⟨n,hn⟩:=ak ((numP s).1);rw[←hn]at HN;clear hn;go_enter func125,ntmps125;exact RQ
end
section
abbrev SR:=Int×List Int×List PB×Inf
def stepW(es:List PE)(dc:List Int)(b:PB)(r:List PB)(kn:Inf)(s:ByteArray):SR:=
 match lastP es s es.length with
 |some x=>(0,dc++[x.op,x.place],b.add x.use :: r,kn)
 |none=>
  match jT s with
  |none=>(3,dc,b :: r,kn)
  |some k=>if k=27∧b.iN=false then(5,dc,b :: r,kn)else(0,dc++[(k:Int)],b.add (aL k) :: r,kn)
def stepP(es:List PE)(nt tk:Int)(dc:List Int)(st:List PB)(kn:Inf)(s:ByteArray):SR:=
 match st with
 |[]=>(5,dc,[],kn)
 |b :: r=>
  if(s.toList == [])=true then(5,dc,b :: r,kn)
  else if(s.toList == [58])=true then(5,dc,b :: r,kn)
  else if(s.toList == [118,97,114,105,97,98,108,101])=true then(5,dc,b :: r,kn)
  else if(s.toList == [59])=true then
   if b.opener=34 then(nY (b.does.then (aL 34)).steps nt tk,dc++[34],[],b.does.then (aL 34))else(5,dc,b :: r,kn)
  else if(s.toList == [105,102])=true then(0,dc++[29,0],PB.opened {PB.zero with opener:=29} (b.add (aL 29)) (dc.length+2) :: b.add (aL 29) :: r,kn)
  else if(s.toList == [101,108,115,101])=true then
   if b.opener=29 then
    match r with
    |[]=>(5,dc,b :: r,kn)
    |c :: r'=>(0,(dc++[30,0]).set b.hole.toNat (dc.length+2),PB.opened {PB.zero with opener:=30,other:=b.does.then (aL 30)} c (dc.length+2) :: c :: r',kn)
   else(5,dc,b :: r,kn)
  else if(s.toList == [116,104,101,110])=true then
   if b.opener=29∨b.opener=30 then
    if b.does.aM=b.other.aM then
     match r with
     |[]=>(5,dc,b :: r,kn)
     |c :: r'=>(0,dc.set b.hole.toNat dc.length,c.add (b.does.gY b.other) :: r',kn)
    else(6,dc,b :: r,kn)
   else(5,dc,b :: r,kn)
  else if(s.toList == [100,111])=true then
   if b.numbers<2 then(5,dc,b :: r,kn)
   else if 1000<max 0 (b.a0 - b.a1)then(7,dc,b :: r,kn)
   else(0,dc++[31,0],PB.opened {PB.zero with opener:=31,times:=max 0 (b.a0 - b.a1)} (b.add (aL 31)) (dc.length+2) :: b.add (aL 31) :: r,kn)
  else if(s.toList == [108,111,111,112])=true then
   if b.opener=31 then
    if b.does.aM=0 then
     match r with
     |[]=>(5,dc,b :: r,kn)
     |c :: r'=>(0,(dc++[32,(b.hole.toNat:Int)+1]).set b.hole.toNat (dc.length+2),c.add ((b.does.then (aL 32)).je b.times) :: r',kn)
    else(6,dc,b :: r,kn)
   else(5,dc,b :: r,kn)
  else if(numP s).2=true then(0,dc++[28,(numP s).1],{b.add (aL 28)with numbers:=min (b.numbers+1) 2,a0:=b.a1,a1:=(numP s).1} :: r,kn)
  else stepW es dc b r kn s
def K2(w0:World)(rb:Nat)(rc:RC)(bb db:Nat)(ev aX:Value)(es:List PE)(nv nt:Int)(pc:List Int)(tk:Int)(R:SR)(r:Int)(w':World):Prop:=
 r=R.1∧∃eo eK eh st' lR,DS w0 w' rb rc bb db ev aX eo eK es nv nt pc eh tk (List.reverse st') lR∧(r=0→eh=R.2.1∧st'=R.2.2.1∧lR=R.2.2.2)
structure pz (b:PB):Prop where
 n0:0≤b.numbers
 n1:b.numbers≤2
 a0: -2147483648≤b.a0
 a1:b.a0≤2147483647
 b0: -2147483648≤b.a1
 b1:b.a1≤2147483647
 t0:0≤b.times
 t1:b.times≤1000
def ju(pn dn:Nat):List PB→Prop
 |[]=>False
 |[b]=>b.opener=34∧pz b
 |b :: c :: r=>(b.opener=29∨b.opener=30∨b.opener=31)∧(∃k:Nat,b.hole=k∧pn≤k∧k<dn)∧pz b∧ju pn dn (c :: r)
def WB:List PB→Nat→Prop
 |[],_=>True
 |b :: r,q=>∃q1 q2:Nat,b.does.Wt q1∧b.other.Wt q2∧q1+q2≤q∧WB r (q - q1 - q2)
theorem Inf.Wt.gY{b:Inf}{q r:Int}(ha:a.Wt q)(hb:b.Wt r)(hq:0≤q)(hr:0≤r):(a.gY b).Wt (q+r):=by
 obtain⟨a1,a2,a3,a4,a5,a6,a7,a8⟩:=ha;obtain⟨b1,b2,b3,b4,b5,b6,b7,b8⟩:=hb
 constructor<;>simp only[Inf.gY]<;>omega
theorem Inf.Wt.je{q n:Int}(ha:a.Wt q)(hq:0≤q)(h0:0≤n):(a.je n).Wt q:=by
 obtain⟨a1,a2,a3,a4,a5,a6,a7,a8⟩:=ha;have hp:0≤a.steps*n:=Int.mul_nonneg a7 h0;unfold Inf.je
 split<;>constructor<;>simp only<;>omega
theorem uY(k:Nat)(h:k<35):(aL k).Wt 1:=by
 obtain⟨a,b,c,d⟩:=Bz k h
 constructor<;>simp only[aL]<;>omega
theorem ju.Dt(h:ju pn dn (b :: r)):pz b:=by
 cases r with
 |nil=>exact h.2
 |cons c r=>exact h.2.2.1
theorem ju.base(h:ju pn dn (b :: r))(ho:b.opener=34):r=[]:=by
 cases r with
 |nil=>rfl
 |cons c r=>obtain⟨h1,_⟩:=h;omega
theorem ju.inner(h:ju pn dn (b :: r))(ho:b.opener≠34):∃c r',r=c :: r'∧(∃k:Nat,b.hole=k∧pn≤k∧k<dn)∧ju pn dn (c :: r'):=by
 cases r with
 |nil=>exact absurd h.1 ho
 |cons c r=>exact⟨c,r,rfl,h.2.1,h.2.2.2⟩
end
section
theorem D7(es:List PE)(s:ByteArray):∀(n:Nat) (x:PE),n≤es.length→lastP es s n=some x→x∈es
 |0,x,_,h=>kK
 |n+1,x,hn,h=>by
  unfold lastP at h
  split at h
  ·have hx:es.getD n PE.zero=es[n]' ag:=by simp[show n<es.length by omega]
   rw[hx]at h
   cases h
   exact nS _
  ·exact D7 es s n x ag h
theorem PE.LQ{x:PE}(h:x.inf.Wt 1):x.use.Wt 2:=by
 unfold PE.use
 split
 ·exact(uY 28 ag).mono ag
 ·have:=(uY 33 ag).then h ag ag
  exact this.mono ag
theorem WB.head(h:WB (b :: r) q):∃q1:Nat,q1≤q∧b.does.Wt q1:=by
 obtain⟨q1,q2,h1,_,h3,_⟩:=h;exact⟨q1,ag,h1⟩
theorem WB.other(h:WB (b :: r) q):∃q1 q2:Nat,q1+q2≤q∧b.does.Wt q1∧b.other.Wt q2∧WB r (q - q1 - q2):=by
 obtain⟨q1,q2,h1,h2,h3,h4⟩:=h;exact⟨q1,q2,h3,h1,h2,h4⟩
theorem acx
  (h:DS w0 w rb rc bb db ev aX aT bv es nv nt pc dc tk (List.reverse (b :: r)) kn) (s:ByteArray) (hsz:s.size≤100000000) (hes:es.length≤1000) (hwt:∀x∈es,x.inf.Wt 1)
  (hi:ju pc.length dc.length (b :: r)) (q:Nat) (hw:WB (b :: r) q) (hq:q≤5000000) (hl:r.length≤5000000) (hc:dc.length≤5000000) (iT:0≤tk) (eE:tk≤5000000) (Eg:0≤nt) (DF:nt≤100000):
  Calls prog 125 #[ax db,.string s] w fun e w'=>∃x,e=.returned (ae x)∧K2 w0 rb rc bb db ev aX es nv nt pc (tk+1) (stepP es nt (tk+1) dc (b :: r) kn s) x w':=by
 obtain⟨R,hR⟩:=ak (stepP es nt (tk+1) dc (b :: r) kn s);rw[←hR];have hrev:List.reverse (b :: r)=List.reverse r++[b]:=aF;have hrl:(List.reverse r).length=r.length:=aF;rw[hrev]at h;have eJ:=hi.Dt;obtain⟨q1,sw,iC⟩:=hw.head;have hdo:b.does.Ok:=iC.ok ag ag
 have bad:∀(E:Int) (hE:E≠0) (hRe:R.1=E) (w':World),DS w0 w' rb rc bb db ev aX aT bv es nv nt pc dc (tk+1) (List.reverse r++[b]) kn→K2 w0 rb rc bb db ev aX es nv nt pc (tk+1) R E w':=
  fun E hE hRe w' hd=>⟨hRe.symm,_,_,_,b :: r,_,by rw[hrev];exact hd,fun e=>absurd e hE⟩
 by_cases g0:(s.toList == [])=true
 ·have hRe:R.1=5:=by rw[hR];unfold stepP;simp[g0]
  refine(aaS h iT ag s g0).mono ?_;rintro e w1 ⟨rfl,hd⟩;exact⟨5,rfl,bad 5 aj hRe w1 hd⟩
 have f0:(s.toList == [])=false:=by simpa using g0
 by_cases g1:(s.toList == [58])=true
 ·have hRe:R.1=5:=by rw[hR];unfold stepP;simp[f0,g1]
  refine(acj h iT ag s g1).mono ?_;rintro e w1 ⟨rfl,hd⟩;exact⟨5,rfl,bad 5 aj hRe w1 hd⟩
 have f1:(s.toList == [58])=false:=by simpa using g1
 by_cases g2:(s.toList == [118,97,114,105,97,98,108,101])=true
 ·have hRe:R.1=5:=by rw[hR];unfold stepP;simp[f0,f1,g2]
  refine(Vz h iT ag s g2).mono ?_;rintro e w1 ⟨rfl,hd⟩;exact⟨5,rfl,bad 5 aj hRe w1 hd⟩
 have f2:(s.toList == [118,97,114,105,97,98,108,101])=false:=by simpa using g2
 by_cases g3:(s.toList == [59])=true
 ·refine Tz h iT ag s g3 _ (fun w1 hd=>?_)
  by_cases ho:b.opener=34
  ·have np:=hi.base ho
   subst np;simp only[List.reverse_nil,List.nil_append]at hd;have hRe:R=(nY (b.does.then (aL 34)).steps nt (tk+1),dc++[34],[],b.does.then (aL 34)):=by rw[hR];unfold stepP;simp[f0,f1,f2,g3,ho]
   refine(Uw hd ho hdo ag Eg DF ag ag).mono ?_;rintro e w2 ⟨rfl,eo,eK,bs',cq,h0⟩;refine⟨_,rfl,uw,eo,eK,_,List.reverse bs',_,by rw[List.reverse_reverse];exact cq,fun e0=>?_⟩;have:=h0 e0;rw[hRe,this];exact⟨rfl,rfl,rfl⟩
  ·have hRe:R.1=5:=by rw[hR];unfold stepP;simp[f0,f1,f2,g3,ho]
   refine(YE hd ho ag).mono ?_;rintro e w2 ⟨rfl,cq⟩;exact⟨5,rfl,bad 5 aj hRe w2 cq⟩
 have f3:(s.toList == [59])=false:=by simpa using g3
 by_cases g4:(s.toList == [105,102])=true
 ·have hRe:R=(0,dc++[29,0],PB.opened {PB.zero with opener:=29} (b.add (aL 29)) (dc.length+2) :: b.add (aL 29) :: r,kn):=by rw[hR];unfold stepP;simp[f0,f1,f2,f3,g4]
  refine Y4 h iT ag s g4 _ (fun w1 hd=>?_);refine(Ua hd hdo ag ag).mono ?_;rintro e w2 ⟨rfl,eo,eK,cq⟩;refine⟨0,rfl,uw,eo,eK,_,PB.opened {PB.zero with opener:=29} (b.add (aL 29)) (dc.length+2) :: b.add (aL 29) :: r,_,vP,fun _=>wF⟩
 have f4:(s.toList == [105,102])=false:=by simpa using g4
 by_cases g5:(s.toList == [101,108,115,101])=true
 ·refine VA h iT ag s g5 _ (fun w1 hd=>?_)
  by_cases ho:b.opener=29
  ·obtain⟨c,r',rfl,⟨k,hk,bA,hk2⟩,ky⟩:=hi.inner ag
   have hkn:b.hole.toNat=k:=xV;have hRe:R=(0,(dc++[30,0]).set k (dc.length+2),PB.opened {PB.zero with opener:=30,other:=b.does.then (aL 30)} c (dc.length+2) :: c :: r',kn):=by rw[hR];unfold stepP;simp[f0,f1,f2,f3,f4,g5,ho,hkn]
   have hd':DS w0 w1 rb rc bb db ev aX aT bv es nv nt pc dc (tk+1) (List.reverse r'++[c]++[b]) kn:=DT;refine(Ys hd' ho hdo k hk bA hk2 GZ ag).mono ?_;rintro e w2 ⟨rfl,eo,eK,cq⟩;refine⟨0,rfl,uw,eo,eK,_,PB.opened {PB.zero with opener:=30,other:=b.does.then (aL 30)} c (dc.length+2) :: c :: r',_,vP,fun _=>wF⟩
  ·have hRe:R.1=5:=by rw[hR];unfold stepP;simp[f0,f1,f2,f3,f4,g5,ho]
   refine(adr hd ho ag).mono ?_;rintro e w2 ⟨rfl,cq⟩;exact⟨5,rfl,bad 5 aj hRe w2 cq⟩
 have f5:(s.toList == [101,108,115,101])=false:=by simpa using g5
 by_cases g6:(s.toList == [116,104,101,110])=true
 ·refine ZE h iT ag s g6 _ (fun w1 hd=>?_)
  by_cases ho:b.opener=29∨b.opener=30
  ·by_cases hn:b.does.aM=b.other.aM
   ·obtain⟨c,r',rfl,⟨k,hk,bA,hk2⟩,ky⟩:=hi.inner ag
    have hkn:b.hole.toNat=k:=xV;obtain⟨p1,p2,hp,hw1,hw2,hw3⟩:=hw.other;obtain⟨p3,oF,hw4⟩:=hw3.head;have hRe:R=(0,dc.set k dc.length,c.add (b.does.gY b.other) :: r',kn):=by rw[hR];unfold stepP;simp[f0,f1,f2,f3,f4,f5,g6,ho,hn,hkn]
    have hd':DS w0 w1 rb rc bb db ev aX aT bv es nv nt pc dc (tk+1) (List.reverse r'++[c]++[b]) kn:=DT;refine(Xv hd' ho hn k hk bA hk2 ((hw1.gY hw2 ag ag).ok ag ag) (hw4.ok ag ag) GZ ag).mono ?_;rintro e w2 ⟨rfl,eo,eK,cq⟩;refine⟨0,rfl,uw,eo,eK,_,c.add (b.does.gY b.other) :: r',_,vP,fun _=>wF⟩
   ·have hRe:R.1=6:=by rw[hR];unfold stepP;simp[f0,f1,f2,f3,f4,f5,g6,ho,hn]
    refine(Z0 hd ho hn ag).mono ?_;rintro e w2 ⟨rfl,cq⟩;exact⟨6,rfl,bad 6 aj hRe w2 cq⟩
  ·have hRe:R.1=5:=by rw[hR];unfold stepP;simp[f0,f1,f2,f3,f4,f5,g6,ho]
   refine(adw hd (fun e=>ho (aC e)) (fun e=>ho (aA e)) ag).mono ?_;rintro e w2 ⟨rfl,cq⟩;exact⟨5,rfl,bad 5 aj hRe w2 cq⟩
 have f6:(s.toList == [116,104,101,110])=false:=by simpa using g6
 by_cases g7:(s.toList == [100,111])=true
 ·refine Yw h iT ag s g7 _ (fun w1 hd=>?_)
  by_cases hn:b.numbers<2
  ·have hRe:R.1=5:=by rw[hR];unfold stepP;simp[f0,f1,f2,f3,f4,f5,f6,g7,hn]
   refine(abj hd hn ag).mono ?_;rintro e w2 ⟨rfl,cq⟩;exact⟨5,rfl,bad 5 aj hRe w2 cq⟩
  ·by_cases hm:1000<max 0 (b.a0 - b.a1)
   ·have hRe:R.1=7:=by rw[hR];unfold stepP;simp only[f0,f1,f2,f3,f4,f5,f6,g7,hn,hm,if_true,if_false,Bool.false_eq_true]
    refine(ZW hd hn eJ.a0 eJ.a1 eJ.b0 eJ.b1 ag ag).mono ?_;rintro e w2 ⟨rfl,cq⟩;exact⟨7,rfl,bad 7 aj hRe w2 cq⟩
   ·have hRe:R=(0,dc++[31,0],PB.opened {PB.zero with opener:=31,times:=max 0 (b.a0 - b.a1)} (b.add (aL 31)) (dc.length+2) :: b.add (aL 31) :: r,kn):=by rw[hR];unfold stepP;simp only[f0,f1,f2,f3,f4,f5,f6,g7,hn,hm,if_true,if_false,Bool.false_eq_true]
    refine(S5 hd hn eJ.a0 eJ.a1 eJ.b0 eJ.b1 hm hdo ag ag).mono ?_;rintro e w2 ⟨rfl,eo,eK,cq⟩;refine⟨0,rfl,uw,eo,eK,_,PB.opened {PB.zero with opener:=31,times:=max 0 (b.a0 - b.a1)} (b.add (aL 31)) (dc.length+2) :: b.add (aL 31) :: r,_,vP,fun _=>wF⟩
 have f7:(s.toList == [100,111])=false:=by simpa using g7
 by_cases g8:(s.toList == [108,111,111,112])=true
 ·refine XZ h iT ag s g8 _ (fun w1 hd=>?_)
  by_cases ho:b.opener=31
  ·by_cases hn:b.does.aM=0
   ·obtain⟨c,r',rfl,⟨k,hk,bA,hk2⟩,ky⟩:=hi.inner ag
    have hkn:b.hole.toNat=k:=xV;obtain⟨p1,p2,hp,hw1,hw2,hw3⟩:=hw.other;obtain⟨p3,oF,hw4⟩:=hw3.head;have hwl:=hw1.then (uY 32 ag) ag ag;have hRe:R=(0,(dc++[32,(k:Int)+1]).set k (dc.length+2),c.add ((b.does.then (aL 32)).je b.times) :: r',kn):=by rw[hR];unfold stepP;simp[f0,f1,f2,f3,f4,f5,f6,f7,g8,ho,hn,hkn]
    have hd':DS w0 w1 rb rc bb db ev aX aT bv es nv nt pc dc (tk+1) (List.reverse r'++[c]++[b]) kn:=DT;refine(Ts hd' ho hn k hk bA hk2 eJ.t0 eJ.t1 hdo (hwl.ok ag ag) ((hwl.je ag eJ.t0).ok ag ag) (hw4.ok ag ag) GZ ag).mono ?_;rintro e w2 ⟨rfl,eo,eK,cq⟩;refine⟨0,rfl,uw,eo,eK,_,c.add ((b.does.then (aL 32)).je b.times) :: r',_,vP,fun _=>wF⟩
   ·have hRe:R.1=6:=by rw[hR];unfold stepP;simp[f0,f1,f2,f3,f4,f5,f6,f7,g8,ho,hn]
    refine(TT hd ho hn ag).mono ?_;rintro e w2 ⟨rfl,cq⟩;exact⟨6,rfl,bad 6 aj hRe w2 cq⟩
  ·have hRe:R.1=5:=by rw[hR];unfold stepP;simp[f0,f1,f2,f3,f4,f5,f6,f7,g8,ho]
   refine(Wv hd ho ag).mono ?_;rintro e w2 ⟨rfl,cq⟩;exact⟨5,rfl,bad 5 aj hRe w2 cq⟩
 have f8:(s.toList == [108,111,111,112])=false:=by simpa using g8
 by_cases hnum:(numP s).2=true
 ·have hRe:R=(0,dc++[28,(numP s).1],{b.add (aL 28)with numbers:=min (b.numbers+1) 2,a0:=b.a1,a1:=(numP s).1} :: r,kn):=by rw[hR];unfold stepP;simp only[f0,f1,f2,f3,f4,f5,f6,f7,f8,hnum,if_true,if_false,Bool.false_eq_true]
  refine ZM h iT ag s hsz f0 f1 f2 f3 f4 f5 f6 f7 f8 hnum _ (fun w1 hd=>?_);refine(Xt hd (numP s).1 hdo eJ.n0 eJ.n1 ag ag).mono ?_;rintro e w2 ⟨rfl,eo,cq⟩;refine⟨0,rfl,uw,eo,bv,_,{b.add (aL 28)with numbers:=min (b.numbers+1) 2,a0:=b.a1,a1:=(numP s).1} :: r,_,vP,fun _=>wF⟩
 have KF:(numP s).2=false:=by simpa using hnum
 have hRw:R=stepW es dc b r kn s:=by rw[hR];unfold stepP;simp only[f0,f1,f2,f3,f4,f5,f6,f7,f8,KF,if_false,Bool.false_eq_true]
 refine Yo h iT ag s hsz f0 f1 f2 f3 f4 f5 f6 f7 f8 KF _ (fun w1 hd=>?_)
 cases hlp:lastP es s es.length with
 |some x=>
  have hRe:R=(0,dc++[x.op,x.place],b.add x.use :: r,kn):=by rw[hRw,stepW,hlp]
  have hx:=hwt x (D7 es s _ x aH hlp);refine(Tu hd s x hlp (hx.ok ag ag) ((PE.LQ hx).ok ag ag) hdo hes ag ag).mono ?_;rintro e w2 ⟨rfl,eo,cq⟩;refine⟨0,rfl,uw,eo,bv,_,b.add x.use :: r,_,vP,fun _=>wF⟩
 |none=>
  cases hop:jT s with
  |none=>
   have hRe:R.1=3:=by rw[hRw,stepW,hlp];simp only[hop]
   refine(Vq hd s hlp hop hes ag ag).mono ?_;rintro e w2 ⟨rfl,cq⟩;exact⟨3,rfl,bad 3 aj hRe w2 cq⟩
  |some k=>
   by_cases hn:k=27∧b.iN=false
   ·have hRe:R.1=5:=by rw[hRw,stepW,hlp];simp only[hop];rw[aG hn]
    obtain⟨rfl,hin⟩:=hn;refine(XA hd s hlp hop hin hes ag ag).mono ?_;rintro e w2 ⟨rfl,cq⟩;exact⟨5,rfl,bad 5 aj hRe w2 cq⟩
   ·have hRe:R=(0,dc++[(k:Int)],b.add (aL k) :: r,kn):=by rw[hRw,stepW,hlp];simp only[hop];rw[az hn]
    have Zh:k≠27∨b.iN=true:=by
     by_cases h27:k=27
     ·right
      cases hb:b.iN with
      |true=>rfl
      |false=>exact absurd ⟨h27,hb⟩ hn
     ·exact aC h27
    refine(VR hd s k hlp hop Zh hdo hes ag ag).mono ?_;rintro e w2 ⟨rfl,eo,cq⟩;refine⟨0,rfl,uw,eo,bv,_,b.add (aL k) :: r,_,vP,fun _=>wF⟩
end
section
theorem ju.mono{dn':Nat}(hd:dn≤dn'):∀{st:List PB},ju pn dn st→ju pn dn' st
 |[],h=>h
 |[b],h=>h
 |b :: c :: r,⟨h1,⟨k,h2,h3,h4⟩,h5,h6⟩=>⟨h1,⟨k,h2,h3,ag⟩,h5,ju.mono hd h6⟩
theorem pz.add(h:pz b)(i:Inf):pz (b.add i):=⟨by simp[PB.add],by simp[PB.add],h.a0,h.a1,h.b0,h.b1,h.t0,h.t1⟩
theorem ju.set{b':PB}(h:ju pn dn (b :: r))(h1:b'.opener=b.opener)(h2:b'.hole=b.hole)(h3:pz b'):ju pn dn (b' :: r):=by
 cases r with
 |nil=>exact⟨by rw[h1];exact h.1,h3⟩
 |cons c r=>exact⟨by rw[h1];exact h.1,by rw[h2];exact h.2.1,h3,h.2.2.2⟩
theorem pz.opened(t o:Int)(ot:Inf)(c:PB)(n:Nat)(h0:0≤t)(h1:t≤1000):pz (PB.opened {PB.zero with opener:=o,times:=t,other:=ot} c n):=
 ⟨yl,yl,yl,yl,yl,yl,h0,h1⟩
theorem WB.mono:∀{st:List PB} {q q':Nat},WB st q→q≤q'→WB st q'
 |[],_,_,_,_=>trivial
 |b :: r,q,q',⟨q1,q2,h1,h2,h3,h4⟩,hq=>⟨q1,q2,h1,h2,ag,WB.mono h4 ag⟩
theorem WB.add{n:Nat}(h:WB (b :: r) q){i:Inf}(hi:i.Wt n):WB (b.add i :: r) (q+n):=by
 obtain⟨q1,q2,h1,h2,h3,h4⟩:=h;refine⟨q1+n,q2,?_,h2,ag,WB.mono h4 ag⟩;have:=h1.then hi ag ag;simpa [PB.add]using this
theorem WB.push{st:List PB}{q1 q2:Nat}(h:WB st q)(h1:b.does.Wt q1)(h2:b.other.Wt q2):WB (b :: st) (q+q1+q2):=
 ⟨q1,q2,h1,h2,ag,WB.mono h ag⟩
theorem abM(s:ByteArray): -2147483648≤(numP s).1∧(numP s).1≤2147483647:=by
 unfold numP
 split
 ·rename_i v hv
  split
  ·simp
  ·unfold Lib.parseIntB at hv
   split at hv
   ·cases hv
   ·simp only at hv
    split at hv
    ·cases hv
    ·cases hv
    ·split at hv
     ·cases hv
     ·split at hv
      ·cases hv
      ·rename_i u _ h1 h2
       simp only[Lib.NumEnd.ok.injEq]at hv;subst hv;simp only
       split
       ·rename_i hn;constructor<;>(simp[hn]at h2<;>omega)
       ·rename_i hn;constructor<;>(simp[hn]at h1<;>omega)
 ·simp
theorem Sr(es:List PE)(hwt:∀x∈es,x.inf.Wt 1)(nt tk:Int)(pn:Nat)(dc:List Int)(st:List PB)(kn:Inf)(s:ByteArray)(q:Nat)(hi:ju pn dc.length st)(hw:WB st q)(hpn:pn≤dc.length)
  (R:SR) (hR:stepP es nt tk dc st kn s=R) (h0:R.1=0):dc.length≤R.2.1.length∧R.2.1.length≤dc.length+2∧R.2.2.1.length≤st.length+1∧WB R.2.2.1 (q+2)∧(R.2.2.1=[]∨ju pn R.2.1.length R.2.2.1)∧R.2.1.take pn=dc.take pn:=by
 cases st with
 |nil=>exact hi.elim
 |cons b r=>
  have eJ:=hi.Dt;unfold stepP at hR;simp only at hR;have t2:∀l:List Int,(dc++l).take pn=dc.take pn:=fun l=>by rw[List.take_append_of_le_length hpn]
  have i1:∀(b':PB) (l:List Int),b'.opener=b.opener→b'.hole=b.hole→pz b'→ju pn (dc++l).length (b' :: r):=fun b' l e1 e2 e3=>(hi.set e1 e2 e3).mono aF
  have bad:∀(E:Int),E≠0→R=(E,dc,b :: r,kn)→False:=fun E hE e=>hE (by rw[e]at h0;exact h0)
  by_cases g0:(s.toList == [])=true
  ·rw[aG g0]at hR
   exact(bad 5 aj hR.symm).elim
  rw[az g0]at hR
  by_cases g1:(s.toList == [58])=true
  ·rw[aG g1]at hR
   exact(bad 5 aj hR.symm).elim
  rw[az g1]at hR
  by_cases g2:(s.toList == [118,97,114,105,97,98,108,101])=true
  ·rw[aG g2]at hR
   exact(bad 5 aj hR.symm).elim
  rw[az g2]at hR
  by_cases g3:(s.toList == [59])=true
  ·rw[aG g3]at hR
   by_cases ho:b.opener=34
   ·rw[aG ho]at hR
    subst hR;exact⟨aF,aF,aF,trivial,aC rfl,t2 _⟩
   ·exact Dp
  rw[az g3]at hR
  by_cases g4:(s.toList == [105,102])=true
  ·rw[aG g4]at hR
   subst hR;refine⟨aF,aF,aF,?_,aA ?_,t2 _⟩
   ·exact((hw.add (n:=1) (uY 29 ag)).push (q1:=0) (q2:=0) Inf.Wt.zero Inf.Wt.zero).mono ag
   ·exact⟨aC rfl,⟨dc.length+1,Cb,ag,aF⟩,pz.opened 0 29 Inf.zero _ _ ag ag,i1 _ _ rfl rfl (eJ.add _)⟩
  rw[az g4]at hR
  by_cases g5:(s.toList == [101,108,115,101])=true
  ·rw[aG g5]at hR
   by_cases ho:b.opener=29
   ·rw[aG ho]at hR
    obtain⟨c,r',rfl,⟨k,hk,bA,hk2⟩,ky⟩:=hi.inner ag;have hkn:b.hole.toNat=k:=xV;obtain⟨p1,p2,hp,hw1,hw2,hw3⟩:=hw.other;simp only[hkn]at hR;subst hR;have hwl:=hw1.then (uY 30 ag) ag ag;refine⟨aF,aF,aF,?_,aA ?_,?_⟩
    ·exact(hw3.push (b:=PB.opened {PB.zero with opener:=30,other:=b.does.then (aL 30)} c (dc.length+2)) (q1:=0) (q2:=p1+1) Inf.Wt.zero (by simpa [PB.opened]using hwl)).mono ag
    ·exact⟨aA (aC rfl),⟨dc.length+1,Cb,ag,aF⟩,pz.opened 0 30 _ _ _ ag ag,ky.mono aF⟩
    ·rw[List.take_set,List.set_eq_of_length_le aK];exact t2 _
   ·exact Dp
  rw[az g5]at hR
  by_cases g6:(s.toList == [116,104,101,110])=true
  ·rw[aG g6]at hR
   by_cases ho:b.opener=29∨b.opener=30
   ·rw[aG ho]at hR
    by_cases hn:b.does.aM=b.other.aM
    ·rw[aG hn]at hR
     obtain⟨c,r',rfl,⟨k,hk,bA,hk2⟩,ky⟩:=hi.inner ag;have hkn:b.hole.toNat=k:=xV;obtain⟨p1,p2,hp,hw1,hw2,hw3⟩:=hw.other;simp only[hkn]at hR;subst hR;refine⟨aF,aF,by simp only[fA];omega,?_,aA ?_,?_⟩
     ·exact(hw3.add (n:=p1+p2) (by simpa using hw1.gY hw2 ag ag)).mono ag
     ·exact(ju.set (b':=c.add (b.does.gY b.other)) ky rfl rfl (ky.Dt.add _)).mono aF
     ·rw[List.take_set,List.set_eq_of_length_le aK]
    ·rw[az hn]at hR
     exact(bad 6 aj hR.symm).elim
   ·exact Dp
  rw[az g6]at hR
  by_cases g7:(s.toList == [100,111])=true
  ·rw[aG g7]at hR
   by_cases hn:b.numbers<2
   ·rw[aG hn]at hR
    exact(bad 5 aj hR.symm).elim
   ·rw[az hn]at hR
    by_cases hm:1000<max 0 (b.a0 - b.a1)
    ·rw[aG hm]at hR
     exact(bad 7 aj hR.symm).elim
    ·rw[az hm]at hR
     subst hR;refine⟨aF,aF,aF,?_,aA ?_,t2 _⟩
     ·exact((hw.add (n:=1) (uY 31 ag)).push (q1:=0) (q2:=0) Inf.Wt.zero Inf.Wt.zero).mono ag
     ·exact⟨aA (aA rfl),⟨dc.length+1,Cb,ag,aF⟩,pz.opened _ 31 Inf.zero _ _ ag ag,i1 _ _ rfl rfl (eJ.add _)⟩
  rw[az g7]at hR
  by_cases g8:(s.toList == [108,111,111,112])=true
  ·rw[aG g8]at hR
   by_cases ho:b.opener=31
   ·rw[aG ho]at hR
    by_cases hn:b.does.aM=0
    ·rw[aG hn]at hR
     obtain⟨c,r',rfl,⟨k,hk,bA,hk2⟩,ky⟩:=hi.inner ag;have hkn:b.hole.toNat=k:=xV;obtain⟨p1,p2,hp,hw1,hw2,hw3⟩:=hw.other;simp only[hkn]at hR;subst hR;have hwl:=(hw1.then (uY 32 ag) ag ag).je ag eJ.t0;refine⟨aF,aF,by simp only[fA];omega,?_,aA ?_,?_⟩
     ·exact(hw3.add (n:=p1+1) (by simpa using hwl)).mono ag
     ·exact(ju.set (b':=c.add ((b.does.then (aL 32)).je b.times)) ky rfl rfl (ky.Dt.add _)).mono aF
     ·rw[List.take_set,List.set_eq_of_length_le aK];exact t2 _
    ·rw[az hn]at hR
     exact(bad 6 aj hR.symm).elim
   ·exact Dp
  rw[az g8]at hR
  by_cases hnum:(numP s).2=true
  ·rw[aG hnum]at hR
   subst hR;refine⟨aF,aF,aF,?_,aA ?_,t2 _⟩
   ·obtain⟨q1,q2,h1,h2,h3,h4⟩:=hw.add (n:=1) (uY 28 ag)
    exact WB.mono ⟨q1,q2,h1,h2,h3,h4⟩ ag
   ·have hb:=abM s
    exact i1 _ _ rfl rfl ⟨by simp only;have:=eJ.n0;omega,iO,eJ.b0,eJ.b1,hb.1,hb.2,eJ.t0,eJ.t1⟩
  rw[az hnum]at hR;unfold stepW at hR
  cases hlp:lastP es s es.length with
  |some x=>
   rw[hlp]at hR;simp only at hR;subst hR;have hx:=hwt x (D7 es s _ x aH hlp);exact⟨aF,aF,aF,(hw.add (n:=2) (PE.LQ hx)).mono ag,aA (i1 _ _ rfl rfl (eJ.add _)),t2 _⟩
  |none=>
   rw[hlp]at hR;simp only at hR
   cases hop:jT s with
   |none=>rw[hop]at hR;simp only at hR;exact(bad 3 aj hR.symm).elim
   |some k=>
    rw[hop]at hR;simp only at hR
    by_cases hn:k=27∧b.iN=false
    ·rw[aG hn]at hR;exact(bad 5 aj hR.symm).elim
    ·rw[az hn]at hR
     subst hR;exact⟨aF,aF,aF,(hw.add (n:=1) (uY k (DJ hop))).mono ag,aA (i1 _ _ rfl rfl (eJ.add _)),t2 _⟩
end
end Go.Proofs.YtcphhbofjkenaaaGreatDoor
