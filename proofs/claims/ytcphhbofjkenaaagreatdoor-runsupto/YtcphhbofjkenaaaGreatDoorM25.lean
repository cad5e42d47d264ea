import Derived.Test.YtcphhbofjkenaaaGreatDoorM19b
import Derived.Test.YtcphhbofjkenaaaGreatDoorM19c
import Derived.Test.YtcphhbofjkenaaaGreatDoorM20
namespace Go.Proofs.YtcphhbofjkenaaaGreatDoor
open Go Go.RowKit
set_option linter.unusedVariables false
set_option linter.unusedSimpArgs false
set_option maxRecDepth 100000
set_option maxHeartbeats 16000000
section
theorem DS.tick{w0 w:World}{rb bb db:Nat}{rc:RC}{ev bI bC bv:Value}{es:List PE}{nv nt:Int}{pc dc:List Int}{tk:Int}{bs:List PB}{kn:Inf}
  (h:DS w0 w rb rc bb db ev bI bC bv es nv nt pc dc tk bs kn) (x:Int):DS w0 (w.setCell ⟨db,1,none⟩ (.int .i64 x)) rb rc bb db ev bI bC bv es nv nt pc dc x bs kn:=by
 have hrb:=h.bK.1;have hgb:=h.bK.2;have hc:aj (fun b=>b=db) w (w.setCell ⟨db,1,none⟩ (.int .i64 x)):=(aj.refl (fun b=>b=db) w).setCell (p:=⟨db,1,none⟩) rfl _;have n1:bb≠db:=by rintro rfl;exact absurd (bH h.sys.blk h.blk) (by decide)
 have n2:rb≠db:=by rintro rfl;exact absurd (bH hrb h.blk) (by decide)
 have no:∀{base:Nat} {e:TypeId} {size n:Nat} {v:Value} {xs:List Value},w.ownsRow base e size v n xs→209≠e→∀k,v.ownBlock=some k→¬k=db:=fun ho hne k hk e=>ah ho h.blk hne (by rw[hk,e])
 refine⟨h.sys.aA hc n1 (no h.sys.row (by decide)) (no h.sys.iO (by decide)),?_,af h.iO hc (no h.iO (by decide)),af h.row hc (no h.row (by decide)),h.tab.aA hc (fun k e=>by have:=h.new;have:=h.tl;omega),⟨hrb.aA hc n2,hgb.aA hc (fun e=>kG h.blk hgb (by decide) e.symm)⟩,h.ru,h.tl,h.pre,h.new,h.loc,h.Cf.jG hc (fun k hk e=>by have:=h.new;omega)⟩;have:=h.blk.set (o:=1) (.int .i64 x);simpa [oN]using this
theorem Fe{w0 w:World}{rb bb db:Nat}{rc:RC}{ev bI bC bv:Value}{es:List PE}{nv nt:Int}{pc dc:List Int}{tk:Int}{bs:List PB}{kn:Inf}
  (h:DS w0 w rb rc bb db ev bI bC bv es nv nt pc dc tk bs kn) (lG:0≤tk) (iU:tk≤1000000000) (s:ByteArray) (hs:(s.toList == [])=true):
  Calls Tryz.prog 125 #[.pointer (some ⟨db,0,none⟩),.string s] w fun e w'=>e=.returned (.int .i64 5)∧DS w0 w' rb rc bb db ev bI bC bv es nv nt pc dc (tk+1) bs kn:=by
 obtain⟨c0,c1,c2,c3⟩:=h.def;have q1:=h.blk.frozen 1;have htk:(tk:Int)≤1000000000:=iU;have HT:=ast (h.tick (tk+1));clear h c0 c2 c3 iU;have hsl:s.toList=[]:=by simpa using hs
 have g0:(s.toList == [])=true:=by rw[hsl];rfl
 have g1:(s.toList == [58])=false:=by rw[hsl];rfl
 have g2:(s.toList == [118,97,114,105,97,98,108,101])=false:=by rw[hsl];rfl
 have g3:(s.toList == [59])=false:=by rw[hsl];rfl
 have g4:(s.toList == [105,102])=false:=by rw[hsl];rfl
 have g5:(s.toList == [101,108,115,101])=false:=by rw[hsl];rfl
 have g6:(s.toList == [116,104,101,110])=false:=by rw[hsl];rfl
 have g7:(s.toList == [100,111])=false:=by rw[hsl];rfl
 have g8:(s.toList == [108,111,111,112])=false:=by rw[hsl];rfl
 clear hs hsl;go_enter Tryz.func125,Tryz.ntmps125
 go_wp2_with fail
 go_ret
 exact⟨rfl,HT.out⟩
theorem AP{w0 w:World}{rb bb db:Nat}{rc:RC}{ev bI bC bv:Value}{es:List PE}{nv nt:Int}{pc dc:List Int}{tk:Int}{bs:List PB}{kn:Inf}
  (h:DS w0 w rb rc bb db ev bI bC bv es nv nt pc dc tk bs kn) (lG:0≤tk) (iU:tk≤1000000000) (s:ByteArray) (hs:(s.toList == [58])=true):
  Calls Tryz.prog 125 #[.pointer (some ⟨db,0,none⟩),.string s] w fun e w'=>e=.returned (.int .i64 5)∧DS w0 w' rb rc bb db ev bI bC bv es nv nt pc dc (tk+1) bs kn:=by
 obtain⟨c0,c1,c2,c3⟩:=h.def;have q1:=h.blk.frozen 1;have htk:(tk:Int)≤1000000000:=iU;have HT:=ast (h.tick (tk+1));clear h c0 c2 c3 iU;have hsl:s.toList=[58]:=by simpa using hs
 have g0:(s.toList == [])=false:=by rw[hsl];rfl
 have g1:(s.toList == [58])=true:=by rw[hsl];rfl
 have g2:(s.toList == [118,97,114,105,97,98,108,101])=false:=by rw[hsl];rfl
 have g3:(s.toList == [59])=false:=by rw[hsl];rfl
 have g4:(s.toList == [105,102])=false:=by rw[hsl];rfl
 have g5:(s.toList == [101,108,115,101])=false:=by rw[hsl];rfl
 have g6:(s.toList == [116,104,101,110])=false:=by rw[hsl];rfl
 have g7:(s.toList == [100,111])=false:=by rw[hsl];rfl
 have g8:(s.toList == [108,111,111,112])=false:=by rw[hsl];rfl
 clear hs hsl;go_enter Tryz.func125,Tryz.ntmps125
 go_wp2_with fail
 go_ret
 exact⟨rfl,HT.out⟩
theorem Ff{w0 w:World}{rb bb db:Nat}{rc:RC}{ev bI bC bv:Value}{es:List PE}{nv nt:Int}{pc dc:List Int}{tk:Int}{bs:List PB}{kn:Inf}
  (h:DS w0 w rb rc bb db ev bI bC bv es nv nt pc dc tk bs kn) (lG:0≤tk) (iU:tk≤1000000000) (s:ByteArray) (hs:(s.toList == [118,97,114,105,97,98,108,101])=true):
  Calls Tryz.prog 125 #[.pointer (some ⟨db,0,none⟩),.string s] w fun e w'=>e=.returned (.int .i64 5)∧DS w0 w' rb rc bb db ev bI bC bv es nv nt pc dc (tk+1) bs kn:=by
 obtain⟨c0,c1,c2,c3⟩:=h.def;have q1:=h.blk.frozen 1;have htk:(tk:Int)≤1000000000:=iU;have HT:=ast (h.tick (tk+1));clear h c0 c2 c3 iU;have hsl:s.toList=[118,97,114,105,97,98,108,101]:=by simpa using hs
 have g0:(s.toList == [])=false:=by rw[hsl];rfl
 have g1:(s.toList == [58])=false:=by rw[hsl];rfl
 have g2:(s.toList == [118,97,114,105,97,98,108,101])=true:=by rw[hsl];rfl
 have g3:(s.toList == [59])=false:=by rw[hsl];rfl
 have g4:(s.toList == [105,102])=false:=by rw[hsl];rfl
 have g5:(s.toList == [101,108,115,101])=false:=by rw[hsl];rfl
 have g6:(s.toList == [116,104,101,110])=false:=by rw[hsl];rfl
 have g7:(s.toList == [100,111])=false:=by rw[hsl];rfl
 have g8:(s.toList == [108,111,111,112])=false:=by rw[hsl];rfl
 clear hs hsl;go_enter Tryz.func125,Tryz.ntmps125
 go_wp2_with fail
 go_ret
 exact⟨rfl,HT.out⟩
theorem Fg{w0 w:World}{rb bb db:Nat}{rc:RC}{ev bI bC bv:Value}{es:List PE}{nv nt:Int}{pc dc:List Int}{tk:Int}{bs:List PB}{kn:Inf}
  (h:DS w0 w rb rc bb db ev bI bC bv es nv nt pc dc tk bs kn) (lG:0≤tk) (iU:tk≤1000000000) (s:ByteArray) (hs:(s.toList == [59])=true) (Q:Int→World→Prop)
  (hX:∀w',DS w0 w' rb rc bb db ev bI bC bv es nv nt pc dc (tk+1) bs kn→Calls Tryz.prog 156 #[.pointer (some ⟨db,0,none⟩)] w' fun e w''=>∃r,e=.returned (.int .i64 r)∧Q r w''):
  Calls Tryz.prog 125 #[.pointer (some ⟨db,0,none⟩),.string s] w fun e w'=>∃r,e=.returned (.int .i64 r)∧Q r w':=by
 obtain⟨c0,c1,c2,c3⟩:=h.def;have q1:=h.blk.frozen 1;have htk:(tk:Int)≤1000000000:=iU;have HT:=ast (h.tick (tk+1));clear h c0 c2 c3 iU;have hsl:s.toList=[59]:=by simpa using hs
 have g0:(s.toList == [])=false:=by rw[hsl];rfl
 have g1:(s.toList == [58])=false:=by rw[hsl];rfl
 have g2:(s.toList == [118,97,114,105,97,98,108,101])=false:=by rw[hsl];rfl
 have g3:(s.toList == [59])=true:=by rw[hsl];rfl
 have g4:(s.toList == [105,102])=false:=by rw[hsl];rfl
 have g5:(s.toList == [101,108,115,101])=false:=by rw[hsl];rfl
 have g6:(s.toList == [116,104,101,110])=false:=by rw[hsl];rfl
 have g7:(s.toList == [100,111])=false:=by rw[hsl];rfl
 have g8:(s.toList == [108,111,111,112])=false:=by rw[hsl];rfl
 clear hs hsl;have HX:=ast (hX _ HT.out);clear hX HT;go_enter Tryz.func125,Tryz.ntmps125
 go_wp2_with fail
 refine HX.out.mono ?_;rintro e w1 ⟨r,rfl,hq⟩;have HQ:=ast hq;clear hq HX;go_wp2_with fail
 go_ret
 exact⟨r,rfl,HQ.out⟩
theorem Io{w0 w:World}{rb bb db:Nat}{rc:RC}{ev bI bC bv:Value}{es:List PE}{nv nt:Int}{pc dc:List Int}{tk:Int}{bs:List PB}{kn:Inf}
  (h:DS w0 w rb rc bb db ev bI bC bv es nv nt pc dc tk bs kn) (lG:0≤tk) (iU:tk≤1000000000) (s:ByteArray) (hs:(s.toList == [105,102])=true) (Q:Int→World→Prop)
  (hX:∀w',DS w0 w' rb rc bb db ev bI bC bv es nv nt pc dc (tk+1) bs kn→Calls Tryz.prog 157 #[.pointer (some ⟨db,0,none⟩)] w' fun e w''=>∃r,e=.returned (.int .i64 r)∧Q r w''):
  Calls Tryz.prog 125 #[.pointer (some ⟨db,0,none⟩),.string s] w fun e w'=>∃r,e=.returned (.int .i64 r)∧Q r w':=by
 obtain⟨c0,c1,c2,c3⟩:=h.def;have q1:=h.blk.frozen 1;have htk:(tk:Int)≤1000000000:=iU;have HT:=ast (h.tick (tk+1));clear h c0 c2 c3 iU;have hsl:s.toList=[105,102]:=by simpa using hs
 have g0:(s.toList == [])=false:=by rw[hsl];rfl
 have g1:(s.toList == [58])=false:=by rw[hsl];rfl
 have g2:(s.toList == [118,97,114,105,97,98,108,101])=false:=by rw[hsl];rfl
 have g3:(s.toList == [59])=false:=by rw[hsl];rfl
 have g4:(s.toList == [105,102])=true:=by rw[hsl];rfl
 have g5:(s.toList == [101,108,115,101])=false:=by rw[hsl];rfl
 have g6:(s.toList == [116,104,101,110])=false:=by rw[hsl];rfl
 have g7:(s.toList == [100,111])=false:=by rw[hsl];rfl
 have g8:(s.toList == [108,111,111,112])=false:=by rw[hsl];rfl
 clear hs hsl;have HX:=ast (hX _ HT.out);clear hX HT;go_enter Tryz.func125,Tryz.ntmps125
 go_wp2_with fail
 refine HX.out.mono ?_;rintro e w1 ⟨r,rfl,hq⟩;have HQ:=ast hq;clear hq HX;go_wp2_with fail
 go_ret
 exact⟨r,rfl,HQ.out⟩
theorem CP{w0 w:World}{rb bb db:Nat}{rc:RC}{ev bI bC bv:Value}{es:List PE}{nv nt:Int}{pc dc:List Int}{tk:Int}{bs:List PB}{kn:Inf}
  (h:DS w0 w rb rc bb db ev bI bC bv es nv nt pc dc tk bs kn) (lG:0≤tk) (iU:tk≤1000000000) (s:ByteArray) (hs:(s.toList == [101,108,115,101])=true) (Q:Int→World→Prop)
  (hX:∀w',DS w0 w' rb rc bb db ev bI bC bv es nv nt pc dc (tk+1) bs kn→Calls Tryz.prog 158 #[.pointer (some ⟨db,0,none⟩)] w' fun e w''=>∃r,e=.returned (.int .i64 r)∧Q r w''):
  Calls Tryz.prog 125 #[.pointer (some ⟨db,0,none⟩),.string s] w fun e w'=>∃r,e=.returned (.int .i64 r)∧Q r w':=by
 obtain⟨c0,c1,c2,c3⟩:=h.def;have q1:=h.blk.frozen 1;have htk:(tk:Int)≤1000000000:=iU;have HT:=ast (h.tick (tk+1));clear h c0 c2 c3 iU;have hsl:s.toList=[101,108,115,101]:=by simpa using hs
 have g0:(s.toList == [])=false:=by rw[hsl];rfl
 have g1:(s.toList == [58])=false:=by rw[hsl];rfl
 have g2:(s.toList == [118,97,114,105,97,98,108,101])=false:=by rw[hsl];rfl
 have g3:(s.toList == [59])=false:=by rw[hsl];rfl
 have g4:(s.toList == [105,102])=false:=by rw[hsl];rfl
 have g5:(s.toList == [101,108,115,101])=true:=by rw[hsl];rfl
 have g6:(s.toList == [116,104,101,110])=false:=by rw[hsl];rfl
 have g7:(s.toList == [100,111])=false:=by rw[hsl];rfl
 have g8:(s.toList == [108,111,111,112])=false:=by rw[hsl];rfl
 clear hs hsl;have HX:=ast (hX _ HT.out);clear hX HT;go_enter Tryz.func125,Tryz.ntmps125
 go_wp2_with fail
 refine HX.out.mono ?_;rintro e w1 ⟨r,rfl,hq⟩;have HQ:=ast hq;clear hq HX;go_wp2_with fail
 go_ret
 exact⟨r,rfl,HQ.out⟩
theorem CQ{w0 w:World}{rb bb db:Nat}{rc:RC}{ev bI bC bv:Value}{es:List PE}{nv nt:Int}{pc dc:List Int}{tk:Int}{bs:List PB}{kn:Inf}
  (h:DS w0 w rb rc bb db ev bI bC bv es nv nt pc dc tk bs kn) (lG:0≤tk) (iU:tk≤1000000000) (s:ByteArray) (hs:(s.toList == [116,104,101,110])=true) (Q:Int→World→Prop)
  (hX:∀w',DS w0 w' rb rc bb db ev bI bC bv es nv nt pc dc (tk+1) bs kn→Calls Tryz.prog 159 #[.pointer (some ⟨db,0,none⟩)] w' fun e w''=>∃r,e=.returned (.int .i64 r)∧Q r w''):
  Calls Tryz.prog 125 #[.pointer (some ⟨db,0,none⟩),.string s] w fun e w'=>∃r,e=.returned (.int .i64 r)∧Q r w':=by
 obtain⟨c0,c1,c2,c3⟩:=h.def;have q1:=h.blk.frozen 1;have htk:(tk:Int)≤1000000000:=iU;have HT:=ast (h.tick (tk+1));clear h c0 c2 c3 iU;have hsl:s.toList=[116,104,101,110]:=by simpa using hs
 have g0:(s.toList == [])=false:=by rw[hsl];rfl
 have g1:(s.toList == [58])=false:=by rw[hsl];rfl
 have g2:(s.toList == [118,97,114,105,97,98,108,101])=false:=by rw[hsl];rfl
 have g3:(s.toList == [59])=false:=by rw[hsl];rfl
 have g4:(s.toList == [105,102])=false:=by rw[hsl];rfl
 have g5:(s.toList == [101,108,115,101])=false:=by rw[hsl];rfl
 have g6:(s.toList == [116,104,101,110])=true:=by rw[hsl];rfl
 have g7:(s.toList == [100,111])=false:=by rw[hsl];rfl
 have g8:(s.toList == [108,111,111,112])=false:=by rw[hsl];rfl
 clear hs hsl;have HX:=ast (hX _ HT.out);clear hX HT;go_enter Tryz.func125,Tryz.ntmps125
 go_wp2_with fail
 refine HX.out.mono ?_;rintro e w1 ⟨r,rfl,hq⟩;have HQ:=ast hq;clear hq HX;go_wp2_with fail
 go_ret
 exact⟨r,rfl,HQ.out⟩
theorem Ip{w0 w:World}{rb bb db:Nat}{rc:RC}{ev bI bC bv:Value}{es:List PE}{nv nt:Int}{pc dc:List Int}{tk:Int}{bs:List PB}{kn:Inf}
  (h:DS w0 w rb rc bb db ev bI bC bv es nv nt pc dc tk bs kn) (lG:0≤tk) (iU:tk≤1000000000) (s:ByteArray) (hs:(s.toList == [100,111])=true) (Q:Int→World→Prop)
  (hX:∀w',DS w0 w' rb rc bb db ev bI bC bv es nv nt pc dc (tk+1) bs kn→Calls Tryz.prog 160 #[.pointer (some ⟨db,0,none⟩)] w' fun e w''=>∃r,e=.returned (.int .i64 r)∧Q r w''):
  Calls Tryz.prog 125 #[.pointer (some ⟨db,0,none⟩),.string s] w fun e w'=>∃r,e=.returned (.int .i64 r)∧Q r w':=by
 obtain⟨c0,c1,c2,c3⟩:=h.def;have q1:=h.blk.frozen 1;have htk:(tk:Int)≤1000000000:=iU;have HT:=ast (h.tick (tk+1));clear h c0 c2 c3 iU;have hsl:s.toList=[100,111]:=by simpa using hs
 have g0:(s.toList == [])=false:=by rw[hsl];rfl
 have g1:(s.toList == [58])=false:=by rw[hsl];rfl
 have g2:(s.toList == [118,97,114,105,97,98,108,101])=false:=by rw[hsl];rfl
 have g3:(s.toList == [59])=false:=by rw[hsl];rfl
 have g4:(s.toList == [105,102])=false:=by rw[hsl];rfl
 have g5:(s.toList == [101,108,115,101])=false:=by rw[hsl];rfl
 have g6:(s.toList == [116,104,101,110])=false:=by rw[hsl];rfl
 have g7:(s.toList == [100,111])=true:=by rw[hsl];rfl
 have g8:(s.toList == [108,111,111,112])=false:=by rw[hsl];rfl
 clear hs hsl;have HX:=ast (hX _ HT.out);clear hX HT;go_enter Tryz.func125,Tryz.ntmps125
 go_wp2_with fail
 refine HX.out.mono ?_;rintro e w1 ⟨r,rfl,hq⟩;have HQ:=ast hq;clear hq HX;go_wp2_with fail
 go_ret
 exact⟨r,rfl,HQ.out⟩
theorem CS{w0 w:World}{rb bb db:Nat}{rc:RC}{ev bI bC bv:Value}{es:List PE}{nv nt:Int}{pc dc:List Int}{tk:Int}{bs:List PB}{kn:Inf}
  (h:DS w0 w rb rc bb db ev bI bC bv es nv nt pc dc tk bs kn) (lG:0≤tk) (iU:tk≤1000000000) (s:ByteArray) (hs:(s.toList == [108,111,111,112])=true) (Q:Int→World→Prop)
  (hX:∀w',DS w0 w' rb rc bb db ev bI bC bv es nv nt pc dc (tk+1) bs kn→Calls Tryz.prog 161 #[.pointer (some ⟨db,0,none⟩)] w' fun e w''=>∃r,e=.returned (.int .i64 r)∧Q r w''):
  Calls Tryz.prog 125 #[.pointer (some ⟨db,0,none⟩),.string s] w fun e w'=>∃r,e=.returned (.int .i64 r)∧Q r w':=by
 obtain⟨c0,c1,c2,c3⟩:=h.def;have q1:=h.blk.frozen 1;have htk:(tk:Int)≤1000000000:=iU;have HT:=ast (h.tick (tk+1));clear h c0 c2 c3 iU;have hsl:s.toList=[108,111,111,112]:=by simpa using hs
 have g0:(s.toList == [])=false:=by rw[hsl];rfl
 have g1:(s.toList == [58])=false:=by rw[hsl];rfl
 have g2:(s.toList == [118,97,114,105,97,98,108,101])=false:=by rw[hsl];rfl
 have g3:(s.toList == [59])=false:=by rw[hsl];rfl
 have g4:(s.toList == [105,102])=false:=by rw[hsl];rfl
 have g5:(s.toList == [101,108,115,101])=false:=by rw[hsl];rfl
 have g6:(s.toList == [116,104,101,110])=false:=by rw[hsl];rfl
 have g7:(s.toList == [100,111])=false:=by rw[hsl];rfl
 have g8:(s.toList == [108,111,111,112])=true:=by rw[hsl];rfl
 clear hs hsl;have HX:=ast (hX _ HT.out);clear hX HT;go_enter Tryz.func125,Tryz.ntmps125
 go_wp2_with fail
 refine HX.out.mono ?_;rintro e w1 ⟨r,rfl,hq⟩;have HQ:=ast hq;clear hq HX;go_wp2_with fail
 go_ret
 exact⟨r,rfl,HQ.out⟩
theorem yP{w0 w:World}{rb bb db:Nat}{rc:RC}{ev bI bC bv:Value}{es:List PE}{nv nt:Int}{pc dc:List Int}{tk:Int}{bs:List PB}{kn:Inf}
  (h:DS w0 w rb rc bb db ev bI bC bv es nv nt pc dc tk bs kn) (lG:0≤tk) (iU:tk≤1000000000) (s:ByteArray) (hsz:s.size≤100000000) (g0:(s.toList == [])=false) (g1:(s.toList == [58])=false) (g2:(s.toList == [118,97,114,105,97,98,108,101])=false) (g3:(s.toList == [59])=false) (g4:(s.toList == [105,102])=false) (g5:(s.toList == [101,108,115,101])=false) (g6:(s.toList == [116,104,101,110])=false) (g7:(s.toList == [100,111])=false) (g8:(s.toList == [108,111,111,112])=false) (hnum:(je s).2=true) (Q:Int→World→Prop)
  (hX:∀w',DS w0 w' rb rc bb db ev bI bC bv es nv nt pc dc (tk+1) bs kn→Calls Tryz.prog 163 #[.pointer (some ⟨db,0,none⟩),.int .i64 (je s).1] w' fun e w''=>∃r,e=.returned (.int .i64 r)∧Q r w''):
  Calls Tryz.prog 125 #[.pointer (some ⟨db,0,none⟩),.string s] w fun e w'=>∃r,e=.returned (.int .i64 r)∧Q r w':=by
 obtain⟨c0,c1,c2,c3⟩:=h.def;have q1:=h.blk.frozen 1;have htk:(tk:Int)≤1000000000:=iU;have HT:=ast (h.tick (tk+1));clear h c0 c2 c3 iU;have HN:=ast (tu s _ hsz HT.out.tab);rw[hnum]at HN;have HX:=ast hX;clear hX hnum hsz;obtain⟨n,hn⟩:=exq ((je s).1);rw[←hn]at HN HX;clear hn;go_enter Tryz.func125,Tryz.ntmps125
 go_wp2_with fail
 refine HN.out.mono ?_;rintro e w1 ⟨rfl,hb1⟩;have XP:=ast (HX.out _ (HT.out.below hb1));clear hb1 HX HN HT;go_wp2_with fail
 refine XP.out.mono ?_;rintro e w2 ⟨r,rfl,hq⟩;have HQ:=ast hq;clear hq XP;go_wp2_with fail
 go_ret
 exact⟨r,rfl,HQ.out⟩
theorem CV{w0 w:World}{rb bb db:Nat}{rc:RC}{ev bI bC bv:Value}{es:List PE}{nv nt:Int}{pc dc:List Int}{tk:Int}{bs:List PB}{kn:Inf}
  (h:DS w0 w rb rc bb db ev bI bC bv es nv nt pc dc tk bs kn) (lG:0≤tk) (iU:tk≤1000000000) (s:ByteArray) (hsz:s.size≤100000000) (g0:(s.toList == [])=false) (g1:(s.toList == [58])=false) (g2:(s.toList == [118,97,114,105,97,98,108,101])=false) (g3:(s.toList == [59])=false) (g4:(s.toList == [105,102])=false) (g5:(s.toList == [101,108,115,101])=false) (g6:(s.toList == [116,104,101,110])=false) (g7:(s.toList == [100,111])=false) (g8:(s.toList == [108,111,111,112])=false) (hnum:(je s).2=false) (Q:Int→World→Prop)
  (hX:∀w',DS w0 w' rb rc bb db ev bI bC bv es nv nt pc dc (tk+1) bs kn→Calls Tryz.prog 164 #[.pointer (some ⟨db,0,none⟩),.string s] w' fun e w''=>∃r,e=.returned (.int .i64 r)∧Q r w''):
  Calls Tryz.prog 125 #[.pointer (some ⟨db,0,none⟩),.string s] w fun e w'=>∃r,e=.returned (.int .i64 r)∧Q r w':=by
 obtain⟨c0,c1,c2,c3⟩:=h.def;have q1:=h.blk.frozen 1;have htk:(tk:Int)≤1000000000:=iU;have HT:=ast (h.tick (tk+1));clear h c0 c2 c3 iU;have HN:=ast (tu s _ hsz HT.out.tab);rw[hnum]at HN;have HX:=ast hX;clear hX hnum hsz;obtain⟨n,hn⟩:=exq ((je s).1);rw[←hn]at HN;clear hn;go_enter Tryz.func125,Tryz.ntmps125
 go_wp2_with fail
 refine HN.out.mono ?_;rintro e w1 ⟨rfl,hb1⟩;have XP:=ast (HX.out _ (HT.out.below hb1));clear hb1 HX HN HT;go_wp2_with fail
 refine XP.out.mono ?_;rintro e w2 ⟨r,rfl,hq⟩;have HQ:=ast hq;clear hq XP;go_wp2_with fail
 go_ret
 exact⟨r,rfl,HQ.out⟩
end
section
abbrev SR:=Int×List Int×List PB×Inf
def pX(es:List PE)(dc:List Int)(b:PB)(r:List PB)(kn:Inf)(s:ByteArray):SR:=
 match eH es s es.length with
 |some x=>(0,dc++[x.op,x.place],b.add x.use :: r,kn)
 |none=>
  match fP s with
  |none=>(3,dc,b :: r,kn)
  |some k=>if k=27∧b.lF=false then(5,dc,b :: r,kn)else(0,dc++[(k:Int)],b.add (ai k) :: r,kn)
def aT(es:List PE)(nt tk:Int)(dc:List Int)(st:List PB)(kn:Inf)(s:ByteArray):SR:=
 match st with
 |[]=>(5,dc,[],kn)
 |b :: r=>
  if(s.toList == [])=true then(5,dc,b :: r,kn)
  else if(s.toList == [58])=true then(5,dc,b :: r,kn)
  else if(s.toList == [118,97,114,105,97,98,108,101])=true then(5,dc,b :: r,kn)
  else if(s.toList == [59])=true then
   if b.opener=34 then(jy (b.does.then (ai 34)).steps nt tk,dc++[34],[],b.does.then (ai 34))else(5,dc,b :: r,kn)
  else if(s.toList == [105,102])=true then(0,dc++[29,0],PB.opened {PB.zero with opener:=29} (b.add (ai 29)) (dc.length+2) :: b.add (ai 29) :: r,kn)
  else if(s.toList == [101,108,115,101])=true then
   if b.opener=29 then
    match r with
    |[]=>(5,dc,b :: r,kn)
    |c :: r'=>(0,(dc++[30,0]).set b.hole.toNat (dc.length+2),PB.opened {PB.zero with opener:=30,other:=b.does.then (ai 30)} c (dc.length+2) :: c :: r',kn)
   else(5,dc,b :: r,kn)
  else if(s.toList == [116,104,101,110])=true then
   if b.opener=29∨b.opener=30 then
    if b.does.bu=b.other.bu then
     match r with
     |[]=>(5,dc,b :: r,kn)
     |c :: r'=>(0,dc.set b.hole.toNat dc.length,c.add (b.does.yt b.other) :: r',kn)
    else(6,dc,b :: r,kn)
   else(5,dc,b :: r,kn)
  else if(s.toList == [100,111])=true then
   if b.numbers<2 then(5,dc,b :: r,kn)
   else if 1000<max 0 (b.a0 - b.a1)then(7,dc,b :: r,kn)
   else(0,dc++[31,0],PB.opened {PB.zero with opener:=31,times:=max 0 (b.a0 - b.a1)} (b.add (ai 31)) (dc.length+2) :: b.add (ai 31) :: r,kn)
  else if(s.toList == [108,111,111,112])=true then
   if b.opener=31 then
    if b.does.bu=0 then
     match r with
     |[]=>(5,dc,b :: r,kn)
     |c :: r'=>(0,(dc++[32,(b.hole.toNat:Int)+1]).set b.hole.toNat (dc.length+2),c.add ((b.does.then (ai 32)).eU b.times) :: r',kn)
    else(6,dc,b :: r,kn)
   else(5,dc,b :: r,kn)
  else if(je s).2=true then(0,dc++[28,(je s).1],{b.add (ai 28)with numbers:=min (b.numbers+1) 2,a0:=b.a1,a1:=(je s).1} :: r,kn)
  else pX es dc b r kn s
def Iq(w0:World)(rb:Nat)(rc:RC)(bb db:Nat)(ev bI:Value)(es:List PE)(nv nt:Int)(pc:List Int)(tk:Int)(R:SR)(r:Int)(w':World):Prop:=
 r=R.1∧∃iK rE ql st' Ir,DS w0 w' rb rc bb db ev bI iK rE es nv nt pc ql tk (List.reverse st') Ir∧(r=0→ql=R.2.1∧st'=R.2.2.1∧Ir=R.2.2.2)
structure xw (b:PB):Prop where
 n0:0≤b.numbers
 n1:b.numbers≤2
 a0: -2147483648≤b.a0
 a1:b.a0≤2147483647
 b0: -2147483648≤b.a1
 b1:b.a1≤2147483647
 t0:0≤b.times
 t1:b.times≤1000
def lX(pn dn:Nat):List PB→Prop
 |[]=>False
 |[b]=>b.opener=34∧xw b
 |b :: c :: r=>(b.opener=29∨b.opener=30∨b.opener=31)∧(∃k:Nat,b.hole=k∧pn≤k∧k<dn)∧xw b∧lX pn dn (c :: r)
def WB:List PB→Nat→Prop
 |[],_=>True
 |b :: r,q=>∃q1 q2:Nat,b.does.Wt q1∧b.other.Wt q2∧q1+q2≤q∧WB r (q - q1 - q2)
theorem Inf.Wt.yt{a b:Inf}{q r:Int}(ha:a.Wt q)(hb:b.Wt r)(hq:0≤q)(hr:0≤r):(a.yt b).Wt (q+r):=by
 obtain⟨a1,a2,a3,a4,a5,a6,a7,a8⟩:=ha;obtain⟨b1,b2,b3,b4,b5,b6,b7,b8⟩:=hb
 constructor<;>simp only[Inf.yt]<;>omega
theorem Inf.Wt.eU{a:Inf}{q n:Int}(ha:a.Wt q)(hq:0≤q)(h0:0≤n):(a.eU n).Wt q:=by
 obtain⟨a1,a2,a3,a4,a5,a6,a7,a8⟩:=ha;have hp:0≤a.steps*n:=Int.mul_nonneg a7 h0;unfold Inf.eU
 split<;>constructor<;>simp only<;>omega
theorem jQ(k:Nat)(h:k<35):(ai k).Wt 1:=by
 obtain⟨a,b,c,d⟩:=qL k h
 constructor<;>simp only[ai]<;>omega
theorem lX.XQ{pn dn:Nat}{b:PB}{r:List PB}(h:lX pn dn (b :: r)):xw b:=by
 cases r with
 |nil=>exact h.2
 |cons c r=>exact h.2.2.1
theorem lX.base{pn dn:Nat}{b:PB}{r:List PB}(h:lX pn dn (b :: r))(ho:b.opener=34):r=[]:=by
 cases r with
 |nil=>rfl
 |cons c r=>obtain⟨h1,_⟩:=h;omega
theorem lX.inner{pn dn:Nat}{b:PB}{r:List PB}(h:lX pn dn (b :: r))(ho:b.opener≠34):∃c r',r=c :: r'∧(∃k:Nat,b.hole=k∧pn≤k∧k<dn)∧lX pn dn (c :: r'):=by
 cases r with
 |nil=>exact absurd h.1 ho
 |cons c r=>exact⟨c,r,rfl,h.2.1,h.2.2.2⟩
end
section
theorem rG(es:List PE)(s:ByteArray):∀(n:Nat) (x:PE),n≤es.length→eH es s n=some x→x∈es
 |0,x,_,h=>by cases h
 |n+1,x,hn,h=>by
  unfold eH at h
  split at h
  ·have hx:es.getD n PE.zero=es[n]'(by omega):=by simp[show n<es.length by omega]
   rw[hx]at h
   cases h
   exact List.getElem_mem _
  ·exact rG es s n x (by omega) h
theorem PE.Ur{x:PE}(h:x.inf.Wt 1):x.use.Wt 2:=by
 unfold PE.use
 split
 ·exact(jQ 28 (by omega)).mono (by omega)
 ·have:=(jQ 33 (by omega)).then h (by omega) (by omega)
  exact this.mono (by omega)
theorem WB.head{b:PB}{r:List PB}{q:Nat}(h:WB (b :: r) q):∃q1:Nat,q1≤q∧b.does.Wt q1:=by
 obtain⟨q1,q2,h1,_,h3,_⟩:=h;exact⟨q1,by omega,h1⟩
theorem WB.other{b:PB}{r:List PB}{q:Nat}(h:WB (b :: r) q):∃q1 q2:Nat,q1+q2≤q∧b.does.Wt q1∧b.other.Wt q2∧WB r (q - q1 - q2):=by
 obtain⟨q1,q2,h1,h2,h3,h4⟩:=h;exact⟨q1,q2,h3,h1,h2,h4⟩
theorem Us{w0 w:World}{rb bb db:Nat}{rc:RC}{ev bI bC bv:Value}{es:List PE}{nv nt:Int}{pc dc:List Int}{tk:Int}{kn:Inf}{b:PB}{r:List PB}
  (h:DS w0 w rb rc bb db ev bI bC bv es nv nt pc dc tk (List.reverse (b :: r)) kn) (s:ByteArray) (hsz:s.size≤100000000) (hes:es.length≤1000) (hwt:∀x∈es,x.inf.Wt 1)
  (hi:lX pc.length dc.length (b :: r)) (q:Nat) (hw:WB (b :: r) q) (hq:q≤5000000) (hl:r.length≤5000000) (hc:dc.length≤5000000) (lG:0≤tk) (iU:tk≤5000000) (XM:0≤nt) (XN:nt≤100000):
  Calls Tryz.prog 125 #[.pointer (some ⟨db,0,none⟩),.string s] w fun e w'=>∃x,e=.returned (.int .i64 x)∧Iq w0 rb rc bb db ev bI es nv nt pc (tk+1) (aT es nt (tk+1) dc (b :: r) kn s) x w':=by
 obtain⟨R,hR⟩:=exq (aT es nt (tk+1) dc (b :: r) kn s);rw[←hR];have hrev:List.reverse (b :: r)=List.reverse r++[b]:=by simp
 have hrl:(List.reverse r).length=r.length:=by simp
 rw[hrev]at h;have pV:=hi.XQ;obtain⟨q1,Zj,uQ⟩:=hw.head;have hdo:b.does.Ok:=uQ.ok (by omega) (by omega)
 have bad:∀(E:Int) (hE:E≠0) (hRe:R.1=E) (w':World),DS w0 w' rb rc bb db ev bI bC bv es nv nt pc dc (tk+1) (List.reverse r++[b]) kn→Iq w0 rb rc bb db ev bI es nv nt pc (tk+1) R E w':=
  fun E hE hRe w' hd=>⟨hRe.symm,_,_,_,b :: r,_,by rw[hrev];exact hd,fun e=>absurd e hE⟩
 by_cases g0:(s.toList == [])=true
 ·have hRe:R.1=5:=by rw[hR];unfold aT;simp[g0]
  refine(Fe h lG (by omega) s g0).mono ?_;rintro e w1 ⟨rfl,hd⟩;exact⟨5,rfl,bad 5 (by decide) hRe w1 hd⟩
 have f0:(s.toList == [])=false:=by simpa using g0
 by_cases g1:(s.toList == [58])=true
 ·have hRe:R.1=5:=by rw[hR];unfold aT;simp[f0,g1]
  refine(AP h lG (by omega) s g1).mono ?_;rintro e w1 ⟨rfl,hd⟩;exact⟨5,rfl,bad 5 (by decide) hRe w1 hd⟩
 have f1:(s.toList == [58])=false:=by simpa using g1
 by_cases g2:(s.toList == [118,97,114,105,97,98,108,101])=true
 ·have hRe:R.1=5:=by rw[hR];unfold aT;simp[f0,f1,g2]
  refine(Ff h lG (by omega) s g2).mono ?_;rintro e w1 ⟨rfl,hd⟩;exact⟨5,rfl,bad 5 (by decide) hRe w1 hd⟩
 have f2:(s.toList == [118,97,114,105,97,98,108,101])=false:=by simpa using g2
 by_cases g3:(s.toList == [59])=true
 ·refine Fg h lG (by omega) s g3 _ (fun w1 hd=>?_)
  by_cases ho:b.opener=34
  ·have KT:=hi.base ho
   subst KT;simp only[List.reverse_nil,List.nil_append]at hd;have hRe:R=(jy (b.does.then (ai 34)).steps nt (tk+1),dc++[34],[],b.does.then (ai 34)):=by rw[hR];unfold aT;simp[f0,f1,f2,g3,ho]
   refine(XL hd ho hdo (by omega) XM XN (by omega) (by omega)).mono ?_;rintro e w2 ⟨rfl,iK,rE,bs',jf,h0⟩;refine⟨_,rfl,by rw[hRe],iK,rE,_,List.reverse bs',_,by rw[List.reverse_reverse];exact jf,fun e0=>?_⟩;have:=h0 e0;rw[hRe,this];exact⟨rfl,rfl,rfl⟩
  ·have hRe:R.1=5:=by rw[hR];unfold aT;simp[f0,f1,f2,g3,ho]
   refine(KH hd ho (by omega)).mono ?_;rintro e w2 ⟨rfl,jf⟩;exact⟨5,rfl,bad 5 (by decide) hRe w2 jf⟩
 have f3:(s.toList == [59])=false:=by simpa using g3
 by_cases g4:(s.toList == [105,102])=true
 ·have hRe:R=(0,dc++[29,0],PB.opened {PB.zero with opener:=29} (b.add (ai 29)) (dc.length+2) :: b.add (ai 29) :: r,kn):=by rw[hR];unfold aT;simp[f0,f1,f2,f3,g4]
  refine Io h lG (by omega) s g4 _ (fun w1 hd=>?_);refine(aa7 hd hdo (by omega) (by omega)).mono ?_;rintro e w2 ⟨rfl,iK,rE,jf⟩;refine⟨0,rfl,by rw[hRe],iK,rE,_,PB.opened {PB.zero with opener:=29} (b.add (ai 29)) (dc.length+2) :: b.add (ai 29) :: r,_,by simpa using jf,fun _=>by rw[hRe];exact⟨rfl,rfl,rfl⟩⟩
 have f4:(s.toList == [105,102])=false:=by simpa using g4
 by_cases g5:(s.toList == [101,108,115,101])=true
 ·refine CP h lG (by omega) s g5 _ (fun w1 hd=>?_)
  by_cases ho:b.opener=29
  ·obtain⟨c,r',rfl,⟨k,hk,dM,hk2⟩,Og⟩:=hi.inner (by omega)
   have hkn:b.hole.toNat=k:=by rw[hk];simp
   have hRe:R=(0,(dc++[30,0]).set k (dc.length+2),PB.opened {PB.zero with opener:=30,other:=b.does.then (ai 30)} c (dc.length+2) :: c :: r',kn):=by rw[hR];unfold aT;simp[f0,f1,f2,f3,f4,g5,ho,hkn]
   have hd':DS w0 w1 rb rc bb db ev bI bC bv es nv nt pc dc (tk+1) (List.reverse r'++[c]++[b]) kn:=by simpa using hd
   refine(Ue hd' ho hdo k hk dM hk2 (by simp at hl ⊢;omega) (by omega)).mono ?_;rintro e w2 ⟨rfl,iK,rE,jf⟩;refine⟨0,rfl,by rw[hRe],iK,rE,_,PB.opened {PB.zero with opener:=30,other:=b.does.then (ai 30)} c (dc.length+2) :: c :: r',_,by simpa using jf,fun _=>by rw[hRe];exact⟨rfl,rfl,rfl⟩⟩
  ·have hRe:R.1=5:=by rw[hR];unfold aT;simp[f0,f1,f2,f3,f4,g5,ho]
   refine(Ia hd ho (by omega)).mono ?_;rintro e w2 ⟨rfl,jf⟩;exact⟨5,rfl,bad 5 (by decide) hRe w2 jf⟩
 have f5:(s.toList == [101,108,115,101])=false:=by simpa using g5
 by_cases g6:(s.toList == [116,104,101,110])=true
 ·refine CQ h lG (by omega) s g6 _ (fun w1 hd=>?_)
  by_cases ho:b.opener=29∨b.opener=30
  ·by_cases hn:b.does.bu=b.other.bu
   ·obtain⟨c,r',rfl,⟨k,hk,dM,hk2⟩,Og⟩:=hi.inner (by omega)
    have hkn:b.hole.toNat=k:=by rw[hk];simp
    obtain⟨p1,p2,hp,hw1,hw2,hw3⟩:=hw.other;obtain⟨p3,NY,hw4⟩:=hw3.head;have hRe:R=(0,dc.set k dc.length,c.add (b.does.yt b.other) :: r',kn):=by rw[hR];unfold aT;simp[f0,f1,f2,f3,f4,f5,g6,ho,hn,hkn]
    have hd':DS w0 w1 rb rc bb db ev bI bC bv es nv nt pc dc (tk+1) (List.reverse r'++[c]++[b]) kn:=by simpa using hd
    refine(Uh hd' ho hn k hk dM hk2 ((hw1.yt hw2 (by omega) (by omega)).ok (by omega) (by omega)) (hw4.ok (by omega) (by omega)) (by simp at hl ⊢;omega) (by omega)).mono ?_;rintro e w2 ⟨rfl,iK,rE,jf⟩;refine⟨0,rfl,by rw[hRe],iK,rE,_,c.add (b.does.yt b.other) :: r',_,by simpa using jf,fun _=>by rw[hRe];exact⟨rfl,rfl,rfl⟩⟩
   ·have hRe:R.1=6:=by rw[hR];unfold aT;simp[f0,f1,f2,f3,f4,f5,g6,ho,hn]
    refine(CE hd ho hn (by omega)).mono ?_;rintro e w2 ⟨rfl,jf⟩;exact⟨6,rfl,bad 6 (by decide) hRe w2 jf⟩
  ·have hRe:R.1=5:=by rw[hR];unfold aT;simp[f0,f1,f2,f3,f4,f5,g6,ho]
   refine(Ie hd (fun e=>ho (Or.inl e)) (fun e=>ho (Or.inr e)) (by omega)).mono ?_;rintro e w2 ⟨rfl,jf⟩;exact⟨5,rfl,bad 5 (by decide) hRe w2 jf⟩
 have f6:(s.toList == [116,104,101,110])=false:=by simpa using g6
 by_cases g7:(s.toList == [100,111])=true
 ·refine Ip h lG (by omega) s g7 _ (fun w1 hd=>?_)
  by_cases hn:b.numbers<2
  ·have hRe:R.1=5:=by rw[hR];unfold aT;simp[f0,f1,f2,f3,f4,f5,f6,g7,hn]
   refine(PM hd hn (by omega)).mono ?_;rintro e w2 ⟨rfl,jf⟩;exact⟨5,rfl,bad 5 (by decide) hRe w2 jf⟩
  ·by_cases hm:1000<max 0 (b.a0 - b.a1)
   ·have hRe:R.1=7:=by rw[hR];unfold aT;simp only[f0,f1,f2,f3,f4,f5,f6,g7,hn,hm,if_true,if_false,Bool.false_eq_true]
    refine(Ib hd hn pV.a0 pV.a1 pV.b0 pV.b1 (by omega) (by omega)).mono ?_;rintro e w2 ⟨rfl,jf⟩;exact⟨7,rfl,bad 7 (by decide) hRe w2 jf⟩
   ·have hRe:R=(0,dc++[31,0],PB.opened {PB.zero with opener:=31,times:=max 0 (b.a0 - b.a1)} (b.add (ai 31)) (dc.length+2) :: b.add (ai 31) :: r,kn):=by rw[hR];unfold aT;simp only[f0,f1,f2,f3,f4,f5,f6,g7,hn,hm,if_true,if_false,Bool.false_eq_true]
    refine(aa8 hd hn pV.a0 pV.a1 pV.b0 pV.b1 hm hdo (by omega) (by omega)).mono ?_;rintro e w2 ⟨rfl,iK,rE,jf⟩;refine⟨0,rfl,by rw[hRe],iK,rE,_,PB.opened {PB.zero with opener:=31,times:=max 0 (b.a0 - b.a1)} (b.add (ai 31)) (dc.length+2) :: b.add (ai 31) :: r,_,by simpa using jf,fun _=>by rw[hRe];exact⟨rfl,rfl,rfl⟩⟩
 have f7:(s.toList == [100,111])=false:=by simpa using g7
 by_cases g8:(s.toList == [108,111,111,112])=true
 ·refine CS h lG (by omega) s g8 _ (fun w1 hd=>?_)
  by_cases ho:b.opener=31
  ·by_cases hn:b.does.bu=0
   ·obtain⟨c,r',rfl,⟨k,hk,dM,hk2⟩,Og⟩:=hi.inner (by omega)
    have hkn:b.hole.toNat=k:=by rw[hk];simp
    obtain⟨p1,p2,hp,hw1,hw2,hw3⟩:=hw.other;obtain⟨p3,NY,hw4⟩:=hw3.head;have hwl:=hw1.then (jQ 32 (by omega)) (by omega) (by omega);have hRe:R=(0,(dc++[32,(k:Int)+1]).set k (dc.length+2),c.add ((b.does.then (ai 32)).eU b.times) :: r',kn):=by rw[hR];unfold aT;simp[f0,f1,f2,f3,f4,f5,f6,f7,g8,ho,hn,hkn]
    have hd':DS w0 w1 rb rc bb db ev bI bC bv es nv nt pc dc (tk+1) (List.reverse r'++[c]++[b]) kn:=by simpa using hd
    refine(Uf hd' ho hn k hk dM hk2 pV.t0 pV.t1 hdo (hwl.ok (by omega) (by omega)) ((hwl.eU (by omega) pV.t0).ok (by omega) (by omega)) (hw4.ok (by omega) (by omega)) (by simp at hl ⊢;omega) (by omega)).mono ?_;rintro e w2 ⟨rfl,iK,rE,jf⟩;refine⟨0,rfl,by rw[hRe],iK,rE,_,c.add ((b.does.then (ai 32)).eU b.times) :: r',_,by simpa using jf,fun _=>by rw[hRe];exact⟨rfl,rfl,rfl⟩⟩
   ·have hRe:R.1=6:=by rw[hR];unfold aT;simp[f0,f1,f2,f3,f4,f5,f6,f7,g8,ho,hn]
    refine(CB hd ho hn (by omega)).mono ?_;rintro e w2 ⟨rfl,jf⟩;exact⟨6,rfl,bad 6 (by decide) hRe w2 jf⟩
  ·have hRe:R.1=5:=by rw[hR];unfold aT;simp[f0,f1,f2,f3,f4,f5,f6,f7,g8,ho]
   refine(Ic hd ho (by omega)).mono ?_;rintro e w2 ⟨rfl,jf⟩;exact⟨5,rfl,bad 5 (by decide) hRe w2 jf⟩
 have f8:(s.toList == [108,111,111,112])=false:=by simpa using g8
 by_cases hnum:(je s).2=true
 ·have hRe:R=(0,dc++[28,(je s).1],{b.add (ai 28)with numbers:=min (b.numbers+1) 2,a0:=b.a1,a1:=(je s).1} :: r,kn):=by rw[hR];unfold aT;simp only[f0,f1,f2,f3,f4,f5,f6,f7,f8,hnum,if_true,if_false,Bool.false_eq_true]
  refine yP h lG (by omega) s hsz f0 f1 f2 f3 f4 f5 f6 f7 f8 hnum _ (fun w1 hd=>?_);refine(KG hd (je s).1 hdo pV.n0 pV.n1 (by omega) (by omega)).mono ?_;rintro e w2 ⟨rfl,iK,jf⟩;refine⟨0,rfl,by rw[hRe],iK,bv,_,{b.add (ai 28)with numbers:=min (b.numbers+1) 2,a0:=b.a1,a1:=(je s).1} :: r,_,by simpa using jf,fun _=>by rw[hRe];exact⟨rfl,rfl,rfl⟩⟩
 have ZJ:(je s).2=false:=by simpa using hnum
 have hRw:R=pX es dc b r kn s:=by rw[hR];unfold aT;simp only[f0,f1,f2,f3,f4,f5,f6,f7,f8,ZJ,if_false,Bool.false_eq_true]
 refine CV h lG (by omega) s hsz f0 f1 f2 f3 f4 f5 f6 f7 f8 ZJ _ (fun w1 hd=>?_)
 cases hlp:eH es s es.length with
 |some x=>
  have hRe:R=(0,dc++[x.op,x.place],b.add x.use :: r,kn):=by rw[hRw,pX,hlp]
  have hx:=hwt x (rG es s _ x nrq hlp);refine(E5 hd s x hlp (hx.ok (by omega) (by omega)) ((PE.Ur hx).ok (by omega) (by omega)) hdo hes (by omega) (by omega)).mono ?_;rintro e w2 ⟨rfl,iK,jf⟩;refine⟨0,rfl,by rw[hRe],iK,bv,_,b.add x.use :: r,_,by simpa using jf,fun _=>by rw[hRe];exact⟨rfl,rfl,rfl⟩⟩
 |none=>
  cases hop:fP s with
  |none=>
   have hRe:R.1=3:=by rw[hRw,pX,hlp];simp only[hop]
   refine(Ih hd s hlp hop hes (by omega) (by omega)).mono ?_;rintro e w2 ⟨rfl,jf⟩;exact⟨3,rfl,bad 3 (by decide) hRe w2 jf⟩
  |some k=>
   by_cases hn:k=27∧b.lF=false
   ·have hRe:R.1=5:=by rw[hRw,pX,hlp];simp only[hop];rw[if_pos hn]
    obtain⟨rfl,hin⟩:=hn;refine(CG hd s hlp hop hin hes (by omega) (by omega)).mono ?_;rintro e w2 ⟨rfl,jf⟩;exact⟨5,rfl,bad 5 (by decide) hRe w2 jf⟩
   ·have hRe:R=(0,dc++[(k:Int)],b.add (ai k) :: r,kn):=by rw[hRw,pX,hlp];simp only[hop];rw[if_neg hn]
    have aj2:k≠27∨b.lF=true:=by
     by_cases Xr:k=27
     ·right
      cases hb:b.lF with
      |true=>rfl
      |false=>exact absurd ⟨Xr,hb⟩ hn
     ·exact Or.inl Xr
    refine(Uj hd s k hlp hop aj2 hdo hes (by omega) (by omega)).mono ?_;rintro e w2 ⟨rfl,iK,jf⟩;refine⟨0,rfl,by rw[hRe],iK,bv,_,b.add (ai k) :: r,_,by simpa using jf,fun _=>by rw[hRe];exact⟨rfl,rfl,rfl⟩⟩
end
section
theorem lX.mono{pn dn dn':Nat}(hd:dn≤dn'):∀{st:List PB},lX pn dn st→lX pn dn' st
 |[],h=>h
 |[b],h=>h
 |b :: c :: r,⟨h1,⟨k,h2,h3,h4⟩,h5,h6⟩=>⟨h1,⟨k,h2,h3,by omega⟩,h5,lX.mono hd h6⟩
theorem xw.add{b:PB}(h:xw b)(i:Inf):xw (b.add i):=⟨by simp[PB.add],by simp[PB.add],h.a0,h.a1,h.b0,h.b1,h.t0,h.t1⟩
theorem lX.set{pn dn:Nat}{b b':PB}{r:List PB}(h:lX pn dn (b :: r))(h1:b'.opener=b.opener)(h2:b'.hole=b.hole)(h3:xw b'):lX pn dn (b' :: r):=by
 cases r with
 |nil=>exact⟨by rw[h1];exact h.1,h3⟩
 |cons c r=>exact⟨by rw[h1];exact h.1,by rw[h2];exact h.2.1,h3,h.2.2.2⟩
theorem xw.opened(t o:Int)(ot:Inf)(c:PB)(n:Nat)(h0:0≤t)(h1:t≤1000):xw (PB.opened {PB.zero with opener:=o,times:=t,other:=ot} c n):=
 ⟨by simp[PB.opened,PB.zero],by simp[PB.opened,PB.zero],by simp[PB.opened,PB.zero],by simp[PB.opened,PB.zero],by simp[PB.opened,PB.zero],by simp[PB.opened,PB.zero],h0,h1⟩
theorem WB.mono:∀{st:List PB} {q q':Nat},WB st q→q≤q'→WB st q'
 |[],_,_,_,_=>trivial
 |b :: r,q,q',⟨q1,q2,h1,h2,h3,h4⟩,hq=>⟨q1,q2,h1,h2,by omega,WB.mono h4 (by omega)⟩
theorem WB.add{b:PB}{r:List PB}{q n:Nat}(h:WB (b :: r) q){i:Inf}(hi:i.Wt n):WB (b.add i :: r) (q+n):=by
 obtain⟨q1,q2,h1,h2,h3,h4⟩:=h;refine⟨q1+n,q2,?_,h2,by omega,WB.mono h4 (by omega)⟩;have:=h1.then hi (by omega) (by omega);simpa [PB.add]using this
theorem WB.push{st:List PB}{q q1 q2:Nat}{b:PB}(h:WB st q)(h1:b.does.Wt q1)(h2:b.other.Wt q2):WB (b :: st) (q+q1+q2):=
 ⟨q1,q2,h1,h2,by omega,WB.mono h (by omega)⟩
theorem XR(s:ByteArray): -2147483648≤(je s).1∧(je s).1≤2147483647:=by
 unfold je
 split
 ·rename_i v hv
  split
  ·simp
  ·unfold Lib.parseIntB at hv
   split at hv
   ·cases hv
   ·simp only at hv
    split at hv
    ·cases hv
    ·cases hv
    ·split at hv
     ·cases hv
     ·split at hv
      ·cases hv
      ·rename_i u _ h1 h2
       simp only[Lib.NumEnd.ok.injEq]at hv;subst hv;simp only
       split
       ·rename_i hn;constructor<;>(simp[hn]at h2<;>omega)
       ·rename_i hn;constructor<;>(simp[hn]at h1<;>omega)
 ·simp
theorem Ut(es:List PE)(hwt:∀x∈es,x.inf.Wt 1)(nt tk:Int)(pn:Nat)(dc:List Int)(st:List PB)(kn:Inf)(s:ByteArray)(q:Nat)(hi:lX pn dc.length st)(hw:WB st q)(hpn:pn≤dc.length)
  (R:SR) (hR:aT es nt tk dc st kn s=R) (h0:R.1=0):dc.length≤R.2.1.length∧R.2.1.length≤dc.length+2∧R.2.2.1.length≤st.length+1∧WB R.2.2.1 (q+2)∧(R.2.2.1=[]∨lX pn R.2.1.length R.2.2.1)∧R.2.1.take pn=dc.take pn:=by
 cases st with
 |nil=>exact hi.elim
 |cons b r=>
  have pV:=hi.XQ;unfold aT at hR;simp only at hR;have t2:∀l:List Int,(dc++l).take pn=dc.take pn:=fun l=>by rw[List.take_append_of_le_length hpn]
  have i1:∀(b':PB) (l:List Int),b'.opener=b.opener→b'.hole=b.hole→xw b'→lX pn (dc++l).length (b' :: r):=fun b' l e1 e2 e3=>(hi.set e1 e2 e3).mono (by simp)
  have bad:∀(E:Int),E≠0→R=(E,dc,b :: r,kn)→False:=fun E hE e=>hE (by rw[e]at h0;exact h0)
  by_cases g0:(s.toList == [])=true
  ·rw[if_pos g0]at hR
   exact(bad 5 (by decide) hR.symm).elim
  rw[if_neg g0]at hR
  by_cases g1:(s.toList == [58])=true
  ·rw[if_pos g1]at hR
   exact(bad 5 (by decide) hR.symm).elim
  rw[if_neg g1]at hR
  by_cases g2:(s.toList == [118,97,114,105,97,98,108,101])=true
  ·rw[if_pos g2]at hR
   exact(bad 5 (by decide) hR.symm).elim
  rw[if_neg g2]at hR
  by_cases g3:(s.toList == [59])=true
  ·rw[if_pos g3]at hR
   by_cases ho:b.opener=34
   ·rw[if_pos ho]at hR
    subst hR;exact⟨by simp,by simp,by simp,trivial,Or.inl rfl,t2 _⟩
   ·rw[if_neg ho]at hR
    exact(bad 5 (by decide) hR.symm).elim
  rw[if_neg g3]at hR
  by_cases g4:(s.toList == [105,102])=true
  ·rw[if_pos g4]at hR
   subst hR;refine⟨by simp,by simp,by simp,?_,Or.inr ?_,t2 _⟩
   ·exact((hw.add (n:=1) (jQ 29 (by omega))).push (q1:=0) (q2:=0) Inf.Wt.zero Inf.Wt.zero).mono (by omega)
   ·exact⟨Or.inl rfl,⟨dc.length+1,by simp[PB.opened];omega,by omega,by simp⟩,xw.opened 0 29 Inf.zero _ _ (by omega) (by omega),i1 _ _ rfl rfl (pV.add _)⟩
  rw[if_neg g4]at hR
  by_cases g5:(s.toList == [101,108,115,101])=true
  ·rw[if_pos g5]at hR
   by_cases ho:b.opener=29
   ·rw[if_pos ho]at hR
    obtain⟨c,r',rfl,⟨k,hk,dM,hk2⟩,Og⟩:=hi.inner (by omega);have hkn:b.hole.toNat=k:=by rw[hk];simp
    obtain⟨p1,p2,hp,hw1,hw2,hw3⟩:=hw.other;simp only[hkn]at hR;subst hR;have hwl:=hw1.then (jQ 30 (by omega)) (by omega) (by omega);refine⟨by simp,by simp,by simp,?_,Or.inr ?_,?_⟩
    ·exact(hw3.push (b:=PB.opened {PB.zero with opener:=30,other:=b.does.then (ai 30)} c (dc.length+2)) (q1:=0) (q2:=p1+1) Inf.Wt.zero (by simpa [PB.opened]using hwl)).mono (by omega)
    ·exact⟨Or.inr (Or.inl rfl),⟨dc.length+1,by simp[PB.opened];omega,by omega,by simp⟩,xw.opened 0 30 _ _ _ (by omega) (by omega),Og.mono (by simp)⟩
    ·rw[List.take_set,List.set_eq_of_length_le (by simp;omega)];exact t2 _
   ·rw[if_neg ho]at hR
    exact(bad 5 (by decide) hR.symm).elim
  rw[if_neg g5]at hR
  by_cases g6:(s.toList == [116,104,101,110])=true
  ·rw[if_pos g6]at hR
   by_cases ho:b.opener=29∨b.opener=30
   ·rw[if_pos ho]at hR
    by_cases hn:b.does.bu=b.other.bu
    ·rw[if_pos hn]at hR
     obtain⟨c,r',rfl,⟨k,hk,dM,hk2⟩,Og⟩:=hi.inner (by omega);have hkn:b.hole.toNat=k:=by rw[hk];simp
     obtain⟨p1,p2,hp,hw1,hw2,hw3⟩:=hw.other;simp only[hkn]at hR;subst hR;refine⟨by simp,by simp,by simp only[List.length_cons];omega,?_,Or.inr ?_,?_⟩
     ·exact(hw3.add (n:=p1+p2) (by simpa using hw1.yt hw2 (by omega) (by omega))).mono (by omega)
     ·exact(lX.set (b':=c.add (b.does.yt b.other)) Og rfl rfl (Og.XQ.add _)).mono (by simp)
     ·rw[List.take_set,List.set_eq_of_length_le (by simp;omega)]
    ·rw[if_neg hn]at hR
     exact(bad 6 (by decide) hR.symm).elim
   ·rw[if_neg ho]at hR
    exact(bad 5 (by decide) hR.symm).elim
  rw[if_neg g6]at hR
  by_cases g7:(s.toList == [100,111])=true
  ·rw[if_pos g7]at hR
   by_cases hn:b.numbers<2
   ·rw[if_pos hn]at hR
    exact(bad 5 (by decide) hR.symm).elim
   ·rw[if_neg hn]at hR
    by_cases hm:1000<max 0 (b.a0 - b.a1)
    ·rw[if_pos hm]at hR
     exact(bad 7 (by decide) hR.symm).elim
    ·rw[if_neg hm]at hR
     subst hR;refine⟨by simp,by simp,by simp,?_,Or.inr ?_,t2 _⟩
     ·exact((hw.add (n:=1) (jQ 31 (by omega))).push (q1:=0) (q2:=0) Inf.Wt.zero Inf.Wt.zero).mono (by omega)
     ·exact⟨Or.inr (Or.inr rfl),⟨dc.length+1,by simp[PB.opened];omega,by omega,by simp⟩,xw.opened _ 31 Inf.zero _ _ (by omega) (by omega),i1 _ _ rfl rfl (pV.add _)⟩
  rw[if_neg g7]at hR
  by_cases g8:(s.toList == [108,111,111,112])=true
  ·rw[if_pos g8]at hR
   by_cases ho:b.opener=31
   ·rw[if_pos ho]at hR
    by_cases hn:b.does.bu=0
    ·rw[if_pos hn]at hR
     obtain⟨c,r',rfl,⟨k,hk,dM,hk2⟩,Og⟩:=hi.inner (by omega);have hkn:b.hole.toNat=k:=by rw[hk];simp
     obtain⟨p1,p2,hp,hw1,hw2,hw3⟩:=hw.other;simp only[hkn]at hR;subst hR;have hwl:=(hw1.then (jQ 32 (by omega)) (by omega) (by omega)).eU (by omega) pV.t0;refine⟨by simp,by simp,by simp only[List.length_cons];omega,?_,Or.inr ?_,?_⟩
     ·exact(hw3.add (n:=p1+1) (by simpa using hwl)).mono (by omega)
     ·exact(lX.set (b':=c.add ((b.does.then (ai 32)).eU b.times)) Og rfl rfl (Og.XQ.add _)).mono (by simp)
     ·rw[List.take_set,List.set_eq_of_length_le (by simp;omega)];exact t2 _
    ·rw[if_neg hn]at hR
     exact(bad 6 (by decide) hR.symm).elim
   ·rw[if_neg ho]at hR
    exact(bad 5 (by decide) hR.symm).elim
  rw[if_neg g8]at hR
  by_cases hnum:(je s).2=true
  ·rw[if_pos hnum]at hR
   subst hR;refine⟨by simp,by simp,by simp,?_,Or.inr ?_,t2 _⟩
   ·obtain⟨q1,q2,h1,h2,h3,h4⟩:=hw.add (n:=1) (jQ 28 (by omega))
    exact WB.mono ⟨q1,q2,h1,h2,h3,h4⟩ (by omega)
   ·have hb:=XR s
    exact i1 _ _ rfl rfl ⟨by simp only;have:=pV.n0;omega,by simp only;omega,pV.b0,pV.b1,hb.1,hb.2,pV.t0,pV.t1⟩
  rw[if_neg hnum]at hR;unfold pX at hR
  cases hlp:eH es s es.length with
  |some x=>
   rw[hlp]at hR;simp only at hR;subst hR;have hx:=hwt x (rG es s _ x nrq hlp);exact⟨by simp,by simp,by simp,(hw.add (n:=2) (PE.Ur hx)).mono (by omega),Or.inr (i1 _ _ rfl rfl (pV.add _)),t2 _⟩
  |none=>
   rw[hlp]at hR;simp only at hR
   cases hop:fP s with
   |none=>rw[hop]at hR;simp only at hR;exact(bad 3 (by decide) hR.symm).elim
   |some k=>
    rw[hop]at hR;simp only at hR
    by_cases hn:k=27∧b.lF=false
    ·rw[if_pos hn]at hR;exact(bad 5 (by decide) hR.symm).elim
    ·rw[if_neg hn]at hR
     subst hR;exact⟨by simp,by simp,by simp,(hw.add (n:=1) (jQ k (rF hop))).mono (by omega),Or.inr (i1 _ _ rfl rfl (pV.add _)),t2 _⟩
end
end Go.Proofs.YtcphhbofjkenaaaGreatDoor
