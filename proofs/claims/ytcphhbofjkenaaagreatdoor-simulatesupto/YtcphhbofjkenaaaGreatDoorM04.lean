import Derived.Test.YtcphhbofjkenaaaGreatDoorMy
import Derived.Test.YtcphhbofjkenaaaGreatDoorM00
import Derived.Test.YtcphhbofjkenaaaGreatDoorRows
import Derived.WalkLawsBesides
import Derived.WalkSpells
namespace Go.Proofs.YtcphhbofjkenaaaGreatDoor
open Go Go.RowKit Proofs.Tryz
set_option linter.unusedVariables false
set_option linter.unusedSimpArgs false
set_option maxRecDepth 100000
set_option maxHeartbeats 16000000
variable{a b:Int}
theorem P2{p:Prop}(h:p:=by
  clear dK hc hc2;have VX:(c == 224)=false:=aK;have acB:(c == 237)=false:=aK;have ab6:(c == 240)=false:=aK;have aaA:(c == 244)=false:=aK;have r1:decide (c<128)=false:=aK;have r2:decide (194≤c)=true:=aK;have r3:decide (c≤223)=false:=aK;have r4:decide (224≤c)=true:=aK;have r5:decide (c≤239)=true:=aK;go_enter func126,ntmps126;go_wp2;go_loop [8,9,10] (fun a b i=>∃j:Nat,1≤j∧j≤3∧i=ae j∧((j=1∧a=.int .u8 128∧b=.int .u8 191)∨(2≤j∧a=.int .u8 128∧b=.int .u8 191))∧(∀m,1≤m→m<j→k+m<s.size∧(m=1→128≤aJ s (k+m)∧aJ s (k+m)≤191)∧(2≤m→128≤aJ s (k+m)∧aJ s (k+m)≤191))) (fun _ _ i=>3 - (intOf i).toNat)
  case atStart=>exact⟨1,ag,ag,rfl,aC ⟨rfl,rfl,rfl⟩,fun m h1 h2=>ag⟩
  case round=>
   obtain⟨j,tZ,rq,rfl,pw,bj⟩:=hrel;have HO:Hid _:=bj;clear bj
   by_cases hjn:j<3
   ·by_cases hin:k+j<s.size
    ·obtain⟨d,hdd⟩:=ak (aJ s (k+j):Int)
     have nN:((s[k+j]'hin).toNat:Int)=d:=vQ;have HD:Hid (d=aJ s (k+j)):=hdd;have hd0:0≤d:=ag;have iC:d≤255:=zR;clear hdd
     obtain⟨lo,hi,HL,rfl,rfl⟩:∃lo hi:Int,Hid ((j=1∧lo=128∧hi=191)∨(2≤j∧lo=128∧hi=191))∧_=Value.int .u8 lo∧_=Value.int .u8 hi:=by
      rcases pw with ⟨hj,e1,e2⟩|⟨hj,e1,e2⟩
      ·exact⟨_,_,aC ⟨hj,rfl,rfl⟩,e1,e2⟩
      ·exact⟨_,_,aA ⟨hj,rfl,rfl⟩,e1,e2⟩
     clear pw
     by_cases h1:d<lo
     ·go_wp2
      go_ret2
      refine⟨ix (n:=0) (mJ s k 3 128 191 hk C ?_) rfl rfl,rfl⟩;rintro ⟨q1,q2,q3⟩;have:=HD.out;rcases HL with ⟨e,e1,e2⟩|⟨e,e1,e2⟩
      ·subst e;omega
      ·have:=q3 j ag ag;omega
     ·by_cases h2:hi<d
      ·go_wp2
       go_ret2
       refine⟨ix (n:=0) (mJ s k 3 128 191 hk C ?_) rfl rfl,rfl⟩;rintro ⟨q1,q2,q3⟩;have:=HD.out;rcases HL with ⟨e,e1,e2⟩|⟨e,e1,e2⟩
       ·subst e;omega
       ·have:=q3 j ag ag;omega
      ·go_wp2
       go_round
       case rel=>
        refine⟨j+1,ag,ag,bO,aA ⟨ag,rfl,rfl⟩,fun m a1 a2=>?_⟩
        by_cases hm:m=j
        ·subst hm
         have:=HD.out;refine⟨hin,fun e=>?_,fun e=>?_⟩
         ·rcases HL with ⟨e,e1,e2⟩|⟨e,e1,e2⟩<;>omega
         ·rcases HL with ⟨e,e1,e2⟩|⟨e,e1,e2⟩<;>omega
        ·exact HO m a1 ag
       case measure=>simp[intOf];omega
    ·go_wp2
     go_ret2
     refine⟨ix (n:=0) (mJ s k 3 128 191 hk C ?_) rfl rfl,rfl⟩;rintro ⟨q1,q2,q3⟩;omega
   ·go_wp2
    go_ret2
    have e:j=3:=ag;subst e;refine⟨ix (n:=3) (uK s k 3 128 191 hk C ?_ ?_ ?_) rfl rfl,rfl⟩
    ·have:=(HO 2 ag ag).1;omega
    ·exact(HO 1 ag ag).2.1 rfl
    ·intro m a1 a2;exact(HO m ag ag).2.2 a1):p:=h
theorem AE{p:Prop}(h:p:=by
  go_wp2
  go_round
  case rel=>
   refine⟨j+1,ag,ag,bO,aA ⟨ag,rfl,rfl⟩,fun m a1 a2=>?_⟩
   by_cases hm:m=j
   ·subst hm
    have:=HD.out;refine⟨hin,fun e=>?_,fun e=>?_⟩
    ·rcases HL with ⟨e,e1,e2⟩|⟨e,e1,e2⟩<;>omega
    ·rcases HL with ⟨e,e1,e2⟩|⟨e,e1,e2⟩<;>omega
   ·exact HO m a1 ag
  case measure=>simp[intOf];omega):p:=h
theorem Oa{p:Prop}(h:p:=by
  obtain⟨c,dK⟩:=ak (aJ s j:Int);have hck:((s[j]'hlt).toNat:Int)=c:=pW;have hb:=lh s j
  by_cases hd:aJ s j<48∨57<aJ s j
  ·have HX:Hid (R=none):=by
    have:=HR.out
    cases f with
    |zero=>omega
    |succ f=>rw[numAt,aG hlt,aG hd]at this;exact this
   have HQ:Hid (p=(0,false)):=HN.out HX
   by_cases hl:c<48
   ·clear dK hd hb
    go_wp2
    go_ret2
    exact⟨Ed HQ,rfl⟩
   ·have hg:57<c:=by omega
    clear dK hd hb;go_wp2;go_ret2;exact⟨Ed HQ,rfl⟩
  ·have HX:Hid (R=numAt s (f - 1) (j+1) (sat m (aJ s j))):=by
    have:=HR.out
    cases f with
    |zero=>omega
    |succ f=>rw[numAt,aG hlt,az hd]at this;exact this
   have hl:48≤c:=ag;have hg:c≤57:=ag;have SB:=abO hm0 (b:=aJ s j) ag;have HS:Hid (0≤sat m (aJ s j)∧sat m (aJ s j)≤2147483649):=SB
   by_cases hbig:2147483648<m*10+c - 48
   ·have HE:Hid (sat m (aJ s j)=2147483649):=by show sat _ _=_;unfold sat;rw[aG ag]
    clear dK hd hb SB;go_wp2;go_round
    case rel=>exact⟨j+1,f - 1,2147483649,ag,ag,ag,ag,ag,rfl,bO,ab8⟩
    case measure=>simp[intOf];omega
   ·have HE:Hid (sat m (aJ s j)=m*10+c - 48):=by show sat _ _=_;unfold sat;rw[az ag];omega
    clear dK hd hb SB;go_wp2;go_round
    case rel=>exact⟨j+1,f - 1,m*10+c - 48,ag,ag,ag,ag,ag,bO,bO,ab8⟩
    case measure=>simp[intOf];omega):p:=h
theorem Az{p:Prop}(h:p:=by
  rcases pw with ⟨hj,e1,e2⟩|⟨hj,e1,e2⟩
  ·exact⟨_,_,aC ⟨hj,rfl,rfl⟩,e1,e2⟩
  ·exact⟨_,_,aA ⟨hj,rfl,rfl⟩,e1,e2⟩):p:=h
theorem D8{p:Prop}(h:p:=by
  go_wp2
  go_ret2
  exact⟨Ed (by rw[HQ.out];refine Prod.ext rfl ?_;simp[qD];omega),rfl⟩):p:=h
theorem Bc{p:Prop}(h:p:=by
  intro m a1 a2;exact(HO m ag ag).2.2 a1):p:=h
theorem QE{p:Prop}(h:p:=by
  go_wp2
  go_ret2
  refine⟨ix (n:=0) (mJ s k 4 128 191 hk C ?_) rfl rfl,rfl⟩;rintro ⟨q1,q2,q3⟩;have:=HD.out;rcases HL with ⟨e,e1,e2⟩|⟨e,e1,e2⟩
  ·subst e;omega
  ·have:=q3 j ag ag;omega):p:=h
theorem NC{p:Prop}(h:p:=by
  go_wp2
  go_ret2
  refine⟨ix (n:=0) (mJ s k 4 128 143 hk C ?_) rfl rfl,rfl⟩;rintro ⟨q1,q2,q3⟩;have:=HD.out;rcases HL with ⟨e,e1,e2⟩|⟨e,e1,e2⟩
  ·subst e;omega
  ·have:=q3 j ag ag;omega):p:=h
theorem P7{p:Prop}(h:p:=by
  go_wp2
  go_ret2
  refine⟨ix (n:=0) (mJ s k 3 160 191 hk C ?_) rfl rfl,rfl⟩;rintro ⟨q1,q2,q3⟩;have:=HD.out;rcases HL with ⟨e,e1,e2⟩|⟨e,e1,e2⟩
  ·subst e;omega
  ·have:=q3 j ag ag;omega):p:=h
theorem MU{p:Prop}(h:p:=by
  go_wp2
  go_ret2
  refine⟨ix (n:=0) (mJ s k 3 128 159 hk C ?_) rfl rfl,rfl⟩;rintro ⟨q1,q2,q3⟩;have:=HD.out;rcases HL with ⟨e,e1,e2⟩|⟨e,e1,e2⟩
  ·subst e;omega
  ·have:=q3 j ag ag;omega):p:=h
theorem Ol{p:Prop}(h:p:=by
  go_wp2
  go_ret2
  refine⟨ix (n:=0) (mJ s k 4 144 191 hk C ?_) rfl rfl,rfl⟩;rintro ⟨q1,q2,q3⟩;have:=HD.out;rcases HL with ⟨e,e1,e2⟩|⟨e,e1,e2⟩
  ·subst e;omega
  ·have:=q3 j ag ag;omega):p:=h
theorem O6{p:Prop}(h:p:=by
  go_enter func126,ntmps126
  go_wp2
  refine wp_loop_rounds 1 ?_;rw[rounds_succ];go_wp2;go_ret2;refine⟨ix (n:=0) (mJ s k 2 128 191 hk C ?_) rfl rfl,rfl⟩;rintro ⟨q1,q2,q3⟩;have:=HD.out;omega):p:=h
section
open Go.RowKit
def mh(s:ByteArray)(k:Nat):Int:=if wd s k=0 then(k:Int)else 0
theorem ix{s:ByteArray}{k n:Nat}(h:wd s k=n)(ha:a=n)(hb:b=if n=0 then(k:Int)else 0):
  Ending.returned (.tuple #[ae a,ae b])=.returned (.tuple #[ae (wd s k),ae (mh s k)]):=by
 rw[ha,hb,mh,h]
theorem Ww(s:ByteArray)(k:Nat)(w:World)(hk:k<s.size)(hs:s.size≤1000000000)(hc:aJ s k<128):
  Calls prog 126 #[.string s,ae k] w fun e w'=>e=.returned (.tuple #[ae (wd s k),ae (mh s k)])∧w'=w:=by
 obtain⟨c,dK⟩:=ak (aJ s k:Int);have hck:((s[k]'hk).toNat:Int)=c:=pW;have H:Hid (wd s k=1):=DL s k hc;have hc1:c<128:=ag;have hc0:0≤c:=ag;clear dK hc;go_enter func126,ntmps126;go_wp2;go_ret2;exact⟨ix H rfl rfl,rfl⟩
theorem abD(s:ByteArray)(k:Nat)(w:World)(hk:k<s.size)(hs:s.size≤1000000000)(hc:128≤aJ s k)(hc2:aJ s k<194):
  Calls prog 126 #[.string s,ae k] w fun e w'=>e=.returned (.tuple #[ae (wd s k),ae (mh s k)])∧w'=w:=by
 obtain⟨c,dK⟩:=ak (aJ s k:Int);have hck:((s[k]'hk).toNat:Int)=c:=pW;have H:Hid (wd s k=0):=IP s k ag;have hc0:128≤c:=ag;have hc1:c<194:=ag;clear dK hc hc2;go_enter func126,ntmps126;go_wp2;go_ret2;exact⟨ix H rfl rfl,rfl⟩
theorem ZK(s:ByteArray)(k:Nat)(w:World)(hk:k<s.size)(hs:s.size≤1000000000)(hc:244<aJ s k):
  Calls prog 126 #[.string s,ae k] w fun e w'=>e=.returned (.tuple #[ae (wd s k),ae (mh s k)])∧w'=w:=by
 obtain⟨c,dK⟩:=ak (aJ s k:Int);have hck:((s[k]'hk).toNat:Int)=c:=pW;have H:Hid (wd s k=0):=IP s k ag;have hc0:244<c:=ag;have hc1:c≤255:=by have:=lh s k;omega
 clear dK hc;go_enter func126,ntmps126;go_wp2;go_ret2;exact⟨ix H rfl rfl,rfl⟩
theorem Tw(s:ByteArray)(k:Nat)(w:World)(hk:k<s.size)(hs:s.size≤1000000000)(hc:194≤aJ s k)(hc2:aJ s k<224):
  Calls prog 126 #[.string s,ae k] w fun e w'=>e=.returned (.tuple #[ae (wd s k),ae (mh s k)])∧w'=w:=by
 obtain⟨c,dK⟩:=ak (aJ s k:Int);have hck:((s[k]'hk).toNat:Int)=c:=pW;have C:Hid (kp (aJ s k) 2 128 191):=wD;have hc0:194≤c:=ag;have hc1:c<224:=ag;clear dK hc hc2
 by_cases hin:k+1<s.size
 ·obtain⟨d,hdd⟩:=ak (aJ s (k+1):Int)
  have nN:((s[k+1]'hin).toNat:Int)=d:=vQ;have HD:Hid (d=aJ s (k+1)):=hdd;have hd0:0≤d:=ag;have iC:d≤255:=by have:=lh s (k+1);omega
  clear hdd
  by_cases h1:d<128
  ·exact O6
  ·by_cases h2:191<d
   ·exact O6
   ·go_enter func126,ntmps126
    go_wp2
    refine wp_loop_rounds 2 ?_;rw[rounds_succ];go_wp2;rw[rounds_succ];go_wp2;go_ret2;refine⟨ix (n:=2) (uK s k 2 128 191 hk C ag (by have:=HD.out;omega) (fun m a b=>ag)) rfl rfl,rfl⟩
 ·go_enter func126,ntmps126
  go_wp2
  refine wp_loop_rounds 1 ?_;rw[rounds_succ];go_wp2;go_ret2;refine⟨ix (n:=0) (mJ s k 2 128 191 hk C ?_) rfl rfl,rfl⟩;rintro ⟨q1,q2,q3⟩;omega
end
section
open Go.RowKit
theorem ab7(s:ByteArray)(k:Nat)(w:World)(hk:k<s.size)(hs:s.size≤1000000000)(hc:241≤aJ s k)(hc2:aJ s k<244):
  Calls prog 126 #[.string s,ae k] w fun e w'=>e=.returned (.tuple #[ae (wd s k),ae (mh s k)])∧w'=w:=by
 obtain⟨c,dK⟩:=ak (aJ s k:Int);have hck:((s[k]'hk).toNat:Int)=c:=pW;have C:Hid (kp (aJ s k) 4 128 191):=wD;have hc0:241≤c:=ag;have hc1:c<244:=ag;clear dK hc hc2;have VX:(c == 224)=false:=aK;have acB:(c == 237)=false:=aK;have ab6:(c == 240)=false:=aK;have aaA:(c == 244)=false:=aK;have r1:decide (c<128)=false:=aK;have r2:decide (194≤c)=true:=aK;have r3:decide (c≤223)=false:=aK;have r4:decide (224≤c)=true:=aK;have r5:decide (c≤239)=false:=aK;have r6:decide (240≤c)=true:=aK;have r7:decide (c≤244)=true:=aK;go_enter func126,ntmps126;go_wp2;go_loop [8,9,10] (fun a b i=>∃j:Nat,1≤j∧j≤4∧i=ae j∧((j=1∧a=.int .u8 128∧b=.int .u8 191)∨(2≤j∧a=.int .u8 128∧b=.int .u8 191))∧(∀m,1≤m→m<j→k+m<s.size∧(m=1→128≤aJ s (k+m)∧aJ s (k+m)≤191)∧(2≤m→128≤aJ s (k+m)∧aJ s (k+m)≤191))) (fun _ _ i=>4 - (intOf i).toNat)
 case atStart=>exact⟨1,ag,ag,rfl,aC ⟨rfl,rfl,rfl⟩,fun m h1 h2=>ag⟩
 case round=>
  obtain⟨j,tZ,rq,rfl,pw,bj⟩:=hrel;have HO:Hid _:=bj;clear bj
  by_cases hjn:j<4
  ·by_cases hin:k+j<s.size
   ·obtain⟨d,hdd⟩:=ak (aJ s (k+j):Int)
    have nN:((s[k+j]'hin).toNat:Int)=d:=vQ;have HD:Hid (d=aJ s (k+j)):=hdd;have hd0:0≤d:=ag;have iC:d≤255:=zR;clear hdd
    obtain⟨lo,hi,HL,rfl,rfl⟩:∃lo hi:Int,Hid ((j=1∧lo=128∧hi=191)∨(2≤j∧lo=128∧hi=191))∧_=Value.int .u8 lo∧_=Value.int .u8 hi:=by
     exact Az
    clear pw
    by_cases h1:d<lo
    ·exact QE
    ·by_cases h2:hi<d
     ·exact QE
     ·exact AE
   ·go_wp2
    go_ret2
    refine⟨ix (n:=0) (mJ s k 4 128 191 hk C ?_) rfl rfl,rfl⟩;rintro ⟨q1,q2,q3⟩;omega
  ·go_wp2
   go_ret2
   have e:j=4:=ag;subst e;refine⟨ix (n:=4) (uK s k 4 128 191 hk C ?_ ?_ ?_) rfl rfl,rfl⟩
   ·have:=(HO 3 ag ag).1;omega
   ·exact(HO 1 ag ag).2.1 rfl
   ·exact Bc
theorem abn(s:ByteArray)(k:Nat)(w:World)(hk:k<s.size)(hs:s.size≤1000000000)(hc:aJ s k=244):
  Calls prog 126 #[.string s,ae k] w fun e w'=>e=.returned (.tuple #[ae (wd s k),ae (mh s k)])∧w'=w:=by
 obtain⟨c,dK⟩:=ak (aJ s k:Int);have hck:((s[k]'hk).toNat:Int)=c:=pW;have C:Hid (kp (aJ s k) 4 128 143):=wD;have hc0:c=244:=ag;subst hc0;clear dK hc;go_enter func126,ntmps126;go_wp2;go_loop [8,9,10] (fun a b i=>∃j:Nat,1≤j∧j≤4∧i=ae j∧((j=1∧a=.int .u8 128∧b=.int .u8 143)∨(2≤j∧a=.int .u8 128∧b=.int .u8 191))∧(∀m,1≤m→m<j→k+m<s.size∧(m=1→128≤aJ s (k+m)∧aJ s (k+m)≤143)∧(2≤m→128≤aJ s (k+m)∧aJ s (k+m)≤191))) (fun _ _ i=>4 - (intOf i).toNat)
 case atStart=>exact⟨1,ag,ag,rfl,aC ⟨rfl,rfl,rfl⟩,fun m h1 h2=>ag⟩
 case round=>
  obtain⟨j,tZ,rq,rfl,pw,bj⟩:=hrel;have HO:Hid _:=bj;clear bj
  by_cases hjn:j<4
  ·by_cases hin:k+j<s.size
   ·obtain⟨d,hdd⟩:=ak (aJ s (k+j):Int)
    have nN:((s[k+j]'hin).toNat:Int)=d:=vQ;have HD:Hid (d=aJ s (k+j)):=hdd;have hd0:0≤d:=ag;have iC:d≤255:=zR;clear hdd
    obtain⟨lo,hi,HL,rfl,rfl⟩:∃lo hi:Int,Hid ((j=1∧lo=128∧hi=143)∨(2≤j∧lo=128∧hi=191))∧_=Value.int .u8 lo∧_=Value.int .u8 hi:=by
     exact Az
    clear pw
    by_cases h1:d<lo
    ·exact NC
    ·by_cases h2:hi<d
     ·exact NC
     ·exact AE
   ·go_wp2
    go_ret2
    refine⟨ix (n:=0) (mJ s k 4 128 143 hk C ?_) rfl rfl,rfl⟩;rintro ⟨q1,q2,q3⟩;omega
  ·go_wp2
   go_ret2
   have e:j=4:=ag;subst e;refine⟨ix (n:=4) (uK s k 4 128 143 hk C ?_ ?_ ?_) rfl rfl,rfl⟩
   ·have:=(HO 3 ag ag).1;omega
   ·exact(HO 1 ag ag).2.1 rfl
   ·exact Bc
end
section
open Go.RowKit
theorem abH(s:ByteArray)(k:Nat)(w:World)(hk:k<s.size)(hs:s.size≤1000000000)(hc:aJ s k=224):
  Calls prog 126 #[.string s,ae k] w fun e w'=>e=.returned (.tuple #[ae (wd s k),ae (mh s k)])∧w'=w:=by
 obtain⟨c,dK⟩:=ak (aJ s k:Int);have hck:((s[k]'hk).toNat:Int)=c:=pW;have C:Hid (kp (aJ s k) 3 160 191):=wD;have hc0:c=224:=ag;subst hc0;clear dK hc;go_enter func126,ntmps126;go_wp2;go_loop [8,9,10] (fun a b i=>∃j:Nat,1≤j∧j≤3∧i=ae j∧((j=1∧a=.int .u8 160∧b=.int .u8 191)∨(2≤j∧a=.int .u8 128∧b=.int .u8 191))∧(∀m,1≤m→m<j→k+m<s.size∧(m=1→160≤aJ s (k+m)∧aJ s (k+m)≤191)∧(2≤m→128≤aJ s (k+m)∧aJ s (k+m)≤191))) (fun _ _ i=>3 - (intOf i).toNat)
 case atStart=>exact⟨1,ag,ag,rfl,aC ⟨rfl,rfl,rfl⟩,fun m h1 h2=>ag⟩
 case round=>
  obtain⟨j,tZ,rq,rfl,pw,bj⟩:=hrel;have HO:Hid _:=bj;clear bj
  by_cases hjn:j<3
  ·by_cases hin:k+j<s.size
   ·obtain⟨d,hdd⟩:=ak (aJ s (k+j):Int)
    have nN:((s[k+j]'hin).toNat:Int)=d:=vQ;have HD:Hid (d=aJ s (k+j)):=hdd;have hd0:0≤d:=ag;have iC:d≤255:=zR;clear hdd
    obtain⟨lo,hi,HL,rfl,rfl⟩:∃lo hi:Int,Hid ((j=1∧lo=160∧hi=191)∨(2≤j∧lo=128∧hi=191))∧_=Value.int .u8 lo∧_=Value.int .u8 hi:=by
     exact Az
    clear pw
    by_cases h1:d<lo
    ·exact P7
    ·by_cases h2:hi<d
     ·exact P7
     ·exact AE
   ·go_wp2
    go_ret2
    refine⟨ix (n:=0) (mJ s k 3 160 191 hk C ?_) rfl rfl,rfl⟩;rintro ⟨q1,q2,q3⟩;omega
  ·go_wp2
   go_ret2
   have e:j=3:=ag;subst e;refine⟨ix (n:=3) (uK s k 3 160 191 hk C ?_ ?_ ?_) rfl rfl,rfl⟩
   ·have:=(HO 2 ag ag).1;omega
   ·exact(HO 1 ag ag).2.1 rfl
   ·exact Bc
theorem ZO(s:ByteArray)(k:Nat)(w:World)(hk:k<s.size)(hs:s.size≤1000000000)(hc:225≤aJ s k)(hc2:aJ s k<237):
  Calls prog 126 #[.string s,ae k] w fun e w'=>e=.returned (.tuple #[ae (wd s k),ae (mh s k)])∧w'=w:=by
 obtain⟨c,dK⟩:=ak (aJ s k:Int);have hck:((s[k]'hk).toNat:Int)=c:=pW;have C:Hid (kp (aJ s k) 3 128 191):=wD;have hc0:225≤c:=ag;have hc1:c<237:=ag;exact P2
theorem ab9(s:ByteArray)(k:Nat)(w:World)(hk:k<s.size)(hs:s.size≤1000000000)(hc:aJ s k=237):
  Calls prog 126 #[.string s,ae k] w fun e w'=>e=.returned (.tuple #[ae (wd s k),ae (mh s k)])∧w'=w:=by
 obtain⟨c,dK⟩:=ak (aJ s k:Int);have hck:((s[k]'hk).toNat:Int)=c:=pW;have C:Hid (kp (aJ s k) 3 128 159):=wD;have hc0:c=237:=ag;subst hc0;clear dK hc;go_enter func126,ntmps126;go_wp2;go_loop [8,9,10] (fun a b i=>∃j:Nat,1≤j∧j≤3∧i=ae j∧((j=1∧a=.int .u8 128∧b=.int .u8 159)∨(2≤j∧a=.int .u8 128∧b=.int .u8 191))∧(∀m,1≤m→m<j→k+m<s.size∧(m=1→128≤aJ s (k+m)∧aJ s (k+m)≤159)∧(2≤m→128≤aJ s (k+m)∧aJ s (k+m)≤191))) (fun _ _ i=>3 - (intOf i).toNat)
 case atStart=>exact⟨1,ag,ag,rfl,aC ⟨rfl,rfl,rfl⟩,fun m h1 h2=>ag⟩
 case round=>
  obtain⟨j,tZ,rq,rfl,pw,bj⟩:=hrel;have HO:Hid _:=bj;clear bj
  by_cases hjn:j<3
  ·by_cases hin:k+j<s.size
   ·obtain⟨d,hdd⟩:=ak (aJ s (k+j):Int)
    have nN:((s[k+j]'hin).toNat:Int)=d:=vQ;have HD:Hid (d=aJ s (k+j)):=hdd;have hd0:0≤d:=ag;have iC:d≤255:=zR;clear hdd
    obtain⟨lo,hi,HL,rfl,rfl⟩:∃lo hi:Int,Hid ((j=1∧lo=128∧hi=159)∨(2≤j∧lo=128∧hi=191))∧_=Value.int .u8 lo∧_=Value.int .u8 hi:=by
     exact Az
    clear pw
    by_cases h1:d<lo
    ·exact MU
    ·by_cases h2:hi<d
     ·exact MU
     ·exact AE
   ·go_wp2
    go_ret2
    refine⟨ix (n:=0) (mJ s k 3 128 159 hk C ?_) rfl rfl,rfl⟩;rintro ⟨q1,q2,q3⟩;omega
  ·go_wp2
   go_ret2
   have e:j=3:=ag;subst e;refine⟨ix (n:=3) (uK s k 3 128 159 hk C ?_ ?_ ?_) rfl rfl,rfl⟩
   ·have:=(HO 2 ag ag).1;omega
   ·exact(HO 1 ag ag).2.1 rfl
   ·exact Bc
end
section
open Go.RowKit
theorem acm(s:ByteArray)(k:Nat)(w:World)(hk:k<s.size)(hs:s.size≤1000000000)(hc:238≤aJ s k)(hc2:aJ s k<240):
  Calls prog 126 #[.string s,ae k] w fun e w'=>e=.returned (.tuple #[ae (wd s k),ae (mh s k)])∧w'=w:=by
 obtain⟨c,dK⟩:=ak (aJ s k:Int);have hck:((s[k]'hk).toNat:Int)=c:=pW;have C:Hid (kp (aJ s k) 3 128 191):=wD;have hc0:238≤c:=ag;have hc1:c<240:=ag;exact P2
theorem Y7(s:ByteArray)(k:Nat)(w:World)(hk:k<s.size)(hs:s.size≤1000000000)(hc:aJ s k=240):
  Calls prog 126 #[.string s,ae k] w fun e w'=>e=.returned (.tuple #[ae (wd s k),ae (mh s k)])∧w'=w:=by
 obtain⟨c,dK⟩:=ak (aJ s k:Int);have hck:((s[k]'hk).toNat:Int)=c:=pW;have C:Hid (kp (aJ s k) 4 144 191):=wD;have hc0:c=240:=ag;subst hc0;clear dK hc;go_enter func126,ntmps126;go_wp2;go_loop [8,9,10] (fun a b i=>∃j:Nat,1≤j∧j≤4∧i=ae j∧((j=1∧a=.int .u8 144∧b=.int .u8 191)∨(2≤j∧a=.int .u8 128∧b=.int .u8 191))∧(∀m,1≤m→m<j→k+m<s.size∧(m=1→144≤aJ s (k+m)∧aJ s (k+m)≤191)∧(2≤m→128≤aJ s (k+m)∧aJ s (k+m)≤191))) (fun _ _ i=>4 - (intOf i).toNat)
 case atStart=>exact⟨1,ag,ag,rfl,aC ⟨rfl,rfl,rfl⟩,fun m h1 h2=>ag⟩
 case round=>
  obtain⟨j,tZ,rq,rfl,pw,bj⟩:=hrel;have HO:Hid _:=bj;clear bj
  by_cases hjn:j<4
  ·by_cases hin:k+j<s.size
   ·obtain⟨d,hdd⟩:=ak (aJ s (k+j):Int)
    have nN:((s[k+j]'hin).toNat:Int)=d:=vQ;have HD:Hid (d=aJ s (k+j)):=hdd;have hd0:0≤d:=ag;have iC:d≤255:=zR;clear hdd
    obtain⟨lo,hi,HL,rfl,rfl⟩:∃lo hi:Int,Hid ((j=1∧lo=144∧hi=191)∨(2≤j∧lo=128∧hi=191))∧_=Value.int .u8 lo∧_=Value.int .u8 hi:=by
     exact Az
    clear pw
    by_cases h1:d<lo
    ·exact Ol
    ·by_cases h2:hi<d
     ·exact Ol
     ·exact AE
   ·go_wp2
    go_ret2
    refine⟨ix (n:=0) (mJ s k 4 144 191 hk C ?_) rfl rfl,rfl⟩;rintro ⟨q1,q2,q3⟩;omega
  ·go_wp2
   go_ret2
   have e:j=4:=ag;subst e;refine⟨ix (n:=4) (uK s k 4 144 191 hk C ?_ ?_ ?_) rfl rfl,rfl⟩
   ·have:=(HO 3 ag ag).1;omega
   ·exact(HO 1 ag ag).2.1 rfl
   ·exact Bc
end
section
open Go.RowKit
theorem LL(s:ByteArray)(k:Nat)(w:World)(hk:k<s.size)(hs:s.size≤1000000000):
  Calls prog 126 #[.string s,ae k] w fun e w'=>e=.returned (.tuple #[ae (wd s k),ae (mh s k)])∧w'=w:=by
 have hb:=lh s k
 by_cases h1:aJ s k<128
 ·exact Ww s k w hk hs h1
 by_cases h2:aJ s k<194
 ·exact abD s k w hk hs ag h2
 by_cases h3:244<aJ s k
 ·exact ZK s k w hk hs h3
 by_cases h4:aJ s k<224
 ·exact Tw s k w hk hs ag h4
 by_cases h5:aJ s k=224
 ·exact abH s k w hk hs h5
 by_cases h6:aJ s k<237
 ·exact ZO s k w hk hs ag h6
 by_cases h7:aJ s k=237
 ·exact ab9 s k w hk hs h7
 by_cases h8:aJ s k<240
 ·exact acm s k w hk hs ag h8
 by_cases h9:aJ s k=240
 ·exact Y7 s k w hk hs h9
 by_cases h10:aJ s k<244
 ·exact ab7 s k w hk hs ag h10
 ·exact abn s k w hk hs ag
theorem OI{p:Int×Int}(h:p=(a,b)):Ending.returned (.tuple #[ae a,ae b])=.returned (.tuple #[ae p.1,ae p.2]):=by rw[h]
theorem MK(s:ByteArray)(w:World)(hs:s.size≤1000000000):
  Calls prog 86 #[.string s] w fun e w'=>e=.returned (.tuple #[ae (chars s s.size 0 0).1,ae (chars s s.size 0 0).2])∧w'=w:=by
 obtain⟨p,hp⟩:=ak (chars s s.size 0 0);rw[←hp];go_enter func86,ntmps86;go_wp2;go_loop [4,5] (fun n i=>∃j m f:Nat,j≤s.size∧m≤j∧s.size - j≤f∧n=ae m∧i=ae j∧Hid (p=chars s f j m)) (fun _ i=>s.size - (intOf i).toNat)
 case atStart=>exact⟨0,0,s.size,bU _,aH,ag,rfl,rfl,hp⟩
 case round=>
  clear hp;obtain⟨j,m,f,hj,hm,hf,rfl,rfl,HP⟩:=hrel
  by_cases hlt:j<s.size
  ·have h4:=aaf s j
   have hin:=GF s j hlt
   by_cases hz:wd s j=0
   ·have HZ:Hid (p=(-1,(j:Int))):=by
     have:=HP.out
     cases f with
     |zero=>omega
     |succ f=>rw[chars,aG hlt,aG hz]at this;exact this
    have hb:mh s j=j:=by unfold mh;rw[aG hz]
    go_wp2_with (go_at_call 126;refine(LL s j _ hlt hs).mono ?_;rintro e w' ⟨rfl,rfl⟩)
    go_ret2
    exact⟨OI HZ,rfl⟩
   ·have HZ:Hid (p=chars s (f - 1) (j+wd s j) (m+1)):=by
     have:=HP.out
     cases f with
     |zero=>omega
     |succ f=>rw[chars,aG hlt,az hz]at this;exact this
    obtain⟨d,hd⟩:=ak (wd s j:Int);have hw:Calls prog 126 #[.string s,ae j] w fun e w'=>e=.returned (.tuple #[ae d,ae (mh s j)])∧w'=w:=by rw[hd];exact LL s j w hlt hs
    have hd0:0<d:=ag;have hd4:d≤4:=ag;have HD:Hid (d=wd s j):=hd;have cq:(j:Int)+d≤s.size:=ag;clear hd hz h4 hin;go_wp2_with (go_at_call 126;refine hw.mono ?_;rintro e w' ⟨rfl,rfl⟩);go_round
    case rel=>
     have e:=HD.out;exact⟨j+wd s j,m+1,f - 1,ag,ag,ag,bO,by rw[e];go_num,HZ⟩
    case measure=>have e:=HD.out;simp[intOf];omega
  ·have HZ:Hid (p=((m:Int),0)):=by have:=HP.out;rw[aa5 s f j m ag]at this;exact this
   go_wp2_with fail
   go_ret2
   exact⟨OI HZ,rfl⟩
end
section
open Go.RowKit
theorem Ed{b:Bool}{p:Int×Bool}(h:p=(a,b)):Ending.returned (.tuple #[ae a,.bool b])=.returned (.tuple #[ae p.1,.bool p.2]):=by rw[h]
theorem abO{n:Int}{b:Nat}(h0:0≤n)(h1:48≤b):0≤sat n b∧sat n b≤2147483649:=by unfold sat;split<;>omega
theorem Yu(s:ByteArray)(w:World)(hs:s.size≤1000000000)(h0:0<s.size)(hm:aJ s 0=45):
  Calls prog 167 #[.string s] w fun e w'=>e=.returned (.tuple #[ae (dC s).1,.bool (dC s).2])∧w'=w:=by
 obtain⟨p,hp⟩:=ak (dC s);rw[←hp];have HP:Hid (p=numFrom s 1 true):=by show p=_;rw[hp];unfold dC;rw[aG ⟨h0,hm⟩]
 clear hp;obtain⟨c0,hc0⟩:∃c:Int,c=aJ s 0:=⟨_,rfl⟩;have V7:((s[0]'h0).toNat:Int)=c0:=by rw[tB,hc0]
 have SV:(c0 == 45)=true:=aK;clear hc0
 by_cases hsz:s.size≤1
 ·have HQ:Hid (p=(0,false)):=by have:=HP.out;rw[numFrom,aG hsz]at this;exact this
  go_enter func167,ntmps167
  go_wp2
  go_ret2
  exact⟨Ed HQ,rfl⟩
 obtain⟨R,hR⟩:=ak (numAt s s.size 1 0)
 have HN:Hid (R=none→p=(0,false)):=by
  intro e;have:=HP.out;rw[numFrom,az hsz,←hR,e]at this;exact this
 have HY:Hid (∀n,R=some n→p=(-n,qD (-n))):=by
  intro n e;have:=HP.out;rw[numFrom,az hsz,←hR,e]at this;simpa using this
 go_enter func167,ntmps167
 go_wp2
 go_loop [5,6] (fun n k=>∃(j f:Nat) (m:Int),1≤j∧j≤s.size∧0≤m∧m≤2147483649∧s.size - j≤f∧n=ae m∧k=ae j∧Hid (R=numAt s f j m)) (fun _ k=>s.size - (intOf k).toNat)
 case atStart=>exact⟨1,s.size,0,ag,ag,ag,ag,ag,rfl,rfl,hR⟩
 case round=>
  clear hR;obtain⟨j,f,m,hj0,hj,hm0,hm1,hf,rfl,rfl,HR⟩:=hrel
  by_cases hlt:j<s.size
  ·exact Oa
  ·have HX:Hid (R=some m):=by have:=HR.out;rw[Ki s f j m ag]at this;exact this
   have HQ:Hid (p=(-m,qD (-m))):=HY.out m HX
   by_cases ho: -2147483648≤ -m
   ·exact D8
   ·exact D8
theorem T7(s:ByteArray)(w:World)(hs:s.size≤1000000000)(h0:0<s.size)(hm:aJ s 0≠45):
  Calls prog 167 #[.string s] w fun e w'=>e=.returned (.tuple #[ae (dC s).1,.bool (dC s).2])∧w'=w:=by
 obtain⟨p,hp⟩:=ak (dC s);rw[←hp];have HP:Hid (p=numFrom s 0 false):=by show p=_;rw[hp];unfold dC;rw[az (fun h=>hm h.2)]
 clear hp;obtain⟨c0,hc0⟩:∃c:Int,c=aJ s 0:=⟨_,rfl⟩;have V7:((s[0]'h0).toNat:Int)=c0:=by rw[tB,hc0]
 have SV:(c0 == 45)=false:=aK;clear hc0
 by_cases hsz:s.size≤0
 ·exfalso;omega
 obtain⟨R,hR⟩:=ak (numAt s s.size 0 0)
 have HN:Hid (R=none→p=(0,false)):=by
  intro e;have:=HP.out;rw[numFrom,az hsz,←hR,e]at this;exact this
 have HY:Hid (∀n,R=some n→p=(n,qD (n))):=by
  intro n e;have:=HP.out;rw[numFrom,az hsz,←hR,e]at this;simpa using this
 have Jz:(0:Int)<(s.size:Int):=ag;have hne:¬s=ByteArray.empty:=by intro e;subst e;simp at h0
 go_enter func167,ntmps167
 go_wp2
 go_loop [5,6] (fun n k=>∃(j f:Nat) (m:Int),0≤j∧j≤s.size∧0≤m∧m≤2147483649∧s.size - j≤f∧n=ae m∧k=ae j∧Hid (R=numAt s f j m)) (fun _ k=>s.size - (intOf k).toNat)
 case atStart=>exact⟨0,s.size,0,ag,ag,ag,ag,ag,rfl,rfl,hR⟩
 case round=>
  clear hR;obtain⟨j,f,m,hj0,hj,hm0,hm1,hf,rfl,rfl,HR⟩:=hrel
  by_cases hlt:j<s.size
  ·exact Oa
  ·have HX:Hid (R=some m):=by have:=HR.out;rw[Ki s f j m ag]at this;exact this
   have HQ:Hid (p=(m,qD (m))):=HY.out m HX
   by_cases ho:m≤2147483647
   ·exact D8
   ·exact D8
theorem Xg(w:World):
  Calls prog 167 #[.string ⟨#[]⟩] w fun e w'=>e=.returned (.tuple #[ae 0,.bool false])∧w'=w:=by
 go_enter func167,ntmps167
 go_wp2
 go_ret2
 exact⟨rfl,rfl⟩
theorem RI(s:ByteArray)(w:World)(hs:s.size≤1000000000):
  Calls prog 167 #[.string s] w fun e w'=>e=.returned (.tuple #[ae (dC s).1,.bool (dC s).2])∧w'=w:=by
 by_cases h0:0<s.size
 ·by_cases hm:aJ s 0=45
  ·exact Yu s w hs h0 hm
  ·exact T7 s w hs h0 hm
 ·have HQ:dC s=(0,false):=by
   unfold dC;rw[az ag];unfold numFrom;rw[aG ag]
  rw[HQ];have e0:s=ByteArray.empty:=xI;have e:s=⟨#[]⟩:=by rw[e0];rfl
  rw[e];exact Xg w
end
section
open Go.RowKit
theorem ve{a b:Bool}(h:a=b):Ending.returned (.bool a)=.returned (.bool b):=by rw[h]
theorem Gf(s:ByteArray)(l:List ByteArray)(b cap:Nat)(w:World)(hl:l.length≤1000)
  (hc:∀j (h:j<l.length),w.cell? (ai b j)=some (.string l[j])):
  Calls prog 166 #[.string s,aD b l.length cap] w fun e w'=>e=.returned (.bool (ck s l))∧w'=w:=by
 obtain⟨r,hr⟩:=ak (ck s l);rw[←hr];have HC:Hid _:=hc;clear hc;go_enter func166,ntmps166;go_wp2;go_loop [5] (fun i=>∃j:Nat,j≤l.length∧i=ae j∧Hid (∀x (h:x<l.length),x<j→(l[x].toList == s.toList)=false)) (fun i=>l.length - (intOf i).toNat)
 case atStart=>exact⟨0,bU _,rfl,fun x h h'=>ag⟩
 case round=>
  obtain⟨j,hj,rfl,HJ⟩:=hrel
  by_cases hlt:j<l.length
  ·obtain⟨x,hx⟩:=ak (l[j])
   have oK:w.cell? (ai b j)=some (.string x):=by rw[hx];exact HC j hlt
   by_cases he:(x.toList == s.toList)=true
   ·have HR:Hid (r=true):=by
     show r=true
     rw[hr,ck,List.any_eq_true];exact⟨l[j],nS hlt,by rw[←hx];exact he⟩
    clear hr hx;go_wp2;go_ret;exact⟨ve HR.symm,rfl⟩
   ·have he':(x.toList == s.toList)=false:=by simpa using he
    have HX:Hid (x=l[j]):=hx;clear hx he;go_wp2;go_round
    case rel=>
     refine⟨j+1,ag,bO,fun y hy hy'=>?_⟩
     by_cases e:y=j
     ·subst e;rw[←HX.out];exact he'
     ·exact HJ y hy ag
    case measure=>simp[intOf];omega
  ·have HR:Hid (r=false):=by
    show r=false
    rw[hr,ck,List.any_eq_false];intro y hy;obtain⟨k,hk,rfl⟩:=List.getElem_of_mem hy;have:=HJ.out k hk ag;simpa using this
   clear hr;go_wp2;go_ret;exact⟨ve HR.symm,rfl⟩
theorem X4(w:World)(t:TypeId):∀j (h:j<nine.length),(w.alloc (.cells #[.string ⟨#[58]⟩,.string ⟨#[59]⟩,.string ⟨#[118,97,114,105,97,98,108,101]⟩,.string ⟨#[105,102]⟩,.string ⟨#[101,108,115,101]⟩,.string ⟨#[116,104,101,110]⟩,.string ⟨#[100,111]⟩,.string ⟨#[108,111,111,112]⟩,.string ⟨#[92]⟩] t)).cell? (ai w.heap.size j)=some (.string nine[j]):=by
 intro j h;have:j<9:=h
 match j,h with
 |0,_=>simp[nine]
 |1,_=>simp[nine]
 |2,_=>simp[nine]
 |3,_=>simp[nine]
 |4,_=>simp[nine]
 |5,_=>simp[nine]
 |6,_=>simp[nine]
 |7,_=>simp[nine]
 |8,_=>simp[nine]
 |j+9,h=>omega
theorem JQ(s:ByteArray)(w:World)(hs:s.size≤1000000000):
  Calls prog 165 #[.string s] w fun e w'=>e=.returned (.bool (gK s))∧Below w.heap.size w w':=by
 obtain⟨a,b,hab⟩:∃a b,chars s s.size 0 0=(a,b):=⟨_,_,rfl⟩;obtain⟨n,nb,hn⟩:∃n nb,dC s=(n,nb):=⟨_,_,rfl⟩;obtain⟨q,hq⟩:∃q,ck s nine=q:=⟨_,rfl⟩;have Hw:=MK s w hs;have hnum:=RI s w hs;have ham:=Gf s nine w.heap.size 9 (w.alloc _) aj (X4 w 9);rw[hab]at Hw;rw[hn]at hnum;rw[hq]at ham;have HR:Hid (gK s=(decide (1≤a)&&decide (a≤16)&&!nb&&!q)):=by show gK s=_;unfold gK;rw[hab,hn,hq]
 obtain⟨r,hr⟩:=ak (gK s);rw[←hr];have HS:Hid (r=(decide (1≤a)&&decide (a≤16)&&!nb&&!q)):=by show r=_;rw[hr];exact HR
 have H1:Hid (Calls _ _ _ _ _):=Hw;have H2:Hid (Calls _ _ _ _ _):=hnum;have H3:Hid (Calls _ _ _ _ _):=ham;clear Hw hnum ham hab hn hq hr HR
 by_cases h1:1≤a
 ·by_cases h2:a≤16
  ·cases nb<;>cases q
   all_goals
    go_enter func165,ntmps165
    go_wp2_with (first|(go_at_call 86;refine H1.mono ?_;rintro e w' ⟨rfl,rfl⟩)|(go_at_call 167;refine H2.mono ?_;rintro e w' ⟨rfl,rfl⟩)|(go_at_call 166;refine H3.mono ?_;rintro e w' ⟨rfl,rfl⟩))
    go_ret
    exact⟨ve (by rw[HS.out];simp[h1,h2]),aQ.alloc aH _⟩
  ·go_enter func165,ntmps165
   go_wp2_with (first|(go_at_call 86;refine H1.mono ?_;rintro e w' ⟨rfl,rfl⟩)|(go_at_call 167;refine H2.mono ?_;rintro e w' ⟨rfl,rfl⟩)|(go_at_call 166;refine H3.mono ?_;rintro e w' ⟨rfl,rfl⟩))
   go_ret
   exact⟨ve (by have e2:decide (a≤16)=false:=gO ag;rw[HS.out,e2];simp),aQ.alloc aH _⟩
 ··go_enter func165,ntmps165
   go_wp2_with (first|(go_at_call 86;refine H1.mono ?_;rintro e w' ⟨rfl,rfl⟩)|(go_at_call 167;refine H2.mono ?_;rintro e w' ⟨rfl,rfl⟩)|(go_at_call 166;refine H3.mono ?_;rintro e w' ⟨rfl,rfl⟩))
   go_ret
   exact⟨ve (by have e2:decide (1≤a)=false:=gO ag;rw[HS.out,e2];simp),aQ.alloc aH _⟩
end
end Go.Proofs.YtcphhbofjkenaaaGreatDoor
