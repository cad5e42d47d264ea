import Derived.Test.YtcphhbofjkenaaaGreatDoorM00
import Derived.Test.YtcphhbofjkenaaaGreatDoorRows
import Derived.WalkLawsBesides
import Derived.WalkSpells
namespace Go.Proofs.YtcphhbofjkenaaaGreatDoor
open Go Go.RowKit
set_option linter.unusedVariables false
set_option linter.unusedSimpArgs false
set_option maxRecDepth 100000
set_option maxHeartbeats 16000000
section
open Go.RowKit
def kN(s:ByteArray)(k:Nat):Int:=if wd s k=0 then(k:Int)else 0
theorem aS{s:ByteArray}{k n:Nat}{a b:Int}(h:wd s k=n)(ha:a=n)(hb:b=if n=0 then(k:Int)else 0):
  Ending.returned (.tuple #[.int .i64 a,.int .i64 b])=.returned (.tuple #[.int .i64 (wd s k),.int .i64 (kN s k)]):=by
 rw[ha,hb,kN,h]
theorem ED(s:ByteArray)(k:Nat)(w:World)(hk:k<s.size)(hs:s.size≤1000000000)(hc:aI s k<128):
  Calls Tryz.prog 126 #[.string s,.int .i64 k] w fun e w'=>e=.returned (.tuple #[.int .i64 (wd s k),.int .i64 (kN s k)])∧w'=w:=by
 obtain⟨c,jB⟩:=exq (aI s k:Int);have hck:((s[k]'hk).toNat:Int)=c:=by rw[dC,jB]
 have H:Hid (wd s k=1):=Ep s k hc;have hc1:c<128:=by omega
 have hc0:0≤c:=by omega
 clear jB hc;go_enter Tryz.func126,Tryz.ntmps126
 go_wp2
 go_ret2
 exact⟨aS H.out rfl rfl,rfl⟩
theorem BV(s:ByteArray)(k:Nat)(w:World)(hk:k<s.size)(hs:s.size≤1000000000)(hc:128≤aI s k)(hc2:aI s k<194):
  Calls Tryz.prog 126 #[.string s,.int .i64 k] w fun e w'=>e=.returned (.tuple #[.int .i64 (wd s k),.int .i64 (kN s k)])∧w'=w:=by
 obtain⟨c,jB⟩:=exq (aI s k:Int);have hck:((s[k]'hk).toNat:Int)=c:=by rw[dC,jB]
 have H:Hid (wd s k=0):=JP s k (by omega);have hc0:128≤c:=by omega
 have hc1:c<194:=by omega
 clear jB hc hc2;go_enter Tryz.func126,Tryz.ntmps126
 go_wp2
 go_ret2
 exact⟨aS H.out rfl rfl,rfl⟩
theorem BX(s:ByteArray)(k:Nat)(w:World)(hk:k<s.size)(hs:s.size≤1000000000)(hc:244<aI s k):
  Calls Tryz.prog 126 #[.string s,.int .i64 k] w fun e w'=>e=.returned (.tuple #[.int .i64 (wd s k),.int .i64 (kN s k)])∧w'=w:=by
 obtain⟨c,jB⟩:=exq (aI s k:Int);have hck:((s[k]'hk).toNat:Int)=c:=by rw[dC,jB]
 have H:Hid (wd s k=0):=JP s k (by omega);have hc0:244<c:=by omega
 have hc1:c≤255:=by have:=dS s k;omega
 clear jB hc;go_enter Tryz.func126,Tryz.ntmps126
 go_wp2
 go_ret2
 exact⟨aS H.out rfl rfl,rfl⟩
theorem GH(s:ByteArray)(k:Nat)(w:World)(hk:k<s.size)(hs:s.size≤1000000000)(hc:194≤aI s k)(hc2:aI s k<224):
  Calls Tryz.prog 126 #[.string s,.int .i64 k] w fun e w'=>e=.returned (.tuple #[.int .i64 (wd s k),.int .i64 (kN s k)])∧w'=w:=by
 obtain⟨c,jB⟩:=exq (aI s k:Int);have hck:((s[k]'hk).toNat:Int)=c:=by rw[dC,jB]
 have C:Hid (qZ (aI s k) 2 128 191):=by show qZ _ _ _ _;unfold qZ;omega
 have hc0:194≤c:=by omega
 have hc1:c<224:=by omega
 clear jB hc hc2
 by_cases hin:k+1<s.size
 ·obtain⟨d,hdd⟩:=exq (aI s (k+1):Int)
  have JA:((s[k+1]'hin).toNat:Int)=d:=by rw[dC,hdd]
  have HD:Hid (d=aI s (k+1)):=hdd;have WO:0≤d:=by omega
  have uQ:d≤255:=by have:=dS s (k+1);omega
  clear hdd
  by_cases h1:d<128
  ·go_enter Tryz.func126,Tryz.ntmps126
   go_wp2
   refine wp_loop_rounds 1 ?_;rw[rounds_succ];go_wp2
   go_ret2
   refine⟨aS (n:=0) (gZ s k 2 128 191 hk C.out ?_) rfl rfl,rfl⟩;rintro ⟨q1,q2,q3⟩;have:=HD.out;omega
  ·by_cases h2:191<d
   ·go_enter Tryz.func126,Tryz.ntmps126
    go_wp2
    refine wp_loop_rounds 1 ?_;rw[rounds_succ];go_wp2
    go_ret2
    refine⟨aS (n:=0) (gZ s k 2 128 191 hk C.out ?_) rfl rfl,rfl⟩;rintro ⟨q1,q2,q3⟩;have:=HD.out;omega
   ·go_enter Tryz.func126,Tryz.ntmps126
    go_wp2
    refine wp_loop_rounds 2 ?_;rw[rounds_succ];go_wp2
    rw[rounds_succ];go_wp2
    go_ret2
    refine⟨aS (n:=2) (mQ s k 2 128 191 hk C.out (by omega) (by have:=HD.out;omega) (fun m a b=>by omega)) rfl rfl,rfl⟩
 ·go_enter Tryz.func126,Tryz.ntmps126
  go_wp2
  refine wp_loop_rounds 1 ?_;rw[rounds_succ];go_wp2
  go_ret2
  refine⟨aS (n:=0) (gZ s k 2 128 191 hk C.out ?_) rfl rfl,rfl⟩;rintro ⟨q1,q2,q3⟩;omega
end
section
open Go.RowKit
theorem GI(s:ByteArray)(k:Nat)(w:World)(hk:k<s.size)(hs:s.size≤1000000000)(hc:241≤aI s k)(hc2:aI s k<244):
  Calls Tryz.prog 126 #[.string s,.int .i64 k] w fun e w'=>e=.returned (.tuple #[.int .i64 (wd s k),.int .i64 (kN s k)])∧w'=w:=by
 obtain⟨c,jB⟩:=exq (aI s k:Int);have hck:((s[k]'hk).toNat:Int)=c:=by rw[dC,jB]
 have C:Hid (qZ (aI s k) 4 128 191):=by show qZ _ _ _ _;unfold qZ;omega
 have hc0:241≤c:=by omega
 have hc1:c<244:=by omega
 clear jB hc hc2;have aeb:(c == 224)=false:=by simp;omega
 have aec:(c == 237)=false:=by simp;omega
 have aed:(c == 240)=false:=by simp;omega
 have aee:(c == 244)=false:=by simp;omega
 have r1:decide (c<128)=false:=by simp;omega
 have r2:decide (194≤c)=true:=by simp;omega
 have r3:decide (c≤223)=false:=by simp;omega
 have r4:decide (224≤c)=true:=by simp;omega
 have r5:decide (c≤239)=false:=by simp;omega
 have r6:decide (240≤c)=true:=by simp;omega
 have r7:decide (c≤244)=true:=by simp;omega
 go_enter Tryz.func126,Tryz.ntmps126
 go_wp2
 go_loop [8,9,10] (fun a b i=>∃j:Nat,1≤j∧j≤4∧i=.int .i64 j∧((j=1∧a=.int .u8 128∧b=.int .u8 191)∨(2≤j∧a=.int .u8 128∧b=.int .u8 191))∧(∀m,1≤m→m<j→k+m<s.size∧(m=1→128≤aI s (k+m)∧aI s (k+m)≤191)∧(2≤m→128≤aI s (k+m)∧aI s (k+m)≤191))) (fun _ _ i=>4 - (intOf i).toNat)
 case atStart=>exact⟨1,by omega,by omega,rfl,Or.inl ⟨rfl,rfl,rfl⟩,fun m h1 h2=>by omega⟩
 case round=>
  obtain⟨j,Zc,WQ,rfl,Dv,gG⟩:=hrel;have HO:Hid _:=gG;clear gG
  by_cases hjn:j<4
  ·by_cases hin:k+j<s.size
   ·obtain⟨d,hdd⟩:=exq (aI s (k+j):Int)
    have JA:((s[k+j]'hin).toNat:Int)=d:=by rw[dC,hdd]
    have HD:Hid (d=aI s (k+j)):=hdd;have WO:0≤d:=by omega
    have uQ:d≤255:=by have:=dS s (k+j);omega
    clear hdd
    obtain⟨lo,hi,HL,rfl,rfl⟩:∃lo hi:Int,Hid ((j=1∧lo=128∧hi=191)∨(2≤j∧lo=128∧hi=191))∧_=Value.int .u8 lo∧_=Value.int .u8 hi:=by
     rcases Dv with ⟨hj,e1,e2⟩|⟨hj,e1,e2⟩
     ·exact⟨_,_,Or.inl ⟨hj,rfl,rfl⟩,e1,e2⟩
     ·exact⟨_,_,Or.inr ⟨hj,rfl,rfl⟩,e1,e2⟩
    clear Dv
    by_cases h1:d<lo
    ·go_wp2
     go_ret2
     refine⟨aS (n:=0) (gZ s k 4 128 191 hk C.out ?_) rfl rfl,rfl⟩;rintro ⟨q1,q2,q3⟩;have:=HD.out;rcases HL.out with ⟨e,e1,e2⟩|⟨e,e1,e2⟩
     ·subst e;omega
     ·have:=q3 j (by omega) (by omega);omega
    ·by_cases h2:hi<d
     ·go_wp2
      go_ret2
      refine⟨aS (n:=0) (gZ s k 4 128 191 hk C.out ?_) rfl rfl,rfl⟩;rintro ⟨q1,q2,q3⟩;have:=HD.out;rcases HL.out with ⟨e,e1,e2⟩|⟨e,e1,e2⟩
      ·subst e;omega
      ·have:=q3 j (by omega) (by omega);omega
     ·go_wp2
      go_round
      case rel=>
       refine⟨j+1,by omega,by omega,by go_num,Or.inr ⟨by omega,rfl,rfl⟩,fun m a1 a2=>?_⟩
       by_cases hm:m=j
       ·subst hm
        have:=HD.out;refine⟨hin,fun e=>?_,fun e=>?_⟩
        ·rcases HL.out with ⟨e,e1,e2⟩|⟨e,e1,e2⟩<;>omega
        ·rcases HL.out with ⟨e,e1,e2⟩|⟨e,e1,e2⟩<;>omega
       ·exact HO.out m a1 (by omega)
      case measure=>simp[intOf];omega
   ·go_wp2
    go_ret2
    refine⟨aS (n:=0) (gZ s k 4 128 191 hk C.out ?_) rfl rfl,rfl⟩;rintro ⟨q1,q2,q3⟩;omega
  ·go_wp2
   go_ret2
   have e:j=4:=by omega
   subst e;refine⟨aS (n:=4) (mQ s k 4 128 191 hk C.out ?_ ?_ ?_) rfl rfl,rfl⟩
   ·have:=(HO.out 3 (by omega) (by omega)).1;omega
   ·exact(HO.out 1 (by omega) (by omega)).2.1 rfl
   ·intro m a1 a2;exact(HO.out m (by omega) (by omega)).2.2 a1
theorem GK(s:ByteArray)(k:Nat)(w:World)(hk:k<s.size)(hs:s.size≤1000000000)(hc:aI s k=244):
  Calls Tryz.prog 126 #[.string s,.int .i64 k] w fun e w'=>e=.returned (.tuple #[.int .i64 (wd s k),.int .i64 (kN s k)])∧w'=w:=by
 obtain⟨c,jB⟩:=exq (aI s k:Int);have hck:((s[k]'hk).toNat:Int)=c:=by rw[dC,jB]
 have C:Hid (qZ (aI s k) 4 128 143):=by show qZ _ _ _ _;unfold qZ;omega
 have hc0:c=244:=by omega
 subst hc0;clear jB hc;go_enter Tryz.func126,Tryz.ntmps126
 go_wp2
 go_loop [8,9,10] (fun a b i=>∃j:Nat,1≤j∧j≤4∧i=.int .i64 j∧((j=1∧a=.int .u8 128∧b=.int .u8 143)∨(2≤j∧a=.int .u8 128∧b=.int .u8 191))∧(∀m,1≤m→m<j→k+m<s.size∧(m=1→128≤aI s (k+m)∧aI s (k+m)≤143)∧(2≤m→128≤aI s (k+m)∧aI s (k+m)≤191))) (fun _ _ i=>4 - (intOf i).toNat)
 case atStart=>exact⟨1,by omega,by omega,rfl,Or.inl ⟨rfl,rfl,rfl⟩,fun m h1 h2=>by omega⟩
 case round=>
  obtain⟨j,Zc,WQ,rfl,Dv,gG⟩:=hrel;have HO:Hid _:=gG;clear gG
  by_cases hjn:j<4
  ·by_cases hin:k+j<s.size
   ·obtain⟨d,hdd⟩:=exq (aI s (k+j):Int)
    have JA:((s[k+j]'hin).toNat:Int)=d:=by rw[dC,hdd]
    have HD:Hid (d=aI s (k+j)):=hdd;have WO:0≤d:=by omega
    have uQ:d≤255:=by have:=dS s (k+j);omega
    clear hdd
    obtain⟨lo,hi,HL,rfl,rfl⟩:∃lo hi:Int,Hid ((j=1∧lo=128∧hi=143)∨(2≤j∧lo=128∧hi=191))∧_=Value.int .u8 lo∧_=Value.int .u8 hi:=by
     rcases Dv with ⟨hj,e1,e2⟩|⟨hj,e1,e2⟩
     ·exact⟨_,_,Or.inl ⟨hj,rfl,rfl⟩,e1,e2⟩
     ·exact⟨_,_,Or.inr ⟨hj,rfl,rfl⟩,e1,e2⟩
    clear Dv
    by_cases h1:d<lo
    ·go_wp2
     go_ret2
     refine⟨aS (n:=0) (gZ s k 4 128 143 hk C.out ?_) rfl rfl,rfl⟩;rintro ⟨q1,q2,q3⟩;have:=HD.out;rcases HL.out with ⟨e,e1,e2⟩|⟨e,e1,e2⟩
     ·subst e;omega
     ·have:=q3 j (by omega) (by omega);omega
    ·by_cases h2:hi<d
     ·go_wp2
      go_ret2
      refine⟨aS (n:=0) (gZ s k 4 128 143 hk C.out ?_) rfl rfl,rfl⟩;rintro ⟨q1,q2,q3⟩;have:=HD.out;rcases HL.out with ⟨e,e1,e2⟩|⟨e,e1,e2⟩
      ·subst e;omega
      ·have:=q3 j (by omega) (by omega);omega
     ·go_wp2
      go_round
      case rel=>
       refine⟨j+1,by omega,by omega,by go_num,Or.inr ⟨by omega,rfl,rfl⟩,fun m a1 a2=>?_⟩
       by_cases hm:m=j
       ·subst hm
        have:=HD.out;refine⟨hin,fun e=>?_,fun e=>?_⟩
        ·rcases HL.out with ⟨e,e1,e2⟩|⟨e,e1,e2⟩<;>omega
        ·rcases HL.out with ⟨e,e1,e2⟩|⟨e,e1,e2⟩<;>omega
       ·exact HO.out m a1 (by omega)
      case measure=>simp[intOf];omega
   ·go_wp2
    go_ret2
    refine⟨aS (n:=0) (gZ s k 4 128 143 hk C.out ?_) rfl rfl,rfl⟩;rintro ⟨q1,q2,q3⟩;omega
  ·go_wp2
   go_ret2
   have e:j=4:=by omega
   subst e;refine⟨aS (n:=4) (mQ s k 4 128 143 hk C.out ?_ ?_ ?_) rfl rfl,rfl⟩
   ·have:=(HO.out 3 (by omega) (by omega)).1;omega
   ·exact(HO.out 1 (by omega) (by omega)).2.1 rfl
   ·intro m a1 a2;exact(HO.out m (by omega) (by omega)).2.2 a1
end
section
open Go.RowKit
theorem GL(s:ByteArray)(k:Nat)(w:World)(hk:k<s.size)(hs:s.size≤1000000000)(hc:aI s k=224):
  Calls Tryz.prog 126 #[.string s,.int .i64 k] w fun e w'=>e=.returned (.tuple #[.int .i64 (wd s k),.int .i64 (kN s k)])∧w'=w:=by
 obtain⟨c,jB⟩:=exq (aI s k:Int);have hck:((s[k]'hk).toNat:Int)=c:=by rw[dC,jB]
 have C:Hid (qZ (aI s k) 3 160 191):=by show qZ _ _ _ _;unfold qZ;omega
 have hc0:c=224:=by omega
 subst hc0;clear jB hc;go_enter Tryz.func126,Tryz.ntmps126
 go_wp2
 go_loop [8,9,10] (fun a b i=>∃j:Nat,1≤j∧j≤3∧i=.int .i64 j∧((j=1∧a=.int .u8 160∧b=.int .u8 191)∨(2≤j∧a=.int .u8 128∧b=.int .u8 191))∧(∀m,1≤m→m<j→k+m<s.size∧(m=1→160≤aI s (k+m)∧aI s (k+m)≤191)∧(2≤m→128≤aI s (k+m)∧aI s (k+m)≤191))) (fun _ _ i=>3 - (intOf i).toNat)
 case atStart=>exact⟨1,by omega,by omega,rfl,Or.inl ⟨rfl,rfl,rfl⟩,fun m h1 h2=>by omega⟩
 case round=>
  obtain⟨j,Zc,WQ,rfl,Dv,gG⟩:=hrel;have HO:Hid _:=gG;clear gG
  by_cases hjn:j<3
  ·by_cases hin:k+j<s.size
   ·obtain⟨d,hdd⟩:=exq (aI s (k+j):Int)
    have JA:((s[k+j]'hin).toNat:Int)=d:=by rw[dC,hdd]
    have HD:Hid (d=aI s (k+j)):=hdd;have WO:0≤d:=by omega
    have uQ:d≤255:=by have:=dS s (k+j);omega
    clear hdd
    obtain⟨lo,hi,HL,rfl,rfl⟩:∃lo hi:Int,Hid ((j=1∧lo=160∧hi=191)∨(2≤j∧lo=128∧hi=191))∧_=Value.int .u8 lo∧_=Value.int .u8 hi:=by
     rcases Dv with ⟨hj,e1,e2⟩|⟨hj,e1,e2⟩
     ·exact⟨_,_,Or.inl ⟨hj,rfl,rfl⟩,e1,e2⟩
     ·exact⟨_,_,Or.inr ⟨hj,rfl,rfl⟩,e1,e2⟩
    clear Dv
    by_cases h1:d<lo
    ·go_wp2
     go_ret2
     refine⟨aS (n:=0) (gZ s k 3 160 191 hk C.out ?_) rfl rfl,rfl⟩;rintro ⟨q1,q2,q3⟩;have:=HD.out;rcases HL.out with ⟨e,e1,e2⟩|⟨e,e1,e2⟩
     ·subst e;omega
     ·have:=q3 j (by omega) (by omega);omega
    ·by_cases h2:hi<d
     ·go_wp2
      go_ret2
      refine⟨aS (n:=0) (gZ s k 3 160 191 hk C.out ?_) rfl rfl,rfl⟩;rintro ⟨q1,q2,q3⟩;have:=HD.out;rcases HL.out with ⟨e,e1,e2⟩|⟨e,e1,e2⟩
      ·subst e;omega
      ·have:=q3 j (by omega) (by omega);omega
     ·go_wp2
      go_round
      case rel=>
       refine⟨j+1,by omega,by omega,by go_num,Or.inr ⟨by omega,rfl,rfl⟩,fun m a1 a2=>?_⟩
       by_cases hm:m=j
       ·subst hm
        have:=HD.out;refine⟨hin,fun e=>?_,fun e=>?_⟩
        ·rcases HL.out with ⟨e,e1,e2⟩|⟨e,e1,e2⟩<;>omega
        ·rcases HL.out with ⟨e,e1,e2⟩|⟨e,e1,e2⟩<;>omega
       ·exact HO.out m a1 (by omega)
      case measure=>simp[intOf];omega
   ·go_wp2
    go_ret2
    refine⟨aS (n:=0) (gZ s k 3 160 191 hk C.out ?_) rfl rfl,rfl⟩;rintro ⟨q1,q2,q3⟩;omega
  ·go_wp2
   go_ret2
   have e:j=3:=by omega
   subst e;refine⟨aS (n:=3) (mQ s k 3 160 191 hk C.out ?_ ?_ ?_) rfl rfl,rfl⟩
   ·have:=(HO.out 2 (by omega) (by omega)).1;omega
   ·exact(HO.out 1 (by omega) (by omega)).2.1 rfl
   ·intro m a1 a2;exact(HO.out m (by omega) (by omega)).2.2 a1
theorem GM(s:ByteArray)(k:Nat)(w:World)(hk:k<s.size)(hs:s.size≤1000000000)(hc:225≤aI s k)(hc2:aI s k<237):
  Calls Tryz.prog 126 #[.string s,.int .i64 k] w fun e w'=>e=.returned (.tuple #[.int .i64 (wd s k),.int .i64 (kN s k)])∧w'=w:=by
 obtain⟨c,jB⟩:=exq (aI s k:Int);have hck:((s[k]'hk).toNat:Int)=c:=by rw[dC,jB]
 have C:Hid (qZ (aI s k) 3 128 191):=by show qZ _ _ _ _;unfold qZ;omega
 have hc0:225≤c:=by omega
 have hc1:c<237:=by omega
 clear jB hc hc2;have aeb:(c == 224)=false:=by simp;omega
 have aec:(c == 237)=false:=by simp;omega
 have aed:(c == 240)=false:=by simp;omega
 have aee:(c == 244)=false:=by simp;omega
 have r1:decide (c<128)=false:=by simp;omega
 have r2:decide (194≤c)=true:=by simp;omega
 have r3:decide (c≤223)=false:=by simp;omega
 have r4:decide (224≤c)=true:=by simp;omega
 have r5:decide (c≤239)=true:=by simp;omega
 go_enter Tryz.func126,Tryz.ntmps126
 go_wp2
 go_loop [8,9,10] (fun a b i=>∃j:Nat,1≤j∧j≤3∧i=.int .i64 j∧((j=1∧a=.int .u8 128∧b=.int .u8 191)∨(2≤j∧a=.int .u8 128∧b=.int .u8 191))∧(∀m,1≤m→m<j→k+m<s.size∧(m=1→128≤aI s (k+m)∧aI s (k+m)≤191)∧(2≤m→128≤aI s (k+m)∧aI s (k+m)≤191))) (fun _ _ i=>3 - (intOf i).toNat)
 case atStart=>exact⟨1,by omega,by omega,rfl,Or.inl ⟨rfl,rfl,rfl⟩,fun m h1 h2=>by omega⟩
 case round=>
  obtain⟨j,Zc,WQ,rfl,Dv,gG⟩:=hrel;have HO:Hid _:=gG;clear gG
  by_cases hjn:j<3
  ·by_cases hin:k+j<s.size
   ·obtain⟨d,hdd⟩:=exq (aI s (k+j):Int)
    have JA:((s[k+j]'hin).toNat:Int)=d:=by rw[dC,hdd]
    have HD:Hid (d=aI s (k+j)):=hdd;have WO:0≤d:=by omega
    have uQ:d≤255:=by have:=dS s (k+j);omega
    clear hdd
    obtain⟨lo,hi,HL,rfl,rfl⟩:∃lo hi:Int,Hid ((j=1∧lo=128∧hi=191)∨(2≤j∧lo=128∧hi=191))∧_=Value.int .u8 lo∧_=Value.int .u8 hi:=by
     rcases Dv with ⟨hj,e1,e2⟩|⟨hj,e1,e2⟩
     ·exact⟨_,_,Or.inl ⟨hj,rfl,rfl⟩,e1,e2⟩
     ·exact⟨_,_,Or.inr ⟨hj,rfl,rfl⟩,e1,e2⟩
    clear Dv
    by_cases h1:d<lo
    ·go_wp2
     go_ret2
     refine⟨aS (n:=0) (gZ s k 3 128 191 hk C.out ?_) rfl rfl,rfl⟩;rintro ⟨q1,q2,q3⟩;have:=HD.out;rcases HL.out with ⟨e,e1,e2⟩|⟨e,e1,e2⟩
     ·subst e;omega
     ·have:=q3 j (by omega) (by omega);omega
    ·by_cases h2:hi<d
     ·go_wp2
      go_ret2
      refine⟨aS (n:=0) (gZ s k 3 128 191 hk C.out ?_) rfl rfl,rfl⟩;rintro ⟨q1,q2,q3⟩;have:=HD.out;rcases HL.out with ⟨e,e1,e2⟩|⟨e,e1,e2⟩
      ·subst e;omega
      ·have:=q3 j (by omega) (by omega);omega
     ·go_wp2
      go_round
      case rel=>
       refine⟨j+1,by omega,by omega,by go_num,Or.inr ⟨by omega,rfl,rfl⟩,fun m a1 a2=>?_⟩
       by_cases hm:m=j
       ·subst hm
        have:=HD.out;refine⟨hin,fun e=>?_,fun e=>?_⟩
        ·rcases HL.out with ⟨e,e1,e2⟩|⟨e,e1,e2⟩<;>omega
        ·rcases HL.out with ⟨e,e1,e2⟩|⟨e,e1,e2⟩<;>omega
       ·exact HO.out m a1 (by omega)
      case measure=>simp[intOf];omega
   ·go_wp2
    go_ret2
    refine⟨aS (n:=0) (gZ s k 3 128 191 hk C.out ?_) rfl rfl,rfl⟩;rintro ⟨q1,q2,q3⟩;omega
  ·go_wp2
   go_ret2
   have e:j=3:=by omega
   subst e;refine⟨aS (n:=3) (mQ s k 3 128 191 hk C.out ?_ ?_ ?_) rfl rfl,rfl⟩
   ·have:=(HO.out 2 (by omega) (by omega)).1;omega
   ·exact(HO.out 1 (by omega) (by omega)).2.1 rfl
   ·intro m a1 a2;exact(HO.out m (by omega) (by omega)).2.2 a1
theorem GN(s:ByteArray)(k:Nat)(w:World)(hk:k<s.size)(hs:s.size≤1000000000)(hc:aI s k=237):
  Calls Tryz.prog 126 #[.string s,.int .i64 k] w fun e w'=>e=.returned (.tuple #[.int .i64 (wd s k),.int .i64 (kN s k)])∧w'=w:=by
 obtain⟨c,jB⟩:=exq (aI s k:Int);have hck:((s[k]'hk).toNat:Int)=c:=by rw[dC,jB]
 have C:Hid (qZ (aI s k) 3 128 159):=by show qZ _ _ _ _;unfold qZ;omega
 have hc0:c=237:=by omega
 subst hc0;clear jB hc;go_enter Tryz.func126,Tryz.ntmps126
 go_wp2
 go_loop [8,9,10] (fun a b i=>∃j:Nat,1≤j∧j≤3∧i=.int .i64 j∧((j=1∧a=.int .u8 128∧b=.int .u8 159)∨(2≤j∧a=.int .u8 128∧b=.int .u8 191))∧(∀m,1≤m→m<j→k+m<s.size∧(m=1→128≤aI s (k+m)∧aI s (k+m)≤159)∧(2≤m→128≤aI s (k+m)∧aI s (k+m)≤191))) (fun _ _ i=>3 - (intOf i).toNat)
 case atStart=>exact⟨1,by omega,by omega,rfl,Or.inl ⟨rfl,rfl,rfl⟩,fun m h1 h2=>by omega⟩
 case round=>
  obtain⟨j,Zc,WQ,rfl,Dv,gG⟩:=hrel;have HO:Hid _:=gG;clear gG
  by_cases hjn:j<3
  ·by_cases hin:k+j<s.size
   ·obtain⟨d,hdd⟩:=exq (aI s (k+j):Int)
    have JA:((s[k+j]'hin).toNat:Int)=d:=by rw[dC,hdd]
    have HD:Hid (d=aI s (k+j)):=hdd;have WO:0≤d:=by omega
    have uQ:d≤255:=by have:=dS s (k+j);omega
    clear hdd
    obtain⟨lo,hi,HL,rfl,rfl⟩:∃lo hi:Int,Hid ((j=1∧lo=128∧hi=159)∨(2≤j∧lo=128∧hi=191))∧_=Value.int .u8 lo∧_=Value.int .u8 hi:=by
     rcases Dv with ⟨hj,e1,e2⟩|⟨hj,e1,e2⟩
     ·exact⟨_,_,Or.inl ⟨hj,rfl,rfl⟩,e1,e2⟩
     ·exact⟨_,_,Or.inr ⟨hj,rfl,rfl⟩,e1,e2⟩
    clear Dv
    by_cases h1:d<lo
    ·go_wp2
     go_ret2
     refine⟨aS (n:=0) (gZ s k 3 128 159 hk C.out ?_) rfl rfl,rfl⟩;rintro ⟨q1,q2,q3⟩;have:=HD.out;rcases HL.out with ⟨e,e1,e2⟩|⟨e,e1,e2⟩
     ·subst e;omega
     ·have:=q3 j (by omega) (by omega);omega
    ·by_cases h2:hi<d
     ·go_wp2
      go_ret2
      refine⟨aS (n:=0) (gZ s k 3 128 159 hk C.out ?_) rfl rfl,rfl⟩;rintro ⟨q1,q2,q3⟩;have:=HD.out;rcases HL.out with ⟨e,e1,e2⟩|⟨e,e1,e2⟩
      ·subst e;omega
      ·have:=q3 j (by omega) (by omega);omega
     ·go_wp2
      go_round
      case rel=>
       refine⟨j+1,by omega,by omega,by go_num,Or.inr ⟨by omega,rfl,rfl⟩,fun m a1 a2=>?_⟩
       by_cases hm:m=j
       ·subst hm
        have:=HD.out;refine⟨hin,fun e=>?_,fun e=>?_⟩
        ·rcases HL.out with ⟨e,e1,e2⟩|⟨e,e1,e2⟩<;>omega
        ·rcases HL.out with ⟨e,e1,e2⟩|⟨e,e1,e2⟩<;>omega
       ·exact HO.out m a1 (by omega)
      case measure=>simp[intOf];omega
   ·go_wp2
    go_ret2
    refine⟨aS (n:=0) (gZ s k 3 128 159 hk C.out ?_) rfl rfl,rfl⟩;rintro ⟨q1,q2,q3⟩;omega
  ·go_wp2
   go_ret2
   have e:j=3:=by omega
   subst e;refine⟨aS (n:=3) (mQ s k 3 128 159 hk C.out ?_ ?_ ?_) rfl rfl,rfl⟩
   ·have:=(HO.out 2 (by omega) (by omega)).1;omega
   ·exact(HO.out 1 (by omega) (by omega)).2.1 rfl
   ·intro m a1 a2;exact(HO.out m (by omega) (by omega)).2.2 a1
end
section
open Go.RowKit
theorem GR(s:ByteArray)(k:Nat)(w:World)(hk:k<s.size)(hs:s.size≤1000000000)(hc:238≤aI s k)(hc2:aI s k<240):
  Calls Tryz.prog 126 #[.string s,.int .i64 k] w fun e w'=>e=.returned (.tuple #[.int .i64 (wd s k),.int .i64 (kN s k)])∧w'=w:=by
 obtain⟨c,jB⟩:=exq (aI s k:Int);have hck:((s[k]'hk).toNat:Int)=c:=by rw[dC,jB]
 have C:Hid (qZ (aI s k) 3 128 191):=by show qZ _ _ _ _;unfold qZ;omega
 have hc0:238≤c:=by omega
 have hc1:c<240:=by omega
 clear jB hc hc2;have aeb:(c == 224)=false:=by simp;omega
 have aec:(c == 237)=false:=by simp;omega
 have aed:(c == 240)=false:=by simp;omega
 have aee:(c == 244)=false:=by simp;omega
 have r1:decide (c<128)=false:=by simp;omega
 have r2:decide (194≤c)=true:=by simp;omega
 have r3:decide (c≤223)=false:=by simp;omega
 have r4:decide (224≤c)=true:=by simp;omega
 have r5:decide (c≤239)=true:=by simp;omega
 go_enter Tryz.func126,Tryz.ntmps126
 go_wp2
 go_loop [8,9,10] (fun a b i=>∃j:Nat,1≤j∧j≤3∧i=.int .i64 j∧((j=1∧a=.int .u8 128∧b=.int .u8 191)∨(2≤j∧a=.int .u8 128∧b=.int .u8 191))∧(∀m,1≤m→m<j→k+m<s.size∧(m=1→128≤aI s (k+m)∧aI s (k+m)≤191)∧(2≤m→128≤aI s (k+m)∧aI s (k+m)≤191))) (fun _ _ i=>3 - (intOf i).toNat)
 case atStart=>exact⟨1,by omega,by omega,rfl,Or.inl ⟨rfl,rfl,rfl⟩,fun m h1 h2=>by omega⟩
 case round=>
  obtain⟨j,Zc,WQ,rfl,Dv,gG⟩:=hrel;have HO:Hid _:=gG;clear gG
  by_cases hjn:j<3
  ·by_cases hin:k+j<s.size
   ·obtain⟨d,hdd⟩:=exq (aI s (k+j):Int)
    have JA:((s[k+j]'hin).toNat:Int)=d:=by rw[dC,hdd]
    have HD:Hid (d=aI s (k+j)):=hdd;have WO:0≤d:=by omega
    have uQ:d≤255:=by have:=dS s (k+j);omega
    clear hdd
    obtain⟨lo,hi,HL,rfl,rfl⟩:∃lo hi:Int,Hid ((j=1∧lo=128∧hi=191)∨(2≤j∧lo=128∧hi=191))∧_=Value.int .u8 lo∧_=Value.int .u8 hi:=by
     rcases Dv with ⟨hj,e1,e2⟩|⟨hj,e1,e2⟩
     ·exact⟨_,_,Or.inl ⟨hj,rfl,rfl⟩,e1,e2⟩
     ·exact⟨_,_,Or.inr ⟨hj,rfl,rfl⟩,e1,e2⟩
    clear Dv
    by_cases h1:d<lo
    ·go_wp2
     go_ret2
     refine⟨aS (n:=0) (gZ s k 3 128 191 hk C.out ?_) rfl rfl,rfl⟩;rintro ⟨q1,q2,q3⟩;have:=HD.out;rcases HL.out with ⟨e,e1,e2⟩|⟨e,e1,e2⟩
     ·subst e;omega
     ·have:=q3 j (by omega) (by omega);omega
    ·by_cases h2:hi<d
     ·go_wp2
      go_ret2
      refine⟨aS (n:=0) (gZ s k 3 128 191 hk C.out ?_) rfl rfl,rfl⟩;rintro ⟨q1,q2,q3⟩;have:=HD.out;rcases HL.out with ⟨e,e1,e2⟩|⟨e,e1,e2⟩
      ·subst e;omega
      ·have:=q3 j (by omega) (by omega);omega
     ·go_wp2
      go_round
      case rel=>
       refine⟨j+1,by omega,by omega,by go_num,Or.inr ⟨by omega,rfl,rfl⟩,fun m a1 a2=>?_⟩
       by_cases hm:m=j
       ·subst hm
        have:=HD.out;refine⟨hin,fun e=>?_,fun e=>?_⟩
        ·rcases HL.out with ⟨e,e1,e2⟩|⟨e,e1,e2⟩<;>omega
        ·rcases HL.out with ⟨e,e1,e2⟩|⟨e,e1,e2⟩<;>omega
       ·exact HO.out m a1 (by omega)
      case measure=>simp[intOf];omega
   ·go_wp2
    go_ret2
    refine⟨aS (n:=0) (gZ s k 3 128 191 hk C.out ?_) rfl rfl,rfl⟩;rintro ⟨q1,q2,q3⟩;omega
  ·go_wp2
   go_ret2
   have e:j=3:=by omega
   subst e;refine⟨aS (n:=3) (mQ s k 3 128 191 hk C.out ?_ ?_ ?_) rfl rfl,rfl⟩
   ·have:=(HO.out 2 (by omega) (by omega)).1;omega
   ·exact(HO.out 1 (by omega) (by omega)).2.1 rfl
   ·intro m a1 a2;exact(HO.out m (by omega) (by omega)).2.2 a1
theorem GU(s:ByteArray)(k:Nat)(w:World)(hk:k<s.size)(hs:s.size≤1000000000)(hc:aI s k=240):
  Calls Tryz.prog 126 #[.string s,.int .i64 k] w fun e w'=>e=.returned (.tuple #[.int .i64 (wd s k),.int .i64 (kN s k)])∧w'=w:=by
 obtain⟨c,jB⟩:=exq (aI s k:Int);have hck:((s[k]'hk).toNat:Int)=c:=by rw[dC,jB]
 have C:Hid (qZ (aI s k) 4 144 191):=by show qZ _ _ _ _;unfold qZ;omega
 have hc0:c=240:=by omega
 subst hc0;clear jB hc;go_enter Tryz.func126,Tryz.ntmps126
 go_wp2
 go_loop [8,9,10] (fun a b i=>∃j:Nat,1≤j∧j≤4∧i=.int .i64 j∧((j=1∧a=.int .u8 144∧b=.int .u8 191)∨(2≤j∧a=.int .u8 128∧b=.int .u8 191))∧(∀m,1≤m→m<j→k+m<s.size∧(m=1→144≤aI s (k+m)∧aI s (k+m)≤191)∧(2≤m→128≤aI s (k+m)∧aI s (k+m)≤191))) (fun _ _ i=>4 - (intOf i).toNat)
 case atStart=>exact⟨1,by omega,by omega,rfl,Or.inl ⟨rfl,rfl,rfl⟩,fun m h1 h2=>by omega⟩
 case round=>
  obtain⟨j,Zc,WQ,rfl,Dv,gG⟩:=hrel;have HO:Hid _:=gG;clear gG
  by_cases hjn:j<4
  ·by_cases hin:k+j<s.size
   ·obtain⟨d,hdd⟩:=exq (aI s (k+j):Int)
    have JA:((s[k+j]'hin).toNat:Int)=d:=by rw[dC,hdd]
    have HD:Hid (d=aI s (k+j)):=hdd;have WO:0≤d:=by omega
    have uQ:d≤255:=by have:=dS s (k+j);omega
    clear hdd
    obtain⟨lo,hi,HL,rfl,rfl⟩:∃lo hi:Int,Hid ((j=1∧lo=144∧hi=191)∨(2≤j∧lo=128∧hi=191))∧_=Value.int .u8 lo∧_=Value.int .u8 hi:=by
     rcases Dv with ⟨hj,e1,e2⟩|⟨hj,e1,e2⟩
     ·exact⟨_,_,Or.inl ⟨hj,rfl,rfl⟩,e1,e2⟩
     ·exact⟨_,_,Or.inr ⟨hj,rfl,rfl⟩,e1,e2⟩
    clear Dv
    by_cases h1:d<lo
    ·go_wp2
     go_ret2
     refine⟨aS (n:=0) (gZ s k 4 144 191 hk C.out ?_) rfl rfl,rfl⟩;rintro ⟨q1,q2,q3⟩;have:=HD.out;rcases HL.out with ⟨e,e1,e2⟩|⟨e,e1,e2⟩
     ·subst e;omega
     ·have:=q3 j (by omega) (by omega);omega
    ·by_cases h2:hi<d
     ·go_wp2
      go_ret2
      refine⟨aS (n:=0) (gZ s k 4 144 191 hk C.out ?_) rfl rfl,rfl⟩;rintro ⟨q1,q2,q3⟩;have:=HD.out;rcases HL.out with ⟨e,e1,e2⟩|⟨e,e1,e2⟩
      ·subst e;omega
      ·have:=q3 j (by omega) (by omega);omega
     ·go_wp2
      go_round
      case rel=>
       refine⟨j+1,by omega,by omega,by go_num,Or.inr ⟨by omega,rfl,rfl⟩,fun m a1 a2=>?_⟩
       by_cases hm:m=j
       ·subst hm
        have:=HD.out;refine⟨hin,fun e=>?_,fun e=>?_⟩
        ·rcases HL.out with ⟨e,e1,e2⟩|⟨e,e1,e2⟩<;>omega
        ·rcases HL.out with ⟨e,e1,e2⟩|⟨e,e1,e2⟩<;>omega
       ·exact HO.out m a1 (by omega)
      case measure=>simp[intOf];omega
   ·go_wp2
    go_ret2
    refine⟨aS (n:=0) (gZ s k 4 144 191 hk C.out ?_) rfl rfl,rfl⟩;rintro ⟨q1,q2,q3⟩;omega
  ·go_wp2
   go_ret2
   have e:j=4:=by omega
   subst e;refine⟨aS (n:=4) (mQ s k 4 144 191 hk C.out ?_ ?_ ?_) rfl rfl,rfl⟩
   ·have:=(HO.out 3 (by omega) (by omega)).1;omega
   ·exact(HO.out 1 (by omega) (by omega)).2.1 rfl
   ·intro m a1 a2;exact(HO.out m (by omega) (by omega)).2.2 a1
end
section
open Go.RowKit
theorem GV(s:ByteArray)(k:Nat)(w:World)(hk:k<s.size)(hs:s.size≤1000000000):
  Calls Tryz.prog 126 #[.string s,.int .i64 k] w fun e w'=>e=.returned (.tuple #[.int .i64 (wd s k),.int .i64 (kN s k)])∧w'=w:=by
 have hb:=dS s k
 by_cases h1:aI s k<128
 ·exact ED s k w hk hs h1
 by_cases h2:aI s k<194
 ·exact BV s k w hk hs (by omega) h2
 by_cases h3:244<aI s k
 ·exact BX s k w hk hs h3
 by_cases h4:aI s k<224
 ·exact GH s k w hk hs (by omega) h4
 by_cases h5:aI s k=224
 ·exact GL s k w hk hs h5
 by_cases h6:aI s k<237
 ·exact GM s k w hk hs (by omega) h6
 by_cases h7:aI s k=237
 ·exact GN s k w hk hs h7
 by_cases h8:aI s k<240
 ·exact GR s k w hk hs (by omega) h8
 by_cases h9:aI s k=240
 ·exact GU s k w hk hs h9
 by_cases h10:aI s k<244
 ·exact GI s k w hk hs (by omega) h10
 ·exact GK s k w hk hs (by omega)
theorem Dw{a b:Int}{p:Int×Int}(h:p=(a,b)):Ending.returned (.tuple #[.int .i64 a,.int .i64 b])=.returned (.tuple #[.int .i64 p.1,.int .i64 p.2]):=by rw[h]
theorem qB(s:ByteArray)(w:World)(hs:s.size≤1000000000):
  Calls Tryz.prog 86 #[.string s] w fun e w'=>e=.returned (.tuple #[.int .i64 (chars s s.size 0 0).1,.int .i64 (chars s s.size 0 0).2])∧w'=w:=by
 obtain⟨p,hp⟩:=exq (chars s s.size 0 0);rw[←hp];go_enter Tryz.func86,Tryz.ntmps86
 go_wp2
 go_loop [4,5] (fun n i=>∃j m f:Nat,j≤s.size∧m≤j∧s.size - j≤f∧n=.int .i64 m∧i=.int .i64 j∧Hid (p=chars s f j m)) (fun _ i=>s.size - (intOf i).toNat)
 case atStart=>exact⟨0,0,s.size,Nat.zero_le _,nrq,by omega,rfl,rfl,hp⟩
 case round=>
  clear hp;obtain⟨j,m,f,hj,hm,hf,rfl,rfl,HP⟩:=hrel
  by_cases hlt:j<s.size
  ·have h4:=aas s j
   have hin:=RS s j hlt
   by_cases hz:wd s j=0
   ·have HZ:Hid (p=(-1,(j:Int))):=by
     have:=HP.out
     cases f with
     |zero=>omega
     |succ f=>rw[chars,if_pos hlt,if_pos hz]at this;exact this
    have hb:kN s j=j:=by unfold kN;rw[if_pos hz]
    go_wp2_with (go_at_call 126;refine(GV s j _ hlt hs).mono ?_;rintro e w' ⟨rfl,rfl⟩)
    go_ret2
    exact⟨Dw HZ.out,rfl⟩
   ·have HZ:Hid (p=chars s (f - 1) (j+wd s j) (m+1)):=by
     have:=HP.out
     cases f with
     |zero=>omega
     |succ f=>rw[chars,if_pos hlt,if_neg hz]at this;exact this
    obtain⟨d,hd⟩:=exq (wd s j:Int);have hw:Calls Tryz.prog 126 #[.string s,.int .i64 j] w fun e w'=>e=.returned (.tuple #[.int .i64 d,.int .i64 (kN s j)])∧w'=w:=by rw[hd];exact GV s j w hlt hs
    have WO:0<d:=by omega
    have hd4:d≤4:=by omega
    have HD:Hid (d=wd s j):=hd;have jf:(j:Int)+d≤s.size:=by omega
    clear hd hz h4 hin;go_wp2_with (go_at_call 126;refine hw.mono ?_;rintro e w' ⟨rfl,rfl⟩)
    go_round
    case rel=>
     have e:=HD.out;exact⟨j+wd s j,m+1,f - 1,by omega,by omega,by omega,by go_num,by rw[e];go_num,HZ⟩
    case measure=>have e:=HD.out;simp[intOf];omega
  ·have HZ:Hid (p=((m:Int),0)):=by have:=HP.out;rw[OI s f j m (by omega)]at this;exact this
   go_wp2_with fail
   go_ret2
   exact⟨Dw HZ.out,rfl⟩
end
section
open Go.RowKit
theorem lC{a:Int}{b:Bool}{p:Int×Bool}(h:p=(a,b)):Ending.returned (.tuple #[.int .i64 a,.bool b])=.returned (.tuple #[.int .i64 p.1,.bool p.2]):=by rw[h]
theorem Tc{n:Int}{b:Nat}(h0:0≤n)(h1:48≤b):0≤sat n b∧sat n b≤2147483649:=by unfold sat;split<;>omega
theorem zL(s:ByteArray)(w:World)(hs:s.size≤1000000000)(h0:0<s.size)(hm:aI s 0=45):
  Calls Tryz.prog 167 #[.string s] w fun e w'=>e=.returned (.tuple #[.int .i64 (fZ s).1,.bool (fZ s).2])∧w'=w:=by
 obtain⟨p,hp⟩:=exq (fZ s);rw[←hp];have HP:Hid (p=fM s 1 true):=by show p=_;rw[hp];unfold fZ;rw[if_pos ⟨h0,hm⟩]
 clear hp;obtain⟨c0,hc0⟩:∃c:Int,c=aI s 0:=⟨_,rfl⟩;have ajl:((s[0]'h0).toNat:Int)=c0:=by rw[dC,hc0]
 have ajm:(c0 == 45)=true:=by simp;omega
 clear hc0
 by_cases hsz:s.size≤1
 ·have HQ:Hid (p=(0,false)):=by have:=HP.out;rw[fM,if_pos hsz]at this;exact this
  go_enter Tryz.func167,Tryz.ntmps167
  go_wp2
  go_ret2
  exact⟨lC HQ.out,rfl⟩
 obtain⟨R,hR⟩:=exq (numAt s s.size 1 0)
 have HN:Hid (R=none→p=(0,false)):=by
  intro e;have:=HP.out;rw[fM,if_neg hsz,←hR,e]at this;exact this
 have HY:Hid (∀n,R=some n→p=(-n,jq (-n))):=by
  intro n e;have:=HP.out;rw[fM,if_neg hsz,←hR,e]at this;simpa using this
 go_enter Tryz.func167,Tryz.ntmps167
 go_wp2
 go_loop [5,6] (fun n k=>∃(j f:Nat) (m:Int),1≤j∧j≤s.size∧0≤m∧m≤2147483649∧s.size - j≤f∧n=.int .i64 m∧k=.int .i64 j∧Hid (R=numAt s f j m)) (fun _ k=>s.size - (intOf k).toNat)
 case atStart=>exact⟨1,s.size,0,by omega,by omega,by omega,by omega,by omega,rfl,rfl,hR⟩
 case round=>
  clear hR;obtain⟨j,f,m,hj0,hj,hm0,hm1,hf,rfl,rfl,HR⟩:=hrel
  by_cases hlt:j<s.size
  ·obtain⟨c,jB⟩:=exq (aI s j:Int)
   have hck:((s[j]'hlt).toNat:Int)=c:=by rw[dC,jB]
   have hb:=dS s j
   by_cases hd:aI s j<48∨57<aI s j
   ·have HX:Hid (R=none):=by
     have:=HR.out
     cases f with
     |zero=>omega
     |succ f=>rw[numAt,if_pos hlt,if_pos hd]at this;exact this
    have HQ:Hid (p=(0,false)):=HN.out HX.out
    by_cases hl:c<48
    ·clear jB hd hb
     go_wp2
     go_ret2
     exact⟨lC HQ.out,rfl⟩
    ·have hg:57<c:=by omega
     clear jB hd hb;go_wp2
     go_ret2
     exact⟨lC HQ.out,rfl⟩
   ·have HX:Hid (R=numAt s (f - 1) (j+1) (sat m (aI s j))):=by
     have:=HR.out
     cases f with
     |zero=>omega
     |succ f=>rw[numAt,if_pos hlt,if_neg hd]at this;exact this
    have hl:48≤c:=by omega
    have hg:c≤57:=by omega
    have SB:=Tc hm0 (b:=aI s j) (by omega);have HS:Hid (0≤sat m (aI s j)∧sat m (aI s j)≤2147483649):=SB
    by_cases hbig:2147483648<m*10+c - 48
    ·have HE:Hid (sat m (aI s j)=2147483649):=by show sat _ _=_;unfold sat;rw[if_pos (by omega)]
     clear jB hd hb SB;go_wp2
     go_round
     case rel=>exact⟨j+1,f - 1,2147483649,by omega,by omega,by omega,by omega,by omega,rfl,by go_num,by have:=HX.out;rw[HE.out]at this;exact this⟩
     case measure=>simp[intOf];omega
    ·have HE:Hid (sat m (aI s j)=m*10+c - 48):=by show sat _ _=_;unfold sat;rw[if_neg (by omega)];omega
     clear jB hd hb SB;go_wp2
     go_round
     case rel=>exact⟨j+1,f - 1,m*10+c - 48,by omega,by omega,by omega,by omega,by omega,by go_num,by go_num,by have:=HX.out;rw[HE.out]at this;exact this⟩
     case measure=>simp[intOf];omega
  ·have HX:Hid (R=some m):=by have:=HR.out;rw[Dn s f j m (by omega)]at this;exact this
   have HQ:Hid (p=(-m,jq (-m))):=HY.out m HX.out
   by_cases ho: -2147483648≤ -m
   ·go_wp2
    go_ret2
    exact⟨lC (by rw[HQ.out];refine Prod.ext rfl ?_;simp[jq];omega),rfl⟩
   ·go_wp2
    go_ret2
    exact⟨lC (by rw[HQ.out];refine Prod.ext rfl ?_;simp[jq];omega),rfl⟩
theorem zM(s:ByteArray)(w:World)(hs:s.size≤1000000000)(h0:0<s.size)(hm:aI s 0≠45):
  Calls Tryz.prog 167 #[.string s] w fun e w'=>e=.returned (.tuple #[.int .i64 (fZ s).1,.bool (fZ s).2])∧w'=w:=by
 obtain⟨p,hp⟩:=exq (fZ s);rw[←hp];have HP:Hid (p=fM s 0 false):=by show p=_;rw[hp];unfold fZ;rw[if_neg (fun h=>hm h.2)]
 clear hp;obtain⟨c0,hc0⟩:∃c:Int,c=aI s 0:=⟨_,rfl⟩;have ajl:((s[0]'h0).toNat:Int)=c0:=by rw[dC,hc0]
 have ajm:(c0 == 45)=false:=by simp;omega
 clear hc0
 by_cases hsz:s.size≤0
 ·exfalso;omega
 obtain⟨R,hR⟩:=exq (numAt s s.size 0 0)
 have HN:Hid (R=none→p=(0,false)):=by
  intro e;have:=HP.out;rw[fM,if_neg hsz,←hR,e]at this;exact this
 have HY:Hid (∀n,R=some n→p=(n,jq (n))):=by
  intro n e;have:=HP.out;rw[fM,if_neg hsz,←hR,e]at this;simpa using this
 have aax:(0:Int)<(s.size:Int):=by omega
 have hne:¬s=ByteArray.empty:=by intro e;subst e;simp at h0
 go_enter Tryz.func167,Tryz.ntmps167
 go_wp2
 go_loop [5,6] (fun n k=>∃(j f:Nat) (m:Int),0≤j∧j≤s.size∧0≤m∧m≤2147483649∧s.size - j≤f∧n=.int .i64 m∧k=.int .i64 j∧Hid (R=numAt s f j m)) (fun _ k=>s.size - (intOf k).toNat)
 case atStart=>exact⟨0,s.size,0,by omega,by omega,by omega,by omega,by omega,rfl,rfl,hR⟩
 case round=>
  clear hR;obtain⟨j,f,m,hj0,hj,hm0,hm1,hf,rfl,rfl,HR⟩:=hrel
  by_cases hlt:j<s.size
  ·obtain⟨c,jB⟩:=exq (aI s j:Int)
   have hck:((s[j]'hlt).toNat:Int)=c:=by rw[dC,jB]
   have hb:=dS s j
   by_cases hd:aI s j<48∨57<aI s j
   ·have HX:Hid (R=none):=by
     have:=HR.out
     cases f with
     |zero=>omega
     |succ f=>rw[numAt,if_pos hlt,if_pos hd]at this;exact this
    have HQ:Hid (p=(0,false)):=HN.out HX.out
    by_cases hl:c<48
    ·clear jB hd hb
     go_wp2
     go_ret2
     exact⟨lC HQ.out,rfl⟩
    ·have hg:57<c:=by omega
     clear jB hd hb;go_wp2
     go_ret2
     exact⟨lC HQ.out,rfl⟩
   ·have HX:Hid (R=numAt s (f - 1) (j+1) (sat m (aI s j))):=by
     have:=HR.out
     cases f with
     |zero=>omega
     |succ f=>rw[numAt,if_pos hlt,if_neg hd]at this;exact this
    have hl:48≤c:=by omega
    have hg:c≤57:=by omega
    have SB:=Tc hm0 (b:=aI s j) (by omega);have HS:Hid (0≤sat m (aI s j)∧sat m (aI s j)≤2147483649):=SB
    by_cases hbig:2147483648<m*10+c - 48
    ·have HE:Hid (sat m (aI s j)=2147483649):=by show sat _ _=_;unfold sat;rw[if_pos (by omega)]
     clear jB hd hb SB;go_wp2
     go_round
     case rel=>exact⟨j+1,f - 1,2147483649,by omega,by omega,by omega,by omega,by omega,rfl,by go_num,by have:=HX.out;rw[HE.out]at this;exact this⟩
     case measure=>simp[intOf];omega
    ·have HE:Hid (sat m (aI s j)=m*10+c - 48):=by show sat _ _=_;unfold sat;rw[if_neg (by omega)];omega
     clear jB hd hb SB;go_wp2
     go_round
     case rel=>exact⟨j+1,f - 1,m*10+c - 48,by omega,by omega,by omega,by omega,by omega,by go_num,by go_num,by have:=HX.out;rw[HE.out]at this;exact this⟩
     case measure=>simp[intOf];omega
  ·have HX:Hid (R=some m):=by have:=HR.out;rw[Dn s f j m (by omega)]at this;exact this
   have HQ:Hid (p=(m,jq (m))):=HY.out m HX.out
   by_cases ho:m≤2147483647
   ·go_wp2
    go_ret2
    exact⟨lC (by rw[HQ.out];refine Prod.ext rfl ?_;simp[jq];omega),rfl⟩
   ·go_wp2
    go_ret2
    exact⟨lC (by rw[HQ.out];refine Prod.ext rfl ?_;simp[jq];omega),rfl⟩
theorem zN(w:World):
  Calls Tryz.prog 167 #[.string ⟨#[]⟩] w fun e w'=>e=.returned (.tuple #[.int .i64 0,.bool false])∧w'=w:=by
 go_enter Tryz.func167,Tryz.ntmps167
 go_wp2
 go_ret2
 exact⟨rfl,rfl⟩
theorem zO(s:ByteArray)(w:World)(hs:s.size≤1000000000):
  Calls Tryz.prog 167 #[.string s] w fun e w'=>e=.returned (.tuple #[.int .i64 (fZ s).1,.bool (fZ s).2])∧w'=w:=by
 by_cases h0:0<s.size
 ·by_cases hm:aI s 0=45
  ·exact zL s w hs h0 hm
  ·exact zM s w hs h0 hm
 ·have HQ:fZ s=(0,false):=by
   unfold fZ;rw[if_neg (by omega)];unfold fM;rw[if_pos (by omega)]
  rw[HQ];have e0:s=ByteArray.empty:=by simpa using h0
  have e:s=⟨#[]⟩:=by rw[e0];rfl
  rw[e];exact zN w
end
section
open Go.RowKit
theorem jK{a b:Bool}(h:a=b):Ending.returned (.bool a)=.returned (.bool b):=by rw[h]
theorem wQ(s:ByteArray)(l:List ByteArray)(b cap:Nat)(w:World)(hl:l.length≤1000)
  (hc:∀j (h:j<l.length),w.cell? ⟨b,j,none⟩=some (.string l[j])):
  Calls Tryz.prog 166 #[.string s,.slice (some ⟨b,0,none⟩) l.length cap] w fun e w'=>e=.returned (.bool (jH s l))∧w'=w:=by
 obtain⟨r,hr⟩:=exq (jH s l);rw[←hr];have HC:Hid _:=hc;clear hc;go_enter Tryz.func166,Tryz.ntmps166
 go_wp2
 go_loop [5] (fun i=>∃j:Nat,j≤l.length∧i=.int .i64 j∧Hid (∀x (h:x<l.length),x<j→(l[x].toList == s.toList)=false)) (fun i=>l.length - (intOf i).toNat)
 case atStart=>exact⟨0,Nat.zero_le _,rfl,fun x h h'=>by omega⟩
 case round=>
  obtain⟨j,hj,rfl,HJ⟩:=hrel
  by_cases hlt:j<l.length
  ·obtain⟨x,hx⟩:=exq (l[j])
   have NP:w.cell? ⟨b,j,none⟩=some (.string x):=by rw[hx];exact HC.out j hlt
   by_cases he:(x.toList == s.toList)=true
   ·have HR:Hid (r=true):=by
     show r=true
     rw[hr,jH,List.any_eq_true];exact⟨l[j],List.getElem_mem hlt,by rw[←hx];exact he⟩
    clear hr hx;go_wp2
    go_ret
    exact⟨jK HR.out.symm,rfl⟩
   ·have he':(x.toList == s.toList)=false:=by simpa using he
    have HX:Hid (x=l[j]):=hx;clear hx he;go_wp2
    go_round
    case rel=>
     refine⟨j+1,by omega,by go_num,fun y hy hy'=>?_⟩
     by_cases e:y=j
     ·subst e;rw[←HX.out];exact he'
     ·exact HJ.out y hy (by omega)
    case measure=>simp[intOf];omega
  ·have HR:Hid (r=false):=by
    show r=false
    rw[hr,jH,List.any_eq_false];intro y hy;obtain⟨k,hk,rfl⟩:=List.getElem_of_mem hy;have:=HJ.out k hk (by omega);simpa using this
   clear hr;go_wp2
   go_ret
   exact⟨jK HR.out.symm,rfl⟩
theorem JX(w:World)(t:TypeId):∀j (h:j<nine.length),(w.alloc (.cells #[.string ⟨#[58]⟩,.string ⟨#[59]⟩,.string ⟨#[118,97,114,105,97,98,108,101]⟩,.string ⟨#[105,102]⟩,.string ⟨#[101,108,115,101]⟩,.string ⟨#[116,104,101,110]⟩,.string ⟨#[100,111]⟩,.string ⟨#[108,111,111,112]⟩,.string ⟨#[92]⟩] t)).cell? ⟨w.heap.size,j,none⟩=some (.string nine[j]):=by
 intro j h;have:j<9:=h
 match j,h with
 |0,_=>simp[nine]
 |1,_=>simp[nine]
 |2,_=>simp[nine]
 |3,_=>simp[nine]
 |4,_=>simp[nine]
 |5,_=>simp[nine]
 |6,_=>simp[nine]
 |7,_=>simp[nine]
 |8,_=>simp[nine]
 |j+9,h=>omega
theorem GX(s:ByteArray)(w:World)(hs:s.size≤1000000000):
  Calls Tryz.prog 165 #[.string s] w fun e w'=>e=.returned (.bool (gy s))∧Below w.heap.size w w':=by
 obtain⟨a,b,hab⟩:∃a b,chars s s.size 0 0=(a,b):=⟨_,_,rfl⟩;obtain⟨n,nb,hn⟩:∃n nb,fZ s=(n,nb):=⟨_,_,rfl⟩;obtain⟨q,hq⟩:∃q,jH s nine=q:=⟨_,rfl⟩;have JY:=qB s w hs;have hnum:=zO s w hs;have ham:=wQ s nine w.heap.size 9 (w.alloc _) (by decide) (JX w 9);rw[hab]at JY;rw[hn]at hnum;rw[hq]at ham;have HR:Hid (gy s=(decide (1≤a)&&decide (a≤16)&&!nb&&!q)):=by show gy s=_;unfold gy;rw[hab,hn,hq]
 obtain⟨r,hr⟩:=exq (gy s);rw[←hr];have HS:Hid (r=(decide (1≤a)&&decide (a≤16)&&!nb&&!q)):=by show r=_;rw[hr];exact HR.out
 have H1:Hid (Calls _ _ _ _ _):=JY;have H2:Hid (Calls _ _ _ _ _):=hnum;have H3:Hid (Calls _ _ _ _ _):=ham;clear JY hnum ham hab hn hq hr HR
 by_cases h1:1≤a
 ·by_cases h2:a≤16
  ·cases nb<;>cases q
   all_goals
    go_enter Tryz.func165,Tryz.ntmps165
    go_wp2_with (first|(go_at_call 86;refine H1.out.mono ?_;rintro e w' ⟨rfl,rfl⟩)|(go_at_call 167;refine H2.out.mono ?_;rintro e w' ⟨rfl,rfl⟩)|(go_at_call 166;refine H3.out.mono ?_;rintro e w' ⟨rfl,rfl⟩))
    go_ret
    exact⟨jK (by rw[HS.out];simp[h1,h2]),brq.alloc nrq _⟩
  ·go_enter Tryz.func165,Tryz.ntmps165
   go_wp2_with (first|(go_at_call 86;refine H1.out.mono ?_;rintro e w' ⟨rfl,rfl⟩)|(go_at_call 167;refine H2.out.mono ?_;rintro e w' ⟨rfl,rfl⟩)|(go_at_call 166;refine H3.out.mono ?_;rintro e w' ⟨rfl,rfl⟩))
   go_ret
   exact⟨jK (by have e2:decide (a≤16)=false:=decide_eq_false (by omega);rw[HS.out,e2];simp),brq.alloc nrq _⟩
 ··go_enter Tryz.func165,Tryz.ntmps165
   go_wp2_with (first|(go_at_call 86;refine H1.out.mono ?_;rintro e w' ⟨rfl,rfl⟩)|(go_at_call 167;refine H2.out.mono ?_;rintro e w' ⟨rfl,rfl⟩)|(go_at_call 166;refine H3.out.mono ?_;rintro e w' ⟨rfl,rfl⟩))
   go_ret
   exact⟨jK (by have e2:decide (1≤a)=false:=decide_eq_false (by omega);rw[HS.out,e2];simp),brq.alloc nrq _⟩
end
end Go.Proofs.YtcphhbofjkenaaaGreatDoor
