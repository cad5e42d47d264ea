import Derived.Lib.DecodeN
import Derived.Lib.RuneCount
import Derived.Lib.Strings
import Derived.Test.YtcphhbofjkenaaaGreatDoorMz
namespace Go.Proofs.YtcphhbofjkenaaaGreatDoor
open Go Go.RowKit
set_option linter.unusedVariables false
set_option linter.unusedSimpArgs false
set_option maxRecDepth 100000
set_option maxHeartbeats 16000000
section
open Go
def aI(s:ByteArray)(i:Nat):Nat:=(s.get! i).toNat
theorem dS(s:ByteArray)(i:Nat):aI s i<256:=(s.get! i).toNat_lt
theorem dC(s:ByteArray)(i:Nat)(h:i<s.size):s[i].toNat=aI s i:=by
 simp[aI,ByteArray.get!,getElem!_pos,h];rfl
def wd(s:ByteArray)(i:Nat):Nat:=if aI s i<128 then 1 else if(Utf8.decode s i).2=1 then 0 else(Utf8.decode s i).2
def qZ(b n lo hi:Nat):Prop:=
 (194≤b∧b<224∧n=2∧lo=128∧hi=191)∨(b=224∧n=3∧lo=160∧hi=191)∨
 (((225≤b∧b<237)∨(238≤b∧b<240))∧n=3∧lo=128∧hi=191)∨(b=237∧n=3∧lo=128∧hi=159)∨
 (b=240∧n=4∧lo=144∧hi=191)∨(241≤b∧b<244∧n=4∧lo=128∧hi=191)∨(b=244∧n=4∧lo=128∧hi=143)
theorem qZ.n2{b n lo hi:Nat}(h:qZ b n lo hi):2≤n∧n≤4∧128≤b:=by unfold qZ at h;omega
theorem sN(s:ByteArray)(i n lo hi:Nat)(hi':i<s.size)(h:qZ (aI s i) n lo hi):
  Utf8.decode s i=Lib.slowN (s.size - i) (aI s i) (aI s (i+1)) (aI s (i+2)) (aI s (i+3)) n lo hi:=by
 rw[Lib.decode_at];have b1:=dS s (i+1);have b2:=dS s (i+2);have b3:=dS s (i+3);have hn:1≤s.size - i:=by omega
 show Lib.decodeN (s.size - i) (aI s i) (aI s (i+1)) (aI s (i+2)) (aI s (i+3))=_
 rcases h with ⟨a,b,rfl,rfl,rfl⟩|⟨a,rfl,rfl,rfl⟩|⟨a,rfl,rfl,rfl⟩|⟨a,rfl,rfl,rfl⟩|⟨a,rfl,rfl,rfl⟩|⟨a,b,rfl,rfl,rfl⟩|⟨a,rfl,rfl,rfl⟩
 ·exact(Lib.slow_C2 _ _ _ _ _ hn b1 b2 b3 ⟨a,b⟩).symm
 ·exact(Lib.slow_E0 _ _ _ _ _ hn b1 b2 b3 a).symm
 ·exact(Lib.slow_E1 _ _ _ _ _ hn b1 b2 b3 a).symm
 ·exact(Lib.slow_ED _ _ _ _ _ hn b1 b2 b3 a).symm
 ·exact(Lib.slow_F0 _ _ _ _ _ hn b1 b2 b3 a).symm
 ·exact(Lib.slow_F1 _ _ _ _ _ hn b1 b2 b3 ⟨a,b⟩).symm
 ·exact(Lib.slow_F4 _ _ _ _ _ hn b1 b2 b3 a).symm
theorem mQ(s:ByteArray)(i n lo hi:Nat)(hi':i<s.size)(h:qZ (aI s i) n lo hi)
  (hs:i+n≤s.size) (h1:lo≤aI s (i+1)∧aI s (i+1)≤hi) (hr:∀j,2≤j→j<n→128≤aI s (i+j)∧aI s (i+j)≤191):wd s i=n:=by
 have e:=sN s i n lo hi hi' h;have hn:=h.n2
 have e2:(Utf8.decode s i).2=n:=by
  rw[e];unfold Lib.slowN;have r2:=hr 2 (by omega);have r3:=hr 3 (by omega)
  repeat' split
  all_goals (simp only;omega)
 unfold wd;rw[if_neg (by omega),if_neg (by omega),e2]
theorem gZ(s:ByteArray)(i n lo hi:Nat)(hi':i<s.size)(h:qZ (aI s i) n lo hi)
  (hno:¬(i+n≤s.size∧(lo≤aI s (i+1)∧aI s (i+1)≤hi)∧∀j,2≤j→j<n→128≤aI s (i+j)∧aI s (i+j)≤191)):wd s i=0:=by
 have e:=sN s i n lo hi hi' h;have hn:=h.n2
 have e2:(Utf8.decode s i).2=1:=by
  rw[e];unfold Lib.slowN
  repeat' split
  all_goals first
   |rfl
   |(exfalso;apply hno;refine⟨by omega,by omega,fun j h2 h3=>?_⟩
     have:j=2∨j=3:=by omega
     rcases this with rfl|rfl<;>omega)
 unfold wd;rw[if_neg (by omega),if_pos e2]
theorem JP(s:ByteArray)(i:Nat)(h:(128≤aI s i∧aI s i<194)∨244<aI s i):wd s i=0:=by
 have b0:=dS s i
 have e2:(Utf8.decode s i).2=1:=by
  rw[Lib.decode_at]
  show(Lib.decodeN (s.size - i) (aI s i) _ _ _).2=1
  have b1:=dS s (i+1);have b2:=dS s (i+2);have b3:=dS s (i+3);unfold aI at b1 b2 b3;unfold Lib.decodeN
  repeat' split
  all_goals first|rfl|(exfalso;omega)
 unfold wd;rw[if_neg (by omega),if_pos e2]
theorem Ep(s:ByteArray)(i:Nat)(h:aI s i<128):wd s i=1:=by unfold wd;rw[if_pos h]
def chars(s:ByteArray):Nat→Nat→Nat→Int×Int
 |0,_,n=>(n,0)
 |f+1,i,n=>if i<s.size then(if wd s i=0 then(-1,(i:Int))else chars s f (i+wd s i) (n+1))else(n,0)
theorem OI(s:ByteArray)(f i n:Nat)(h:s.size≤i):chars s f i n=((n:Int),(0:Int)):=by
 cases f with
 |zero=>rfl
 |succ f=>unfold chars;rw[if_neg (by omega)]
theorem aas(s:ByteArray)(i:Nat):wd s i≤4:=by
 unfold wd
 have:(Utf8.decode s i).2≤4:=by
  rw[Lib.decode_at];unfold Lib.decodeN
  repeat' split
  all_goals (simp only;omega)
 split<;>(try split)<;>omega
theorem RS(s:ByteArray)(i:Nat)(h:i<s.size):i+wd s i≤s.size:=by
 unfold wd
 have:i+(Utf8.decode s i).2≤s.size:=by
  rw[Lib.decode_at];unfold Lib.decodeN
  repeat' split
  all_goals (simp only;omega)
 split<;>(try split)<;>omega
end
section
open Go
def blk(b:Nat):Bool:=b == 32||b == 9||b == 10
def oD(b:Nat):Bool:=b == 10
def Es(b:Nat):Bool:=!blk b
def pK(p:Nat→Bool)(s:ByteArray):Nat→Nat→Nat
 |0,k=>k
 |f+1,k=>if k<s.size then(if p (aI s k)then k else pK p s f (k+1))else k
def scan(p:Nat→Bool)(s:ByteArray)(k:Nat):Nat:=pK p s (s.size - k) k
theorem Gw(p:Nat→Bool)(s:ByteArray):∀(f k m:Nat),s.size - k≤f→k≤m→m≤s.size→(∀x,k≤x→x<m→p (aI s x)=false)→(m=s.size∨p (aI s m)=true)→pK p s f k=m
 |0,k,m,hf,h1,h2,_,_=>by unfold pK;omega
 |f+1,k,m,hf,h1,h2,h3,h4=>by
  unfold pK
  by_cases hk:k<s.size
  ·rw[if_pos hk]
   by_cases e:k=m
   ·subst e
    rcases h4 with h4|h4
    ·omega
    ·rw[if_pos h4]
   ·rw[if_neg (by rw[h3 k nrq (by omega)];exact Bool.false_ne_true)]
    exact Gw p s f (k+1) m (by omega) (by omega) h2 (fun x a b=>h3 x (by omega) b) h4
  ·rw[if_neg hk];omega
theorem jJ{p:Nat→Bool}{s:ByteArray}{k m:Nat}(h1:k≤m)(h2:m≤s.size)(h3:∀x,k≤x→x<m→p (aI s x)=false)(h4:m=s.size∨p (aI s m)=true):scan p s k=m:=
 Gw p s _ k m nrq h1 h2 h3 h4
theorem zF(p:Nat→Bool)(s:ByteArray):∀(f k:Nat),s.size - k≤f→k≤s.size→k≤pK p s f k∧pK p s f k≤s.size∧(∀x,k≤x→x<pK p s f k→p (aI s x)=false)∧(pK p s f k=s.size∨p (aI s (pK p s f k))=true)
 |0,k,hf,hk=>by unfold pK;exact⟨nrq,hk,fun x a b=>by omega,Or.inl (by omega)⟩
 |f+1,k,hf,hk=>by
  unfold pK
  by_cases h:k<s.size
  ·rw[if_pos h]
   by_cases hp:p (aI s k)=true
   ·rw[if_pos hp];exact⟨nrq,hk,fun x a b=>by omega,Or.inr hp⟩
   ·rw[if_neg hp]
    obtain⟨a,b,c,d⟩:=zF p s f (k+1) (by omega) (by omega);refine⟨by omega,b,fun x x1 x2=>?_,d⟩
    by_cases e:x=k
    ·subst e;simpa using hp
    ·exact c x (by omega) x2
  ·rw[if_neg h];exact⟨nrq,hk,fun x a b=>by omega,Or.inl (by omega)⟩
theorem bJ(p:Nat→Bool)(s:ByteArray)(k:Nat)(hk:k≤s.size):k≤scan p s k∧scan p s k≤s.size∧(∀x,k≤x→x<scan p s k→p (aI s x)=false)∧(scan p s k=s.size∨p (aI s (scan p s k))=true):=
 zF p s _ k nrq hk
abbrev Tk:=ByteArray×Nat
def note:ByteArray:=⟨#[92]⟩
def iP(s:ByteArray):Nat→Nat→List Tk
 |0,_=>[]
 |f+1,i=>
  if i<s.size then
   (if blk (aI s i)=true then iP s f (i+1)
    else if s.extract i (scan blk s i)=note then iP s f (scan oD s (scan blk s i))
    else(s.extract i (scan blk s i),i) :: iP s f (scan blk s i))
  else []
theorem dU(s:ByteArray)(i:Nat)(h:i<s.size)(hb:blk (aI s i)=false):i<scan blk s i:=by
 obtain⟨a,b,c,d⟩:=bJ blk s i (by omega);rcases Nat.lt_or_ge i (scan blk s i)with h'|h'
 ·exact h'
 ·have e:scan blk s i=i:=by omega
  rw[e]at d;rcases d with d|d
  ·omega
  ·rw[hb]at d;cases d
theorem gJ(s:ByteArray):∀(f g i:Nat),s.size - i≤f→s.size - i≤g→iP s f i=iP s g i
 |0,0,_,_,_=>rfl
 |0,g+1,i,hf,_=>by unfold iP;rw[if_neg (by omega)]
 |f+1,0,i,_,hg=>by unfold iP;rw[if_neg (by omega)]
 |f+1,g+1,i,hf,hg=>by
  unfold iP
  by_cases h:i<s.size
  ·rw[if_pos h,if_pos h]
   by_cases hb:blk (aI s i)=true
   ·rw[if_pos hb,if_pos hb];exact gJ s f g (i+1) (by omega) (by omega)
   ·rw[if_neg hb,if_neg hb]
    have h1:=dU s i h (by simpa using hb);have h2:=(bJ blk s i (by omega)).2.1;have h3:=(bJ oD s (scan blk s i) h2).1
    by_cases hn:s.extract i (scan blk s i)=note
    ·rw[if_pos hn,if_pos hn];exact gJ s f g _ (by omega) (by omega)
    ·rw[if_neg hn,if_neg hn,gJ s f g _ (by omega) (by omega)]
  ·rw[if_neg h,if_neg h]
def aZ(s:ByteArray)(i:Nat):List Tk:=iP s (s.size - i) i
theorem sO(s:ByteArray)(i:Nat)(h:s.size≤i):aZ s i=[]:=by
 unfold aZ;rw[show s.size - i=0 by omega];rfl
theorem uG(s:ByteArray)(i:Nat)(h:i<s.size)(hb:blk (aI s i)=true):aZ s i=aZ s (i+1):=by
 unfold aZ;rw[gJ s (s.size - i) (s.size - i+1) i (by omega) (by omega)];rw[iP,if_pos h,if_pos hb];exact gJ s _ _ _ (by omega) (by omega)
theorem mr(s:ByteArray)(i:Nat)(h:i<s.size)(hb:blk (aI s i)=false)(hn:s.extract i (scan blk s i)=note):aZ s i=aZ s (scan oD s (scan blk s i)):=by
 unfold aZ;have h1:=dU s i h hb;have h2:=(bJ blk s i (by omega)).2.1;have h3:=(bJ oD s (scan blk s i) h2).1;rw[gJ s (s.size - i) (s.size - i+1) i (by omega) (by omega)];rw[iP,if_pos h,if_neg (by rw[hb];exact Bool.false_ne_true),if_pos hn];exact gJ s _ _ _ (by omega) (by omega)
theorem oG(s:ByteArray)(i:Nat)(h:i<s.size)(hb:blk (aI s i)=false)(hn:¬s.extract i (scan blk s i)=note):aZ s i=(s.extract i (scan blk s i),i) :: aZ s (scan blk s i):=by
 unfold aZ;have h1:=dU s i h hb;rw[gJ s (s.size - i) (s.size - i+1) i (by omega) (by omega)];rw[iP,if_pos h,if_neg (by rw[hb];exact Bool.false_ne_true),if_neg hn];rw[gJ s _ _ _ (by omega) nrq]
def mD(l:List Tk):List Value:=l.flatMap fun t=>[.string t.1,.int .i64 t.2]
theorem uH(l:List Tk)(t:Tk):mD (l++[t])=mD l++[.string t.1,.int .i64 t.2]:=by simp[mD]
end
section
open Go
def tab:List (List UInt8×Int×Int):=[([43],2,1),([45],2,1),([42],2,1),([97,110,100],2,1),([111,114],2,1),([120,111,114],2,1),([47],2,1),([109,111,100],2,1),([61],2,1),([60],2,1),([62],2,1),([109,105,110],2,1),([109,97,120],2,1),([110,105,112],2,1),([110,101,103,97,116,101],1,1),([97,98,115],1,1),([48,61],1,1),([64],1,1),([100,117,112],1,2),([100,114,111,112],1,0),([111,117,116],1,0),([115,119,97,112],2,2),([111,118,101,114],2,3),([116,117,99,107],2,3),([114,111,116],3,3),([33],2,0),([105,110],0,1),([105],0,1)]
def zG(l:List UInt8):Int×Int×Bool:=
 match tab.find? (fun r=>r.1 == l)with
 |some r=>(r.2.1,r.2.2,true)
 |none=>(0,0,false)
def ax(s:ByteArray):Int×Int×Bool:=zG s.toList
def sat(n:Int)(b:Nat):Int:=if 2147483648<n*10+b - 48 then 2147483649 else n*10+b - 48
def numAt(s:ByteArray):Nat→Nat→Int→Option Int
 |0,_,n=>some n
 |f+1,k,n=>if k<s.size then(if aI s k<48∨57<aI s k then none else numAt s f (k+1) (sat n (aI s k)))else some n
def jq(n:Int):Bool:=decide (-2147483648≤n)&&decide (n≤2147483647)
def fM(s:ByteArray)(i:Nat)(neg:Bool):Int×Bool:=
 if s.size≤i then(0,false)else
  match numAt s s.size i 0 with
  |none=>(0,false)
  |some n=>if neg then(-n,jq (-n))else(n,jq n)
def fZ(s:ByteArray):Int×Bool:=if 0<s.size∧aI s 0=45 then fM s 1 true else fM s 0 false
theorem Dn(s:ByteArray)(f k:Nat)(n:Int)(h:s.size≤k):numAt s f k n=some n:=by
 cases f with
 |zero=>rfl
 |succ f=>unfold numAt;rw[if_neg (by omega)]
def nine:List ByteArray:=[⟨#[58]⟩,⟨#[59]⟩,⟨#[118,97,114,105,97,98,108,101]⟩,⟨#[105,102]⟩,⟨#[101,108,115,101]⟩,⟨#[116,104,101,110]⟩,⟨#[100,111]⟩,⟨#[108,111,111,112]⟩,⟨#[92]⟩]
def jH(s:ByteArray)(l:List ByteArray):Bool:=l.any fun x=>x.toList == s.toList
def gy(s:ByteArray):Bool:=decide (1≤(chars s s.size 0 0).1)&&decide ((chars s s.size 0 0).1≤16)&&!(fZ s).2&&!jH s nine
end
section
open Go
theorem RU(s:ByteArray)(h:(fZ s).2=true): -2147483648≤(fZ s).1∧(fZ s).1≤2147483647:=by
 have key:∀i b,(fM s i b).2=true→ -2147483648≤(fM s i b).1∧(fM s i b).1≤2147483647:=by
  intro i b hb;unfold fM at hb ⊢
  by_cases h0:s.size≤i
  ·rw[if_pos h0]at hb;cases hb
  ·rw[if_neg h0]at hb ⊢
   cases hn:numAt s s.size i 0 with
   |none=>rw[hn]at hb;cases hb
   |some n=>
    rw[hn]at hb;simp only at hb ⊢
    cases b<;>simp[jq]at hb ⊢<;>omega
 unfold fZ at h ⊢
 split at h<;>(rename_i hc;first|(rw[if_pos hc];exact key _ _ h)|(rw[if_neg hc];exact key _ _ h))
end
end Go.Proofs.YtcphhbofjkenaaaGreatDoor
