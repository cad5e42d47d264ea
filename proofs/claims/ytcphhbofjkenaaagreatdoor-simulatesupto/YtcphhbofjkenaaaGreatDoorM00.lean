import Derived.Lib.DecodeN
import Derived.Lib.RuneCount
import Derived.Lib.Strings
import Derived.Maps.AppendAt
import Derived.Test.YtcphhbofjkenaaaGreatDoorMz
namespace Go.Proofs.YtcphhbofjkenaaaGreatDoor
open Go Go.RowKit
set_option linter.unusedVariables false
set_option linter.unusedSimpArgs false
set_option maxRecDepth 100000
set_option maxHeartbeats 16000000
variable{b n base size g cap:Nat}{p:Addr}{S:Nat→Prop}{a w w':World}{cs:Array Value}{t e:TypeId}{o:Oper}{v:Value}{xs:List Value}{ops:Array Oper}{rest:List Oper}{Q:Exit→Act→World→Prop}
section
open Go
def aJ(s:ByteArray)(i:Nat):Nat:=(s.get! i).toNat
theorem lh(s:ByteArray)(i:Nat):aJ s i<256:=(s.get! i).toNat_lt
theorem tB(s:ByteArray)(i:Nat)(h:i<s.size):s[i].toNat=aJ s i:=by
 simp[aJ,ByteArray.get!,getElem!_pos,h];rfl
def wd(s:ByteArray)(i:Nat):Nat:=if aJ s i<128 then 1 else if(Utf8.decode s i).2=1 then 0 else(Utf8.decode s i).2
def kp(b n lo hi:Nat):Prop:=
 (194≤b∧b<224∧n=2∧lo=128∧hi=191)∨(b=224∧n=3∧lo=160∧hi=191)∨
 (((225≤b∧b<237)∨(238≤b∧b<240))∧n=3∧lo=128∧hi=191)∨(b=237∧n=3∧lo=128∧hi=159)∨
 (b=240∧n=4∧lo=144∧hi=191)∨(241≤b∧b<244∧n=4∧lo=128∧hi=191)∨(b=244∧n=4∧lo=128∧hi=143)
theorem kp.n2{lo hi:Nat}(h:kp b n lo hi):2≤n∧n≤4∧128≤b:=by unfold kp at h;omega
theorem Ga(s:ByteArray)(i n lo hi:Nat)(hi':i<s.size)(h:kp (aJ s i) n lo hi):
  Utf8.decode s i=Lib.slowN (s.size - i) (aJ s i) (aJ s (i+1)) (aJ s (i+2)) (aJ s (i+3)) n lo hi:=by
 rw[Lib.decode_at];have b1:=lh s (i+1);have b2:=lh s (i+2);have b3:=lh s (i+3);have hn:1≤s.size - i:=ag
 show Lib.decodeN (s.size - i) (aJ s i) (aJ s (i+1)) (aJ s (i+2)) (aJ s (i+3))=_
 rcases h with ⟨a,b,rfl,rfl,rfl⟩|⟨a,rfl,rfl,rfl⟩|⟨a,rfl,rfl,rfl⟩|⟨a,rfl,rfl,rfl⟩|⟨a,rfl,rfl,rfl⟩|⟨a,b,rfl,rfl,rfl⟩|⟨a,rfl,rfl,rfl⟩
 ·exact(Lib.slow_C2 _ _ _ _ _ hn b1 b2 b3 ⟨a,b⟩).symm
 ·exact(Lib.slow_E0 _ _ _ _ _ hn b1 b2 b3 a).symm
 ·exact(Lib.slow_E1 _ _ _ _ _ hn b1 b2 b3 a).symm
 ·exact(Lib.slow_ED _ _ _ _ _ hn b1 b2 b3 a).symm
 ·exact(Lib.slow_F0 _ _ _ _ _ hn b1 b2 b3 a).symm
 ·exact(Lib.slow_F1 _ _ _ _ _ hn b1 b2 b3 ⟨a,b⟩).symm
 ·exact(Lib.slow_F4 _ _ _ _ _ hn b1 b2 b3 a).symm
theorem uK(s:ByteArray)(i n lo hi:Nat)(hi':i<s.size)(h:kp (aJ s i) n lo hi)
  (hs:i+n≤s.size) (h1:lo≤aJ s (i+1)∧aJ s (i+1)≤hi) (hr:∀j,2≤j→j<n→128≤aJ s (i+j)∧aJ s (i+j)≤191):wd s i=n:=by
 have e:=Ga s i n lo hi hi' h;have hn:=h.n2
 have e2:(Utf8.decode s i).2=n:=by
  rw[e];unfold Lib.slowN;have r2:=hr 2 ag;have r3:=hr 3 ag
  repeat' split
  all_goals (simp only;omega)
 unfold wd;rw[az ag,az ag,e2]
theorem mJ(s:ByteArray)(i n lo hi:Nat)(hi':i<s.size)(h:kp (aJ s i) n lo hi)
  (hno:¬(i+n≤s.size∧(lo≤aJ s (i+1)∧aJ s (i+1)≤hi)∧∀j,2≤j→j<n→128≤aJ s (i+j)∧aJ s (i+j)≤191)):wd s i=0:=by
 have e:=Ga s i n lo hi hi' h;have hn:=h.n2
 have e2:(Utf8.decode s i).2=1:=by
  rw[e];unfold Lib.slowN
  repeat' split
  all_goals first
   |rfl
   |(exfalso;apply hno;refine⟨ag,ag,fun j h2 h3=>?_⟩
     have:j=2∨j=3:=ag;rcases this with rfl|rfl<;>omega)
 unfold wd;rw[az ag,aG e2]
theorem IP(s:ByteArray)(i:Nat)(h:(128≤aJ s i∧aJ s i<194)∨244<aJ s i):wd s i=0:=by
 have b0:=lh s i
 have e2:(Utf8.decode s i).2=1:=by
  rw[Lib.decode_at]
  show(Lib.decodeN (s.size - i) (aJ s i) _ _ _).2=1
  have b1:=lh s (i+1);have b2:=lh s (i+2);have b3:=lh s (i+3);unfold aJ at b1 b2 b3;unfold Lib.decodeN
  repeat' split
  all_goals first|rfl|(exfalso;omega)
 unfold wd;rw[az ag,aG e2]
theorem DL(s:ByteArray)(i:Nat)(h:aJ s i<128):wd s i=1:=by unfold wd;rw[aG h]
def chars(s:ByteArray):Nat→Nat→Nat→Int×Int
 |0,_,n=>(n,0)
 |f+1,i,n=>if i<s.size then(if wd s i=0 then(-1,(i:Int))else chars s f (i+wd s i) (n+1))else(n,0)
theorem aa5(s:ByteArray)(f i n:Nat)(h:s.size≤i):chars s f i n=((n:Int),(0:Int)):=by
 cases f with
 |zero=>rfl
 |succ f=>unfold chars;rw[az ag]
theorem aaf(s:ByteArray)(i:Nat):wd s i≤4:=by
 unfold wd
 have:(Utf8.decode s i).2≤4:=by
  rw[Lib.decode_at];unfold Lib.decodeN
  repeat' split
  all_goals (simp only;omega)
 split<;>(try split)<;>omega
theorem GF(s:ByteArray)(i:Nat)(h:i<s.size):i+wd s i≤s.size:=by
 unfold wd
 have:i+(Utf8.decode s i).2≤s.size:=by
  rw[Lib.decode_at];unfold Lib.decodeN
  repeat' split
  all_goals (simp only;omega)
 split<;>(try split)<;>omega
end
section
open Go
def blk(b:Nat):Bool:=b == 32||b == 9||b == 10
def dY(b:Nat):Bool:=b == 10
def ld(b:Nat):Bool:=!blk b
def scanF(p:Nat→Bool)(s:ByteArray):Nat→Nat→Nat
 |0,k=>k
 |f+1,k=>if k<s.size then(if p (aJ s k)then k else scanF p s f (k+1))else k
def scan(p:Nat→Bool)(s:ByteArray)(k:Nat):Nat:=scanF p s (s.size - k) k
theorem JD(p:Nat→Bool)(s:ByteArray):∀(f k m:Nat),s.size - k≤f→k≤m→m≤s.size→(∀x,k≤x→x<m→p (aJ s x)=false)→(m=s.size∨p (aJ s m)=true)→scanF p s f k=m
 |0,k,m,hf,h1,h2,_,_=>by unfold scanF;omega
 |f+1,k,m,hf,h1,h2,h3,h4=>by
  unfold scanF
  by_cases hk:k<s.size
  ·rw[aG hk]
   by_cases e:k=m
   ·subst e
    rcases h4 with h4|h4
    ·omega
    ·rw[aG h4]
   ·rw[az (by rw[h3 k aH ag];exact Bool.false_ne_true)]
    exact JD p s f (k+1) m ag ag h2 (fun x a b=>h3 x ag b) h4
  ·rw[az hk];omega
theorem tL{p:Nat→Bool}{s:ByteArray}{k m:Nat}(h1:k≤m)(h2:m≤s.size)(h3:∀x,k≤x→x<m→p (aJ s x)=false)(h4:m=s.size∨p (aJ s m)=true):scan p s k=m:=
 JD p s _ k m aH h1 h2 h3 h4
theorem Kf(p:Nat→Bool)(s:ByteArray):∀(f k:Nat),s.size - k≤f→k≤s.size→k≤scanF p s f k∧scanF p s f k≤s.size∧(∀x,k≤x→x<scanF p s f k→p (aJ s x)=false)∧(scanF p s f k=s.size∨p (aJ s (scanF p s f k))=true)
 |0,k,hf,hk=>by unfold scanF;exact⟨aH,hk,fun x a b=>ag,aC ag⟩
 |f+1,k,hf,hk=>by
  unfold scanF
  by_cases h:k<s.size
  ·rw[aG h]
   by_cases hp:p (aJ s k)=true
   ·rw[aG hp];exact⟨aH,hk,fun x a b=>ag,aA hp⟩
   ·rw[az hp]
    obtain⟨a,b,c,d⟩:=Kf p s f (k+1) ag ag;refine⟨ag,b,fun x x1 x2=>?_,d⟩
    by_cases e:x=k
    ·subst e;simpa using hp
    ·exact c x ag x2
  ·rw[az h];exact⟨aH,hk,fun x a b=>ag,aC ag⟩
theorem iP(p:Nat→Bool)(s:ByteArray)(k:Nat)(hk:k≤s.size):k≤scan p s k∧scan p s k≤s.size∧(∀x,k≤x→x<scan p s k→p (aJ s x)=false)∧(scan p s k=s.size∨p (aJ s (scan p s k))=true):=
 Kf p s _ k aH hk
abbrev Tk:=ByteArray×Nat
def note:ByteArray:=⟨#[92]⟩
def jA(s:ByteArray):Nat→Nat→List Tk
 |0,_=>[]
 |f+1,i=>
  if i<s.size then
   (if blk (aJ s i)=true then jA s f (i+1)
    else if s.extract i (scan blk s i)=note then jA s f (scan dY s (scan blk s i))
    else(s.extract i (scan blk s i),i) :: jA s f (scan blk s i))
  else []
theorem ub(s:ByteArray)(i:Nat)(h:i<s.size)(hb:blk (aJ s i)=false):i<scan blk s i:=by
 obtain⟨a,b,c,d⟩:=iP blk s i ag;rcases kh i (scan blk s i)with h'|h'
 ·exact h'
 ·have e:scan blk s i=i:=by omega
  rw[e]at d;rcases d with d|d
  ·omega
  ·rw[hb]at d;cases d
theorem uh(s:ByteArray):∀(f g i:Nat),s.size - i≤f→s.size - i≤g→jA s f i=jA s g i
 |0,0,_,_,_=>rfl
 |0,g+1,i,hf,_=>by unfold jA;rw[az ag]
 |f+1,0,i,_,hg=>by unfold jA;rw[az ag]
 |f+1,g+1,i,hf,hg=>by
  unfold jA
  by_cases h:i<s.size
  ·rw[aG h,aG h]
   by_cases hb:blk (aJ s i)=true
   ·rw[aG hb,aG hb];exact uh s f g (i+1) ag ag
   ·rw[az hb,az hb]
    have h1:=ub s i h xy;have h2:=(iP blk s i ag).2.1;have h3:=(iP dY s (scan blk s i) h2).1
    by_cases hn:s.extract i (scan blk s i)=note
    ·rw[aG hn,aG hn];exact uh s f g _ ag ag
    ·rw[az hn,az hn,uh s f g _ ag ag]
  ·rw[az h,az h]
def cU(s:ByteArray)(i:Nat):List Tk:=jA s (s.size - i) i
theorem FW(s:ByteArray)(i:Nat)(h:s.size≤i):cU s i=[]:=by
 unfold cU;rw[show s.size - i=0 by omega];rfl
theorem RZ(s:ByteArray)(i:Nat)(h:i<s.size)(hb:blk (aJ s i)=true):cU s i=cU s (i+1):=by
 unfold cU;rw[uh s (s.size - i) (s.size - i+1) i ag ag];rw[jA,aG h,aG hb];exact uh s _ _ _ ag ag
theorem De(s:ByteArray)(i:Nat)(h:i<s.size)(hb:blk (aJ s i)=false)(hn:s.extract i (scan blk s i)=note):cU s i=cU s (scan dY s (scan blk s i)):=by
 unfold cU;have h1:=ub s i h hb;have h2:=(iP blk s i ag).2.1;have h3:=(iP dY s (scan blk s i) h2).1;rw[uh s (s.size - i) (s.size - i+1) i ag ag];rw[jA,aG h,az (by rw[hb];exact Bool.false_ne_true),aG hn];exact uh s _ _ _ ag ag
theorem Ij(s:ByteArray)(i:Nat)(h:i<s.size)(hb:blk (aJ s i)=false)(hn:¬s.extract i (scan blk s i)=note):cU s i=(s.extract i (scan blk s i),i) :: cU s (scan blk s i):=by
 unfold cU;have h1:=ub s i h hb;rw[uh s (s.size - i) (s.size - i+1) i ag ag];rw[jA,aG h,az (by rw[hb];exact Bool.false_ne_true),az hn];rw[uh s _ _ _ ag aH]
def vS(l:List Tk):List Value:=l.flatMap fun t=>[.string t.1,ae t.2]
theorem Us(l:List Tk)(t:Tk):vS (l++[t])=vS l++[.string t.1,ae t.2]:=by simp[vS]
end
section
open Go
def tab:List (List UInt8×Int×Int):=[([43],2,1),([45],2,1),([42],2,1),([97,110,100],2,1),([111,114],2,1),([120,111,114],2,1),([47],2,1),([109,111,100],2,1),([61],2,1),([60],2,1),([62],2,1),([109,105,110],2,1),([109,97,120],2,1),([110,105,112],2,1),([110,101,103,97,116,101],1,1),([97,98,115],1,1),([48,61],1,1),([64],1,1),([100,117,112],1,2),([100,114,111,112],1,0),([111,117,116],1,0),([115,119,97,112],2,2),([111,118,101,114],2,3),([116,117,99,107],2,3),([114,111,116],3,3),([33],2,0),([105,110],0,1),([105],0,1)]
def thereL(l:List UInt8):Int×Int×Bool:=
 match tab.find? (fun r=>r.1 == l)with
 |some r=>(r.2.1,r.2.2,true)
 |none=>(0,0,false)
def bD(s:ByteArray):Int×Int×Bool:=thereL s.toList
def sat(n:Int)(b:Nat):Int:=if 2147483648<n*10+b - 48 then 2147483649 else n*10+b - 48
def numAt(s:ByteArray):Nat→Nat→Int→Option Int
 |0,_,n=>some n
 |f+1,k,n=>if k<s.size then(if aJ s k<48∨57<aJ s k then none else numAt s f (k+1) (sat n (aJ s k)))else some n
def qD(n:Int):Bool:=decide (-2147483648≤n)&&decide (n≤2147483647)
def numFrom(s:ByteArray)(i:Nat)(neg:Bool):Int×Bool:=
 if s.size≤i then(0,false)else
  match numAt s s.size i 0 with
  |none=>(0,false)
  |some n=>if neg then(-n,qD (-n))else(n,qD n)
def dC(s:ByteArray):Int×Bool:=if 0<s.size∧aJ s 0=45 then numFrom s 1 true else numFrom s 0 false
theorem Ki(s:ByteArray)(f k:Nat)(n:Int)(h:s.size≤k):numAt s f k n=some n:=by
 cases f with
 |zero=>rfl
 |succ f=>unfold numAt;rw[az ag]
def nine:List ByteArray:=[⟨#[58]⟩,⟨#[59]⟩,⟨#[118,97,114,105,97,98,108,101]⟩,⟨#[105,102]⟩,⟨#[101,108,115,101]⟩,⟨#[116,104,101,110]⟩,⟨#[100,111]⟩,⟨#[108,111,111,112]⟩,⟨#[92]⟩]
def ck(s:ByteArray)(l:List ByteArray):Bool:=l.any fun x=>x.toList == s.toList
def gK(s:ByteArray):Bool:=decide (1≤(chars s s.size 0 0).1)&&decide ((chars s s.size 0 0).1≤16)&&!(dC s).2&&!ck s nine
end
section
open Go
theorem Me(s:ByteArray)(h:(dC s).2=true): -2147483648≤(dC s).1∧(dC s).1≤2147483647:=by
 have key:∀i b,(numFrom s i b).2=true→ -2147483648≤(numFrom s i b).1∧(numFrom s i b).1≤2147483647:=by
  intro i b hb;unfold numFrom at hb ⊢
  by_cases h0:s.size≤i
  ·rw[aG h0]at hb;cases hb
  ·rw[az h0]at hb ⊢
   cases hn:numAt s s.size i 0 with
   |none=>rw[hn]at hb;cases hb
   |some n=>
    rw[hn]at hb;simp only at hb ⊢
    cases b<;>simp[qD]at hb ⊢<;>omega
 unfold dC at h ⊢
 split at h<;>(rename_i hc;first|(rw[aG hc];exact key _ _ h)|(rw[az hc];exact key _ _ h))
end
section
structure aq (S:Nat→Prop) (w w':World):Prop where
 os:w'.os=w.os
 tape:w'.tape=w.tape
 output:w'.output=w.output
 size:w.heap.size≤w'.heap.size
 block:∀k,k<w.heap.size→¬S k→w'.heap[k]?=w.heap[k]?
theorem aq.refl(S:Nat→Prop)(w:World):aq S w w:=⟨rfl,rfl,rfl,aH,fun _ _ _=>rfl⟩
theorem aq.trans{b c:World}(h:aq S a b)(k:aq S b c):aq S a c:=
 ⟨k.os.trans h.os,k.tape.trans h.tape,k.output.trans h.output,bB h.size k.size,fun i hi hs=>(k.block i (bF hi h.size) hs).trans (h.block i hi hs)⟩
theorem aq.mono{S':Nat→Prop}(h:aq S w w')(hs:∀k,k<w.heap.size→S k→S' k):aq S' w w':=
 ⟨h.os,h.tape,h.output,h.size,fun k hk hn=>h.block k hk fun a=>hn (hs k hk a)⟩
theorem aq.bf(h:Below w.heap.size w w'):aq S w w':=⟨h.os,h.tape,h.output,h.size,fun k hk _=>h.block k hk⟩
theorem aq.toBelow{B:Nat}(h:aq S w w')(hB:B≤w.heap.size)(hs:∀k,k<B→¬S k):Below B w w':=⟨h.os,h.tape,h.output,h.size,fun k hk=>h.block k ag (hs k hk)⟩
theorem aq.dP{row:Option Nat}(h:w.grownBy w' row):aq (fun k=>some k=row) w w':=⟨h.os,h.tape,h.output,h.size,fun k hk hn=>h.block k hk hn⟩
theorem aq.drew(h:aq S a w):aq S a w.drew:=⟨h.os,h.tape,h.output,h.size,h.block⟩
theorem aq.alloc(h:aq S a w)(o:Obj):aq S a (w.alloc o):=
 h.trans ⟨rfl,rfl,rfl,aF,fun k hk _=>Below.heap_alloc _ _ _ hk⟩
theorem aq.setCell(h:aq S a w)(hp:S p.block)(u:Value):aq S a (w.setCell p u):=
 h.trans ⟨rfl,rfl,rfl,by simp[World.setCell],fun k _ hn=>Below.heap_setCell _ _ _ _ (fun e=>hn (e ▸ hp))⟩
theorem aq.cell(h:aq S w w')(hp:p.block<w.heap.size)(hn:¬S p.block):w'.cell? p=w.cell? p:=World.cell?_of_block (w:=w) (h.block p.block hp hn)
def ay(w:World)(b:Nat)(cs:Array Value)(t:TypeId):Prop:=w.heap[b]?=some (.cells cs t (0,0))
theorem ay.lt(h:ay w b cs t):b<w.heap.size:=(mD.1 h).1
theorem ay.cell(h:ay w b cs t)(o:Nat)(v:Value)(hv:cs[o]?=some v):w.cell? (ai b o)=some v:=by
 unfold ay at h;simp[World.cell?,h,hv]
theorem ay.frozen(h:ay w b cs t)(o:Nat):w.frozen? (ai b o)=false:=by
 unfold ay at h;simp[World.frozen?,h]
theorem ay.aB(h:ay w b cs t)(hc:aq S w w')(hn:¬S b):ay w' b cs t:=(hc.block b h.lt hn).trans h
theorem ay.alloc(h:ay w b cs t)(o:Obj):ay (w.alloc o) b cs t:=(Below.heap_alloc w o b h.lt).trans h
theorem ay.drew(h:ay w b cs t):ay w.drew b cs t:=h
theorem ay.set{o:Nat}(h:ay w b cs t)(v:Value):ay (w.setCell (ai b o) v) b (cs.setIfInBounds o v) t:=by
 unfold ay at *;simp only[World.setCell,Array.getElem?_modify,h];simp
theorem ay.setOther(h:ay w b cs t){a:Addr}(hn:a.block≠b)(v:Value):ay (w.setCell a v) b cs t:=by
 unfold ay at *;rw[Below.heap_setCell _ _ _ _ (Ne.symm hn)];exact h
end
section
structure Inf where
 need:Int
 aM:Int
 high:Int
 steps:Int
 str:Bool
def Inf.val(i:Inf):Value:=.agg #[ae i.need,ae i.aM,ae i.high,ae i.steps,.bool i.str]
def Inf.zero:Inf:=⟨0,0,0,0,true⟩
def Inf.then(a b:Inf):Inf:=⟨max a.need (b.need - a.aM),a.aM+b.aM,max a.high (a.aM+b.high),min (a.steps+b.steps) 1000000001,a.str&&b.str⟩
def Inf.plain(t p:Int):Inf:=⟨t,p - t,max 0 (p - t),1,true⟩
inductive IT where
 |num (n:Int)
 |op (s:ByteArray)
 |own (k:Nat)
 |iff (a:List IT)
 |els (a b:List IT)
 |kY (a:List IT)
structure RW where
 name:ByteArray
 var:Int
 items:Value
 inf:Inf
 its:List IT
def RW.cells(x:RW):List Value:=[.string x.name,ae x.var,x.items,ae x.inf.need,ae x.inf.aM,ae x.inf.high,ae x.inf.steps,.bool x.inf.str]
def xj(l:List RW):List Value:=l.flatMap RW.cells
theorem flat_get{α:Type}(f:α→List Value)(n:Nat)(hf:∀x,(f x).length=n):∀(l:List α) (i j:Nat) (h:i<l.length),j<n→(l.flatMap f)[i*n+j]?=(f l[i])[j]?
 |[],i,j,h,_=>jC
 |x :: l,0,j,_,hj=>by simp[List.flatMap_cons];rw[dH (by rw[hf];exact hj)]
 |x :: l,i+1,j,h,hj=>by
  simp only[List.flatMap_cons];rw[fP (by rw[hf,Nat.succ_mul];omega),hf];rw[show(i+1)*n+j - n=i*n+j by rw[Nat.succ_mul];omega];simpa using flat_get f n hf l i j Bt hj
theorem flat_length{α:Type}(f:α→List Value)(n:Nat)(hf:∀x,(f x).length=n):∀(l:List α),(l.flatMap f).length=l.length*n
 |[]=>aF
 |x :: l=>by simp only[List.flatMap_cons,cF,hf,fA];rw[flat_length f n hf l,Nat.succ_mul];omega
theorem cd(h:w.ownsRow base e size v n xs)(hn:0<n):
  ∃g cap,v=aD g n cap∧base≤g∧g<w.heap.size∧n≤cap∧cap≤maxLen∧∀(j:Nat) (u:Value),xs[j]?=some u→w.cell? (ai g j)=some u:=by
 rcases h.2 with ⟨_,h0⟩|⟨g,cap,cur,hv,hg,hh,h1,h2,h3,h4⟩
 ·omega
 ·refine⟨g,cap,hv,hg,(mD.1 hh).1,h1,h2,fun j u hu=>?_⟩
  rw[←h4]at hu
  have:cur[j]?=some u:=by
   rw[List.getElem?_take]at hu
   split at hu
   ·simpa using hu
   ·cases hu
  simp[World.cell?,hh,this]
theorem aR(h:w.ownsRow base e size v n xs)(hc:aq S w w')(hs:∀k,v.ownBlock=some k→¬S k):w'.ownsRow base e size v n xs:=by
 refine⟨h.1,?_⟩;rcases h.2 with h2|⟨g,cap,cur,hv,hg,hh,r⟩
 ·exact aC h2
 ·refine aA ⟨g,cap,cur,hv,hg,?_,r⟩
  rw[hc.block g (mD.1 hh).1 (hs g (by rw[hv];rfl))];exact hh
theorem ownsRow_base{base':Nat}(h:w.ownsRow base e size v n xs)(hb:∀k,v.ownBlock=some k→base'≤k):w.ownsRow base' e size v n xs:=by
 refine⟨h.1,?_⟩;rcases h.2 with h2|⟨g,cap,cur,hv,hg,hh,r⟩
 ·exact aC h2
 ·exact aA ⟨g,cap,cur,hv,hb g (by rw[hv];rfl),hh,r⟩
structure cG (w:World) (sb:Nat) (v:Value) (ws:List RW) (c k:Int):Prop where
 blk:ay w sb #[v,ae c,ae k] 176
 row:w.ownsRow 0 186 8 v ws.length (xj ws)
 apart:v.ownBlock≠some sb
def lastK(f:Nat→ByteArray)(n:ByteArray):Nat→Int
 |0=> -1
 |k+1=>if((f k).toList == n.toList)=true then(k:Int)else lastK f n k
theorem xG(f:Nat→ByteArray)(n:ByteArray):∀k,lastK f n k<k∧ -1≤lastK f n k
 |0=>by simp[lastK]
 |k+1=>by
  have:=xG f n k;unfold lastK
  split<;>omega
def nameAt(ws:List RW)(i:Nat):ByteArray:=(ws.map RW.name).getD i ⟨#[]⟩
def cL(ws:List RW)(n:ByteArray):Int:=lastK (nameAt ws) n ws.length
theorem Dx{ws:List RW}(h:w.ownsRow base 186 8 v ws.length (xj ws))(hv:v=aD g ws.length cap)(i j:Nat)(hi:i<ws.length)(u:Value)(hj:j<8)(hu:(ws[i].cells)[j]?=some u):
  w.cell? (ai g (i*8+j))=some u:=by
 obtain⟨g',cap',hv',_,_,_,_,hc⟩:=cd h ag;rw[hv]at hv';obtain⟨e1,_⟩:g=g'∧cap=cap':=vA;subst e1;refine hc _ u ?_;rw[xj,flat_get RW.cells 8 (fun x=>rfl) ws i j hi hj];exact hu
end
section
def En(w w':World)(e:TypeId)(size n:Nat)(v:Value):Prop:=
 ∀g cap cur,v=aD g n cap→w.heap[g]?=some (.cells cur e (0,0))→∃cur',w'.heap[g]?=some (.cells cur' e (0,0))∧cur'.size=cur.size∧cur'.toList.take (n*size)=cur.toList.take (n*size)
section
variable{P:Program}(w:World)
theorem S2(base:Nat)(t ty e:TypeId)(i:TypeInfo)(z:Value)(size bytes:Nat)(ht:P.underlying t=some (.slice e))(hi:P.info? e=some i)(hz:i.zero=some z)
  (hsize:i.size=size) (hby:i.bytes=bytes) (hzs:z.cells.size=size) (hsz:0<size)
  (v:Value) (n:Nat) (xs:List Value) (hown:w.ownsRow base e size v n xs)
  (a:Addr) (m c:Nat) (news:List Value) (hl:news.length=m*size) (hnews:∀j u,news[j]?=some u→w.cell? (a.add j)=some u) (h1:∀u∈news,u.oneCell'=true)
  (h63:n+m≤maxLen) (hbytes:(n+m)*bytes≤140737488355328) (hbase:base≤w.heap.size):
  ∃v' w',(Builtin.append_ #[t,t] ty #[v,.slice (some a) m c]).run P w=.ok v' w'∧w'.ownsRow base e size v' (n+m) (xs++news)∧w.grownBy w' v.ownBlock∧
   (v'.ownBlock=v.ownBlock∨v'.ownBlock=some w.heap.size)∧En w w' e size n v:=by
 obtain⟨v',w',hr,h2,h3,_,h5⟩:=run_append_own_at (P:=P) w base t ty e i z size bytes ht hi hz hsize hby hzs hsz v n xs hown a m c news hl hnews h1 h63 hbytes hbase;refine⟨v',w',hr,h2,h3,h5,?_⟩;intro g cap cur hv hg;subst hv;subst hsize;subst hby;rcases hown.2 with ⟨hx,_⟩|⟨g',cap',cur',hx,_,hg',ir,_,hcs,htk⟩
 ·cases hx
 ·obtain⟨rfl,rfl⟩:g=g'∧cap=cap':=by simpa using hx
  rw[hg]at hg';obtain rfl:cur=cur':=by simpa using hg'
  by_cases hroom:n+m≤cap
  ·have jz:n*i.size+news.length≤cur.size:=by rw[hl,hcs,←Nat.add_mul];exact Nat.mul_le_mul_right _ hroom
   have hr':=run_append_room (P:=P) w t ty e i ht hi g n cap cur hg a m c news hl hnews h1 hroom jz;rw[hr']at hr;injection hr with _ hw
   subst hw;refine⟨_,setRow_heap w g cur _ e _ hg,?_,?_⟩
   ·simp only[List.size_toArray,cF,List.length_take,List.length_drop,kP];omega
   ·have hle:n*i.size≤cur.toList.length:=by rw[kP];omega
    rw[vZ,List.take_append_of_le_length yN,List.take_take,Nat.min_self]
  ·have holds:∀j u,xs[j]?=some u→w.cell? (((ai g 0):Addr).add j)=some u:=hown.cells (g:=g) rfl
   have hr':=run_append_grow (P:=P) w t ty e i z ht hi hz (ai g 0) n cap xs hown.1 holds a m c news hl hnews ag (by simp only[maxLen]at h63;omega) (growslice_fits ag hbytes);rw[hr']at hr;injection hr with _ hw
   subst hw;exact⟨cur,(heap_alloc_old w.drew _ g (mD.1 hg).1).trans hg,rfl,rfl⟩
theorem I4{a:Act}(hgd:o.guard=none)(s x:Operand)(t:TypeId)
  (ho:o.op=.call {callee:=.builtin .append,args:= #[s,x],argTypes:= #[t,t]})
  (base:Nat) (e:TypeId) (i:TypeInfo) (z:Value) (size bytes:Nat) (ht:P.underlying t=some (.slice e)) (hi:P.info? e=some i) (hz:i.zero=some z)
  (hsize:i.size=size) (hby:i.bytes=bytes) (hzs:z.cells.size=size) (hsz:0<size)
  (v:Value) (n:Nat) (xs:List Value) (hs:a.eval s=v) (hown:w.ownsRow base e size v n xs)
  (ad:Addr) (m c:Nat) (news:List Value) (hx:a.eval x=.slice (some ad) m c) (hl:news.length=m*size) (hnews:∀j u,news[j]?=some u→w.cell? (ad.add j)=some u) (h1:∀u∈news,u.oneCell'=true)
  (h63:n+m≤maxLen) (hbytes:(n+m)*bytes≤140737488355328) (hbase:base≤w.heap.size)
  (h:∀v' w',w'.ownsRow base e size v' (n+m) (xs++news)→w.grownBy w' v.ownBlock→(v'.ownBlock=v.ownBlock∨v'.ownBlock=some w.heap.size)→En w w' e size n v→wpList P ops Q rest (a.put o.dst v') w'):
  wpList P ops Q (o :: rest) a w:=by
 refine wpList_plain hgd fun K hK=>?_
 obtain⟨v',w',hr,h2,h3,h4,h5⟩:=S2 (P:=P) w base t o.type e i z size bytes ht hi hz hsize hby hzs hsz v n xs hown ad m c news hl hnews h1 h63 hbytes hbase;unfold Oper.wp execOp;simp only[ho,resolve,invoke,builtin,Sem.run_bind,Sem.run_pure,Result.andThen_ok,List.map_toArray,List.map_cons,List.map_nil,hs,hx,hr];exact hK _ _ (h v' w' h2 h3 h4 h5)
theorem Ld{a:Act}(hgd:o.guard=none)(s x:Operand)(t:TypeId)
  (ho:o.op=.call {callee:=.builtin .append,args:= #[s,x],argTypes:= #[t,t]})
  (e:TypeId) (i:TypeInfo) (ht:P.underlying t=some (.slice e)) (hi:P.info? e=some i)
  (b:Addr) (n cap:Nat) (hs:a.eval s=.slice (some b) n cap) (hn:n≤cap) (hx:a.eval x=aI)
  (h:wpList P ops Q rest (a.put o.dst (.slice (some b) n cap)) w):
  wpList P ops Q (o :: rest) a w:=by
 refine wpList_plain hgd fun K hK=>?_
 have hr:(Builtin.append_ #[t,t] o.type #[.slice (some b) n cap,aI]).run P w=.ok (.slice (some b) n cap) w:=by
  simp[Builtin.append_,run_underlying ht,sizeOf,typeInfo,hi,Builtin.lenOf,hn,run_firstCells_none,storeCells]
 unfold Oper.wp execOp;simp only[ho,resolve,invoke,builtin,Sem.run_bind,Sem.run_pure,Result.andThen_ok,List.map_toArray,List.map_cons,List.map_nil,hs,hx,hr];exact hK _ _ h
end
theorem ZL{b2:Nat}{e2:TypeId}{yz:Nat}{u:Value}{p:Nat}{ys:List Value}(hown:w.ownsRow base e size v n xs)(hu:w.ownsRow b2 e2 yz u p ys)
  (hg:w.grownBy w' v.ownBlock) (hk:En w w' e size n v) (hp:u.ownBlock=v.ownBlock→v.ownBlock≠none→e2=e∧yz=size∧p≤n):w'.ownsRow b2 e2 yz u p ys:=by
 refine⟨hu.1,?_⟩;rcases hu.2 with h|⟨g,cap,cur,rfl,hb,hh,h1,h2,h3,h4⟩
 ·exact aC h
 ·refine aA ?_
  by_cases hv:v.ownBlock=some g
  ·obtain⟨rfl,rfl,hpn⟩:=hp (by rw[hv];rfl) (by rw[hv];simp)
   rcases hown.2 with ⟨rfl,_⟩|⟨g',cap',vq,rfl,_,hh2,h5,_,h6,h7⟩
   ·cases hv
   ·obtain rfl:g'=g:=by simpa [Value.ownBlock]using hv
    obtain⟨cur',k1,k2,k3⟩:=hk g' cap' cur rfl hh;refine⟨g',cap,cur',rfl,hb,k1,h1,h2,by rw[k2,h3],?_⟩;have hle:p*yz≤n*yz:=Nat.mul_le_mul_right _ hpn;have:=congrArg (List.take (p*yz)) k3;rw[List.take_take,List.take_take,Nat.min_eq_left hle]at this;rw[this,h4]
  ·exact⟨g,cap,cur,rfl,hb,(hg.block g (mD.1 hh).1 (fun e=>hv e.symm)).trans hh,h1,h2,h3,h4⟩
theorem iJ(h:w.ownsRow base e size (aD g n cap) n xs)(k:Nat)(u:Value):(w.setCell (ai g k) u).ownsRow base e size (aD g n cap) n (xs.set k u):=by
 refine⟨by rw[km];exact h.1,aA ?_⟩;rcases h.2 with ⟨hx,_⟩|⟨g',cap',cur,hv,hb,hh,h1,h2,h3,h4⟩
 ·cases hx
 ·obtain⟨rfl,rfl⟩:g=g'∧cap=cap':=by simpa using hv
  refine⟨g,cap,cur.setIfInBounds k u,rfl,hb,?_,h1,h2,by simp[h3],?_⟩
  ·simp only[World.setCell,Array.getElem?_modify,hh];simp
  ·rw[←h4];simp[List.take_set]
theorem Zn(h:w.ownsRow base e size v n xs)(g k:Nat)(u:Value)(hk:v.ownBlock=some g→n*size≤k):(w.setCell (ai g k) u).ownsRow base e size v n xs:=by
 refine⟨h.1,?_⟩;rcases h.2 with h2|⟨g',cap',cur,rfl,hb,hh,h1,h2,h3,h4⟩
 ·exact aC h2
 ·refine aA ?_
  by_cases hg:g'=g
  ·subst hg
   have eI:=hk rfl;refine⟨g',cap',cur.setIfInBounds k u,rfl,hb,?_,h1,h2,by simp[h3],?_⟩
   ·simp only[World.setCell,Array.getElem?_modify,hh];simp
   ·rw[←h4];simp[List.take_set];rw[List.set_eq_of_length_le yN]
  ·exact⟨g',cap',cur,rfl,hb,(Below.heap_setCell _ _ _ _ (fun e=>hg e)).trans hh,h1,h2,h3,h4⟩
end
section
def dE(pat:List Value)(n:Nat):List Value:=(List.replicate n ()).flatMap (fun _=>pat)
theorem Dk(pat:List Value)(n:Nat):(dE pat n).length=n*pat.length:=by
 unfold dE;rw[flat_length (fun _:Unit=>pat) pat.length (fun _=>rfl)];simp
theorem YI(pat:List Value)(n m:Nat):dE pat (n+m)=dE pat n++dE pat m:=by
 unfold dE;rw[←List.replicate_append_replicate,kS]
theorem DZ(pat:List Value)(hp:0<pat.length)(n j:Nat)(hj:j<n*pat.length):(dE pat n)[j]?=pat[j % pat.length]?:=by
 have hi:j / pat.length<(List.replicate n ()).length:=by simp;exact Nat.div_lt_of_lt_mul (by rw[Nat.mul_comm];exact hj)
 have:=flat_get (fun _:Unit=>pat) pat.length (fun _=>rfl) (List.replicate n ()) (j / pat.length) (j % pat.length) hi (Nat.mod_lt _ hp);rw[show j / pat.length*pat.length+j % pat.length=j by rw[Nat.mul_comm];exact Nat.div_add_mod j pat.length]at this;exact this
section
variable{P:Program}(w:World)
theorem aco(base:Nat)(t ty e:TypeId)(i:TypeInfo)(z:Value)(size bytes:Nat)(ht:P.underlying t=some (.slice e))(hi:P.info? e=some i)(hz:i.zero=some z)
  (hsize:i.size=size) (hby:i.bytes=bytes) (hzs:z.cells.size=size) (hsz:0<size) (pat:List Value) (hp:pat.length=size)
  (v:Value) (n:Nat) (hown:w.ownsRow base e size v n (dE pat n))
  (a:Addr) (m c:Nat) (hnews:∀j u,(dE pat m)[j]?=some u→w.cell? (a.add j)=some u) (h1:∀u∈dE pat m,u.oneCell'=true)
  (h63:n+m≤maxLen) (hbytes:(n+m)*bytes≤140737488355328) (hbase:base≤w.heap.size):
  ∃v' w',(Builtin.append_ #[t,t] ty #[v,.slice (some a) m c]).run P w=.ok v' w'∧w'.ownsRow base e size v' (n+m) (dE pat (n+m))∧w.grownBy w' v.ownBlock∧
   (v'.ownBlock=v.ownBlock∨v'.ownBlock=some w.heap.size)∧∀b2 u k,w.ownsRow b2 e size u k (dE pat k)→w'.ownsRow b2 e size u k (dE pat k):=by
 have hl:(dE pat m).length=m*size:=by rw[Dk,hp]
 obtain⟨v',w',hr,h2,h3,_,h5⟩:=run_append_own_at (P:=P) w base t ty e i z size bytes ht hi hz hsize hby hzs hsz v n (dE pat n) hown a m c (dE pat m) hl hnews h1 h63 hbytes hbase;refine⟨v',w',hr,by rw[YI];exact h2,h3,h5,?_⟩;intro b2 u k hu;refine⟨hu.1,?_⟩;rcases hu.2 with h0|⟨g2,bq,vq,hv2,hb2,hg2,r1,r2,r3,r4⟩
 ·exact aC h0
 ·have hlt2:=(mD.1 hg2).1
  by_cases um:v.ownBlock=some g2
  ·rcases hown.2 with ⟨hx,_⟩|⟨g,cap,cur,hx,_,hg,ir,_,hcs,htk⟩
   ·rw[hx]at um;cases um
   ·obtain rfl:g=g2:=by rw[hx]at um;simpa [Value.ownBlock]using um
    rw[hg2]at hg;obtain rfl:vq=cur:=by simpa using hg
    subst hx;subst hsize;subst hby
    by_cases hroom:n+m≤cap
    ·have jz:n*i.size+(dE pat m).length≤vq.size:=by rw[hl,hcs,←Nat.add_mul];exact Nat.mul_le_mul_right _ hroom
     have hr':=run_append_room (P:=P) w t ty e i ht hi g n cap vq hg2 a m c (dE pat m) hl hnews h1 hroom jz;rw[hr']at hr;injection hr with _ hw
     subst hw;refine aA ⟨g,bq,_,hv2,hb2,setRow_heap w g vq _ e _ hg2,r1,r2,?_,?_⟩
     ·rw[←r3];simp only[List.size_toArray,cF,List.length_take,List.length_drop,kP];omega
     ·apply List.ext_getElem?
      intro j;have hle:n*i.size≤vq.toList.length:=by rw[kP];omega
      by_cases hj:j<k*i.size
      ·have hpj:(dE pat k)[j]?=pat[j % i.size]?:=by rw[←hp];exact DZ pat ag k j (by rw[hp];exact hj)
       have hcj:vq.toList[j]?=(dE pat k)[j]?:=by
        rw[←r4,List.getElem?_take];rw[aG hj]
       rw[List.getElem?_take,aG hj]
       by_cases h4:j<n*i.size
       ·rw[vZ,dH yN,List.getElem?_take,aG h4]
        exact hcj
       ·by_cases h5:j<n*i.size+(dE pat m).length
        ·rw[vZ,fP yN,List.length_take,Nat.min_eq_left hle,dH ag,hpj]
         have hpm:=DZ pat ag m (j - n*i.size) (by rw[←Dk];omega);rw[hpm,hp]
         congr 1
         obtain⟨d,hd⟩:∃d,j=d+i.size*n:=⟨j - n*i.size,by rw[Nat.mul_comm i.size n];omega⟩;have hjd:j - n*i.size=d:=by rw[hd,Nat.mul_comm i.size n];omega
         rw[hjd,hd,Nat.add_mul_mod_self_left]
        ·rw[fP (by rw[cF,List.length_take];omega),cF,List.length_take,Nat.min_eq_left hle,List.getElem?_drop]
         rw[show n*i.size+(dE pat m).length+(j - (n*i.size+(dE pat m).length))=j by omega];exact hcj
      ·rw[List.getElem?_take,az hj,jh (by rw[Dk,hp];omega)]
    ·have holds:∀j u,(dE pat n)[j]?=some u→w.cell? (((ai g 0):Addr).add j)=some u:=hown.cells (g:=g) rfl
     have hr':=run_append_grow (P:=P) w t ty e i z ht hi hz (ai g 0) n cap (dE pat n) hown.1 holds a m c (dE pat m) hl hnews ag (by simp only[maxLen]at h63;omega) (growslice_fits ag hbytes);rw[hr']at hr;injection hr with _ hw
     subst hw;exact aA ⟨g,bq,vq,hv2,hb2,(heap_alloc_old w.drew _ g hlt2).trans hg2,r1,r2,r3,r4⟩
  ·exact aA ⟨g2,bq,vq,hv2,hb2,(h3.block g2 hlt2 (fun e=>um e.symm)).trans hg2,r1,r2,r3,r4⟩
theorem Gb{ac:Act}(hgd:o.guard=none)(s x:Operand)(t:TypeId)
  (ho:o.op=.call {callee:=.builtin .append,args:= #[s,x],argTypes:= #[t,t]})
  (base:Nat) (e:TypeId) (i:TypeInfo) (z:Value) (size bytes:Nat) (ht:P.underlying t=some (.slice e)) (hi:P.info? e=some i) (hz:i.zero=some z)
  (hsize:i.size=size) (hby:i.bytes=bytes) (hzs:z.cells.size=size) (hsz:0<size) (pat:List Value) (hp:pat.length=size)
  (v:Value) (n:Nat) (hs:ac.eval s=v) (hown:w.ownsRow base e size v n (dE pat n))
  (a:Addr) (m c:Nat) (hx:ac.eval x=.slice (some a) m c) (hnews:∀j u,(dE pat m)[j]?=some u→w.cell? (a.add j)=some u) (h1:∀u∈dE pat m,u.oneCell'=true)
  (h63:n+m≤maxLen) (hbytes:(n+m)*bytes≤140737488355328) (hbase:base≤w.heap.size)
  (h:∀v' w',w'.ownsRow base e size v' (n+m) (dE pat (n+m))→w.grownBy w' v.ownBlock→(v'.ownBlock=v.ownBlock∨v'.ownBlock=some w.heap.size)→(∀b2 u k,w.ownsRow b2 e size u k (dE pat k)→w'.ownsRow b2 e size u k (dE pat k))→wpList P ops Q rest (ac.put o.dst v') w'):
  wpList P ops Q (o :: rest) ac w:=by
 refine wpList_plain hgd fun K hK=>?_
 obtain⟨v',w',hr,h2,h3,h4,h5⟩:=aco (P:=P) w base t o.type e i z size bytes ht hi hz hsize hby hzs hsz pat hp v n hown a m c hnews h1 h63 hbytes hbase;unfold Oper.wp execOp;simp only[ho,resolve,invoke,builtin,Sem.run_bind,Sem.run_pure,Result.andThen_ok,List.map_toArray,List.map_cons,List.map_nil,hs,hx,hr];exact hK _ _ (h v' w' h2 h3 h4 h5)
end
end
end Go.Proofs.YtcphhbofjkenaaaGreatDoor
