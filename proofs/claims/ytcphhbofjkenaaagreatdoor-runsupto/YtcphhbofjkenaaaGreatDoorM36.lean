import Derived.Test.YtcphhbofjkenaaaGreatDoorM35b
import Derived.Test.YtcphhbofjkenaaaGreatDoorM35c
namespace Go.Proofs.YtcphhbofjkenaaaGreatDoor
open Go Go.RowKit
set_option linter.unusedVariables false
set_option linter.unusedSimpArgs false
set_option maxRecDepth 100000
set_option maxHeartbeats 16000000
section
def fE:List Fr→Int
 |[]=>0
 |f :: r=>if f.qg=2 then f.n else fE r
theorem Ei(l:List (Value×Fr)):aG l=fE (l.map Prod.snd):=by
 induction l with
 |nil=>rfl
 |cons p r ih=>simp[aG,fE,ih]
abbrev DR:=Int×List Fr×List Int×MW
def Nj(v:Int)(fs:List Fr)(s:List Int)(u:MW):DR:=if 32<s.length+1 then(2,fs,s,u)else(4,fs,v :: s,u)
def Jk(k:Nat)(fs:List Fr)(s:List Int)(u:MW):DR:=if cO k s u.vars.length≠4 then(cO k s u.vars.length,fs,s,u)else(4,fs,(iW k (fE fs) s u).1,(iW k (fE fs) s u).2)
def mP(ws:List RW)(t:IT)(fs:List Fr)(s:List Int)(u:MW):DR:=
 match t with
 |.num v=>Nj v fs s u
 |.op b=>Jk ((fP b).getD 0) fs s u
 |.own k=>match ws[k]? with
  |some o=>if 0≤o.var then Nj o.var fs s u else(4,⟨o.its,0,3,0,0⟩ :: fs,s,u)
  |none=>(4,fs,s,u)
 |.Et a=>match s with
  |x :: y :: r=>(4,if x<y then⟨a,0,2,x,y⟩ :: fs else fs,r,u)
  |_=>(1,fs,s,u)
 |.iff a=>match s with
  |x :: r=>(4,(if x=0 then⟨[],0,0,0,0⟩else⟨a,0,0,0,0⟩) :: fs,r,u)
  |[]=>(1,fs,s,u)
 |.els a b=>match s with
  |x :: r=>(4,(if x=0 then⟨b,0,0,0,0⟩else⟨a,0,1,0,0⟩) :: fs,r,u)
  |[]=>(1,fs,s,u)
def fF(ws:List RW):List Fr→List Int→MW→DR
 |[],s,u=>(0,[],s,u)
 |f :: r,s,u=>
  match f.its[f.i]? with
  |some t=>mP ws t ({f with i:=f.i+1} :: r) s u
  |none=>
   if f.qg=0 then fF ws r s u
   else if f.qg=1 then(4,r,s,u)
   else if f.qg=2 then(4,if f.e≤f.n+1 then r else{f with n:=f.n+1,i:=0} :: r,s,u)
   else(if r=[]then 0 else 4,r,s,u)
def nH(ws:List RW):Nat→Nat→List Fr→List Int→MW→Nat×Int×List Int×MW
 |0,n,fs,s,u=>(n,4,s,u)
 |f+1,n,fs,s,u=>if(fF ws fs s u).1=4 then nH ws f (n+1) (fF ws fs s u).2.1 (fF ws fs s u).2.2.1 (fF ws fs s u).2.2.2 else(n+1,(fF ws fs s u).1,(fF ws fs s u).2.2.1,(fF ws fs s u).2.2.2)
inductive Rel (es:List PE) (code:List Int):Bool→List Fr→Nat→List (Int×Int)→List Int→Prop
 |last (f:Fr) (p q:Nat) (hb:f.qg=3∧f.its.length≤code.length) (hc:dD es code false (f.its.drop f.i) p q) (h1:code[q]?=some 34):Rel es code false [f] p [] []
 |word (d:Bool) (f g:Fr) (r:List Fr) (p q p2:Nat) (ls:List (Int×Int)) (cs:List Int) (hb:f.qg=3∧f.its.length≤code.length) (hc:dD es code false (f.its.drop f.i) p q) (h1:code[q]?=some 34) (hp:p2≤code.length) (hr:Rel es code d (g :: r) p2 ls cs):Rel es code false (f :: g :: r) p ls (cs++[(p2:Int)])
 |none (d:Bool) (f:Fr) (r:List Fr) (p q:Nat) (ls:List (Int×Int)) (cs:List Int) (hb:f.qg=0∧f.its.length≤code.length) (hc:dD es code d (f.its.drop f.i) p q) (hr:Rel es code d r q ls cs):Rel es code d (f :: r) p ls cs
 |els (d:Bool) (f:Fr) (r:List Fr) (p q p2:Nat) (ls:List (Int×Int)) (cs:List Int) (hb:f.qg=1∧f.its.length≤code.length) (hc:dD es code d (f.its.drop f.i) p q) (h1:code[q]?=some 30) (h2:code[q+1]?=some (p2:Int)) (hp:p2≤code.length) (hr:Rel es code d r p2 ls cs):Rel es code d (f :: r) p ls cs
 |loop (d:Bool) (f:Fr) (r:List Fr) (p q p0:Nat) (ls:List (Int×Int)) (cs:List Int) (hb:f.qg=2∧f.its.length≤code.length) (hc:dD es code true (f.its.drop f.i) p q) (h1:code[q]?=some 32) (h2:code[q+1]?=some (p0:Int)) (hp:p0≤code.length) (h3:dD es code true f.its p0 q) (hn:Cell f.n∧Cell f.e∧f.n<f.e) (hr:Rel es code d r (q+2) ls cs):Rel es code true (f :: r) p (ls++[(f.n,f.e)]) cs
section
variable{es:List PE}{code:List Int}{ws:List RW}{d:Bool}{fs:List Fr}{p q:Nat}{ls:List (Int×Int)}{cs:List Int}
theorem Rel.turns(h:Rel es code d fs p ls cs):d=true→∃l e,ls=l++[(fE fs,e)]∧Cell (fE fs):=by
 induction h with
 |last=>intro h;cases h
 |word=>intro h;cases h
 |none d f r p q ls cs hb hc hr ih=>
  intro hd;have e:fE (f :: r)=fE r:=by rw[fE,if_neg (by omega)]
  rw[e];exact ih hd
 |els d f r p q p2 ls cs hb hc h1 h2 hp hr ih=>
  intro hd;have e:fE (f :: r)=fE r:=by rw[fE,if_neg (by omega)]
  rw[e];exact ih hd
 |loop d f r p q p0 ls cs hb hc h1 h2 hp h3 hn hr ih=>
  intro _;have e:fE (f :: r)=f.n:=by rw[fE,if_pos hb.1]
  rw[e];exact⟨ls,f.e,rfl,hn.1⟩
theorem Rel.acn(h:Rel es code d fs p ls cs):Cell (fE fs):=by
 induction h with
 |last f p q hb=>rw[fE,if_neg (by omega)];simp[fE,Cell]
 |word d f g r p q p2 ls cs hb hc h1 hp hr ih=>rw[fE,if_neg (by omega)];exact ih
 |none d f r p q ls cs hb hc hr ih=>rw[fE,if_neg (by omega)];exact ih
 |els d f r p q p2 ls cs hb hc h1 h2 hp hr ih=>rw[fE,if_neg (by omega)];exact ih
 |loop d f r p q p0 ls cs hb hc h1 h2 hp h3 hn hr ih=>rw[fE,if_pos hb.1];exact hn.1
theorem Rel.call(h:Rel es code d fs p ls cs):∀(l:List Int) (x:Int),cs=l++[x]→∃n:Nat,x=n∧n≤code.length:=by
 induction h with
 |last=>intro l x h;simp at h
 |word d f g r p q p2 ls cs hb hc h1 hp hr ih=>
  intro l x h;have:=List.append_inj_right' h rfl;simp only[List.cons.injEq,and_true]at this;exact⟨p2,this.symm,hp⟩
 |none d f r p q ls cs hb hc hr ih=>exact ih
 |els d f r p q p2 ls cs hb hc h1 h2 hp hr ih=>exact ih
 |loop d f r p q p0 ls cs hb hc h1 h2 hp h3 hn hr ih=>exact ih
theorem Rel.qg(h:Rel es code d fs p ls cs):∀f∈fs,f.qg≤3:=by
 induction h with
 |last f p q hb=>intro g hg;simp at hg;subst hg;omega
 |word d f g r p q p2 ls cs hb hc h1 hp hr ih=>
  intro x hx;rcases List.mem_cons.1 hx with rfl|hx
  ·omega
  ·exact ih x hx
 |none d f r p q ls cs hb hc hr ih=>
  intro x hx;rcases List.mem_cons.1 hx with rfl|hx
  ·omega
  ·exact ih x hx
 |els d f r p q p2 ls cs hb hc h1 h2 hp hr ih=>
  intro x hx;rcases List.mem_cons.1 hx with rfl|hx
  ·omega
  ·exact ih x hx
 |loop d f r p q p0 ls cs hb hc h1 h2 hp h3 hn hr ih=>
  intro x hx;rcases List.mem_cons.1 hx with rfl|hx
  ·omega
  ·exact ih x hx
theorem Rel.ne(h:Rel es code d fs p ls cs):fs≠[]:=by cases h<;>simp
theorem dD.most{l:List IT}(h:dD es code d l p q)(hp:p≤code.length):l.length≤code.length:=by
 have hq:=h.le hp;obtain⟨ps,h1,h2,h3⟩:=h
 have key:∀j,j≤l.length→p+j≤ps j:=by
  intro j
  induction j with
  |zero=>intro _;omega
  |succ j ih=>
   intro hj;have:=(h3 j l[j] (List.getElem?_eq_getElem (by omega))).le.1;have:=ih (by omega);omega
 have:=key l.length nrq;omega
theorem Rel.len{f:Fr}{r:List Fr}(h:Rel es code d (f :: r) p ls cs):f.its.length≤code.length:=by
 generalize BB:f :: r=fs at h
 cases h with
 |last f' p q hb=>
  obtain⟨rfl,_⟩:f=f'∧r=[]:=by simpa using BB
  exact hb.2
 |word d f' g r' p q p2 ls cs hb=>
  obtain⟨rfl,_⟩:f=f'∧r=g :: r':=by simpa using BB
  exact hb.2
 |none d f' r' p q ls cs hb=>
  obtain⟨rfl,_⟩:f=f'∧r=r':=by simpa using BB
  exact hb.2
 |els d f' r' p q p2 ls cs hb=>
  obtain⟨rfl,_⟩:f=f'∧r=r':=by simpa using BB
  exact hb.2
 |loop d f' r' p q p0 ls cs hb=>
  obtain⟨rfl,_⟩:f=f'∧r=r':=by simpa using BB
  exact hb.2
theorem dD.YT(h:dD es code d [] p q):p=q:=by
 obtain⟨ps,h1,h2,_⟩:=h;rw[←h1,←h2];rfl
theorem dD.cons_inv{t:IT}{l:List IT}(h:dD es code d (t :: l) p q):∃p',iE es code d t p p'∧dD es code d l p' q:=by
 obtain⟨ps,h1,h2,h3⟩:=h;refine⟨ps 1,?_,fun i=>ps (i+1),rfl,h2,fun i x hx=>h3 (i+1) x (by simpa using hx)⟩;rw[←h1];exact h3 0 t rfl
theorem dD.next{l:List IT}{i:Nat}{t:IT}(h:dD es code d (l.drop i) p q)(ht:l[i]?=some t):∃p',iE es code d t p p'∧dD es code d (l.drop (i+1)) p' q:=by
 obtain⟨hi,he⟩:=List.getElem?_eq_some_iff.1 ht;rw[List.drop_eq_getElem_cons hi,he]at h;exact h.cons_inv
theorem dD.done{l:List IT}{i:Nat}(h:dD es code d (l.drop i) p q)(ht:l[i]?=none):p=q:=by
 rw[List.drop_eq_nil_of_le (List.getElem?_eq_none_iff.1 ht)]at h;exact h.YT
theorem Rel.next{f:Fr}{r:List Fr}{t:IT}(h:Rel es code d (f :: r) p ls cs)(ht:f.its[f.i]?=some t):∃q,iE es code d t p q∧Rel es code d ({f with i:=f.i+1} :: r) q ls cs:=by
 generalize BB:f :: r=fs at h
 cases h with
 |last f' p q hb hc h1=>
  obtain⟨rfl,rfl⟩:f=f'∧r=[]:=by simpa using BB
  obtain⟨p',k1,k2⟩:=hc.next ht;exact⟨p',k1,.last _ p' q hb k2 h1⟩
 |word d f' g r' p q p2 ls cs hb hc h1 hp hr=>
  obtain⟨rfl,rfl⟩:f=f'∧r=g :: r':=by simpa using BB
  obtain⟨p',k1,k2⟩:=hc.next ht;exact⟨p',k1,.word d _ g r' p' q p2 ls cs hb k2 h1 hp hr⟩
 |none d f' r' p q ls cs hb hc hr=>
  obtain⟨rfl,rfl⟩:f=f'∧r=r':=by simpa using BB
  obtain⟨p',k1,k2⟩:=hc.next ht;exact⟨p',k1,.none d _ r p' q ls cs hb k2 hr⟩
 |els d f' r' p q p2 ls cs hb hc h1 h2 hp hr=>
  obtain⟨rfl,rfl⟩:f=f'∧r=r':=by simpa using BB
  obtain⟨p',k1,k2⟩:=hc.next ht;exact⟨p',k1,.els d _ r p' q p2 ls cs hb k2 h1 h2 hp hr⟩
 |loop d f' r' p q p0 ls cs hb hc h1 h2 hp h3 hn hr=>
  obtain⟨rfl,rfl⟩:f=f'∧r=r':=by simpa using BB
  obtain⟨p',k1,k2⟩:=hc.next ht;exact⟨p',k1,.loop d {f with i:=f.i+1} r p' q p0 ls cs hb k2 h1 h2 hp h3 hn hr⟩
end
theorem aco(s:List Int)(n:Nat):cO 28 s n=if 32<s.length+1 then 2 else 4:=by
 have e1:(ai 28).need=0:=rfl;have e2:(ai 28).bu=1:=rfl;unfold cO;rw[e1,e2,if_neg (by omega),if_neg (by omega)]
 by_cases h:32<s.length+1
 ·rw[if_pos (by omega),if_pos h]
 ·rw[if_neg (by omega),if_neg h]
theorem V5(s:List Int)(n:Nat)(h:s.length≤32):cO 29 s n=if s.length<1 then 1 else 4:=by
 have e1:(ai 29).need=1:=rfl;have e2:(ai 29).bu= -1:=rfl;unfold cO;rw[e1,e2]
 by_cases h1:s.length<1
 ·rw[if_pos (by omega),if_pos h1]
 ·rw[if_neg (by omega),if_neg (by omega),if_neg (by omega),if_neg h1]
theorem acp(s:List Int)(n:Nat)(h:s.length≤32):cO 31 s n=if s.length<2 then 1 else 4:=by
 have e1:(ai 31).need=2:=rfl;have e2:(ai 31).bu= -2:=rfl;unfold cO;rw[e1,e2]
 by_cases h1:s.length<2
 ·rw[if_pos (by omega),if_pos h1]
 ·rw[if_neg (by omega),if_neg (by omega),if_neg (by omega),if_neg h1]
theorem Jl(k:Nat)(hk:k=30∨k=32∨k=33∨k=34)(s:List Int)(n:Nat)(h:s.length≤32):cO k s n=4:=by
 have e1:(ai k).need=0:=by rcases hk with rfl|rfl|rfl|rfl<;>rfl
 have e2:(ai k).bu=0:=by rcases hk with rfl|rfl|rfl|rfl<;>rfl
 unfold cO;rw[e1,e2,if_neg (by omega),if_neg (by omega),if_neg (by omega)]
theorem kK{code:List Int}{m:MS}{k:Nat}(u:MW)(h:code[m.at_]?=some (k:Int)):dW code m u=if cO k m.ak u.vars.length≠4 then(cO k m.ak u.vars.length,m,u)else fV k (code.getD (m.at_+1) 0) m u:=by
 have:(code.getD m.at_ 0).toNat=k:=by rw[List.getD_eq_getElem?_getD,h];simp
 unfold dW;rw[this]
theorem V6(k:Nat)(hk:k≤12){a b:Int}(ha:Cell a)(hb:Cell b):Cell (nT k a b):=by rw[←Oq k hk ha hb];exact AU _
theorem one_cell(k:Nat){a:Int}(ha:Cell a):Cell (rU k a):=by
 unfold rU
 split
 ·exact iZ _
 ·split
  ·exact AU _
  ·exact ha
theorem V7(k:Nat)(s:List Int)(h:∀a∈s,Cell a):∀a∈nz k s,Cell a:=by
 unfold nz
 split
 ·repeat' split
  all_goals simp_all
 ·repeat' split
  all_goals simp_all
 ·split
  all_goals simp_all
 ·exact h
theorem YU(k:Nat)(s:List Int)(h1:16≤k)(h2:k≤22)(hn:(ai k).need≤s.length):((nz k s).length:Int)=s.length+(ai k).bu:=by
 have hc:k=16∨k=17∨k=18∨k=19∨k=20∨k=21∨k=22:=by omega
 have a1:(ai 16).need=1∧(ai 16).bu=1:=⟨rfl,rfl⟩;have a2:(ai 17).need=1∧(ai 17).bu= -1:=⟨rfl,rfl⟩;have a3:(ai 18).need=2∧(ai 18).bu=0:=⟨rfl,rfl⟩;have a4:(ai 19).need=2∧(ai 19).bu=1:=⟨rfl,rfl⟩;have a5:(ai 20).need=3∧(ai 20).bu=0:=⟨rfl,rfl⟩;have a6:(ai 21).need=2∧(ai 21).bu= -1:=⟨rfl,rfl⟩;have a7:(ai 22).need=2∧(ai 22).bu=1:=⟨rfl,rfl⟩;rcases s with _|⟨c,_|⟨b,_|⟨a,s⟩⟩⟩
 ·rcases hc with rfl|rfl|rfl|rfl|rfl|rfl|rfl<;>simp_all
 ·rcases hc with rfl|rfl|rfl|rfl|rfl|rfl|rfl<;>simp_all[nz]
 ·rcases hc with rfl|rfl|rfl|rfl|rfl|rfl|rfl<;>simp_all[nz]
 ·rcases hc with rfl|rfl|rfl|rfl|rfl|rfl|rfl<;>simp_all[nz]<;>omega
structure Wl (st:List Int) (u:MW):Prop where
 s:∀a∈st,Cell a
 v:∀a∈u.vars,Cell a
 i:∀a∈u.ins,Cell a
 l:st.length≤32
theorem QW{l:List Int}{i:Nat}(h:∀a∈l,Cell a):Cell (l.getD i 0):=by
 rw[List.getD_eq_getElem?_getD]
 cases hi:l[i]? with
 |none=>simp[Cell]
 |some y=>exact h y (List.mem_of_getElem? hi)
theorem Nk{l:List Int}(h:∀a∈l,Cell a):Cell (l.headD 0):=by
 cases l with
 |nil=>simp[Cell]
 |cons a r=>exact h a (by simp)
theorem YV(k:Nat)(hk:k<28)(v:Int){n:Int}{m:MS}{u:MW}(hh:cO k m.ak u.vars.length=4)(h:Wl m.ak u)(hn:k=27→(m.loops.getLastD (0,0)).1=n∧Cell n):
  fV k v m u=(4,{m with ak:=(iW k n m.ak u).1,at_:=m.at_+1},(iW k n m.ak u).2)∧Wl (iW k n m.ak u).1 (iW k n m.ak u).2∧(iW k n m.ak u).2.outs.length≤u.outs.length+1∧(iW k n m.ak u).2.vars.length=u.vars.length∧(iW k n m.ak u).2.ins.length≤u.ins.length:=by
 obtain⟨h1,h2,h3⟩:=OC hh;obtain⟨s,ls,cs,at_⟩:=m;simp only at *;obtain⟨c1,c2,c3,c4⟩:=h;unfold iW fV
 by_cases zh:k≤12
 ·rw[vZ k zh]at h1
  obtain⟨b,a,r,rfl⟩:=rX h1;simp only[if_pos zh];simp only[List.mem_cons,forall_eq_or_imp,List.length_cons]at c1 c4;refine⟨by first|rfl|trivial|simp,⟨?_,c2,c3,by simp;omega⟩,by simp,by first|rfl|trivial|simp,by first|exact nrq|trivial|simp⟩;simp only[List.mem_cons,forall_eq_or_imp];exact⟨V6 k zh c1.2.1 c1.1,c1.2.2⟩
 ·simp only[if_neg zh]
  by_cases Q9:k≤15
  ·rw[Ji k (by omega) Q9]at h1
   obtain⟨a,r,rfl⟩:=pG h1;simp only[if_pos Q9];simp only[List.mem_cons,forall_eq_or_imp,List.length_cons]at c1 c4;refine⟨by first|rfl|trivial|simp,⟨?_,c2,c3,by simp;omega⟩,by simp,by first|rfl|trivial|simp,by first|exact nrq|trivial|simp⟩;simp only[List.mem_cons,forall_eq_or_imp];exact⟨one_cell k c1.1,c1.2⟩
  ·simp only[if_neg Q9]
   by_cases h22:k≤22
   ·simp only[if_pos h22]
    have:=YU k s (by omega) h22 h1;exact⟨by first|rfl|trivial|simp,⟨V7 k s c1,c2,c3,by omega⟩,by simp,by first|rfl|trivial|simp,by first|exact nrq|trivial|simp⟩
   ·simp only[if_neg h22]
    have hc:k=23∨k=24∨k=25∨k=26∨k=27:=by omega
    rcases hc with rfl|rfl|rfl|rfl|rfl
    ·obtain⟨a,r,rfl⟩:=pG (s:=s) h1
     simp only[List.mem_cons,forall_eq_or_imp,List.length_cons]at c1 c4;refine⟨by first|rfl|trivial|simp,⟨?_,c2,c3,by simp;omega⟩,by simp,by first|rfl|trivial|simp,by first|exact nrq|trivial|simp⟩;simp only[List.mem_cons,forall_eq_or_imp,if_true];exact⟨QW c2,c1.2⟩
    ·obtain⟨i,a,r,rfl⟩:=rX (s:=s) h1
     simp only[List.mem_cons,forall_eq_or_imp,List.length_cons]at c1 c4;refine⟨by first|rfl|trivial|simp,⟨c1.2.2,fun y hy=>?_,c3,by simp;omega⟩,by simp,by simp,by first|exact nrq|trivial|simp⟩;rcases List.mem_or_eq_of_mem_set hy with e|e
     ·exact c2 y e
     ·rw[e];exact c1.2.1
    ·have e2:(ai 25).bu=1:=rfl
     rw[e2]at h2;refine⟨by first|rfl|trivial|simp,⟨?_,c2,fun y hy=>c3 y (List.mem_of_mem_tail hy),by simp;omega⟩,by simp,by first|rfl|trivial|simp,by simp⟩;simp only[show(25:Nat)≠23 by decide,show(25:Nat)≠24 by decide,if_false,if_true,List.mem_cons,forall_eq_or_imp];exact⟨Nk c3,c1⟩
    ·obtain⟨a,r,rfl⟩:=pG (s:=s) h1
     simp only[List.mem_cons,forall_eq_or_imp,List.length_cons]at c1 c4;exact⟨by first|rfl|trivial|simp,⟨c1.2,c2,c3,by simp;omega⟩,by simp,by first|rfl|trivial|simp,by first|exact nrq|trivial|simp⟩
    ·have e2:(ai 27).bu=1:=rfl
     rw[e2]at h2;obtain⟨n1,n2⟩:=hn rfl;refine⟨?_,⟨?_,c2,c3,by simp;omega⟩,by simp,by first|rfl|trivial|simp,by first|exact nrq|trivial|simp⟩
     ·rw[List.getLastD_eq_getLast?]at n1
      simp[n1]
     ·simp only[show(27:Nat)≠23 by decide,show(27:Nat)≠24 by decide,show(27:Nat)≠25 by decide,show(27:Nat)≠26 by decide,if_false,if_true,List.mem_cons,forall_eq_or_imp]
      exact⟨by simpa using n2,c1⟩
structure Conc (es:List PE) (code:List Int) (D:DR) (fs:List Fr) (m:MS) (x:MW):Prop where
 op:∃k:Nat,k<35∧code[m.at_]?=some (k:Int)
 Xa:∀k:Nat,code[m.at_]?=some (k:Int)→28≤k→k≤33→∃v,code[m.at_+1]?=some v∧(k≠28→∃n:Nat,v=n∧n≤code.length)
 loop:∀k:Nat,code[m.at_]?=some (k:Int)→(k=27∨k=32)→∃l a b,m.loops=l++[(a,b)]∧ -9000000000≤a∧a≤9000000000
 e:(dW code m x).1=D.1
 s:(dW code m x).2.1.ak=D.2.2.1
 u:(dW code m x).2.2=D.2.2.2
 nx:D.1=4→∃d,Rel es code d D.2.1 (dW code m x).2.1.at_ (dW code m x).2.1.loops (dW code m x).2.1.calls
 l1:(dW code m x).2.1.loops.length≤m.loops.length+1
 l2:(dW code m x).2.1.calls.length≤m.calls.length+1
 l3:D.2.2.2.outs.length≤x.outs.length+1
 l4:D.2.1.length≤fs.length+1
 l5:D.2.2.2.vars.length=x.vars.length
 wl:Wl D.2.2.1 D.2.2.2
section
variable{es:List PE}{code:List Int}{ws:List RW}{d:Bool}{fs:List Fr}{q:Nat}{m:MS}{u:MW}{t:IT}
theorem getD_some{l:List Int}{i:Nat}{v:Int}(h:l[i]?=some v):l.getD i 0=v:=by rw[List.getD_eq_getElem?_getD,h];rfl
theorem Conc.of{k:Nat}{D:DR}{r:Int×MS×MW}(hk:k<35)(h1:code[m.at_]?=some (k:Int))(ho:28≤k→k≤33→∃v,code[m.at_+1]?=some v∧(k≠28→∃n:Nat,v=n∧n≤code.length))(hl:k=27∨k=32→∃l a b,m.loops=l++[(a,b)]∧ -9000000000≤a∧a≤9000000000)(hst:dW code m u=r)
  (e:r.1=D.1∧r.2.1.ak=D.2.2.1∧r.2.2=D.2.2.2) (nx:D.1=4→∃d,Rel es code d D.2.1 r.2.1.at_ r.2.1.loops r.2.1.calls) (l:r.2.1.loops.length≤m.loops.length+1∧r.2.1.calls.length≤m.calls.length+1∧D.2.2.2.outs.length≤u.outs.length+1∧D.2.1.length≤fs.length+1∧D.2.2.2.vars.length=u.vars.length) (wl:Wl D.2.2.1 D.2.2.2):Conc es code D fs m u:=by
 have hu:∀j:Nat,code[m.at_]?=some (j:Int)→j=k:=fun j hj=>by rw[h1]at hj;simp only[Option.some.injEq]at hj;omega
 subst hst;exact⟨⟨k,hk,h1⟩,fun j hj=>by rw[hu j hj];exact ho,fun j hj=>by rw[hu j hj];exact hl,e.1,e.2.1,e.2.2,nx,l.1,l.2.1,l.2.2.1,l.2.2.2.1,l.2.2.2.2,wl⟩
theorem Jm{v:Int}(hr:Rel es code d fs (m.at_+2) m.loops m.calls)(hw:Wl m.ak u)(h1:code[m.at_]?=some 28)(h2:code[m.at_+1]?=some v)(hv:Cell v):Conc es code (Nj v fs m.ak u) fs m u:=by
 have h1':code[m.at_]?=some ((28:Nat):Int):=h1;have hst:=kK u h1';rw[aco,getD_some h2]at hst;unfold Nj
 by_cases h:32<m.ak.length+1
 ·rw[if_pos h]at hst ⊢
  exact .of (r:=(2,m,u)) (by decide) h1' (fun _ _=>⟨v,h2,fun e=>absurd rfl e⟩) (by omega) hst ⟨rfl,rfl,rfl⟩ (fun e=>by simp at e) (by simp) hw
 ·rw[if_neg h]at hst ⊢
  refine .of (r:=(4,{m with ak:=v :: m.ak,at_:=m.at_+2},u)) (by decide) h1' (fun _ _=>⟨v,h2,fun e=>absurd rfl e⟩) (by omega) hst ⟨rfl,rfl,rfl⟩ (fun _=>⟨d,hr⟩) (by simp) ⟨?_,hw.v,hw.i,by simp;omega⟩;simp only[List.mem_cons,forall_eq_or_imp];exact⟨hv,hw.s⟩
theorem Wl.tail{x:Int}{r:List Int}(hw:Wl (x :: r) u):Wl r u:=⟨fun a ha=>hw.s a (List.mem_cons_of_mem _ ha),hw.v,hw.i,by have:=hw.l;simp at this;omega⟩
theorem QX(hc:kE es code ws)(ha:Alike es ws)(hi:iE es code d t m.at_ q)(hr:Rel es code d fs q m.loops m.calls)(hw:Wl m.ak u):Conc es code (mP ws t fs m.ak u) fs m u:=by
 have hle:=hi.le;have QO:=hw.l;generalize hp:m.at_=p at hi hle
 cases hi with
 |num d n p h h1 h2=>
  subst hp;exact Jm hr hw h1 h2 h
 |op d s k p h h1 h2=>
  subst hp;have hk:=(oQ h).2.1
  have hlo:k=27∨k=32→∃l a b,m.loops=l++[(a,b)]∧ -9000000000≤a∧a≤9000000000:=fun hc=>by
   obtain⟨l,e,e1,b1,b2⟩:=hr.turns (h2 (by omega));exact⟨l,_,e,e1,by omega,by omega⟩
  have hst:=kK u h1
  show Conc es code (Jk ((fP s).getD 0) fs m.ak u) fs m u
  unfold Jk;rw[h];simp only[Option.getD_some]
  by_cases hh:cO k m.ak u.vars.length=4
  ·rw[if_neg (fun e=>e hh)]at hst ⊢
   obtain⟨e1,e2,e3,e4,e5⟩:=YV k hk (code.getD (m.at_+1) 0) (n:=fE fs) hh hw (fun alc=>by
    obtain⟨l,e,e1,e2⟩:=hr.turns (h2 alc);exact⟨by rw[e1,List.getLastD_concat],e2⟩)
   rw[e1]at hst;exact .of (by omega) h1 (by omega) hlo hst ⟨rfl,rfl,rfl⟩ (fun _=>⟨d,hr⟩) ⟨by simp,by simp,e3,by simp,e4⟩ e2
  ·rw[if_pos hh]at hst ⊢
   exact .of (by omega) h1 (by omega) hlo hst ⟨rfl,rfl,rfl⟩ (fun e=>absurd e hh) (by simp) hw
 |var d k x p h hv h1 h2=>
  subst hp;have AQ:k<ws.length:=by have:=(List.getElem?_eq_some_iff.1 h).1;rw[ha.len]at this;exact this
  have hy:ws[k]?=some ws[k]:=List.getElem?_eq_getElem AQ;obtain⟨e1,e2⟩:=(ha.use k x ws[k] h hy).1 hv;obtain⟨b1,b2⟩:=hc.v k x h hv;unfold mP;simp only[hy];rw[if_pos e2,e1];exact Jm hr hw h1 h2 ⟨by omega,by omega⟩
 |own d k x p h hv h1 h2=>
  subst hp;have AQ:k<ws.length:=by have:=(List.getElem?_eq_some_iff.1 h).1;rw[ha.len]at this;exact this
  have hy:ws[k]?=some ws[k]:=List.getElem?_eq_getElem AQ;obtain⟨e1,_⟩:=(ha.use k x ws[k] h hy).2 hv;obtain⟨p',q',k1,k2,k3,k4⟩:=hc.w k x ws[k] h hy hv;have h1':code[m.at_]?=some ((33:Nat):Int):=h1;have hst:=kK u h1';rw[Jl 33 (by decide) _ _ QO,getD_some h2,k1]at hst;unfold mP;simp only[hy];rw[if_neg (by omega)];refine .of (r:=(4,{m with calls:=m.calls++[((m.at_+2:Nat):Int)],at_:=p'},u)) (by decide) h1' (fun _ _=>⟨_,h2,fun _=>⟨p',k1,k2⟩⟩) (by omega) (by rw[hst];simp[fV]) ⟨rfl,rfl,rfl⟩ (fun _=>⟨false,?_⟩) (by simp) hw
  obtain⟨g,r,rfl⟩:∃g r,fs=g :: r:=by
   cases fs with
   |nil=>exact absurd rfl hr.ne
   |cons g r=>exact⟨g,r,rfl⟩
  exact .word d _ g r p' q' _ _ _ ⟨rfl,k3.most k2⟩ (by simpa using k3) k4 hle.2 hr
 |iff d a p q ps h1 h2 h3 h4 h5=>
  subst hp;have h1':code[m.at_]?=some ((29:Nat):Int):=h1;have hst:=kK u h1';rw[V5 _ _ QO,getD_some h2]at hst;have hca:dD es code d a (m.at_+2) q:=⟨ps,h3,h4,h5⟩;have ham:=hca.most (by have:=eF h2;omega);have ho:28≤29→29≤33→∃v,code[m.at_+1]?=some v∧(29≠28→∃n:Nat,v=n∧n≤code.length):=fun _ _=>⟨_,h2,fun _=>⟨q,rfl,hle.2⟩⟩
  obtain⟨s,ls,cs,at_⟩:=m;simp only at *;unfold mP
  cases s with
  |nil=>exact .of (r:=(1,⟨[],ls,cs,at_⟩,u)) (by decide) h1' ho (by omega) (by rw[hst];rfl) ⟨rfl,rfl,rfl⟩ (fun e=>by simp at e) (by simp) hw
  |cons x r=>
   refine .of (r:=(4,⟨r,ls,cs,if x=0 then q else at_+2⟩,u)) (by decide) h1' ho (by omega) (by rw[hst];simp[fV]) ⟨rfl,rfl,rfl⟩ (fun _=>⟨d,?_⟩) (by simp) hw.tail
   by_cases hx:x=0
   ·simp only[if_pos hx]
    exact .none d _ fs q q ls cs ⟨rfl,by simp⟩ (by simpa using dD.nil es code d q) hr
   ·simp only[if_neg hx]
    exact .none d _ fs _ q ls cs ⟨rfl,ham⟩ (by simpa using hca) hr
 |els d a b p q0 q ps qs h1 h2 h3 h4 h5 k1 k2 k3 k4 k5=>
  subst hp;have hq2:q0+2≤code.length:=by have:=eF k2;omega
  have hcb:dD es code d b (q0+2) q:=⟨qs,k3,k4,k5⟩;have hca:dD es code d a (m.at_+2) q0:=⟨ps,h3,h4,h5⟩;have ham:=hca.most (by have:=eF h2;omega);have h1':code[m.at_]?=some ((29:Nat):Int):=h1;have hst:=kK u h1';rw[V5 _ _ QO,getD_some h2]at hst;have ho:28≤29→29≤33→∃v,code[m.at_+1]?=some v∧(29≠28→∃n:Nat,v=n∧n≤code.length):=fun _ _=>⟨_,h2,fun _=>⟨q0+2,rfl,hq2⟩⟩
  obtain⟨s,ls,cs,at_⟩:=m;simp only at *;unfold mP
  cases s with
  |nil=>exact .of (r:=(1,⟨[],ls,cs,at_⟩,u)) (by decide) h1' ho (by omega) (by rw[hst];rfl) ⟨rfl,rfl,rfl⟩ (fun e=>by simp at e) (by simp) hw
  |cons x r=>
   refine .of (r:=(4,⟨r,ls,cs,if x=0 then q0+2 else at_+2⟩,u)) (by decide) h1' ho (by omega) (by rw[hst];simp[fV];split<;>omega) ⟨rfl,rfl,rfl⟩ (fun _=>⟨d,?_⟩) (by simp) hw.tail
   by_cases hx:x=0
   ·simp only[if_pos hx]
    exact .none d _ fs (q0+2) q ls cs ⟨rfl,hcb.most hq2⟩ (by simpa using hcb) hr
   ·simp only[if_neg hx]
    exact .els d _ fs _ q0 q ls cs ⟨rfl,ham⟩ (by simpa using hca) k1 k2 hle.2 hr
 |Et d a p q0 ps h1 h2 h3 h4 h5 k1 k2=>
  subst hp;have hca:dD es code true a (m.at_+2) q0:=⟨ps,h3,h4,h5⟩;have h1':code[m.at_]?=some ((31:Nat):Int):=h1;have hst:=kK u h1';rw[acp _ _ QO,getD_some h2]at hst;have rV:m.at_+2≤code.length:=by have:=eF h2;omega
  have ho:28≤31→31≤33→∃v,code[m.at_+1]?=some v∧(31≠28→∃n:Nat,v=n∧n≤code.length):=fun _ _=>⟨_,h2,fun _=>⟨q0+2,rfl,hle.2⟩⟩
  obtain⟨s,ls,cs,at_⟩:=m;simp only at *;unfold mP;rcases s with _|⟨x,_|⟨y,r⟩⟩
  ·exact .of (r:=(1,⟨[],ls,cs,at_⟩,u)) (by decide) h1' ho (by omega) (by rw[hst];rfl) ⟨rfl,rfl,rfl⟩ (fun e=>by simp at e) (by simp) hw
  ·exact .of (r:=(1,⟨[x],ls,cs,at_⟩,u)) (by decide) h1' ho (by omega) (by rw[hst];rfl) ⟨rfl,rfl,rfl⟩ (fun e=>by simp at e) (by simp) hw
  ·have xG:dW code ⟨x :: y :: r,ls,cs,at_⟩ u=(4,if x<y then⟨r,ls++[(x,y)],cs,at_+2⟩else⟨r,ls,cs,q0+2⟩,u):=by rw[hst];simp[fV];split<;>simp;omega
   have sS:=hw.s;simp only[List.mem_cons,forall_eq_or_imp]at sS
   by_cases XO:x<y
   ·simp only[if_pos XO]at xG ⊢
    exact .of (by decide) h1' ho (by omega) xG ⟨rfl,rfl,rfl⟩ (fun _=>⟨true,.loop d ⟨a,0,2,x,y⟩ fs _ q0 (at_+2) ls cs ⟨rfl,hca.most rV⟩ (by simpa using hca) k1 k2 rV hca ⟨sS.1,sS.2.1,XO⟩ hr⟩) (by simp) hw.tail.tail
   ·simp only[if_neg XO]at xG ⊢
    exact .of (by decide) h1' ho (by omega) xG ⟨rfl,rfl,rfl⟩ (fun _=>⟨d,hr⟩) (by simp) hw.tail.tail
theorem Conc.more{D:DR}{f:Fr}(h:Conc es code D fs m u):Conc es code D (f :: fs) m u:=
 ⟨h.op,h.Xa,h.loop,h.e,h.s,h.u,h.nx,h.l1,h.l2,h.l3,Nat.le_trans h.l4 (by simp),h.l5,h.wl⟩
theorem Conc.len{D:DR}{fs2:List Fr}(h:Conc es code D fs m u)(hl:fs.length≤fs2.length):Conc es code D fs2 m u:=
 ⟨h.op,h.Xa,h.loop,h.e,h.s,h.u,h.nx,h.l1,h.l2,h.l3,Nat.le_trans h.l4 (by omega),h.l5,h.wl⟩
theorem xP(hc:kE es code ws)(ha:Alike es ws){p:Nat}{ls:List (Int×Int)}{cs:List Int}(hr:Rel es code d fs p ls cs):∀m:MS,m.at_=p→m.loops=ls→m.calls=cs→Wl m.ak u→Conc es code (fF ws fs m.ak u) fs m u:=by
 have key:∀{d:Bool} {f:Fr} {r:List Fr} {t:IT} {m:MS},Rel es code d (f :: r) m.at_ m.loops m.calls→f.its[f.i]?=some t→Wl m.ak u→Conc es code (mP ws t ({f with i:=f.i+1} :: r) m.ak u) (f :: r) m u:=fun h ht hw=>by
  obtain⟨q',k1,k2⟩:=h.next ht;exact(QX hc ha k1 k2 hw).len (by simp)
 induction hr with
 |last f p q hb h1 h2=>
  intro m e1 e2 e3 hw;subst e1;rw[fF]
  cases ht:f.its[f.i]? with
  |some t=>exact key (by rw[e2,e3];exact .last f m.at_ q hb h1 h2) ht hw
  |none=>
   obtain rfl:=h1.done ht;have h1':code[m.at_]?=some ((34:Nat):Int):=h2;have hst:=kK u h1';rw[Jl 34 (by decide) _ _ hw.l]at hst;simp only;rw[if_neg (by omega),if_neg (by omega),if_neg (by omega)];simp only[if_true];exact .of (r:=(0,{m with at_:=m.at_+1},u)) (by decide) h1' (by omega) (by omega) (by rw[hst];simp[fV,e3]) ⟨rfl,rfl,rfl⟩ (fun e=>by simp at e) (by simp) hw
 |word d f g r p q p2 ls cs hb h1 h2 hp hr ih=>
  intro m e1 e2 e3 hw;subst e1;rw[fF]
  cases ht:f.its[f.i]? with
  |some t=>exact key (by rw[e2,e3];exact .word d f g r m.at_ q p2 ls cs hb h1 h2 hp hr) ht hw
  |none=>
   obtain rfl:=h1.done ht;have h1':code[m.at_]?=some ((34:Nat):Int):=h2;have hst:=kK u h1';rw[Jl 34 (by decide) _ _ hw.l]at hst;simp only;rw[if_neg (by omega),if_neg (by omega),if_neg (by omega)];simp only[reduceCtorEq,if_false];exact .of (r:=(4,{m with calls:=cs,at_:=p2},u)) (by decide) h1' (by omega) (by omega) (by rw[hst];simp[fV,e3]) ⟨rfl,rfl,rfl⟩ (fun _=>⟨d,by simp only;rw[e2];exact hr⟩) (by rw[e3];simp;omega) hw
 |none d f r p q ls cs hb h1 hr ih=>
  intro m e1 e2 e3 hw;subst e1;rw[fF]
  cases ht:f.its[f.i]? with
  |some t=>exact key (by rw[e2,e3];exact .none d f r m.at_ q ls cs hb h1 hr) ht hw
  |none=>
   obtain rfl:=h1.done ht;simp only;rw[if_pos hb.1];exact(ih m rfl e2 e3 hw).more
 |els d f r p q p2 ls cs hb h1 h2 h3 hp hr ih=>
  intro m e1 e2 e3 hw;subst e1;rw[fF]
  cases ht:f.its[f.i]? with
  |some t=>exact key (by rw[e2,e3];exact .els d f r m.at_ q p2 ls cs hb h1 h2 h3 hp hr) ht hw
  |none=>
   obtain rfl:=h1.done ht;have h1':code[m.at_]?=some ((30:Nat):Int):=h2;have hst:=kK u h1';rw[Jl 30 (by decide) _ _ hw.l,getD_some h3]at hst;simp only;rw[if_neg (by omega),if_pos hb.1];exact .of (r:=(4,{m with at_:=p2},u)) (by decide) h1' (fun _ _=>⟨_,h3,fun _=>⟨p2,rfl,hp⟩⟩) (by omega) (by rw[hst];simp[fV]) ⟨rfl,rfl,rfl⟩ (fun _=>⟨d,by simp only;rw[e2,e3];exact hr⟩) (by simp;omega) hw
 |loop d f r p q p0 ls cs hb h1 h2 h3 hp h4 hn hr ih=>
  intro m e1 e2 e3 hw;subst e1;rw[fF]
  cases ht:f.its[f.i]? with
  |some t=>exact key (by rw[e2,e3];exact .loop d f r m.at_ q p0 ls cs hb h1 h2 h3 hp h4 hn hr) ht hw
  |none=>
   obtain rfl:=h1.done ht;have h1':code[m.at_]?=some ((32:Nat):Int):=h2;have hst:=kK u h1';rw[Jl 32 (by decide) _ _ hw.l,getD_some h3]at hst;have xG:dW code m u=(4,if f.n+1<f.e then{m with loops:=ls++[(f.n+1,f.e)],at_:=p0}else{m with loops:=ls,at_:=m.at_+2},u):=by rw[hst];simp[fV,e2]
   obtain⟨⟨n1,n2⟩,⟨n3,n4⟩,n5⟩:=hn;simp only;rw[if_neg (by omega),if_neg (by omega),if_pos hb.1];have ho:28≤32→32≤33→∃v,code[m.at_+1]?=some v∧(32≠28→∃n:Nat,v=n∧n≤code.length):=fun _ _=>⟨_,h3,fun _=>⟨p0,rfl,hp⟩⟩
   have hlo:32=27∨32=32→∃l a b,m.loops=l++[(a,b)]∧ -9000000000≤a∧a≤9000000000:=fun _=>⟨ls,f.n,f.e,e2,by omega,by omega⟩
   by_cases hne:f.n+1<f.e
   ·rw[if_pos hne]at xG
    rw[if_neg (by omega)];exact .of (by decide) h1' ho hlo xG ⟨rfl,rfl,rfl⟩ (fun _=>⟨true,by simp only;rw[e3];exact .loop d {f with n:=f.n+1,i:=0} r p0 m.at_ p0 ls cs hb (by simpa using h4) h2 h3 hp h4 ⟨⟨by simp only;omega,by simp only;omega⟩,⟨n3,n4⟩,hne⟩ hr⟩) (by rw[e2];simp) hw
   ·rw[if_neg hne]at xG
    rw[if_pos (by omega)];exact .of (by decide) h1' ho hlo xG ⟨rfl,rfl,rfl⟩ (fun _=>⟨d,by simp only;rw[e3];exact hr⟩) (by rw[e2];simp;omega) hw
end
structure Xc (es:List PE) (code:List Int) (n:Nat) (fs:List Fr) (m:MS) (u:MW):Prop where
 rel:∃d,Rel es code d fs m.at_ m.loops m.calls
 wl:Wl m.ak u
 l1:m.loops.length≤n
 l2:m.calls.length≤n
 l3:u.outs.length≤n
 l4:fs.length≤n+1
section
variable{es:List PE}{code:List Int}{ws:List RW}{fs:List Fr}{m:MS}{u:MW}{n:Nat}
theorem Xc.ok(hc:kE es code ws)(ha:Alike es ws)(h:Xc es code n fs m u)(hn:n≤1000000):FY code m u:=by
 obtain⟨d,hr⟩:=h.rel;have hcc:=xP (u:=u) hc ha hr m rfl rfl rfl h.wl;have:=h.l1;have:=h.l2;have:=h.l3;exact⟨hcc.op,h.wl.s,hcc.Xa,hcc.loop,hr.call,by omega,by omega,by omega⟩
theorem Xc.step(hc:kE es code ws)(ha:Alike es ws)(h:Xc es code n fs m u):(dW code m u).1=(fF ws fs m.ak u).1∧(dW code m u).2.1.ak=(fF ws fs m.ak u).2.2.1∧(dW code m u).2.2=(fF ws fs m.ak u).2.2.2∧((fF ws fs m.ak u).1=4→Xc es code (n+1) (fF ws fs m.ak u).2.1 (dW code m u).2.1 (dW code m u).2.2):=by
 obtain⟨d,hr⟩:=h.rel;have hcc:=xP (u:=u) hc ha hr m rfl rfl rfl h.wl;have h1:=h.l1;have h2:=h.l2;have h3:=h.l3;have h4:=h.l4;have k1:=hcc.l1;have k2:=hcc.l2;have k3:=hcc.l3;have k4:=hcc.l4;refine⟨hcc.e,hcc.s,hcc.u,fun e=>⟨hcc.nx e,?_,by omega,by omega,by rw[hcc.u];omega,by omega⟩⟩;rw[hcc.s,hcc.u];exact hcc.wl
theorem OG(hc:kE es code ws)(ha:Alike es ws):∀(f n:Nat) (fs:List Fr) (m:MS) (u:MW),Xc es code n fs m u→(nH ws f n fs m.ak u).2.2.2.outs.length≤n+f∧(nH ws f n fs m.ak u).2.2.1.length≤32∧(nH ws f n fs m.ak u).2.2.2.vars.length=u.vars.length
 |0,n,fs,m,u,h=>⟨h.l3,h.wl.l,rfl⟩
 |f+1,n,fs,m,u,h=>by
  obtain⟨h1,h2,h3,h4⟩:=h.step hc ha;obtain⟨d,hr⟩:=h.rel;have hcc:=xP (u:=u) hc ha hr m rfl rfl rfl h.wl;have k3:=hcc.l3;have h3':=h.l3;rw[nH]
  by_cases he:(fF ws fs m.ak u).1=4
  ·rw[if_pos he,←h2,←h3]
   obtain⟨a,b,c⟩:=OG hc ha f (n+1) _ _ _ (h4 he);refine⟨by omega,b,?_⟩;rw[c,h3];exact hcc.l5
  ·rw[if_neg he]
   exact⟨by simp only;omega,hcc.wl.l,hcc.l5⟩
theorem run_eq(hc:kE es code ws)(ha:Alike es ws):∀(f n:Nat) (fs:List Fr) (m:MS) (u:MW),Xc es code n fs m u→(runM code f n m u).1=(nH ws f n fs m.ak u).1∧(runM code f n m u).2.1=(nH ws f n fs m.ak u).2.1∧(runM code f n m u).2.2.1.ak=(nH ws f n fs m.ak u).2.2.1∧(runM code f n m u).2.2.2=(nH ws f n fs m.ak u).2.2.2
 |0,n,fs,m,u,_=>⟨rfl,rfl,rfl,rfl⟩
 |f+1,n,fs,m,u,h=>by
  obtain⟨h1,h2,h3,h4⟩:=h.step hc ha;rw[runM,nH,h1]
  by_cases he:(fF ws fs m.ak u).1=4
  ·rw[if_pos he,if_pos he,←h2,←h3]
   exact run_eq hc ha f (n+1) _ _ _ (h4 he)
  ·rw[if_neg he,if_neg he]
   exact⟨rfl,rfl,h2,h3⟩
end
end
section
attribute [local go_sem] dK
section
variable{B:Nat}{w w':World}{sb:Nat}{F:Nat→Prop}{x:DX}{m m':DM}{u u':MW}
theorem Nl(h:gI B w sb F x m u)(hc:∀y∈u.ins,Cell y)(htk:x.tk+1≤2000000)(hov:m.ak.length+1≤32):
  Calls Tryz.prog 199 #[.pointer (some ⟨x.mb,0,none⟩),.string ⟨#[105,110]⟩,.pointer (some ⟨x.wp,0,none⟩)] w fun r w'=>r=.returned (.tuple #[])∧di B w sb F {x with tk:=x.tk+1} {m with ak:=(iW 25 (aG m.fs) m.ak u).1} (iW 25 (aG m.fs) m.ak u).2 w':=by
 have hop:iW 25 (aG m.fs) m.ak u=(w32 (u.ins.headD 0) :: m.ak,{u with ins:=u.ins.tail}):=by
  rw[fA (show Cell (u.ins.headD 0)from by
   cases hi:u.ins with
   |nil=>exact⟨by simp,by simp⟩
   |cons a r=>exact hc a (by rw[hi];simp))]
  simp[iW,fV]
 rw[hop];obtain⟨z0,z1,z2,z3,z4,hlt⟩:=h.cells;obtain⟨y0,y1,y2,y3,nX⟩:=h.shared;obtain⟨ad,cap,dI,_,_⟩:=ag h.eP;obtain⟨ca,cc,hcv,hcc,_⟩:=ag h.fB;rw[dI,List.length_reverse]at z2;rw[hcv]at y0;have hl:=h.len.2.1;have EY:=h.len.2.2.2.2.1;have hth:ax ⟨#[105,110]⟩=(0,1,true):=by decide +kernel
 have HT:=ast (fun w=>bF ⟨#[105,110]⟩ w);rw[hth]at HT;have H:=ast h;obtain⟨k,hk⟩:=exq (m.ak.length);rw[←hk]at z2 hl;have HK:=ast hk;have yj:=ast hcv;obtain⟨n,hn⟩:=exq (u.vars.length);rw[←hn]at y0 hcc EY;have HN:=ast hn;obtain⟨ia,ic,WW,hic⟩:=oh h.ins;rw[WW]at y1;have RI:=h.le;have wE:=h.rest;obtain⟨N,hN⟩:=exq (x.full.length);have hNl:=h.len.2.2.2.1;have htl:=h.len.2.2.2.2.2;rw[←hN]at y1 hNl;have hk2:¬(k:Int)<0:=by omega
 obtain⟨R,hR⟩:=exq (u.ins.headD 0);rw[←hR]
 have hRc:Cell R:=by
  rw[hR]
  cases hi:u.ins with
  |nil=>exact⟨by simp,by simp⟩
  |cons a r=>exact hc a (by rw[hi];simp)
 have hin:x.tk<N→∃pb po,ia=some ⟨pb,po,none⟩∧pb<w.heap.size∧w.cell? ⟨pb,po+x.tk,none⟩=some (.int .i64 R):=fun ht=>by
  have hg:x.full[x.tk]?=some R:=by
   have e:x.full[x.tk]?=some x.full[x.tk]:=List.getElem?_eq_getElem (by omega);rw[e,hR,wE,List.drop_eq_getElem_cons (by omega)];rfl
  obtain⟨pb,po,e1,e2,e3⟩:=hic _ _ hg;exact⟨pb,po,e1,Nat.lt_of_lt_of_le e2 RI,e3⟩
 have hout:¬x.tk<N→R=0:=fun ht=>by rw[hR,wE,List.drop_eq_nil_of_le (by omega)];rfl
 obtain⟨t,ht⟩:=exq (x.tk);rw[←ht]at y2 hin hout htl htk;have JK:=ast ht;have acr:=ast hin;have FZ:=ast hout;have qw:=ast wE;obtain⟨R1,R2⟩:=hRc;clear h dI hcv z0 z1 z3 z4 y0 y3 hth hk hn hic WW wE hR hN ht hin hout hc hop;go_enter Tryz.func199,Tryz.ntmps199
 go_wp2_with fail
 refine(HT.out _).mono ?_;rintro e w1 ⟨rfl,rfl⟩;clear HT;go_wp2_with fail
 go_quiet (fail)
 have hbq:Below w1.heap.size w1 (w1.drewN nq):=bdq;obtain⟨V,hV⟩:=exq (w1.drewN nq:World);rw[←hV]at hbq;have HA:=ast (H.out.below hbq);clear hbq z2;go_upto_region 15 with fail
 rw[←hV];have y1V:V.cell? ⟨x.wp,1,none⟩=some (.slice ia N ic):=by rw[hV];exact y1
 have y2V:V.cell? ⟨x.wp,2,none⟩=some (.int .i64 t):=by rw[hV];exact y2
 have QU:x.wp<V.heap.size:=by rw[hV];exact nX
 have HVC:Hid (∀p,V.cell? p=w1.cell? p):=ast (fun p=>by rw[hV];rfl);have WT:Hid (V.heap.size=w1.heap.size):=ast (by rw[hV];rfl);clear hV y1 y2 nX
 by_cases hlt:t<N
 ·obtain⟨pb,po,rfl,hpb,hcell⟩:=acr.out hlt
  have hti:(t:Int)<(N:Int):=by omega
  have ht0:(0:Int)≤(t:Int):=by omega
  have cV:V.cell? ⟨pb,po+t,none⟩=some (.int .i64 R):=by rw[HVC.out];exact(by rw[JK.out]at hcell ⊢;exact hcell)
  have hpV:pb<V.heap.size:=by rw[WT.out];exact hpb
  clear hcell hpb;go_quiet (fail)
  obtain⟨V2,hV2⟩:=exq (V.drewN nq:World);have y1W:V2.cell? ⟨x.wp,1,none⟩=some (.slice (some ⟨pb,po,none⟩) N ic):=by rw[hV2];exact y1V
  have y2W:V2.cell? ⟨x.wp,2,none⟩=some (.int .i64 t):=by rw[hV2];exact y2V
  have cW:V2.cell? ⟨pb,po+t,none⟩=some (.int .i64 R):=by rw[hV2];exact cV
  have hwW:x.wp<V2.heap.size:=by rw[hV2];exact QU
  have hpW:pb<V2.heap.size:=by rw[hV2];exact hpV
  have hb2:Below V.heap.size V V2:=by rw[hV2];exact⟨rfl,rfl,rfl,nrq,fun _ _=>rfl⟩
  have dZ:=ast (HA.out.trans (HA.out.at_.below hb2));clear hb2 y1V y2V cV HVC WT;go_upto_region 16 with fail
  rw[←hV2];clear hV2;go_quiet (fail)
  obtain⟨V3,F5⟩:=exq (V2.drewN nq:World);have hb3:Below V2.heap.size V2 V3:=by rw[F5];exact⟨rfl,rfl,rfl,nrq,fun _ _=>rfl⟩
  have jo:=ast (dZ.out.trans (dZ.out.at_.below hb3));clear hb3 y1W y2W cW dZ HA;have HB:=ast (jo.out.trans (jo.out.at_.below (show Below V3.heap.size V3 (V3.alloc (.cells #[.int .i64 R] 3 (0,0)))from brq.alloc nrq _)));have jl:Hid (bz (V3.alloc (.cells #[.int .i64 R] 3 (0,0))).heap.size (V3.alloc (.cells #[.int .i64 R] 3 (0,0))) (.slice (some ⟨V3.heap.size,0,none⟩) 1 1) [R]):=ast (fH V3 [R]);clear jo;go_upto_region 17 with fail
  rw[←F5];clear F5;go_wp2_with fail
  refine(aX 0 [R] HB.out.at_ (Nat.zero_le _) (by have:=HK.out;simp only[List.length_cons,List.length_nil];omega) jl.out (fun z hz=>by rw[List.mem_singleton.1 hz];omega)).mono ?_;rintro e w6 ⟨rfl,y,hy⟩;have HF:=ast (HB.out.trans hy)
  have g2:w6.cell? ⟨x.wp,2,none⟩=some (.int .i64 t):=by
   have:=HF.out.at_.shared.2.2.1;rw[HF.out.wp,HF.out.tk]at this;rw[JK.out];exact this
  have gl:x.wp<w6.heap.size:=by have:=HF.out.at_.dN.lt;rw[HF.out.wp]at this;exact this
  have gf:w6.frozen? ⟨x.wp,2,none⟩=false:=by have:=HF.out.at_.dN.frozen 2;rw[HF.out.wp]at this;exact this
  clear hy HB jl;go_wp2_with fail
  go_end0
  refine⟨rfl,_,HF.out.VX (HF.out.at_.world (u':={u with ins:=u.ins.tail}) (yE:=y.ov) (BQ:=y.tk+1) ?_ ?_ ?_ ?_ (Lc.refl _ _) ?_ ?_)⟩
  ·exact(aj.refl (fun b=>b=y.wp∨y.cv.ownBlock=some b∨y.ov.ownBlock=some b) w6).setCell (p:=⟨x.wp,2,none⟩) (Or.inl HF.out.wp.symm) _
  ·have hk:=HF.out.at_.dN.set (o:=2) (.int .i64 ((t:Int)+1))
   rw[HF.out.wp]at hk ⊢;have e:((y.tk+1:Nat):Int)=(t:Int)+1:=by rw[HF.out.tk,←JK.out];omega
   simpa [Bq,e]using hk
  ·exact af HF.out.at_.fB ((aj.refl (fun b=>b=x.wp) w6).setCell (p:=⟨x.wp,2,none⟩) rfl _) (fun q hq e=>by subst e;rw[←HF.out.wp]at hq;exact ah HF.out.at_.fB HF.out.at_.dN (by decide) hq)
  ·exact af HF.out.at_.jV ((aj.refl (fun b=>b=x.wp) w6).setCell (p:=⟨x.wp,2,none⟩) rfl _) (fun q hq e=>by subst e;rw[←HF.out.wp]at hq;exact ah HF.out.at_.jV HF.out.at_.dN (by decide) hq)
  ·simp only
   rw[qw.out,HF.out.full,HF.out.tk,List.tail_drop]
  ·obtain⟨_,_,n3,_,n5,n6⟩:=HF.out.at_.len
   refine⟨n3,n5,?_⟩;rw[HF.out.tk,←JK.out];omega
 ·have hti:¬(t:Int)<(N:Int):=by omega
  have hR0:=FZ.out hlt;clear HVC WT;go_quiet (fail)
  obtain⟨V3,F5⟩:=exq (V.drewN nq:World);have hb3:Below V.heap.size V V3:=by rw[F5];exact⟨rfl,rfl,rfl,nrq,fun _ _=>rfl⟩
  have jo:=ast (HA.out.trans (HA.out.at_.below hb3));clear hb3 y1V y2V HA;subst hR0;have HB:=ast (jo.out.trans (jo.out.at_.below (show Below V3.heap.size V3 (V3.alloc (.cells #[.int .i64 0] 3 (0,0)))from brq.alloc nrq _)));have jl:Hid (bz (V3.alloc (.cells #[.int .i64 0] 3 (0,0))).heap.size (V3.alloc (.cells #[.int .i64 0] 3 (0,0))) (.slice (some ⟨V3.heap.size,0,none⟩) 1 1) [0]):=ast (fH V3 [0]);clear jo;go_upto_region 17 with fail
  rw[←F5];clear F5;go_wp2_with fail
  refine(aX 0 [0] HB.out.at_ (Nat.zero_le _) (by have:=HK.out;simp only[List.length_cons,List.length_nil];omega) jl.out (fun z hz=>by rw[List.mem_singleton.1 hz];omega)).mono ?_;rintro e w6 ⟨rfl,y,hy⟩;have HF:=ast (HB.out.trans hy)
  have g2:w6.cell? ⟨x.wp,2,none⟩=some (.int .i64 t):=by
   have:=HF.out.at_.shared.2.2.1;rw[HF.out.wp,HF.out.tk]at this;rw[JK.out];exact this
  have gl:x.wp<w6.heap.size:=by have:=HF.out.at_.dN.lt;rw[HF.out.wp]at this;exact this
  have gf:w6.frozen? ⟨x.wp,2,none⟩=false:=by have:=HF.out.at_.dN.frozen 2;rw[HF.out.wp]at this;exact this
  clear hy HB jl;go_wp2_with fail
  go_end0
  refine⟨rfl,_,HF.out.VX (HF.out.at_.world (u':={u with ins:=u.ins.tail}) (yE:=y.ov) (BQ:=y.tk+1) ?_ ?_ ?_ ?_ (Lc.refl _ _) ?_ ?_)⟩
  ·exact(aj.refl (fun b=>b=y.wp∨y.cv.ownBlock=some b∨y.ov.ownBlock=some b) w6).setCell (p:=⟨x.wp,2,none⟩) (Or.inl HF.out.wp.symm) _
  ·have hk:=HF.out.at_.dN.set (o:=2) (.int .i64 ((t:Int)+1))
   rw[HF.out.wp]at hk ⊢;have e:((y.tk+1:Nat):Int)=(t:Int)+1:=by rw[HF.out.tk,←JK.out];omega
   simpa [Bq,e]using hk
  ·exact af HF.out.at_.fB ((aj.refl (fun b=>b=x.wp) w6).setCell (p:=⟨x.wp,2,none⟩) rfl _) (fun q hq e=>by subst e;rw[←HF.out.wp]at hq;exact ah HF.out.at_.fB HF.out.at_.dN (by decide) hq)
  ·exact af HF.out.at_.jV ((aj.refl (fun b=>b=x.wp) w6).setCell (p:=⟨x.wp,2,none⟩) rfl _) (fun q hq e=>by subst e;rw[←HF.out.wp]at hq;exact ah HF.out.at_.jV HF.out.at_.dN (by decide) hq)
  ·simp only
   rw[qw.out,HF.out.full,HF.out.tk,List.tail_drop]
  ·obtain⟨_,_,n3,_,n5,n6⟩:=HF.out.at_.len
   refine⟨n3,n5,?_⟩;rw[HF.out.tk,←JK.out];omega
theorem yZ(h:gI B w sb F x m u)(hc:∀y∈u.ins,Cell y)(htk:x.tk+1≤2000000)(hov:32<m.ak.length+1):
  Calls Tryz.prog 199 #[.pointer (some ⟨x.mb,0,none⟩),.string ⟨#[105,110]⟩,.pointer (some ⟨x.wp,0,none⟩)] w fun r w'=>r=.returned (.tuple #[])∧di B w sb F x {m with done:=true,ed:=2} u w':=by
 obtain⟨z0,z1,z2,z3,z4,hlt⟩:=h.cells;obtain⟨y0,y1,y2,y3,nX⟩:=h.shared;obtain⟨ad,cap,dI,_,_⟩:=ag h.eP;obtain⟨ca,cc,hcv,hcc,_⟩:=ag h.fB;rw[dI,List.length_reverse]at z2;rw[hcv]at y0;have hl:=h.len.2.1;have EY:=h.len.2.2.2.2.1;have hth:ax ⟨#[105,110]⟩=(0,1,true):=by decide +kernel
 have HT:=ast (fun w=>bF ⟨#[105,110]⟩ w);rw[hth]at HT;have H:=ast h;obtain⟨k,hk⟩:=exq (m.ak.length);rw[←hk]at z2 hl;have HK:=ast hk;have yj:=ast hcv;obtain⟨n,hn⟩:=exq (u.vars.length);rw[←hn]at y0 hcc EY;have HN:=ast hn;obtain⟨ia,ic,WW,hic⟩:=oh h.ins;rw[WW]at y1;have RI:=h.le;have wE:=h.rest;obtain⟨N,hN⟩:=exq (x.full.length);have hNl:=h.len.2.2.2.1;have htl:=h.len.2.2.2.2.2;rw[←hN]at y1 hNl;have hk2:¬(k:Int)<0:=by omega
 obtain⟨R,hR⟩:=exq (u.ins.headD 0)
 have hRc:Cell R:=by
  rw[hR]
  cases hi:u.ins with
  |nil=>exact⟨by simp,by simp⟩
  |cons a r=>exact hc a (by rw[hi];simp)
 have hin:x.tk<N→∃pb po,ia=some ⟨pb,po,none⟩∧pb<w.heap.size∧w.cell? ⟨pb,po+x.tk,none⟩=some (.int .i64 R):=fun ht=>by
  have hg:x.full[x.tk]?=some R:=by
   have e:x.full[x.tk]?=some x.full[x.tk]:=List.getElem?_eq_getElem (by omega);rw[e,hR,wE,List.drop_eq_getElem_cons (by omega)];rfl
  obtain⟨pb,po,e1,e2,e3⟩:=hic _ _ hg;exact⟨pb,po,e1,Nat.lt_of_lt_of_le e2 RI,e3⟩
 have hout:¬x.tk<N→R=0:=fun ht=>by rw[hR,wE,List.drop_eq_nil_of_le (by omega)];rfl
 obtain⟨t,ht⟩:=exq (x.tk);rw[←ht]at y2 hin hout htl htk;have JK:=ast ht;have acr:=ast hin;have FZ:=ast hout;have qw:=ast wE;obtain⟨R1,R2⟩:=hRc;clear h dI hcv z0 z1 z3 z4 y0 y3 hth hk hn hic WW wE hR hN ht hin hout hc;go_enter Tryz.func199,Tryz.ntmps199
 go_wp2_with fail
 refine(HT.out _).mono ?_;rintro e w1 ⟨rfl,rfl⟩;clear HT;go_wp2_with fail
 go_quiet (fail)
 have hbq:Below w1.heap.size w1 (w1.drewN nq):=bdq;obtain⟨V,hV⟩:=exq (w1.drewN nq:World);rw[←hV]at hbq;have HA:=ast (H.out.below hbq);clear hbq z2;go_upto_region 15 with fail
 rw[←hV];have y1V:V.cell? ⟨x.wp,1,none⟩=some (.slice ia N ic):=by rw[hV];exact y1
 have y2V:V.cell? ⟨x.wp,2,none⟩=some (.int .i64 t):=by rw[hV];exact y2
 have QU:x.wp<V.heap.size:=by rw[hV];exact nX
 have HVC:Hid (∀p,V.cell? p=w1.cell? p):=ast (fun p=>by rw[hV];rfl);have WT:Hid (V.heap.size=w1.heap.size):=ast (by rw[hV];rfl);clear hV y1 y2 nX
 by_cases hlt:t<N
 ·obtain⟨pb,po,rfl,hpb,hcell⟩:=acr.out hlt
  have hti:(t:Int)<(N:Int):=by omega
  have ht0:(0:Int)≤(t:Int):=by omega
  have cV:V.cell? ⟨pb,po+t,none⟩=some (.int .i64 R):=by rw[HVC.out];exact(by rw[JK.out]at hcell ⊢;exact hcell)
  have hpV:pb<V.heap.size:=by rw[WT.out];exact hpb
  clear hcell hpb;go_quiet (fail)
  obtain⟨V2,hV2⟩:=exq (V.drewN nq:World);have y1W:V2.cell? ⟨x.wp,1,none⟩=some (.slice (some ⟨pb,po,none⟩) N ic):=by rw[hV2];exact y1V
  have y2W:V2.cell? ⟨x.wp,2,none⟩=some (.int .i64 t):=by rw[hV2];exact y2V
  have cW:V2.cell? ⟨pb,po+t,none⟩=some (.int .i64 R):=by rw[hV2];exact cV
  have hwW:x.wp<V2.heap.size:=by rw[hV2];exact QU
  have hpW:pb<V2.heap.size:=by rw[hV2];exact hpV
  have hb2:Below V.heap.size V V2:=by rw[hV2];exact⟨rfl,rfl,rfl,nrq,fun _ _=>rfl⟩
  have dZ:=ast (HA.out.trans (HA.out.at_.below hb2));clear hb2 y1V y2V cV HVC WT;go_upto_region 16 with fail
  rw[←hV2];clear hV2;go_quiet (fail)
  obtain⟨V3,F5⟩:=exq (V2.drewN nq:World);have hb3:Below V2.heap.size V2 V3:=by rw[F5];exact⟨rfl,rfl,rfl,nrq,fun _ _=>rfl⟩
  have jo:=ast (dZ.out.trans (dZ.out.at_.below hb3));clear hb3 y1W y2W cW dZ HA;have HB:=ast (jo.out.trans (jo.out.at_.below (show Below V3.heap.size V3 (V3.alloc (.cells #[.int .i64 R] 3 (0,0)))from brq.alloc nrq _)));clear jo;go_upto_region 17 with fail
  rw[←F5];clear F5;go_wp2_with fail
  refine(dJ 0 HB.out.at_ (Nat.zero_le _) (by have:=HK.out;omega) (by omega)).mono ?_;rintro e w6 ⟨rfl,hy⟩;have HF:=ast (HB.out.trans hy);clear hy HB;go_wp2_with fail
  go_end0
  exact⟨rfl,_,HF.out⟩
 ·have hti:¬(t:Int)<(N:Int):=by omega
  have hR0:=FZ.out hlt;clear HVC WT;go_quiet (fail)
  obtain⟨V3,F5⟩:=exq (V.drewN nq:World);have hb3:Below V.heap.size V V3:=by rw[F5];exact⟨rfl,rfl,rfl,nrq,fun _ _=>rfl⟩
  have jo:=ast (HA.out.trans (HA.out.at_.below hb3));clear hb3 y1V y2V HA;subst hR0;have HB:=ast (jo.out.trans (jo.out.at_.below (show Below V3.heap.size V3 (V3.alloc (.cells #[.int .i64 0] 3 (0,0)))from brq.alloc nrq _)));clear jo;go_upto_region 17 with fail
  rw[←F5];clear F5;go_wp2_with fail
  refine(dJ 0 HB.out.at_ (Nat.zero_le _) (by have:=HK.out;omega) (by omega)).mono ?_;rintro e w6 ⟨rfl,hy⟩;have HF:=ast (HB.out.trans hy);clear hy HB;go_wp2_with fail
  go_end0
  exact⟨rfl,_,HF.out⟩
end
end
section
attribute [local go_sem] dK
section
variable{B:Nat}{w w':World}{sb:Nat}{F:Nat→Prop}{x:DX}{m m':DM}{u u':MW}
theorem Np{a:Int}{s:List Int}(h:gI B w sb F x m u)(hs:m.ak=a :: s)(ha:Cell a)(ho:u.outs.length+1≤2000000):
  Calls Tryz.prog 199 #[.pointer (some ⟨x.mb,0,none⟩),.string ⟨#[111,117,116]⟩,.pointer (some ⟨x.wp,0,none⟩)] w fun r w'=>r=.returned (.tuple #[])∧di B w sb F x {m with ak:=(iW 26 (aG m.fs) m.ak u).1} (iW 26 (aG m.fs) m.ak u).2 w':=by
 have hop:iW 26 (aG m.fs) m.ak u=(s,{u with outs:=u.outs++[a]}):=by rw[hs];simp[iW,fV]
 rw[hop];obtain⟨z0,z1,z2,z3,z4,hlt⟩:=h.cells;obtain⟨y0,y1,y2,y3,nX⟩:=h.shared;obtain⟨ad,cap,dI,_,_⟩:=ag h.eP;obtain⟨ca,cc,hcv,hcc,_⟩:=ag h.fB;rw[dI,List.length_reverse]at z2;rw[hcv]at y0;have hl:=h.len.2.1;have EY:=h.len.2.2.2.2.1;have hth:ax ⟨#[111,117,116]⟩=(1,0,true):=by decide +kernel
 have HT:=ast (fun w=>bF ⟨#[111,117,116]⟩ w);rw[hth]at HT;have H:=ast h;obtain⟨k,hk⟩:=exq (m.ak.length);rw[←hk]at z2 hl;have HK:=ast hk;have yj:=ast hcv;obtain⟨n,hn⟩:=exq (u.vars.length);rw[←hn]at y0 hcc EY;have HN:=ast hn;obtain⟨oa,oc,hov,hoc,_⟩:=ag h.jV;rw[hov]at y3;have hlen:k=s.length+1:=by rw[hk,hs];rfl
 have hk2:¬(k:Int)<1:=by omega
 have HS:=ast hs;have jc:=ast hlen;have Z4:=ast hov;obtain⟨on,hon⟩:=exq (u.outs.length);rw[←hon]at y3 hoc ho;have Ed:=ast hon;obtain⟨ol,hol⟩:=exq (ints u.outs);have HOL:=ast hol;obtain⟨i0,hi0,hz0,uU,hb0⟩:=info_parts Tryz.lY;have HI:=ast (And.intro hi0 (And.intro hz0 (And.intro uU hb0)));clear h hs dI hcv z0 z1 z3 z4 y0 y1 y2 hth hk hn hop hlen hov hon hol hi0 hz0 uU hb0 ha;go_enter Tryz.func199,Tryz.ntmps199
 go_wp2_with fail
 refine(HT.out _).mono ?_;rintro e w1 ⟨rfl,rfl⟩;clear HT;go_wp2_with fail
 go_quiet (fail)
 have hbq:Below w1.heap.size w1 (w1.drewN nq):=bdq;obtain⟨V,hV⟩:=exq (w1.drewN nq:World);rw[←hV]at hbq;have HA:=ast (H.out.below hbq);clear hbq z2;go_upto_region 21 with fail
 rw[←hV];have y3V:V.cell? ⟨x.wp,3,none⟩=some (.slice oa on oc):=by rw[hV];exact y3
 have QU:x.wp<V.heap.size:=by rw[hV];exact nX
 have HTU:=ast (fun (v:gW V.heap.size V)=>aQ 0 (HA.out.at_.below v.below).at_ (show m.ak[0]?=some a by rw[HS.out];rfl) (by omega));clear hV y3 nX HTU;have hD0:=HA.out.trans (HA.out.at_.below (Below.refl _ V).drew)
 have agR:(V.drew).ownsRow B 3 1 (.slice oa on oc) on ol:=by
  have:=hD0.at_.jV;rw[Z4.out]at this;rw[Ed.out,HOL.out];exact this
 have Yr:(Value.slice oa on oc).ownBlock≠some x.wp:=ah agR hD0.at_.dN (by decide);have acw:=ast Yr;have HD:=ast hD0;have k0:∀v:{v:World // v.cell? ⟨x.wp,3,none⟩=some (.slice oa on oc)},v.val.cell? ⟨x.wp,3,none⟩=some (.slice oa on oc):=fun v=>v.property
 have hne:Nonempty {v:World // v.cell? ⟨x.wp,3,none⟩=some (.slice oa on oc)}:=⟨⟨V,y3V⟩⟩;have QV:=ast y3V;have HQ:=ast (And.intro (show on+1≤maxLen by unfold maxLen;omega) (show(on+1)*8≤140737488355328 by omega));clear y3V hD0 agR Yr HA;refine aH (C:=fJ fun v=>v.cell? ⟨x.wp,3,none⟩=some (.slice oa on oc)) 11 [6,7,8] ⟨V.drew,QV.out⟩ (by kernel_rfl) (by kernel_rfl) rfl ?_;rw[show List.range 11=[0,1,2,3,4,5,6,7,8,9,10]from rfl]
 repeat (refine aO rfl rfl (fun K hK=>?_);go_simp;refine hK _ ?_;clear hK K)
 refine bG rfl rfl 201 #[.pointer (some ⟨x.mb,0,none⟩),.int .i64 0] (by go_simp) ((aQ 0 HD.out.at_ (show m.ak[0]?=some a by rw[HS.out];rfl) (by omega)).mono ?_);rintro e w2 ⟨rfl,hb2⟩;have hy2:w2.cell? ⟨x.wp,3,none⟩=some (.slice oa on oc):=(hb2.cell (p:=⟨x.wp,3,none⟩) QU).trans QV.out;refine⟨_,rfl,hy2,?_⟩;have hl2:V.heap.size≤w2.heap.size:=hb2.size;obtain⟨W2,hW2⟩:=exq (w2.alloc (.cells #[.int .i64 a] 3 (0,0)):World);have wJ:Below w2.heap.size w2 W2:=by rw[hW2];exact brq.alloc nrq _
 have hwl:x.wp<w2.heap.size:=Nat.lt_of_lt_of_le QU hl2;have g3:W2.cell? ⟨x.wp,3,none⟩=some (.slice oa on oc):=(wJ.cell (p:=⟨x.wp,3,none⟩) hwl).trans hy2;have gK:=ast ((HD.out.trans (HD.out.at_.below hb2)).trans ((HD.out.at_.below hb2).at_.below wJ));have JH:=ast (show ∀j v,[Value.int .i64 a][j]?=some v→W2.cell? ((Addr.mk w2.heap.size 0 none).add j)=some v by rw[hW2];exact Ja w2 #[.int .i64 a] 3)
 have hro:W2.ownsRow B 3 1 (.slice oa on oc) on ol:=by
  have:=gK.out.at_.jV;rw[Z4.out]at this;rw[Ed.out,HOL.out];exact this
 have HRO:=ast hro;have gl:x.wp<W2.heap.size:=Nat.lt_of_lt_of_le hwl wJ.size;have HW2:=ast hW2;refine eu rfl rfl (.slice (some ⟨w2.heap.size,0,none⟩) 1 1) W2 g3 (Or.inl (by rw[HW2.out];go_simp)) ?_;refine oM rfl rfl W2 rfl _ _ _ rfl B 3 i0 (.int .i64 0) 1 8 Tryz.underlying24 HI.out.1 HI.out.2.1 HI.out.2.2.1 HI.out.2.2.2 rfl (by decide) (.slice oa on oc) on ol rfl HRO.out (Addr.mk w2.heap.size 0 none) 1 1 [.int .i64 a] rfl rfl JH.out (by intro u hu;rw[List.mem_singleton.1 hu];rfl) (by decide) HQ.out.1 HQ.out.2 gK.out.at_.le W2.heap.size rfl (fun w' hg=>((aj.bD hg).cell (p:=⟨x.wp,3,none⟩) gl (fun e=>acw.out e.symm)).trans g3) ?_;intro g4 c4 w4 jh hr4 hg4 agS alm
 repeat (refine aO rfl rfl (fun K hK=>?_);go_simp;refine hK _ ?_;clear hK K)
 refine df ?_;intro w' hw';rw[show w'=w4 from hw'];clear hw' w' k0 hne jh hy2 hb2 hro wJ hwl hl2 hW2 QV;simp only[List.drop_succ_cons,List.drop_zero];have hc4:aj (fun b=>(Value.slice oa on oc).ownBlock=some b) W2 w4:=(aj.bD hg4).mono (fun b _ e=>e.symm);have Yr:=acw.out;have hk4:=gK.out.at_.dN.aA hc4 Yr;have g4l:=hk4.lt;have g4f:=hk4.frozen 3;have g4c:w4.cell? ⟨x.wp,3,none⟩=some (.slice oa on oc):=(hc4.cell (p:=⟨x.wp,3,none⟩) gl Yr).trans g3;obtain⟨Z,hZ⟩:=exq (w4.setCell ⟨x.wp,3,none⟩ (.slice (some ⟨g4,0,none⟩) (on+1) c4):World);have hsZ:aj (fun b=>b=x.wp) w4 Z:=by rw[hZ];exact(aj.refl (fun b=>b=x.wp) w4).setCell (p:=⟨x.wp,3,none⟩) rfl _
 have Cj:aj (fun b=>b=x.wp∨x.cv.ownBlock=some b∨x.ov.ownBlock=some b) W2 Z:=(hc4.mono (fun b _ e=>Or.inr (Or.inr (by rw[Z4.out,←Ed.out];exact e)))).trans (hsZ.mono (fun b _ e=>Or.inl e))
 have hlc:∀b,(Value.slice (some ⟨g4,0,none⟩) (on+1) c4).ownBlock=some b→x.ov.ownBlock=some b∨W2.heap.size≤b:=fun b hb=>by
  rw[Z4.out,←Ed.out];simp only[Value.ownBlock,Option.some.injEq]at hb;subst hb;rcases agS with e|e
  ·exact Or.inl e
  ·right;omega
 have YS:=gK.out.at_.world (u':={u with outs:=u.outs++[a]}) (yE:=.slice (some ⟨g4,0,none⟩) (on+1) c4) (BQ:=x.tk) Cj (by
   have:=hk4.set (o:=3) (.slice (some ⟨g4,0,none⟩) (on+1) c4);rw[hZ];simpa [Bq]using this) (af (af gK.out.at_.fB hc4 (fun b hb e=>gK.out.at_.uh b hb (by rw[Z4.out,←Ed.out];exact e))) hsZ (fun b hb e=>by subst e;exact ah gK.out.at_.fB gK.out.at_.dN (by decide) hb)) (by
   show World.ownsRow _ _ _ _ _ _ _
   simp only;rw[Eg,List.length_append,List.length_singleton,←Ed.out,←HOL.out];exact af hr4 hsZ (fun b hb e=>by subst e;exact ah hr4 hk4 (by decide) hb)) hlc gK.out.at_.rest (by
   obtain⟨_,_,n3,_,n5,n6⟩:=gK.out.at_.len;exact⟨by simp only[List.length_append,List.length_singleton];rw[←Ed.out];exact ho,n5,n6⟩)
 have HZ:=ast (gK.out.trans YS);clear hr4 hg4 agS alm hc4 Yr hk4 hsZ Cj hlc YS JH HRO g3 gl gK HD HW2 acw;go_upto_region 22 with fail
 rw[←hZ];clear hZ g4l g4f g4c;go_wp2_with fail
 refine(aX 1 [] HZ.out.at_ (by have:=HK.out;have:=jc.out;omega) (by have:=HK.out;have:=jc.out;simp only[List.length_nil];omega) (Or.inl ⟨rfl,none,0,rfl⟩) (fun z hz=>by cases hz)).mono ?_;rintro e w6 ⟨rfl,y',hy'⟩;have HF:=ast (HZ.out.trans hy');clear hy' HZ;go_wp2_with fail
 go_end0
 refine⟨rfl,y',?_⟩;have:=HF.out;rw[HS.out]at this;exact this
theorem Nq(h:gI B w sb F x m u)(hn:Cell (aG m.fs))(hf:∀p∈m.fs,p.2.qg≤3)(hov:m.ak.length+1≤32):
  Calls Tryz.prog 199 #[.pointer (some ⟨x.mb,0,none⟩),.string ⟨#[105]⟩,.pointer (some ⟨x.wp,0,none⟩)] w fun r w'=>r=.returned (.tuple #[])∧di B w sb F x {m with ak:=(iW 27 (aG m.fs) m.ak u).1} (iW 27 (aG m.fs) m.ak u).2 w':=by
 have hop:iW 27 (aG m.fs) m.ak u=(w32 (aG m.fs) :: m.ak,u):=by rw[fA hn];simp[iW,fV]
 rw[hop];obtain⟨z0,z1,z2,z3,z4,hlt⟩:=h.cells;obtain⟨y0,y1,y2,y3,nX⟩:=h.shared;obtain⟨ad,cap,dI,_,_⟩:=ag h.eP;obtain⟨ca,cc,hcv,hcc,_⟩:=ag h.fB;rw[dI,List.length_reverse]at z2;rw[hcv]at y0;have hl:=h.len.2.1;have EY:=h.len.2.2.2.2.1;have hth:ax ⟨#[105]⟩=(0,1,true):=by decide +kernel
 have HT:=ast (fun w=>bF ⟨#[105]⟩ w);rw[hth]at HT;have H:=ast h;obtain⟨k,hk⟩:=exq (m.ak.length);rw[←hk]at z2 hl;have HK:=ast hk;have yj:=ast hcv;obtain⟨n,hnn⟩:=exq (u.vars.length);rw[←hnn]at y0 hcc EY;have HN:=ast hnn;have hk2:¬(k:Int)<0:=by omega
 obtain⟨R,hR⟩:=exq (aG m.fs);rw[←hR]at hn;rw[←hR];have HR:=ast hR;have HFB:=ast hf;obtain⟨R1,R2⟩:=hn;clear h dI hcv z0 z1 z3 z4 y0 y1 y2 y3 hth hk hnn hR hf hop;go_enter Tryz.func199,Tryz.ntmps199
 go_wp2_with fail
 refine(HT.out _).mono ?_;rintro e w1 ⟨rfl,rfl⟩;clear HT;go_wp2_with fail
 go_quiet (fail)
 have hbq:Below w1.heap.size w1 (w1.drewN nq):=bdq;obtain⟨V,hV⟩:=exq (w1.drewN nq:World);rw[←hV]at hbq;have HA:=ast (H.out.below hbq);clear hbq z2;go_upto_region 24 with fail
 rw[←hV];clear hV;go_wp2_with fail
 refine(Eh HA.out.at_ HFB.out).mono ?_;rintro e v3 ⟨rfl,rfl⟩;rw[←HR.out];have HB:=ast (HA.out.trans (HA.out.at_.below (show Below v3.heap.size v3 (v3.alloc (.cells #[.int .i64 R] 3 (0,0)))from brq.alloc nrq _)));have jl:Hid (bz (v3.alloc (.cells #[.int .i64 R] 3 (0,0))).heap.size (v3.alloc (.cells #[.int .i64 R] 3 (0,0))) (.slice (some ⟨v3.heap.size,0,none⟩) 1 1) [R]):=ast (fH v3 [R]);clear HA;go_wp2_with fail
 refine(aX 0 [R] HB.out.at_ (Nat.zero_le _) (by have:=HK.out;simp only[List.length_cons,List.length_nil];omega) jl.out (fun z hz=>by rw[List.mem_singleton.1 hz];omega)).mono ?_;rintro e w6 ⟨rfl,y,hy⟩;have HF:=ast (HB.out.trans hy);clear hy HB jl;go_wp2_with fail
 go_end0
 exact⟨rfl,y,HF.out⟩
theorem y7(h:gI B w sb F x m u)(hn:Cell (aG m.fs))(hf:∀p∈m.fs,p.2.qg≤3)(hov:32<m.ak.length+1):
  Calls Tryz.prog 199 #[.pointer (some ⟨x.mb,0,none⟩),.string ⟨#[105]⟩,.pointer (some ⟨x.wp,0,none⟩)] w fun r w'=>r=.returned (.tuple #[])∧di B w sb F x {m with done:=true,ed:=2} u w':=by
 obtain⟨z0,z1,z2,z3,z4,hlt⟩:=h.cells;obtain⟨y0,y1,y2,y3,nX⟩:=h.shared;obtain⟨ad,cap,dI,_,_⟩:=ag h.eP;obtain⟨ca,cc,hcv,hcc,_⟩:=ag h.fB;rw[dI,List.length_reverse]at z2;rw[hcv]at y0;have hl:=h.len.2.1;have EY:=h.len.2.2.2.2.1;have hth:ax ⟨#[105]⟩=(0,1,true):=by decide +kernel
 have HT:=ast (fun w=>bF ⟨#[105]⟩ w);rw[hth]at HT;have H:=ast h;obtain⟨k,hk⟩:=exq (m.ak.length);rw[←hk]at z2 hl;have HK:=ast hk;have yj:=ast hcv;obtain⟨n,hnn⟩:=exq (u.vars.length);rw[←hnn]at y0 hcc EY;have HN:=ast hnn;have hk2:¬(k:Int)<0:=by omega
 obtain⟨R,hR⟩:=exq (aG m.fs);rw[←hR]at hn;have HR:=ast hR;have HFB:=ast hf;obtain⟨R1,R2⟩:=hn;clear h dI hcv z0 z1 z3 z4 y0 y1 y2 y3 hth hk hnn hR hf;go_enter Tryz.func199,Tryz.ntmps199
 go_wp2_with fail
 refine(HT.out _).mono ?_;rintro e w1 ⟨rfl,rfl⟩;clear HT;go_wp2_with fail
 go_quiet (fail)
 have hbq:Below w1.heap.size w1 (w1.drewN nq):=bdq;obtain⟨V,hV⟩:=exq (w1.drewN nq:World);rw[←hV]at hbq;have HA:=ast (H.out.below hbq);clear hbq z2;go_upto_region 24 with fail
 rw[←hV];clear hV;go_wp2_with fail
 refine(Eh HA.out.at_ HFB.out).mono ?_;rintro e v3 ⟨rfl,rfl⟩;rw[←HR.out];have HB:=ast (HA.out.trans (HA.out.at_.below (show Below v3.heap.size v3 (v3.alloc (.cells #[.int .i64 R] 3 (0,0)))from brq.alloc nrq _)));clear HA;go_wp2_with fail
 refine(dJ 0 HB.out.at_ (Nat.zero_le _) (by have:=HK.out;omega) (by omega)).mono ?_;rintro e w6 ⟨rfl,hy⟩;have HF:=ast (HB.out.trans hy);clear hy HB;go_wp2_with fail
 go_end0
 exact⟨rfl,_,HF.out⟩
end
end
section
theorem YW{s:ByteArray}{k:Nat}(h:fP s=some k):s=(bW.getD k (⟨#[]⟩,0,0)).1:=by
 obtain⟨i,x,h1,h2,h3,h4⟩:=qO s bW 0 k h;obtain rfl:k=i:=by omega
 have hx:bW.getD k (⟨#[]⟩,0,0)=x:=by simp[h2]
 rw[hx];rw[oP,oP]at h3
 cases s with
 |mk d=>cases hx1:x.1 with
  |mk d'=>
   rw[hx1]at h3;have:d=d':=(Array.toList_inj.1 h3).symm;rw[this]
def opM(k:Nat)(m:DM)(u:MW):DM:=if cO k m.ak u.vars.length≠4 then{m with done:=true,ed:=cO k m.ak u.vars.length}else{m with ak:=(iW k (aG m.fs) m.ak u).1}
def opU(k:Nat)(m:DM)(u:MW):MW:=if cO k m.ak u.vars.length≠4 then u else(iW k (aG m.fs) m.ak u).2
theorem lu{k:Nat}{s:List Int}{n:Nat}(h1:(ai k).need≤s.length)(h2:(s.length:Int)+(ai k).bu≤32)(h3:(k=23∨k=24)→0≤s.headD 0∧s.headD 0<(n:Int)):cO k s n=4:=by
 unfold cO;rw[if_neg (by omega),if_neg (fun e=>e.2 (h3 e.1)),if_neg (by omega)]
theorem Jn{k:Nat}{s:List Int}{n:Nat}(h1:(ai k).need≤s.length)(h2:32<(s.length:Int)+(ai k).bu)(h3:k≠23∧k≠24):cO k s n=2:=by
 unfold cO;rw[if_neg (by omega),if_neg (by omega),if_pos h2]
theorem aaf{k:Nat}{s:List Int}{n:Nat}(h1:(ai k).need≤s.length)(h3:k=23∨k=24)(h2:¬(0≤s.headD 0∧s.headD 0<(n:Int))):cO k s n=3:=by
 unfold cO;rw[if_neg (by omega),if_pos ⟨h3,h2⟩]
theorem V8(k:Nat)(hk:k≤12){a b:Int}(ha:Cell a)(hb:Cell b)(w:World):Calls Tryz.prog 211 #[.string (bW.getD k (⟨#[]⟩,0,0)).1,.int .i64 a,.int .i64 b] w fun e w'=>e=.returned (.int .i64 (ni k a b))∧w'=w:=
 match k,hk with
 |0,_=>UM ha hb w
 |1,_=>UO ha hb w
 |2,_=>UQ ha hb w
 |3,_=>UR ha hb w
 |4,_=>UT ha hb w
 |5,_=>UU ha hb w
 |6,_=>UW ha hb w
 |7,_=>UX ha hb w
 |8,_=>UY ha hb w
 |9,_=>UZ ha hb w
 |10,_=>P6 ha hb w
 |11,_=>P7 ha hb w
 |12,_=>P8 ha hb w
theorem acx:∀k,k≤12→ax (bW.getD k (⟨#[]⟩,0,0)).1=(2,1,true):=by decide +kernel
theorem acy:∀k,k≤12→∀l∈lq,((bW.getD k (⟨#[]⟩,0,0)).1.toList == l)=false:=by decide +kernel
theorem YX:∀k,k≤12→(ai k).bu= -1:=by decide +kernel
section
variable{B:Nat}{w w':World}{sb:Nat}{F:Nat→Prop}{x:DX}{m m':DM}{u u':MW}
theorem fG(h:di B w sb F x m' u' w'):∃t,t≤1∧di B w sb F {x with tk:=x.tk+t} m' u' w':=⟨0,by omega,h⟩
theorem pI{k:Nat}{e:Int}(h:cO k m.ak u.vars.length=e)(he:e≠4):opM k m u={m with done:=true,ed:=e}∧opU k m u=u:=by
 unfold opM opU;rw[h,if_pos he,if_pos he];exact⟨rfl,rfl⟩
theorem iY{k:Nat}(h:cO k m.ak u.vars.length=4):opM k m u={m with ak:=(iW k (aG m.fs) m.ak u).1}∧opU k m u=(iW k (aG m.fs) m.ak u).2:=by
 unfold opM opU;rw[if_neg (fun e=>e h),if_neg (fun e=>e h)];exact⟨rfl,rfl⟩
theorem V9{s:ByteArray}{k:Nat}(hk:fP s=some k)(h:gI B w sb F x m u)(hw:Wl m.ak u)(hn:Cell (aG m.fs))(hf:∀p∈m.fs,p.2.qg≤3)(ht:x.tk+1≤2000000)(ho:u.outs.length+1≤2000000):
  Calls Tryz.prog 199 #[.pointer (some ⟨x.mb,0,none⟩),.string s,.pointer (some ⟨x.wp,0,none⟩)] w fun r w'=>r=.returned (.tuple #[])∧∃t,t≤1∧di B w sb F {x with tk:=x.tk+t} (opM k m u) (opU k m u) w':=by
 obtain⟨t1,aqO,_⟩:=oQ hk;have hop:=YW hk;have aag:(ai k).need=(ax s).1:=by rw[t1];rfl
 have hl:=h.len.2.1
 by_cases hu:(m.ak.length:Int)<(ai k).need
 ·have hh:cO k m.ak u.vars.length=1:=by unfold cO;rw[if_pos hu]
  obtain⟨e1,e2⟩:=pI hh (by decide);rw[e1,e2];exact(Bz s _ h (by rw[←aag];exact hu)).mono (fun r w' hr=>⟨hr.1,fG hr.2⟩)
 ·have hge:(ai k).need≤m.ak.length:=by omega
  clear aag t1 hk;subst hop
  by_cases zh:k≤12
  ·rw[vZ k zh]at hge
   obtain⟨b,a,s,hs⟩:=rX hge;have ha:Cell a:=hw.s a (by rw[hs];simp);have hb:Cell b:=hw.s b (by rw[hs];simp);obtain⟨e1,e2⟩:=iY (m:=m) (u:=u) (lu (k:=k) (s:=m.ak) (n:=u.vars.length) (by rw[vZ k zh];exact hge) (by rw[YX k zh];omega) (by omega))
   have hop:iW k (aG m.fs) m.ak u=(w32 (ni k a b) :: s,u):=by
    rw[hs,Oq k zh ha hb];simp[iW,fV,zh]
   rw[e1,e2,hop];exact(wB _ h hs (acx k zh) (acy k zh) (fun w=>V8 k zh ha hb w) (Oo k ha hb)).mono (fun r w' hr=>⟨hr.1,fG hr.2⟩)
  have hcs:k=13∨k=14∨k=15∨k=16∨k=17∨k=18∨k=19∨k=20∨k=21∨k=22∨k=23∨k=24∨k=25∨k=26∨k=27:=by omega
  rcases hcs with rfl|rfl|rfl|rfl|rfl|rfl|rfl|rfl|rfl|rfl|rfl|rfl|rfl|rfl|rfl
  ·have hnd:(ai 13).need=1:=rfl
   have IJ:(ai 13).bu=0:=rfl;rw[hnd]at hge;obtain⟨a,s,hs⟩:=pG hge;have ha:Cell a:=hw.s a (by rw[hs];simp);obtain⟨e1,e2⟩:=iY (m:=m) (u:=u) (lu (k:=13) (by omega) (by omega) (by omega));rw[e1,e2];exact(MX h hs ha).mono (fun r w' hr=>⟨hr.1,fG hr.2⟩)
  ·have hnd:(ai 14).need=1:=rfl
   have IJ:(ai 14).bu=0:=rfl;rw[hnd]at hge;obtain⟨a,s,hs⟩:=pG hge;have ha:Cell a:=hw.s a (by rw[hs];simp);obtain⟨e1,e2⟩:=iY (m:=m) (u:=u) (lu (k:=14) (by omega) (by omega) (by omega));rw[e1,e2];exact(MZ h hs ha).mono (fun r w' hr=>⟨hr.1,fG hr.2⟩)
  ·have hnd:(ai 15).need=1:=rfl
   have IJ:(ai 15).bu=0:=rfl;rw[hnd]at hge;obtain⟨a,s,hs⟩:=pG hge;have ha:Cell a:=hw.s a (by rw[hs];simp);obtain⟨e1,e2⟩:=iY (m:=m) (u:=u) (lu (k:=15) (by omega) (by omega) (by omega));rw[e1,e2];exact(Na h hs ha).mono (fun r w' hr=>⟨hr.1,fG hr.2⟩)
  ·have hnd:(ai 16).need=1:=rfl
   have IJ:(ai 16).bu=1:=rfl;rw[hnd]at hge;obtain⟨a,s,hs⟩:=pG hge;have ha:Cell a:=hw.s a (by rw[hs];simp)
   by_cases hov:32<m.ak.length+1
   ·obtain⟨e1,e2⟩:=pI (m:=m) (u:=u) (Jn (k:=16) (by omega) (by omega) (by omega)) (by decide)
    rw[e1,e2];exact(yY h hs ha hov).mono (fun r w' hr=>⟨hr.1,fG hr.2⟩)
   ·obtain⟨e1,e2⟩:=iY (m:=m) (u:=u) (lu (k:=16) (by omega) (by omega) (by omega))
    rw[e1,e2];exact(Nb h hs ha (by omega)).mono (fun r w' hr=>⟨hr.1,fG hr.2⟩)
  ·have hnd:(ai 17).need=1:=rfl
   have IJ:(ai 17).bu= -1:=rfl;rw[hnd]at hge;obtain⟨a,s,hs⟩:=pG hge;have ha:Cell a:=hw.s a (by rw[hs];simp);obtain⟨e1,e2⟩:=iY (m:=m) (u:=u) (lu (k:=17) (by omega) (by omega) (by omega));rw[e1,e2];exact(Nc h hs ha).mono (fun r w' hr=>⟨hr.1,fG hr.2⟩)
  ·have hnd:(ai 18).need=2:=rfl
   have IJ:(ai 18).bu=0:=rfl;rw[hnd]at hge;obtain⟨b,a,s,hs⟩:=rX hge;have ha:Cell a:=hw.s a (by rw[hs];simp);have hb:Cell b:=hw.s b (by rw[hs];simp);obtain⟨e1,e2⟩:=iY (m:=m) (u:=u) (lu (k:=18) (by omega) (by omega) (by omega));rw[e1,e2];exact(Nh h hs ha hb).mono (fun r w' hr=>⟨hr.1,fG hr.2⟩)
  ·have hnd:(ai 19).need=2:=rfl
   have IJ:(ai 19).bu=1:=rfl;rw[hnd]at hge;obtain⟨b,a,s,hs⟩:=rX hge;have ha:Cell a:=hw.s a (by rw[hs];simp);have hb:Cell b:=hw.s b (by rw[hs];simp)
   by_cases hov:32<m.ak.length+1
   ·obtain⟨e1,e2⟩:=pI (m:=m) (u:=u) (Jn (k:=19) (by omega) (by omega) (by omega)) (by decide)
    rw[e1,e2];exact(yV h hs ha hb hov).mono (fun r w' hr=>⟨hr.1,fG hr.2⟩)
   ·obtain⟨e1,e2⟩:=iY (m:=m) (u:=u) (lu (k:=19) (by omega) (by omega) (by omega))
    rw[e1,e2];exact(MP h hs ha hb (by omega)).mono (fun r w' hr=>⟨hr.1,fG hr.2⟩)
  ·have hnd:(ai 20).need=3:=rfl
   have IJ:(ai 20).bu=0:=rfl;rw[hnd]at hge;obtain⟨c,b,a,s,hs⟩:=agE hge;have ha:Cell a:=hw.s a (by rw[hs];simp);have hb:Cell b:=hw.s b (by rw[hs];simp);have hc:Cell c:=hw.s c (by rw[hs];simp);obtain⟨e1,e2⟩:=iY (m:=m) (u:=u) (lu (k:=20) (by omega) (by omega) (by omega));rw[e1,e2];exact(MQ h hs ha hb hc).mono (fun r w' hr=>⟨hr.1,fG hr.2⟩)
  ·have hnd:(ai 21).need=2:=rfl
   have IJ:(ai 21).bu= -1:=rfl;rw[hnd]at hge;obtain⟨b,a,s,hs⟩:=rX hge;have ha:Cell a:=hw.s a (by rw[hs];simp);have hb:Cell b:=hw.s b (by rw[hs];simp);obtain⟨e1,e2⟩:=iY (m:=m) (u:=u) (lu (k:=21) (by omega) (by omega) (by omega));have hop:iW 21 (aG m.fs) m.ak u=(w32 b :: s,u):=by rw[hs,fA hb];rcases s with _|⟨_,_|_⟩<;>simp[iW,fV,nz]
   rw[e1,e2,hop];exact(wB _ h hs (by decide +kernel) (by decide +kernel) (fun w=>P9 ha hb w) (Oo 21 ha hb)).mono (fun r w' hr=>⟨hr.1,fG hr.2⟩)
  ·have hnd:(ai 22).need=2:=rfl
   have IJ:(ai 22).bu=1:=rfl;rw[hnd]at hge;obtain⟨b,a,s,hs⟩:=rX hge;have ha:Cell a:=hw.s a (by rw[hs];simp);have hb:Cell b:=hw.s b (by rw[hs];simp)
   by_cases hov:32<m.ak.length+1
   ·obtain⟨e1,e2⟩:=pI (m:=m) (u:=u) (Jn (k:=22) (by omega) (by omega) (by omega)) (by decide)
    rw[e1,e2];exact(yX h hs ha hb hov).mono (fun r w' hr=>⟨hr.1,fG hr.2⟩)
   ·obtain⟨e1,e2⟩:=iY (m:=m) (u:=u) (lu (k:=22) (by omega) (by omega) (by omega))
    rw[e1,e2];exact(MV h hs ha hb (by omega)).mono (fun r w' hr=>⟨hr.1,fG hr.2⟩)
  ·have hnd:(ai 23).need=1:=rfl
   have IJ:(ai 23).bu=0:=rfl;rw[hnd]at hge;obtain⟨a,s,hs⟩:=pG hge;have ha:Cell a:=hw.s a (by rw[hs];simp)
   by_cases JQ:a<0∨(u.vars.length:Int)≤a
   ·obtain⟨e1,e2⟩:=pI (m:=m) (u:=u) (aaf (k:=23) (by omega) (by omega) (by rw[hs];simp only[List.headD_cons];omega)) (by decide)
    rw[e1,e2];have htt:(ax (bW.getD 23 (⟨#[]⟩,0,0)).1).1=1:=by decide +kernel
    exact(wC _ (Or.inl rfl) h hs (Int.le_trans (Int.le_of_eq htt) (by omega)) ha JQ).mono (fun r w' hr=>⟨hr.1,fG hr.2⟩)
   ·obtain⟨e1,e2⟩:=iY (m:=m) (u:=u) (lu (k:=23) (by omega) (by omega) (by rw[hs];simp only[List.headD_cons];omega))
    rw[e1,e2];obtain⟨i,hi⟩:∃i:Nat,a=(i:Int):=⟨(a).toNat,by omega⟩;subst hi;exact(MN h hs (by omega) hw.v).mono (fun r w' hr=>⟨hr.1,fG hr.2⟩)
  ·have hnd:(ai 24).need=2:=rfl
   have IJ:(ai 24).bu= -2:=rfl;rw[hnd]at hge;obtain⟨b,a,s,hs⟩:=rX hge;have ha:Cell a:=hw.s a (by rw[hs];simp);have hb:Cell b:=hw.s b (by rw[hs];simp)
   by_cases JQ:b<0∨(u.vars.length:Int)≤b
   ·obtain⟨e1,e2⟩:=pI (m:=m) (u:=u) (aaf (k:=24) (by omega) (by omega) (by rw[hs];simp only[List.headD_cons];omega)) (by decide)
    rw[e1,e2];have htt:(ax (bW.getD 24 (⟨#[]⟩,0,0)).1).1=2:=by decide +kernel
    exact(wC _ (Or.inr rfl) h hs (Int.le_trans (Int.le_of_eq htt) (by omega)) hb JQ).mono (fun r w' hr=>⟨hr.1,fG hr.2⟩)
   ·obtain⟨e1,e2⟩:=iY (m:=m) (u:=u) (lu (k:=24) (by omega) (by omega) (by rw[hs];simp only[List.headD_cons];omega))
    rw[e1,e2];obtain⟨i,hi⟩:∃i:Nat,b=(i:Int):=⟨(b).toNat,by omega⟩;subst hi;exact(MO h hs (by omega)).mono (fun r w' hr=>⟨hr.1,fG hr.2⟩)
  ·have hnd:(ai 25).need=0:=rfl
   have IJ:(ai 25).bu=1:=rfl;rw[hnd]at hge
   by_cases hov:32<m.ak.length+1
   ·obtain⟨e1,e2⟩:=pI (m:=m) (u:=u) (Jn (k:=25) (by omega) (by omega) (by omega)) (by decide)
    rw[e1,e2];exact(yZ h hw.i ht hov).mono (fun r w' hr=>⟨hr.1,fG hr.2⟩)
   ·obtain⟨e1,e2⟩:=iY (m:=m) (u:=u) (lu (k:=25) (by omega) (by omega) (by omega))
    rw[e1,e2];exact(Nl h hw.i ht (by omega)).mono (fun r w' hr=>⟨hr.1,1,by omega,hr.2⟩)
  ·have hnd:(ai 26).need=1:=rfl
   have IJ:(ai 26).bu= -1:=rfl;rw[hnd]at hge;obtain⟨a,s,hs⟩:=pG hge;have ha:Cell a:=hw.s a (by rw[hs];simp);obtain⟨e1,e2⟩:=iY (m:=m) (u:=u) (lu (k:=26) (by omega) (by omega) (by omega));rw[e1,e2];exact(Np h hs ha ho).mono (fun r w' hr=>⟨hr.1,fG hr.2⟩)
  ·have hnd:(ai 27).need=0:=rfl
   have IJ:(ai 27).bu=1:=rfl;rw[hnd]at hge
   by_cases hov:32<m.ak.length+1
   ·obtain⟨e1,e2⟩:=pI (m:=m) (u:=u) (Jn (k:=27) (by omega) (by omega) (by omega)) (by decide)
    rw[e1,e2];exact(y7 h hn hf hov).mono (fun r w' hr=>⟨hr.1,fG hr.2⟩)
   ·obtain⟨e1,e2⟩:=iY (m:=m) (u:=u) (lu (k:=27) (by omega) (by omega) (by omega))
    rw[e1,e2];exact(Nq h hn hf (by omega)).mono (fun r w' hr=>⟨hr.1,fG hr.2⟩)
end
end
end Go.Proofs.YtcphhbofjkenaaaGreatDoor
