import Derived.Test.YtcphhbofjkenaaaGreatDoorMy
import Derived.Deep.OwnRows
import Derived.Test.YtcphhbofjkenaaaGreatDoorM19
namespace Go.Proofs.YtcphhbofjkenaaaGreatDoor
open Go Go.RowKit Proofs.Tryz
set_option linter.unusedVariables false
set_option linter.unusedSimpArgs false
set_option maxRecDepth 100000
set_option maxHeartbeats 16000000
variable{i a b x:Inf}{n nv nt:Int}{es es':List PE}{ws:List RW}{t:IT}{p I q bb:Nat}{d:Bool}{l:List IT}{s:ByteArray}{ar:List Tk}{code code':List Int}{w:World}{ev cv:Value}
theorem CV{p:Prop}(h:p:=by
  have hi:=(cI.1 ht).1;have:=(hch i ag).2 0 ag;omega):p:=h
theorem Ec{p:Prop}(h:p:=by
  rw[az ho]at hR;exact(bad 5 aj hR.symm).elim):p:=h
theorem FX{p:Prop}(h:p:=by
  have hi:=(cI.1 ht).1;have:=(hch a.length aH).2 (i+1) ag;omega):p:=h
theorem RV{p:Prop}(h:p:=by
  intro e;unfold ra at hf
  split at hf
  ·exact absurd hf aj
  ·exact absurd hf aj):p:=h
section
structure Inf.Sm (i:Inf):Prop where
 s0:0≤i.steps
 s1:i.steps≤1000000001
 h0:0≤i.high
 big:1000000000<i.steps∨(-4*i.steps≤i.need∧i.need≤4*i.steps∧ -4*i.steps≤i.aM∧i.aM≤4*i.steps∧i.high≤4*i.steps)
theorem Inf.Sm.wt(h:i.Sm)(hs:i.steps≤1000000000):i.Wt 1:=by
 obtain⟨a,b,c,d⟩:=h
 constructor<;>omega
theorem Inf.Sm.zero:Inf.zero.Sm:=E1
theorem Inf.Sm.then(ha:a.Sm)(hb:b.Sm):(a.then b).Sm:=by
 obtain⟨a1,a2,a3,a4⟩:=ha;obtain⟨b1,b2,b3,b4⟩:=hb
 constructor<;>simp only[Inf.then]<;>omega
theorem Inf.Sm.gY(ha:a.Sm)(hb:b.Sm):(a.gY b).Sm:=by
 obtain⟨a1,a2,a3,a4⟩:=ha;obtain⟨b1,b2,b3,b4⟩:=hb
 constructor<;>simp only[Inf.gY]<;>omega
theorem Inf.Sm.je(ha:a.Sm)(h0:0≤n):(a.je n).Sm:=by
 obtain⟨a1,a2,a3,a4⟩:=ha;unfold Inf.je
 split
 ·constructor<;>simp
 ·rename_i hn
  have hp:a.steps*1≤a.steps*n:=Int.mul_le_mul_of_nonneg_left ag a1
  constructor<;>simp only<;>omega
theorem vu(k:Nat)(h:k<35):(aL k).Sm:=by
 obtain⟨a,b,c,d⟩:=Bz k h
 constructor<;>simp only[aL]<;>omega
theorem PE.TF{x:PE}(h:x.inf.Sm):x.use.Sm:=by
 unfold PE.use
 split
 ·exact vu 28 ag
 ·exact(vu 33 ag).then h
structure PB.Sm (b:PB):Prop where
 d:b.does.Sm
 o:b.other.Sm
 t:0≤b.times
theorem PB.Sm.add{b:PB}(h:b.Sm)(hi:i.Sm):(b.add i).Sm:=⟨h.d.then hi,h.o,h.t⟩
theorem PB.Sm.z(b:PB)(hd:b.does=Inf.zero)(ho:b.other.Sm)(ht:0≤b.times):b.Sm:=⟨by rw[hd];exact Inf.Sm.zero,ho,ht⟩
theorem Z6(es:List PE)(hes:∀x∈es,x.inf.Sm)(nt tk:Int)(dc:List Int)(st:List PB)(kn:Inf)(s:ByteArray)(hst:∀b∈st,b.Sm)
  (R:SR) (hR:stepP es nt tk dc st kn s=R) (h0:R.1=0):(∀b∈R.2.2.1,b.Sm)∧(R.2.2.1=[]→R.2.2.2.Wt 1∧R.2.2.2.Sm∧nt+tk≤400)∧R.2.1.length≤dc.length+2:=by
 cases st with
 |nil=>
  subst hR;exact absurd h0 (by simp[stepP])
 |cons b r=>
  have hb:=hst b (List.mem_cons_self ..);have hr:∀c∈r,c.Sm:=fun c hc=>hst c (List.mem_cons_of_mem _ hc)
  have two:∀{x y:PB} {l:List PB},x.Sm→y.Sm→(∀c∈l,c.Sm)→∀c∈x :: y :: l,c.Sm:=fun hx hy hl c hc=>by
   rcases er.1 hc with rfl|hc
   ·exact hx
   ·rcases er.1 hc with rfl|hc
    ·exact hy
    ·exact hl c hc
  have one:∀{x:PB} {l:List PB},x.Sm→(∀c∈l,c.Sm)→∀c∈x :: l,c.Sm:=fun hx hl c hc=>by
   rcases er.1 hc with rfl|hc
   ·exact hx
   ·exact hl c hc
  unfold stepP at hR;simp only at hR;have bad:∀(E:Int),E≠0→R=(E,dc,b :: r,kn)→False:=fun E hE e=>hE (by rw[e]at h0;exact h0)
  by_cases g0:(s.toList == [])=true
  ·rw[aG g0]at hR;exact(bad 5 aj hR.symm).elim
  rw[az g0]at hR
  by_cases g1:(s.toList == [58])=true
  ·rw[aG g1]at hR;exact(bad 5 aj hR.symm).elim
  rw[az g1]at hR
  by_cases g2:(s.toList == [118,97,114,105,97,98,108,101])=true
  ·rw[aG g2]at hR;exact(bad 5 aj hR.symm).elim
  rw[az g2]at hR
  by_cases g3:(s.toList == [59])=true
  ·rw[aG g3]at hR
   by_cases ho:b.opener=34
   ·rw[aG ho]at hR
    subst hR;have hs:=hb.d.then (vu 34 ag);simp only[nY]at h0
    by_cases q1:1000000000<(b.does.then (aL 34)).steps
    ·rw[aG q1]at h0;exact absurd h0 aj
    rw[az q1]at h0
    by_cases q2:400<nt+tk
    ·rw[aG q2]at h0;exact absurd h0 aj
    exact⟨fun c hc=>(List.not_mem_nil hc).elim,fun _=>⟨hs.wt ag,hs,ag⟩,aF⟩
   ·exact Ec
  rw[az g3]at hR
  by_cases g4:(s.toList == [105,102])=true
  ·rw[aG g4]at hR
   subst hR;exact⟨two (PB.Sm.z _ rfl Inf.Sm.zero (Int.le_refl _)) (hb.add (vu 29 ag)) hr,fun e=>absurd e (List.cons_ne_nil _ _),aF⟩
  rw[az g4]at hR
  by_cases g5:(s.toList == [101,108,115,101])=true
  ·rw[aG g5]at hR
   by_cases ho:b.opener=29
   ·rw[aG ho]at hR
    cases r with
    |nil=>exact(bad 5 aj hR.symm).elim
    |cons c r'=>
     simp only at hR;subst hR;exact⟨two (PB.Sm.z _ rfl (hb.d.then (vu 30 ag)) (Int.le_refl _)) (hr c (List.mem_cons_self ..)) (fun x hx=>hr x (List.mem_cons_of_mem _ hx)),fun e=>absurd e (List.cons_ne_nil _ _),aF⟩
   ·exact Ec
  rw[az g5]at hR
  by_cases g6:(s.toList == [116,104,101,110])=true
  ·rw[aG g6]at hR
   by_cases ho:b.opener=29∨b.opener=30
   ·rw[aG ho]at hR
    by_cases hn:b.does.aM=b.other.aM
    ·rw[aG hn]at hR
     cases r with
     |nil=>exact(bad 5 aj hR.symm).elim
     |cons c r'=>
      simp only at hR;subst hR;exact⟨one ((hr c (List.mem_cons_self ..)).add (hb.d.gY hb.o)) (fun x hx=>hr x (List.mem_cons_of_mem _ hx)),fun e=>absurd e (List.cons_ne_nil _ _),aF⟩
    ·rw[az hn]at hR;exact(bad 6 aj hR.symm).elim
   ·exact Ec
  rw[az g6]at hR
  by_cases g7:(s.toList == [100,111])=true
  ·rw[aG g7]at hR
   by_cases q1:b.numbers<2
   ·rw[aG q1]at hR;exact(bad 5 aj hR.symm).elim
   rw[az q1]at hR
   by_cases q2:1000<max 0 (b.a0 - b.a1)
   ·rw[aG q2]at hR;exact(bad 7 aj hR.symm).elim
   rw[az q2]at hR;subst hR;exact⟨two (PB.Sm.z _ rfl Inf.Sm.zero (Int.le_max_left _ _)) (hb.add (vu 31 ag)) hr,fun e=>absurd e (List.cons_ne_nil _ _),aF⟩
  rw[az g7]at hR
  by_cases g8:(s.toList == [108,111,111,112])=true
  ·rw[aG g8]at hR
   by_cases ho:b.opener=31
   ·rw[aG ho]at hR
    by_cases hn:b.does.aM=0
    ·rw[aG hn]at hR
     cases r with
     |nil=>exact(bad 5 aj hR.symm).elim
     |cons c r'=>
      simp only at hR;subst hR;exact⟨one ((hr c (List.mem_cons_self ..)).add ((hb.d.then (vu 32 ag)).je hb.t)) (fun x hx=>hr x (List.mem_cons_of_mem _ hx)),fun e=>absurd e (List.cons_ne_nil _ _),aF⟩
    ·rw[az hn]at hR;exact(bad 6 aj hR.symm).elim
   ·exact Ec
  rw[az g8]at hR
  by_cases g9:(numP s).2=true
  ·rw[aG g9]at hR
   subst hR;have hx:=hb.add (vu 28 ag);exact⟨one ⟨hx.d,hx.o,hx.t⟩ hr,fun e=>absurd e (List.cons_ne_nil _ _),aF⟩
  rw[az g9]at hR;unfold stepW at hR
  cases hlp:lastP es s es.length with
  |some x=>
   rw[hlp]at hR;simp only at hR;subst hR;exact⟨one (hb.add (PE.TF (hes x (D7 es s _ x aH hlp)))) hr,fun e=>absurd e (List.cons_ne_nil _ _),aF⟩
  |none=>
   rw[hlp]at hR;simp only at hR
   cases hop:jT s with
   |none=>
    rw[hop]at hR;exact(bad 3 aj hR.symm).elim
   |some k=>
    rw[hop]at hR;simp only at hR
    by_cases q:k=27∧b.iN=false
    ·rw[aG q]at hR;exact(bad 5 aj hR.symm).elim
    ·rw[az q]at hR
     subst hR;exact⟨one (hb.add (vu k (DJ hop))) hr,fun e=>absurd e (List.cons_ne_nil _ _),aF⟩
theorem Mp(es:List PE)(hes:∀x∈es,x.inf.Sm)(nt:Int)(s:ByteArray):∀(f:Nat) (tk:Int) (dc:List Int) (st:List PB) (kn:Inf) (a:Nat),(∀b∈st,b.Sm)→(st=[]→kn.Wt 1∧kn.Sm∧nt+tk≤400)→a≤s.size→
  ∀eh lR jN a',defP es nt s f tk dc st kn a=.inl (eh,lR,jN,a')→lR.Wt 1∧lR.Sm∧nt+jN≤400∧tk≤jN∧(eh.length:Int)≤dc.length+2*(jN - tk)∧a≤a'∧a'≤s.size
 |0,tk,dc,st,kn,a,h1,h2,h3,eh,lR,jN,a',h=>by rw[defP]at h;cases h
 |f+1,tk,dc,[],kn,a,h1,h2,h3,eh,lR,jN,a',h=>by
  rw[defP]at h
  cases h
  obtain⟨i1,i2,i3⟩:=h2 rfl;exact⟨i1,i2,i3,Int.le_refl _,ag,aH,h3⟩
 |f+1,tk,dc,b :: r,kn,a,h1,h2,h3,eh,lR,jN,a',h=>by
  rw[defP]at h;obtain⟨m1,m2,m3,m4⟩:=tG s (s.size - a) a h3;obtain⟨T,hT⟩:=ak (stepP es nt (tk+1) dc (b :: r) kn (nx s a).1);rw[←hT]at h
  by_cases h0:T.1=0
  ·rw[aG h0]at h
   obtain⟨k1,k2,k3⟩:=Z6 es hes nt (tk+1) dc (b :: r) kn (nx s a).1 h1 T hT.symm h0;obtain⟨j1,j2,j3,j4,j5,j6,j7⟩:=Mp es hes nt s f (tk+1) T.2.1 T.2.2.1 T.2.2.2 (nx s a).2.2 k1 k2 m3 eh lR jN a' h;exact⟨j1,j2,j3,ag,ag,by unfold nx at j6;omega,j7⟩
  ·rw[az h0]at h
   cases h
end
section
open Go
theorem aaQ(h:es.map PE.name=ws.map RW.name)(k:Nat):nameAt ws k=(es.getD k PE.zero).name:=by
 unfold nameAt;rw[←h,lM,lM,iH]
 cases es[k]?<;>rfl
theorem Nv{es:List PE}{ws:List RW}(h:es.map PE.name=ws.map RW.name)(s:ByteArray):∀n,lastP es s n=if 0≤lastK (nameAt ws) s n then some (es.getD (lastK (nameAt ws) s n).toNat PE.zero)else none
 |0=>by simp[lastP,lastK]
 |n+1=>by
  unfold lastP lastK;rw[aaQ h n]
  by_cases hc:((es.getD n PE.zero).name.toList == s.toList)=true
  ·rw[aG hc,aG hc,aG ag]
   simp
  ·rw[az hc,az hc]
   exact Nv h s n
theorem Fc(h:es.map PE.name=ws.map RW.name)(s:ByteArray):lastP es s es.length=if 0≤cL ws s then some (es.getD (cL ws s).toNat PE.zero)else none:=by
 have hl:es.length=ws.length:=by have:=congrArg List.length h;simpa using this
 rw[hl];exact Nv h s _
end
section
structure Inf.Nn (i:Inf):Prop where
 n:0≤i.need
 m:0≤i.need+i.aM
 h:0≤i.high
 k:i.aM≤i.high
 s:0≤i.steps
 t:i.steps≤1000000001
theorem Inf.ext'(h1:a.need=b.need)(h2:a.aM=b.aM)(h3:a.high=b.high)(h4:a.steps=b.steps)(h5:a.str=b.str):a=b:=by
 cases a;cases b;simp_all
theorem Inf.Nn.zero:Inf.zero.Nn:=E1
theorem Inf.Nn.then(ha:a.Nn)(hb:b.Nn):(a.then b).Nn:=by
 obtain⟨a1,a2,a3,a4,a5,a6⟩:=ha;obtain⟨b1,b2,b3,b4,b5,b6⟩:=hb
 constructor<;>simp only[Inf.then]<;>omega
theorem Inf.Nn.more(ha:a.Nn):a.more.Nn:=by
 obtain⟨a1,a2,a3,a4,a5,a6⟩:=ha
 constructor<;>simp only[Inf.more]<;>omega
theorem Inf.Nn.ways(ha:a.Nn)(hb:b.Nn)(hn:a.aM=b.aM):(a.ways b).Nn:=by
 obtain⟨a1,a2,a3,a4,a5,a6⟩:=ha;obtain⟨b1,b2,b3,b4,b5,b6⟩:=hb
 constructor<;>simp only[Inf.ways]<;>omega
theorem Inf.Nn.times(ha:a.Nn)(hn:0≤n):(a.times n).Nn:=by
 obtain⟨a1,a2,a3,a4,a5,a6⟩:=ha;have hp:0≤n*min (a.steps+1) 1000000001:=Int.mul_nonneg hn ag;unfold Inf.times
 split<;>constructor<;>simp only<;>omega
theorem Inf.Nn.plain{t p:Int}(ht:0≤t)(hp:0≤p):(Inf.plain t p).Nn:=by
 constructor<;>simp only[Inf.plain]<;>omega
theorem then_assoc{c:Inf}(ha:a.Nn)(hb:b.Nn)(hc:c.Nn):(a.then b).then c=a.then (b.then c):=by
 obtain⟨a1,a2,a3,a4,a5,a6⟩:=ha;obtain⟨b1,b2,b3,b4,b5,b6⟩:=hb;obtain⟨c1,c2,c3,c4,c5,c6⟩:=hc;refine Inf.ext' ?_ ?_ ?_ ?_ ?_<;>simp only[Inf.then]
 ·omega
 ·omega
 ·omega
 ·omega
 ·exact Bool.and_assoc _ _ _
theorem CX:aL 30=⟨0,0,0,1,true⟩∧aL 32=⟨0,0,0,1,true⟩∧aL 33=⟨0,0,0,1,true⟩∧aL 34=⟨0,0,0,1,true⟩:=⟨rfl,rfl,rfl,rfl⟩
theorem El:aL 28=Inf.plain 0 1∧aL 29=⟨1, -1,0,1,false⟩∧aL 31=Inf.plain 2 0:=⟨rfl,rfl,rfl⟩
theorem Gx(h:i.Nn):i.then ⟨0,0,0,1,true⟩=i.more:=by
 obtain⟨a1,a2,a3,a4,a5,a6⟩:=h;refine Inf.ext' ?_ ?_ ?_ ?_ ?_<;>simp only[Inf.then,Inf.more]
 ·omega
 ·omega
 ·omega
 ·simp
theorem acQ(h:i.Nn):Inf.then ⟨0,0,0,1,true⟩ i=i.more:=by
 obtain⟨a1,a2,a3,a4,a5,a6⟩:=h;refine Inf.ext' ?_ ?_ ?_ ?_ ?_<;>simp only[Inf.then,Inf.more]
 ·omega
 ·omega
 ·omega
 ·omega
 ·simp
theorem Qz{d y:Inf}(hd:d.Nn)(hx:x.Nn)(hy:y.Nn)(hn:x.aM=y.aM):(d.then (aL 29)).then (x.gY y)=d.then ((Inf.plain 1 0).then (y.ways x)):=by
 obtain⟨a1,a2,a3,a4,a5,a6⟩:=hd;obtain⟨b1,b2,b3,b4,b5,b6⟩:=hx;obtain⟨c1,c2,c3,c4,c5,c6⟩:=hy;rw[El.2.1];refine Inf.ext' ?_ ?_ ?_ ?_ ?_<;>simp only[Inf.then,Inf.gY,Inf.ways,Inf.plain]
 ·omega
 ·omega
 ·omega
 ·omega
 ·simp
theorem ZQ{d:Inf}(hd:d.Nn)(hx:x.Nn)(hn:0≤n):(d.then (aL 31)).then ((x.then (aL 32)).je n)=d.then ((Inf.plain 2 0).then (x.times n)):=by
 have e:(x.then (aL 32)).je n=x.times n:=by
  rw[CX.2.1,Gx hx];unfold Inf.je Inf.times
  split
  ·rfl
  ·refine Inf.ext' ?_ ?_ ?_ ?_ ?_<;>simp only[Inf.more]
   rw[Int.mul_comm]
 rw[e,El.2.2,←then_assoc hd (Inf.Nn.plain ag ag) (hx.times hn)]
theorem Zy(l:List AI)(x:AI)(j:Nat)(h:j<l.length):lI (l++[x]) j=lI l j:=by
 unfold lI;simp[List.getD,dH,h]
theorem JR{f g:Nat→Inf}:∀n,(∀j,j<n→f j=g j)→upTo f n=upTo g n
 |0,_=>rfl
 |n+1,h=>by rw[upTo,upTo,JR n (fun j hj=>h j ag),h n ag]
theorem tD(l:List AI)(x:AI):bS (l++[x])=(bS l).then x.inf:=by
 unfold bS;rw[show(l++[x]).length=l.length+1 by simp,upTo,JR l.length (fun j hj=>Zy l x j hj)]
 congr 1
 simp[lI]
def od(b:PB)(l:List AI):Prop:=
 match l.reverse with
 |⟨some y,_,_⟩ :: ⟨some x,_,_⟩ :: _=>b.numbers=2∧b.a0=x∧b.a1=y
 |⟨some y,_,_⟩ :: _=>b.numbers=1∧b.a1=y
 |_=>b.numbers=0
theorem od.none{b:PB}{l:List AI}{i:Inf}{t:IT}(h:b.numbers=0):od b (l++[⟨none,i,t⟩]):=by
 unfold od;simp[h]
theorem od.some{b b':PB}{l:List AI}{i:Inf}{t:IT}{n:Int}(h:od b l)(h1:b'.numbers=min (b.numbers+1) 2)(h2:b'.a0=b.a1)(h3:b'.a1=n):od b' (l++[⟨some n,i,t⟩]):=by
 unfold od at h ⊢;rw[List.reverse_append];generalize l.reverse=q at h
 match q,h with
 |[],h=>simp at h ⊢;omega
 |⟨Option.none,_,_⟩ :: _,h=>simp at h ⊢;omega
 |[⟨Option.some y,_,_⟩],h=>simp at h ⊢;omega
 |⟨Option.some y,_,_⟩ :: ⟨Option.none,_,_⟩ :: _,h=>simp at h ⊢;omega
 |⟨Option.some y,_,_⟩ :: ⟨Option.some x,_,_⟩ :: _,h=>simp at h ⊢;omega
theorem od.two{b:PB}{l:List AI}(h:od b l):(b.numbers<2∧lastTwo l=Option.none)∨(b.numbers=2∧lastTwo l=Option.some (b.a0,b.a1)):=by
 unfold od at h;unfold lastTwo;generalize l.reverse=q at h
 match q,h with
 |[],h=>left;simp at h ⊢;omega
 |⟨Option.none,_,_⟩ :: _,h=>left;simp at h ⊢;omega
 |[⟨Option.some y,_,_⟩],h=>left;simp at h ⊢;omega
 |⟨Option.some y,_,_⟩ :: ⟨Option.none,_,_⟩ :: _,h=>left;simp at h ⊢;omega
 |⟨Option.some y,_,_⟩ :: ⟨Option.some x,_,_⟩ :: _,h=>right;simp at h ⊢;exact⟨h.1,h.2.1.symm,h.2.2.symm⟩
structure At (s:ByteArray) (ar:List Tk) (I a:Nat):Prop where
 le:a≤s.size
 tk:cU s a=ar.drop I
 sd:Sound s a
theorem Ug(s:ByteArray):∀(f a:Nat),a≤s.size→s.size - a≤f→cU s a=[]→(nextF s f a).2.1=s.size:=by
 have main:∀a,a≤s.size→cU s a=cU s (cC s a)∧(cC s a<s.size→blk (aJ s (cC s a))=false):=fun a ha=>by
  have hB:=iP ld s a ha;refine⟨GK s (cC s a - a) a (cC s a) (by have:=hB.1;unfold cC;omega) hB.2.1 (fun x h1 h2=>?_),fun h=>?_⟩
  ·have:=hB.2.2.1 x h1 h2
   unfold ld at this;simpa using this
  ·rcases hB.2.2.2 with e|e
   ·exact absurd e (by unfold cC at h;omega)
   ·have e':(!blk (aJ s (cC s a)))=true:=e
    simpa using e'
 intro f
 induction f with
 |zero=>
  intro a ha hf h;obtain⟨l1,l2,l3⟩:=rh s a ha;unfold nextF;simp only;omega
 |succ f ih=>
  intro a ha hf h;obtain⟨l1,l2,l3⟩:=rh s a ha;unfold nextF
  by_cases hb:cC s a<s.size
  ·have hk:=(main a ha).2 hb
   have hlt:cC s a<cX s a:=ub s _ hb hk
   by_cases hn:((s.extract (cC s a) (cX s a)).toList == [92])=true
   ·rw[aG hn]
    have hsp:=iP dY s (cX s a) l3
    have e:cU s a=cU s (scan dY s (cX s a)):=by
     rw[(main a ha).1,De s _ hb hk ((uk _ _).1 hn)];rfl
    exact ih _ hsp.2.1 CE (by rw[←e];exact h)
   ·exfalso
    rw[(main a ha).1,Ij s _ hb hk (fun e=>hn ((uk _ _).2 e))]at h
    cases h
  ·have e:cC s a=s.size:=by omega
   split
   ·have hsp:=iP dY s (cX s a) l3
    exact ih _ hsp.2.1 CE (FW s _ CE)
   ·exact e
theorem At.next{a:Nat}(h:At s ar I a)(hI:I≤ar.length):
  (nx s a).1=aS ar I∧((nx s a).2.1:Int)=cE ar s.size I∧((aS ar I).toList=[]∨(I<ar.length∧At s ar (I+1) (nx s a).2.2)):=by
 have hle:=(tG s (s.size - a) a h.le);rcases abe s (s.size - a) a h.le aH with ⟨h1,h2⟩|⟨h1,h2⟩
 ·have hd:ar.drop I=[]:=by rw[←h.tk];exact h1
  have hl:ar.length≤I:=by
   have:=congrArg List.length hd;simp at this;omega
  have ht:aS ar I=⟨#[]⟩:=by simp[aS,List.getD,jh hl]
  refine⟨by rw[ht];exact h2,?_,aC (by rw[ht];exact lZ [])⟩;have:=Ug s (s.size - a) a h.le aH h1;unfold nx;rw[this];simp[cE,Nat.not_lt.2 hl]
 ·have hd:=h.tk
  rw[h1]at hd
  have hl:I<ar.length:=by
   rcases kh I ar.length with h3|h3
   ·exact h3
   ·rw[List.drop_eq_nil_of_le h3]at hd;cases hd
  rw[qh hl]at hd;have e1:=(List.cons.inj hd).1;have e2:=(List.cons.inj hd).2;refine⟨?_,?_,aA ⟨hl,⟨hle.2.2.1,e2,(OX h.sd h.le).2⟩⟩⟩
  ·simp[aS,hl,←e1,nx]
  ·simp[cE,hl,←e1,nx]
theorem At.name{a:Nat}(h:At s ar I a)(hI:I≤ar.length):uX (nx s a).1=gK (aS ar I):=by
 rw[←(h.next hI).1];exact(OX h.sd h.le).1
end
section
inductive im (es:List PE) (code:List Int):Bool→IT→Nat→Nat→Prop
 |num (d:Bool) (n:Int) (p:Nat) (h: -2147483648≤n∧n≤2147483647) (h1:code[p]?=some 28) (h2:code[p+1]?=some n):im es code d (.num n) p (p+2)
 |op (d:Bool) (s:ByteArray) (k p:Nat) (h:jT s=some k) (h1:code[p]?=some (k:Int)) (h2:k=27→d=true):im es code d (.op s) p (p+1)
 |var (d:Bool) (k:Nat) (x:PE) (p:Nat) (h:es[k]?=some x) (hv:x.var=true) (h1:code[p]?=some 28) (h2:code[p+1]?=some x.place):im es code d (.own k) p (p+2)
 |own (d:Bool) (k:Nat) (x:PE) (p:Nat) (h:es[k]?=some x) (hv:x.var=false) (h1:code[p]?=some 33) (h2:code[p+1]?=some x.place):im es code d (.own k) p (p+2)
 |iff (d:Bool) (a:List IT) (p q:Nat) (ps:Nat→Nat) (h1:code[p]?=some 29) (h2:code[p+1]?=some (q:Int)) (h3:ps 0=p+2) (h4:ps a.length=q) (h5:∀(i:Nat) (t:IT),a[i]?=some t→im es code d t (ps i) (ps (i+1))):im es code d (.iff a) p q
 |els (d:Bool) (a b:List IT) (p q r:Nat) (ps qs:Nat→Nat) (h1:code[p]?=some 29) (h2:code[p+1]?=some ((q+2:Nat):Int)) (h3:ps 0=p+2) (h4:ps a.length=q) (h5:∀(i:Nat) (t:IT),a[i]?=some t→im es code d t (ps i) (ps (i+1)))
   (k1:code[q]?=some 30) (k2:code[q+1]?=some (r:Int)) (k3:qs 0=q+2) (k4:qs b.length=r) (k5:∀(i:Nat) (t:IT),b[i]?=some t→im es code d t (qs i) (qs (i+1))):im es code d (.els a b) p r
 |kY (d:Bool) (a:List IT) (p q:Nat) (ps:Nat→Nat) (h1:code[p]?=some 31) (h2:code[p+1]?=some ((q+2:Nat):Int)) (h3:ps 0=p+2) (h4:ps a.length=q) (h5:∀(i:Nat) (t:IT),a[i]?=some t→im es code true t (ps i) (ps (i+1)))
   (k1:code[q]?=some 32) (k2:code[q+1]?=some ((p+2:Nat):Int)):im es code d (.kY a) p (q+2)
theorem chain{a:List IT}{ps:Nat→Nat}{L:Nat}(h:∀(i:Nat) (t:IT),a[i]?=some t→ps i<ps (i+1)∧ps (i+1)≤L)(h0:ps 0≤L):∀j,j≤a.length→ps j≤L∧∀i,i≤j→ps i≤ps j
 |0,_=>⟨h0,fun i hi=>by rw[show i=0 by omega];exact aH⟩
 |j+1,hj=>by
  obtain⟨h1,h2⟩:=h j a[j] (bE ag);obtain⟨_,h4⟩:=chain h h0 j ag;refine⟨h2,fun i hi=>?_⟩;rcases kh i (j+1)with e|e
  ·have:=h4 i ag;omega
  ·rw[show i=j+1 by omega];exact aH
theorem kz{x:Int}(h:code[p]?=some x):p<code.length:=(cI.1 h).1
theorem im.le(h:im es code d t p q):p<q∧q≤code.length:=by
 induction h with
 |num d n p h h1 h2=>have:=kz h2;omega
 |op d s k p h h1 h2=>have:=kz h1;omega
 |var d k x p h hv h1 h2=>have:=kz h2;omega
 |own d k x p h hv h1 h2=>have:=kz h2;omega
 |iff d a p q ps h1 h2 h3 h4 h5 ih=>
  have:=kz h2;obtain⟨c1,c2⟩:=chain ih ag a.length aH;have:=c2 0 ag;omega
 |els d a b p q r ps qs h1 h2 h3 h4 h5 k1 k2 k3 k4 k5 ih ih2=>
  have:=kz h2;have:=kz k2;obtain⟨c1,c2⟩:=chain ih ag a.length aH;obtain⟨d1,d2⟩:=chain ih2 ag b.length aH;have:=c2 0 ag;have:=d2 0 ag;omega
 |kY d a p q ps h1 h2 h3 h4 h5 k1 k2 ih=>
  have:=kz h2;have:=kz k2;obtain⟨c1,c2⟩:=chain ih ag a.length aH;have:=c2 0 ag;omega
theorem im.tj(h:im es code d t p q)(he:∀(k:Nat) (x:PE),es[k]?=some x→es'[k]?=some x)(hc:∀i,p≤i→i<q→code'[i]?=code[i]?):im es' code' d t p q:=by
 induction h with
 |num d n p h h1 h2=>exact .num d n p h ((hc p ag ag).trans h1) ((hc (p+1) ag ag).trans h2)
 |op d s k p h h1 h2=>exact .op d s k p h ((hc p ag ag).trans h1) h2
 |var d k x p h hv h1 h2=>exact .var d k x p (he _ _ h) hv ((hc p ag ag).trans h1) ((hc (p+1) ag ag).trans h2)
 |own d k x p h hv h1 h2=>exact .own d k x p (he _ _ h) hv ((hc p ag ag).trans h1) ((hc (p+1) ag ag).trans h2)
 |iff d a p q ps h1 h2 h3 h4 h5 ih=>
  have hl:=kz h2;have hch:=chain (fun i t ht=>(h5 i t ht).le) ag;have hq:=(hch a.length aH).2 0 ag;refine .iff d a p q ps ((hc p ag ag).trans h1) ((hc (p+1) ag ag).trans h2) h3 h4 (fun i t ht=>ih i t ht (fun j j1 j2=>hc j ?_ ?_))
  ·exact CV
  ·exact FX
 |els d a b p q r ps qs h1 h2 h3 h4 h5 k1 k2 k3 k4 k5 ih ih2=>
  have hl:=kz h2;have hl2:=kz k2;have hch:=chain (fun i t ht=>(h5 i t ht).le) ag;have hq:=(hch a.length aH).2 0 ag;have Ja:=chain (fun i t ht=>(k5 i t ht).le) ag;have hq2:=(Ja b.length aH).2 0 ag;refine .els d a b p q r ps qs ((hc p ag ag).trans h1) ((hc (p+1) ag ag).trans h2) h3 h4 (fun i t ht=>ih i t ht (fun j j1 j2=>hc j ?_ ?_)) ((hc q ag ag).trans k1) ((hc (q+1) ag ag).trans k2) k3 k4 (fun i t ht=>ih2 i t ht (fun j j1 j2=>hc j ?_ ?_))
  ·exact CV
  ·exact FX
  ·have hi:=(cI.1 ht).1
   have:=(Ja i ag).2 0 ag;omega
  ·have hi:=(cI.1 ht).1
   have:=(Ja b.length aH).2 (i+1) ag;omega
 |kY d a p q ps h1 h2 h3 h4 h5 k1 k2 ih=>
  have hl:=kz h2;have hl2:=kz k2;have hch:=chain (fun i t ht=>(h5 i t ht).le) ag;have hq:=(hch a.length aH).2 0 ag;refine .kY d a p q ps ((hc p ag ag).trans h1) ((hc (p+1) ag ag).trans h2) h3 h4 (fun i t ht=>ih i t ht (fun j j1 j2=>hc j ?_ ?_)) ((hc q ag ag).trans k1) ((hc (q+1) ag ag).trans k2)
  ·exact CV
  ·exact FX
def dw(es:List PE)(code:List Int)(d:Bool)(l:List IT)(p q:Nat):Prop:=∃ps:Nat→Nat,ps 0=p∧ps l.length=q∧∀(i:Nat) (t:IT),l[i]?=some t→im es code d t (ps i) (ps (i+1))
theorem dw.nil(es:List PE)(code:List Int)(d:Bool)(p:Nat):dw es code d [] p p:=⟨fun _=>p,rfl,rfl,fun i t h=>jC⟩
theorem dw.le(h:dw es code d l p q)(hp:p≤code.length):p≤q∧q≤code.length:=by
 obtain⟨ps,h1,h2,h3⟩:=h;obtain⟨c1,c2⟩:=chain (fun i t ht=>(h3 i t ht).le) ag l.length aH;have:=c2 0 ag;omega
theorem dw.tj(h:dw es code d l p q)(hp:p≤code.length)(he:∀(k:Nat) (x:PE),es[k]?=some x→es'[k]?=some x)(hc:∀i,p≤i→i<q→code'[i]?=code[i]?):dw es' code' d l p q:=by
 obtain⟨ps,h1,h2,h3⟩:=h;have hch:=chain (fun i t ht=>(h3 i t ht).le) ag;refine⟨ps,h1,h2,fun i t ht=>(h3 i t ht).tj he (fun j j1 j2=>hc j ?_ ?_)⟩
 ·exact CV
 ·have hi:=(cI.1 ht).1
  have:=(hch l.length aH).2 (i+1) ag;omega
theorem dw.snoc{r:Nat}(h:dw es code d l p q)(ht:im es code d t q r):dw es code d (l++[t]) p r:=by
 obtain⟨ps,h1,h2,h3⟩:=h;refine⟨fun i=>if i≤l.length then ps i else r,by simp[h1],by simp only[cF,fA,List.length_nil];rw[az ag],fun i u hu=>?_⟩;simp only
 by_cases hi:i<l.length
 ·rw[dH hi]at hu
  rw[aG ag,aG ag];exact h3 i u hu
 ·rw[fP ag]at hu
  have h0:i - l.length=0:=by have:=(cI.1 hu).1;simp at this;omega
  rw[h0]at hu;obtain rfl:t=u:=by simpa using hu
  obtain rfl:i=l.length:=ag;rw[aG aH,az ag,h2];exact ht
def CO(es:List PE)(dc:List Int)(p:Nat)(loops:Int)(l:List AI):Prop:=p≤dc.length∧dw es dc (decide (0<loops)) (trees l) p dc.length
theorem CO.snoc{dc eh:List Int}{loops:Int}{l:List AI}{x:AI}(h:CO es dc p loops l)(hl:dc.length≤eh.length)(hc:∀i,i<dc.length→eh[i]?=dc[i]?)(hx:im es eh (decide (0<loops)) x.tree dc.length eh.length):CO es eh p loops (l++[x])∧∀i,i<p→eh[i]?=dc[i]?:=by
 refine⟨⟨bB h.1 hl,?_⟩,fun i hi=>hc i (bF hi h.1)⟩;unfold trees;rw[List.map_append];exact(h.2.tj h.1 (fun _ _=>id) (fun i _ hi=>hc i hi)).snoc hx
theorem CO.nil(es:List PE)(dc:List Int)(loops:Int):CO es dc dc.length loops []:=⟨aH,dw.nil _ _ _ _⟩
end
section
theorem aaM(s:ByteArray)(w:World):
  Calls prog 77 #[.string s] w fun e w'=>e=.returned (ax w.heap.size)∧ay w' w.heap.size (kZ s 0) 199∧Below w.heap.size w w':=by
 go_enter func77,ntmps77
 go_wp2_with fail
 exact bodyPost_ret (v:=ax w.heap.size) (by simp[results,results77,go_sem]) rfl ⟨rfl,bJ w _ _,aQ.alloc aH _⟩
theorem QC(es:List PE)(nt:Int)(s:ByteArray):∀(f:Nat) (tk:Int) (dc:List Int) (st:List PB) (kn:Inf) (a:Nat) (E:Int×Int),defP es nt s f tk dc st kn a=.inr E→E.1≠0
 |0,tk,dc,st,kn,a,E,h=>by rw[defP]at h;cases h;decide
 |f+1,tk,dc,[],kn,a,E,h=>by rw[defP]at h;cases h
 |f+1,tk,dc,b :: r,kn,a,E,h=>by
  rw[defP]at h;obtain⟨T,hT⟩:=ak (stepP es nt (tk+1) dc (b :: r) kn (nx s a).1);rw[←hT]at h
  by_cases h0:T.1=0
  ·rw[aG h0]at h;exact QC es nt s f _ _ _ _ _ E h
  ·rw[az h0]at h;cases h;exact h0
structure jP (es:List PE) (nv nt:Int) (code:List Int):Prop where
 l:es.length≤40
 w:∀x∈es,x.inf.Wt 1
 s:∀x∈es,x.inf.Sm
 v0:0≤nv
 v1:nv≤16
 t0:0≤nt
 t1:nt≤400
 c:(code.length:Int)≤2*nt
theorem jP.var{a:Nat}(h:jP es nv nt code):jP (ny es nv s a).2.1 (ny es nv s a).2.2 nt code:=by
 unfold ny
 split
 ·rename_i hf
  split
  ·exact h
  ·rename_i hv
   have hl:es.length≠40:=by
    exact RV
   have key:∀(P:Inf→Prop),P Inf.zero→(∀x∈es,P x.inf)→∀x∈es++[⟨(nx s a).1,true,nv,Inf.zero⟩],P x.inf:=fun P p0 p1 x hx=>by
    rcases List.mem_append.1 hx with hx|hx
    ·exact p1 x hx
    ·rw[p6.1 hx];exact p0
   exact⟨by have:=h.l;simp;omega,key (fun i=>i.Wt 1) (Inf.Sm.zero.wt aj) h.w,key (fun i=>i.Sm) Inf.Sm.zero h.s,by have:=h.v0;simp only;omega,by have:=h.v1;simp only;omega,h.t0,h.t1,h.c⟩
 ·exact h
theorem jP.word{a:Nat}(ha:a≤s.size)(h:jP es nv nt code):jP (wordP es nt code s a).2.1 nv (wordP es nt code s a).2.2.1 (wordP es nt code s a).2.2.2.1∧((wordP es nt code s a).1.1=0→a≤(wordP es nt code s a).2.2.2.2):=by
 obtain⟨m1,m2,m3,m4⟩:=tG s (s.size - a) a ha;unfold wordP
 split
 ·rename_i hf
  have hl:es.length≠40:=by
   exact RV
  cases hd:defP es nt s (s.size+2) 2 code [PB.first] Inf.zero (nx s a).2.2 with
  |inr E=>exact⟨h,fun e=>absurd e (QC es nt s _ _ _ _ _ _ E hd)⟩
  |inl D=>
   obtain⟨dc,kn,tk,a'⟩:=D;simp only;obtain⟨k1,k2,k3,k4,k5,k6,k7⟩:=Mp es h.s nt s _ 2 code [PB.first] Inf.zero (nx s a).2.2 (fun b hb=>by rw[p6.1 hb];exact PB.Sm.z _ rfl Inf.Sm.zero (Int.le_refl _)) (fun e=>absurd e (List.cons_ne_nil _ _)) m3 dc kn tk a' hd
   have key:∀(P:Inf→Prop),P kn→(∀x∈es,P x.inf)→∀x∈es++[⟨(nx s a).1,false,code.length,kn⟩],P x.inf:=fun P p0 p1 x hx=>by
    rcases List.mem_append.1 hx with hx|hx
    ·exact p1 x hx
    ·rw[p6.1 hx];exact p0
   have:=h.t0;have:=h.c;exact⟨⟨by have:=h.l;simp;omega,key (fun i=>i.Wt 1) k1 h.w,key (fun i=>i.Sm) k2 h.s,h.v0,h.v1,ag,ag,ag⟩,fun _=>bB m2 k6⟩
 ·rename_i hf
  exact⟨h,fun e=>absurd e hf⟩
def loadP(s:ByteArray):Nat→Nat→List PE→Int→Int→List Int→(Int×Int)×List PE×Int×Int×List Int
 |0,_,es,nv,nt,code=>((99,0),es,nv,nt,code)
 |f+1,a,es,nv,nt,code=>
  if((nx s a).1.toList == [])=true then((0,0),es,nv,nt,code)
  else if((nx s a).1.toList == [118,97,114,105,97,98,108,101])=true then
   if(ny es nv s (nx s a).2.2).1.1=0 then loadP s f (nx s (nx s a).2.2).2.2 (ny es nv s (nx s a).2.2).2.1 (ny es nv s (nx s a).2.2).2.2 nt code
   else((ny es nv s (nx s a).2.2).1,(ny es nv s (nx s a).2.2).2.1,(ny es nv s (nx s a).2.2).2.2,nt,code)
  else if((nx s a).1.toList == [58])=true then
   if(wordP es nt code s (nx s a).2.2).1.1=0 then loadP s f (wordP es nt code s (nx s a).2.2).2.2.2.2 (wordP es nt code s (nx s a).2.2).2.1 nv (wordP es nt code s (nx s a).2.2).2.2.1 (wordP es nt code s (nx s a).2.2).2.2.2.1
   else((wordP es nt code s (nx s a).2.2).1,(wordP es nt code s (nx s a).2.2).2.1,nv,(wordP es nt code s (nx s a).2.2).2.2.1,(wordP es nt code s (nx s a).2.2).2.2.2.1)
  else((3,((nx s a).2.1:Int)),es,nv,nt,code)
def ug(s:ByteArray)(es:List PE)(nv nt:Int)(code:List Int):(Int×Int)×List PE×Int×Int×List Int:=
 match badF s s.size 0 with
 |some k=>((2,(k:Int)),es,nv,nt,code)
 |none=>loadP s (s.size+1) 0 es nv nt code
def NK(w:World)(bb:Nat)(ev cv:Value)(R:(Int×Int)×List PE×Int×Int×List Int)(e:Ending)(w':World):Prop:=
 e=.returned (.tuple #[ae R.1.1,ae R.1.2])∧(∃cT cv',dF w' bb cT cv' R.2.1 R.2.2.1 R.2.2.2.1 R.2.2.2.2∧cQ w'∧Lc w ev cT∧Lc w cv cv')∧jP R.2.1 R.2.2.1 R.2.2.2.1 R.2.2.2.2∧aq (fun k=>k=bb∨ev.ownBlock=some k∨cv.ownBlock=some k) w w'
theorem aba(s:ByteArray)(h:dF w bb ev cv es nv nt code)(ht:cQ w)(hs:s.size≤1100000)(hi:jP es nv nt code):
  Calls prog 52 #[ax bb,.string s] w (NK w bb ev cv (ug s es nv nt code)):=by
 obtain⟨R,hR⟩:=ak (ug s es nv nt code);rw[←hR];unfold ug at hR;have HB:=af (aaj s w ag);have HP:=af h;have HT:=af ht;have HI:=af hi;clear h ht hi
 cases hbad:badF s s.size 0 with
 |some k=>
  rw[hbad]at hR;simp only at hR;rw[hbad]at HB;subst hR;clear hbad;go_enter func52,ntmps52;go_wp2_with fail;refine HB.mono ?_;rintro e w1 ⟨rfl,hb1⟩;simp only[badRes];go_wp2_with fail;exact bodyPost_ret (v:=.tuple #[ae 2,ae k]) Am rfl ⟨rfl,⟨_,_,HP.below hb1,HT.below hb1,Lc.refl _ _,Lc.refl _ _⟩,HI,aq.bf hb1⟩
 |none=>
  rw[hbad]at hR;simp only at hR;rw[hbad]at HB;have HR:=af hR;clear hbad hR;go_enter func52,ntmps52;go_wp2_with fail;refine HB.mono ?_;rintro e w1 ⟨rfl,hb1⟩;simp only[badRes];have H2:=af (aaM s w1);have HB1:=af hb1;clear HB hb1;go_wp2_with fail;refine H2.mono ?_;rintro e w2 ⟨rfl,hb2,hc2⟩;obtain⟨rb,hrb⟩:=ak (w1.heap.size);rw[←hrb]at hb2 ⊢;have sF:w.heap.size≤rb:=by rw[hrb];exact HB1.size
  have hru:3≤rb:=by have:=HT.lt;omega
  have JH:=af (BS.mk ((HP.below HB1).below hc2) ((HT.below HB1).below hc2) hb2 hru);have HC0:=af ((aq.bf HB1.out:aq (fun k=>k=bb∨ev.ownBlock=some k∨cv.ownBlock=some k) w w1).trans (aq.bf hc2));clear H2 hb2 hc2 hrb HP HT;go_wp2_with fail;go_loopw[9] (fun _ wr=>∃(a f:Nat) (es':List PE) (dZ iL:Int) (code':List Int) (cT cv':Value),BS wr bb rb cT cv' es' dZ iL code' s a∧Hid (R=loadP s f a es' dZ iL code')∧Hid (jP es' dZ iL code'∧a≤s.size∧s.size - a+1≤f∧Lc w ev cT∧Lc w cv cv')∧aq (fun k=>k=bb∨ev.ownBlock=some k∨cv.ownBlock=some k) w wr) (fun _ wr=>s.size - lY wr rb)
  case atStart=>exact⟨0,s.size+1,es,nv,nt,code,ev,cv,JH,HR,⟨HI,bU _,ag,Lc.refl _ _,Lc.refl _ _⟩,HC0⟩
  case round=>
   clear JH HC0 HR HB1 HI;obtain⟨a,f,es',dZ,iL,code',cT,cv',fU,HRR,HJ,hc⟩:=hrel;obtain⟨j1,j2,j3,j4,j5⟩:=HJ.out;obtain⟨m1,m2,m3,m4⟩:=tG s (s.size - a) a j2;have hmv:=fun hne=>Ep s (s.size - a) a j2 hne
   have hN:=af (B0 rb s a wr j2 ag fU.rd);obtain⟨x,hx⟩:=ak (nextF s (s.size - a) a);have hxx:nx s a=x:=hx.symm;rw[←hx]at hN m1 m2 m3 m4 hmv;obtain⟨t,pl,b⟩:=x;simp only at hN m1 m2 m3 m4 hmv;obtain⟨f',rfl⟩:∃f',f=f'+1:=⟨f - 1,ag⟩;have hrr:=HRR.out;rw[loadP,hxx]at hrr;simp only at hrr;have hat:lY wr rb=a:=by unfold lY;rw[show wr.cell? (ai rb 1)=some (ae a)from fU.rd.cell 1 _ rfl];simp
   have kI:=af fU;have HRF:=af hrr;have HMV:=af hmv;have gU:=af hat;have HM:=af (aY m1 (aY m2 (aY m3 m4)));have HC:=af hc;clear fU hrr hx hxx hmv hat m1 m2 m3 m4 j1 j2 j3 j4 j5 HRR hc;go_wp2_with fail;refine hN.mono ?_;rintro e w4 ⟨rfl,hb4,hc4⟩;have Ra:=kI.next hb4 hc4;have J9:=Ra.below (aQ.alloc aH (.cells #[.string t,ae pl] 163 (0,0)));have dI:=af J9;have jK:=af ((HC.fz hc4 (fun k hk e=>ag)).alloc (.cells #[.string t,ae pl] 163 (0,0)));have hbl:b≤s.size:=HM.out.2.2.1;have hk5:=bJ w4 #[.string t,ae pl] 163;obtain⟨W,hW⟩:=ak (w4.alloc (.cells #[.string t,ae pl] 163 (0,0)));rw[←hW]at dI jK hk5;have p0:W.cell? (ai w4.heap.size 0)=some (.string t):=hk5.cell 0 _ rfl;have p1:W.cell? (ai w4.heap.size 1)=some (ae pl):=hk5.cell 1 _ rfl;have hwl:=hk5.lt;clear hb4 hc4 Ra J9 kI HC hN hk5
   by_cases g1:(t.toList == [])=true
   ·have hRe:R=((0,0),es',dZ,iL,code'):=by have:=HRF.out;rw[aG g1]at this;exact this
    have ee:=af hRe;clear hRe;go_wp2_with fail;rw[←hW,ee.out];obtain⟨j1,j2,j3,j4,j5⟩:=HJ.out;exact bodyPost_ret (v:=.tuple #[ae 0,ae 0]) Am rfl ⟨rfl,⟨_,_,dI.sys,dI.tab,j4,j5⟩,j1,jK⟩
   have g1':(t.toList == [])=false:=by simpa using g1
   have HG1:=af g1;clear g1
   by_cases g2:(t.toList == [118,97,114,105,97,98,108,101])=true
   ·have hr2:=HRF.out
    rw[az HG1.out,aG g2]at hr2;have lr:=af hr2;clear hr2 HRF;go_wp2_with fail;rw[←hW];have hv:=Yh dI hbl ag (by have:=HJ.out.1.l;omega) HJ.out.1.v0 HJ.out.1.v1;have hvi:=HJ.out.1.var (s:=s) (a:=b);obtain⟨m1,m2,m3,m4⟩:=tG s (s.size - b) b hbl;have kq:=lr.out;obtain⟨V,hV⟩:=ak (ny es' dZ s b);rw[←hV]at hv hvi kq;obtain⟨⟨r,q⟩,es6,nv6⟩:=V;refine hv.mono ?_;rintro e w6 ⟨rfl,⟨ev6,kL,hl6⟩,kU⟩;simp only at kL hvi kq ⊢;obtain⟨j1,j2,j3,j4,j5⟩:=HJ.out;have hch:=jK.fz kU (fun k hk e=>e.elim (fun e=>ag) (fun e=>e.elim aC (fun e=>(j4 k e).elim (fun e=>aA (aC e)) (fun e=>ag))));have hlc:Lc w ev ev6:=j4.trans (hl6.mono jK.size);have gD:=af kL;have HVI:=af hvi;have HRR:=af kq;have nJ:=af hch;have iR:=af hlc;have HNM:=af (aY m2 m3);clear hv hV kL hl6 kU hvi kq hch hlc j1 j2 j3 j4 j5 m1 m2 m3 m4 lr dI jK p0 p1 hW hwl
    by_cases h0:r=0
    ·subst h0
     go_wp2_with fail
     go_roundw
     case rel=>
      have kq:=HRR.out;rw[aG rfl]at kq;obtain⟨j1,j2,j3,j4,j5⟩:=HJ.out;have hlt:=HMV.out g1';obtain⟨m2,m3⟩:=HNM.out;exact⟨_,f',es6,nv6,iL,code',ev6,cv',gD,af kq,⟨HVI,m3,by unfold nx;omega,iR,j5⟩,nJ⟩
     case measure=>
      have hlt:=HMV.out g1';obtain⟨m2,m3⟩:=HNM.out;obtain⟨j1,j2,j3,j4,j5⟩:=HJ.out;have e1:lY w6 rb=(nx s b).2.2:=by unfold lY;rw[show w6.cell? (ai rb 1)=some (ae ((nx s b).2.2:Nat))from gD.rd.cell 1 _ rfl];simp
      rw[e1,gU.out];unfold nx;omega
    ·have h0':(r == 0)=false:=by simpa using h0
     have h0n:(r != 0)=true:=xI;have HR0:=af h0;clear h0;have hRe:R=((r,q),es6,nv6,iL,code'):=MD;have ee:=af hRe;clear hRe;go_wp2_with fail;rw[ee.out];exact bodyPost_ret (v:=.tuple #[ae r,ae q]) Am rfl ⟨rfl,⟨_,_,gD.sys,gD.tab,iR,HJ.out.2.2.2.2⟩,HVI,nJ⟩
   have g2':(t.toList == [118,97,114,105,97,98,108,101])=false:=by simpa using g2
   have HG2:=af g2;clear g2
   by_cases g3:(t.toList == [58])=true
   ·have hr2:=HRF.out
    rw[az HG1.out,az HG2.out,aG g3]at hr2;have lr:=af hr2;clear hr2 HRF;go_wp2_with fail;rw[←hW];have hv:=VL dI hbl ag (by have:=HJ.out.1.l;omega) HJ.out.1.w HJ.out.1.t0 (by have:=HJ.out.1.t1;omega) (by have:=HJ.out.1.t1;have:=HJ.out.1.c;omega);have hvi:=HJ.out.1.word (s:=s) (a:=b) hbl;have kq:=lr.out;obtain⟨V,hV⟩:=ak (wordP es' iL code' s b);rw[←hV]at hv hvi kq;obtain⟨⟨r,q⟩,es6,nt6,Ke,a6⟩:=V;refine hv.mono ?_;rintro e w6 ⟨rfl,⟨ev6,cv6,b6,kL,hs6,ha6,hl6,hl7⟩,kU⟩;simp only at kL hvi kq ha6 ⊢;obtain⟨j1,j2,j3,j4,j5⟩:=HJ.out;have hch:=jK.fz kU (fun k hk e=>e.elim (fun e=>ag) (fun e=>e.elim aC (fun e=>e.elim (fun e=>(j4 k e).elim (fun e=>aA (aC e)) (fun e=>ag)) (fun e=>(j5 k e).elim (fun e=>aA (aA e)) (fun e=>ag)))));have hlc:Lc w ev ev6:=j4.trans (hl6.mono jK.size);have sS:Lc w cv cv6:=j5.trans (hl7.mono jK.size);have gD:=af kL;have HVI:=af hvi;have HRR:=af kq;have nJ:=af hch;have iR:=af hlc;have gi:=af sS;have HA6:=af ha6;have HS6:=af hs6;clear hv hV kL hl6 hl7 kU hvi kq hch hlc sS ha6 hs6 j1 j2 j3 j4 j5 lr dI jK p0 p1 hW hwl
    by_cases h0:r=0
    ·subst h0
     go_wp2_with fail
     go_roundw
     case rel=>
      have kq:=HRR.out;rw[aG rfl]at kq;obtain⟨j1,j2,j3,j4,j5⟩:=HJ.out;have hlt:=HMV.out g1';have e6:=HA6.out rfl;have hs6:=HS6.out;have hge:=HVI.out.2 rfl;subst e6;exact⟨_,f',es6,dZ,nt6,Ke,ev6,cv6,gD,af kq,⟨HVI.out.1,hs6,ag,iR,gi⟩,nJ⟩
     case measure=>
      have hlt:=HMV.out g1';obtain⟨j1,j2,j3,j4,j5⟩:=HJ.out;have e6:=HA6.out rfl;have hs6:=HS6.out;have hge:=HVI.out.2 rfl;have e1:lY w6 rb=b6:=by unfold lY;rw[show w6.cell? (ai rb 1)=some (ae (b6:Nat))from gD.rd.cell 1 _ rfl];simp
      rw[e1,gU.out];omega
    ·have h0':(r == 0)=false:=by simpa using h0
     have h0n:(r != 0)=true:=xI;have HR0:=af h0;clear h0;have hRe:R=((r,q),es6,dZ,nt6,Ke):=MD;have ee:=af hRe;clear hRe;go_wp2_with fail;rw[ee.out];exact bodyPost_ret (v:=.tuple #[ae r,ae q]) Am rfl ⟨rfl,⟨_,_,gD.sys,gD.tab,iR,gi⟩,HVI.out.1,nJ⟩
   have g3':(t.toList == [58])=false:=by simpa using g3
   have HG3:=af g3;clear g3;have hRe:R=((3,(pl:Int)),es',dZ,iL,code'):=by have:=HRF.out;rw[az HG1.out,az HG2.out,az HG3.out]at this;exact this
   have ee:=af hRe;clear hRe;go_wp2_with fail;rw[←hW];go_quiet (fail);go_wp2_with fail;rw[ee.out,←hW];have ct:Below W.heap.size W (W.drewN nq):=dz;obtain⟨j1,j2,j3,j4,j5⟩:=HJ.out;exact bodyPost_ret (v:=.tuple #[ae 3,ae pl]) Am rfl ⟨rfl,⟨_,_,dI.sys.below ct,dI.tab.below ct,j4,j5⟩,j1,jK.trans (aq.bf ct)⟩
end
section
theorem jP.zero:jP [] 0 0 []:=⟨aF,aF,aF,ag,ag,ag,ag,aF⟩
theorem Uy(w:World)(ht:cQ w):
  Calls prog 23 #[] w fun e w'=>∃bb,w.heap.size≤bb∧e=.returned (ax bb)∧dF w' bb aI aI [] 0 0 []∧Below w.heap.size w w':=by
 have HT:=af ht;clear ht;go_enter func23,ntmps23;go_wp2_with fail;exact bodyPost_ret (v:=ax w.heap.size) (by simp[results,results23,go_sem]) rfl ⟨_,aH,rfl,⟨bJ w _ _,⟨rfl,aC ⟨rfl,rfl⟩⟩,⟨rfl,aC ⟨rfl,rfl⟩⟩,HT.lt⟩,aQ.alloc aH _⟩
theorem Nh(bb:Nat)(w:World):Calls prog 41 #[ax bb] w fun e w'=>e=.returned (ax bb)∧w'=w:=by
 go_enter func41,ntmps41
 go_wp2_with fail
 go_ret
 exact⟨rfl,rfl⟩
theorem acd(s:ByteArray)(h:dF w bb ev cv es nv nt code)(ht:cQ w)(hs:s.size≤1100000)(hi:jP es nv nt code):
  Calls prog 24 #[ax bb,.string s] w (NK w bb ev cv (ug s es nv nt code)):=by
 have H:=af (aba s h ht hs hi);obtain⟨R,hR⟩:=ak (ug s es nv nt code);rw[←hR]at H ⊢;have hb:=h.blk.lt;obtain⟨⟨r,q⟩,es',dZ,iL,code'⟩:=R;clear h ht hi hR;go_enter func24,ntmps24;go_wp2_with fail;refine(Nh bb _).mono ?_;rintro e w' ⟨rfl,rfl⟩;go_wp2_with fail;refine H.mono ?_;rintro e w' ⟨rfl,h2⟩;have H2:=af h2;clear H h2;go_wp2_with fail;exact bodyPost_ret (v:=.tuple #[ae r,ae q]) (by simp[results,results24,go_sem]) rfl ⟨rfl,H2⟩
theorem ace(s:ByteArray)(h:dF w bb ev cv es nv nt code)(hl:es.length≤1000):
  Calls prog 18 #[ax bb,.string s] w fun e w'=>e=.returned (findRes (lastP es s es.length))∧Below w.heap.size w w':=by
 have HL:=af (fun w' hb=>Y6 s (h.below (w':=w') hb) hl);have hb:=h.blk.lt;obtain⟨R,hR⟩:=ak (lastP es s es.length);rw[←hR]at HL ⊢;clear h hR
 obtain⟨a1,a2,a3,a4,a5,f,hl1⟩:∃(a1 a2 a3 a4:Int) (a5:Bool) (f:Int),findRes R=.tuple #[.agg #[ae a1,ae a2,ae a3,ae a4,.bool a5],ae f]:=by
  rcases R with _|⟨n,v,p,i⟩
  ·exact⟨_,_,_,_,_,_,rfl⟩
  ·cases v
   ·exact⟨_,_,_,_,_,_,rfl⟩
   ·exact⟨_,_,_,_,_,_,rfl⟩
 rw[hl1]at HL ⊢;clear hl1;go_enter func18,ntmps18;go_wp2_with fail;have hb0:Below w.heap.size w (w.alloc (.cells bR 36 (0,0))):=aQ.alloc aH _;have hk0:=bJ w bR 36;refine(Nh bb _).mono ?_;rintro e w' ⟨rfl,rfl⟩;go_wp2_with fail;refine(HL _ hb0).mono ?_;rintro e w1 ⟨rfl,hb1⟩;have bA:=hk0.sub hb1 aF;have j9:=bA.lt;have ct:Below w.heap.size w w1:=hb0.trans (hb1.mono aF);have bu:=af ct;have ft:=af bA;clear hb0 hk0 hb1 bA ct HL;obtain⟨g0,g1,g2,g3,g4⟩:=ft.free;obtain⟨z0,z1,z2,z3,z4⟩:=ft.zero;go_wp2_with fail;refine bodyPost_ret (v:=.tuple #[.agg #[ae a1,ae a2,ae a3,ae a4,.bool a5],ae f]) (by simp[results,results18,go_sem,z0,z1,z2,z3,z4,j9]) rfl ⟨rfl,?_⟩;exact((((bu.setCell aH _).setCell aH _).setCell aH _).setCell aH _).setCell aH _
end
end Go.Proofs.YtcphhbofjkenaaaGreatDoor
