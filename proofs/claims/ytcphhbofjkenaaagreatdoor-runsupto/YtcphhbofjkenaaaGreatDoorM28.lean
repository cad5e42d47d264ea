import Derived.Test.YtcphhbofjkenaaaGreatDoorM26
import Derived.Test.YtcphhbofjkenaaaGreatDoorM27
namespace Go.Proofs.YtcphhbofjkenaaaGreatDoor
open Go Go.RowKit
set_option linter.unusedVariables false
set_option linter.unusedSimpArgs false
set_option maxRecDepth 100000
set_option maxHeartbeats 16000000
section
structure Inf.Sm (i:Inf):Prop where
 s0:0≤i.steps
 s1:i.steps≤1000000001
 h0:0≤i.high
 big:1000000000<i.steps∨(-4*i.steps≤i.need∧i.need≤4*i.steps∧ -4*i.steps≤i.bu∧i.bu≤4*i.steps∧i.high≤4*i.steps)
theorem Inf.Sm.wt{i:Inf}(h:i.Sm)(hs:i.steps≤1000000000):i.Wt 1:=by
 obtain⟨a,b,c,d⟩:=h
 constructor<;>omega
theorem Inf.Sm.zero:Inf.zero.Sm:=by constructor<;>simp[Inf.zero]
theorem Inf.Sm.then{a b:Inf}(ha:a.Sm)(hb:b.Sm):(a.then b).Sm:=by
 obtain⟨a1,a2,a3,a4⟩:=ha;obtain⟨b1,b2,b3,b4⟩:=hb
 constructor<;>simp only[Inf.then]<;>omega
theorem Inf.Sm.yt{a b:Inf}(ha:a.Sm)(hb:b.Sm):(a.yt b).Sm:=by
 obtain⟨a1,a2,a3,a4⟩:=ha;obtain⟨b1,b2,b3,b4⟩:=hb
 constructor<;>simp only[Inf.yt]<;>omega
theorem Inf.Sm.eU{a:Inf}{n:Int}(ha:a.Sm)(h0:0≤n):(a.eU n).Sm:=by
 obtain⟨a1,a2,a3,a4⟩:=ha;unfold Inf.eU
 split
 ·constructor<;>simp
 ·rename_i hn
  have hp:a.steps*1≤a.steps*n:=Int.mul_le_mul_of_nonneg_left (by omega) a1
  constructor<;>simp only<;>omega
theorem jT(k:Nat)(h:k<35):(ai k).Sm:=by
 obtain⟨a,b,c,d⟩:=qL k h
 constructor<;>simp only[ai]<;>omega
theorem PE.abu{x:PE}(h:x.inf.Sm):x.use.Sm:=by
 unfold PE.use
 split
 ·exact jT 28 (by omega)
 ·exact(jT 33 (by omega)).then h
structure PB.Sm (b:PB):Prop where
 d:b.does.Sm
 o:b.other.Sm
 t:0≤b.times
theorem PB.Sm.add{b:PB}{i:Inf}(h:b.Sm)(hi:i.Sm):(b.add i).Sm:=⟨h.d.then hi,h.o,h.t⟩
theorem PB.Sm.z(b:PB)(hd:b.does=Inf.zero)(ho:b.other.Sm)(ht:0≤b.times):b.Sm:=⟨by rw[hd];exact Inf.Sm.zero,ho,ht⟩
theorem X4(es:List PE)(hes:∀x∈es,x.inf.Sm)(nt tk:Int)(dc:List Int)(st:List PB)(kn:Inf)(s:ByteArray)(hst:∀b∈st,b.Sm)
  (R:SR) (hR:aT es nt tk dc st kn s=R) (h0:R.1=0):(∀b∈R.2.2.1,b.Sm)∧(R.2.2.1=[]→R.2.2.2.Wt 1∧R.2.2.2.Sm∧nt+tk≤400)∧R.2.1.length≤dc.length+2:=by
 cases st with
 |nil=>
  subst hR;exact absurd h0 (by simp[aT])
 |cons b r=>
  have hb:=hst b (List.mem_cons_self ..);have hr:∀c∈r,c.Sm:=fun c hc=>hst c (List.mem_cons_of_mem _ hc)
  have two:∀{x y:PB} {l:List PB},x.Sm→y.Sm→(∀c∈l,c.Sm)→∀c∈x :: y :: l,c.Sm:=fun hx hy hl c hc=>by
   rcases List.mem_cons.1 hc with rfl|hc
   ·exact hx
   ·rcases List.mem_cons.1 hc with rfl|hc
    ·exact hy
    ·exact hl c hc
  have one:∀{x:PB} {l:List PB},x.Sm→(∀c∈l,c.Sm)→∀c∈x :: l,c.Sm:=fun hx hl c hc=>by
   rcases List.mem_cons.1 hc with rfl|hc
   ·exact hx
   ·exact hl c hc
  unfold aT at hR;simp only at hR;have bad:∀(E:Int),E≠0→R=(E,dc,b :: r,kn)→False:=fun E hE e=>hE (by rw[e]at h0;exact h0)
  by_cases g0:(s.toList == [])=true
  ·rw[if_pos g0]at hR;exact(bad 5 (by decide) hR.symm).elim
  rw[if_neg g0]at hR
  by_cases g1:(s.toList == [58])=true
  ·rw[if_pos g1]at hR;exact(bad 5 (by decide) hR.symm).elim
  rw[if_neg g1]at hR
  by_cases g2:(s.toList == [118,97,114,105,97,98,108,101])=true
  ·rw[if_pos g2]at hR;exact(bad 5 (by decide) hR.symm).elim
  rw[if_neg g2]at hR
  by_cases g3:(s.toList == [59])=true
  ·rw[if_pos g3]at hR
   by_cases ho:b.opener=34
   ·rw[if_pos ho]at hR
    subst hR;have hs:=hb.d.then (jT 34 (by omega));simp only[jy]at h0
    by_cases q1:1000000000<(b.does.then (ai 34)).steps
    ·rw[if_pos q1]at h0;exact absurd h0 (by decide)
    rw[if_neg q1]at h0
    by_cases q2:400<nt+tk
    ·rw[if_pos q2]at h0;exact absurd h0 (by decide)
    exact⟨fun c hc=>(List.not_mem_nil hc).elim,fun _=>⟨hs.wt (by omega),hs,by omega⟩,by simp⟩
   ·rw[if_neg ho]at hR;exact(bad 5 (by decide) hR.symm).elim
  rw[if_neg g3]at hR
  by_cases g4:(s.toList == [105,102])=true
  ·rw[if_pos g4]at hR
   subst hR;exact⟨two (PB.Sm.z _ rfl Inf.Sm.zero (Int.le_refl _)) (hb.add (jT 29 (by omega))) hr,fun e=>absurd e (List.cons_ne_nil _ _),by simp⟩
  rw[if_neg g4]at hR
  by_cases g5:(s.toList == [101,108,115,101])=true
  ·rw[if_pos g5]at hR
   by_cases ho:b.opener=29
   ·rw[if_pos ho]at hR
    cases r with
    |nil=>exact(bad 5 (by decide) hR.symm).elim
    |cons c r'=>
     simp only at hR;subst hR;exact⟨two (PB.Sm.z _ rfl (hb.d.then (jT 30 (by omega))) (Int.le_refl _)) (hr c (List.mem_cons_self ..)) (fun x hx=>hr x (List.mem_cons_of_mem _ hx)),fun e=>absurd e (List.cons_ne_nil _ _),by simp⟩
   ·rw[if_neg ho]at hR;exact(bad 5 (by decide) hR.symm).elim
  rw[if_neg g5]at hR
  by_cases g6:(s.toList == [116,104,101,110])=true
  ·rw[if_pos g6]at hR
   by_cases ho:b.opener=29∨b.opener=30
   ·rw[if_pos ho]at hR
    by_cases hn:b.does.bu=b.other.bu
    ·rw[if_pos hn]at hR
     cases r with
     |nil=>exact(bad 5 (by decide) hR.symm).elim
     |cons c r'=>
      simp only at hR;subst hR;exact⟨one ((hr c (List.mem_cons_self ..)).add (hb.d.yt hb.o)) (fun x hx=>hr x (List.mem_cons_of_mem _ hx)),fun e=>absurd e (List.cons_ne_nil _ _),by simp⟩
    ·rw[if_neg hn]at hR;exact(bad 6 (by decide) hR.symm).elim
   ·rw[if_neg ho]at hR;exact(bad 5 (by decide) hR.symm).elim
  rw[if_neg g6]at hR
  by_cases g7:(s.toList == [100,111])=true
  ·rw[if_pos g7]at hR
   by_cases q1:b.numbers<2
   ·rw[if_pos q1]at hR;exact(bad 5 (by decide) hR.symm).elim
   rw[if_neg q1]at hR
   by_cases q2:1000<max 0 (b.a0 - b.a1)
   ·rw[if_pos q2]at hR;exact(bad 7 (by decide) hR.symm).elim
   rw[if_neg q2]at hR;subst hR;exact⟨two (PB.Sm.z _ rfl Inf.Sm.zero (Int.le_max_left _ _)) (hb.add (jT 31 (by omega))) hr,fun e=>absurd e (List.cons_ne_nil _ _),by simp⟩
  rw[if_neg g7]at hR
  by_cases g8:(s.toList == [108,111,111,112])=true
  ·rw[if_pos g8]at hR
   by_cases ho:b.opener=31
   ·rw[if_pos ho]at hR
    by_cases hn:b.does.bu=0
    ·rw[if_pos hn]at hR
     cases r with
     |nil=>exact(bad 5 (by decide) hR.symm).elim
     |cons c r'=>
      simp only at hR;subst hR;exact⟨one ((hr c (List.mem_cons_self ..)).add ((hb.d.then (jT 32 (by omega))).eU hb.t)) (fun x hx=>hr x (List.mem_cons_of_mem _ hx)),fun e=>absurd e (List.cons_ne_nil _ _),by simp⟩
    ·rw[if_neg hn]at hR;exact(bad 6 (by decide) hR.symm).elim
   ·rw[if_neg ho]at hR;exact(bad 5 (by decide) hR.symm).elim
  rw[if_neg g8]at hR
  by_cases g9:(je s).2=true
  ·rw[if_pos g9]at hR
   subst hR;have hx:=hb.add (jT 28 (by omega));exact⟨one ⟨hx.d,hx.o,hx.t⟩ hr,fun e=>absurd e (List.cons_ne_nil _ _),by simp⟩
  rw[if_neg g9]at hR;unfold pX at hR
  cases hlp:eH es s es.length with
  |some x=>
   rw[hlp]at hR;simp only at hR;subst hR;exact⟨one (hb.add (PE.abu (hes x (rG es s _ x nrq hlp)))) hr,fun e=>absurd e (List.cons_ne_nil _ _),by simp⟩
  |none=>
   rw[hlp]at hR;simp only at hR
   cases hop:fP s with
   |none=>
    rw[hop]at hR;exact(bad 3 (by decide) hR.symm).elim
   |some k=>
    rw[hop]at hR;simp only at hR
    by_cases q:k=27∧b.lF=false
    ·rw[if_pos q]at hR;exact(bad 5 (by decide) hR.symm).elim
    ·rw[if_neg q]at hR
     subst hR;exact⟨one (hb.add (jT k (rF hop))) hr,fun e=>absurd e (List.cons_ne_nil _ _),by simp⟩
theorem Ot(es:List PE)(hes:∀x∈es,x.inf.Sm)(nt:Int)(s:ByteArray):∀(f:Nat) (tk:Int) (dc:List Int) (st:List PB) (kn:Inf) (a:Nat),(∀b∈st,b.Sm)→(st=[]→kn.Wt 1∧kn.Sm∧nt+tk≤400)→a≤s.size→
  ∀ql Ir BQ a',jZ es nt s f tk dc st kn a=.inl (ql,Ir,BQ,a')→Ir.Wt 1∧Ir.Sm∧nt+BQ≤400∧tk≤BQ∧(ql.length:Int)≤dc.length+2*(BQ - tk)∧a≤a'∧a'≤s.size
 |0,tk,dc,st,kn,a,h1,h2,h3,ql,Ir,BQ,a',h=>by rw[jZ]at h;cases h
 |f+1,tk,dc,[],kn,a,h1,h2,h3,ql,Ir,BQ,a',h=>by
  rw[jZ]at h
  cases h
  obtain⟨i1,i2,i3⟩:=h2 rfl;exact⟨i1,i2,i3,Int.le_refl _,by omega,nrq,h3⟩
 |f+1,tk,dc,b :: r,kn,a,h1,h2,h3,ql,Ir,BQ,a',h=>by
  rw[jZ]at h;obtain⟨m1,m2,m3,m4⟩:=jk s (s.size - a) a h3;obtain⟨T,hT⟩:=exq (aT es nt (tk+1) dc (b :: r) kn (nx s a).1);rw[←hT]at h
  by_cases h0:T.1=0
  ·rw[if_pos h0]at h
   obtain⟨k1,k2,k3⟩:=X4 es hes nt (tk+1) dc (b :: r) kn (nx s a).1 h1 T hT.symm h0;obtain⟨j1,j2,j3,j4,j5,j6,j7⟩:=Ot es hes nt s f (tk+1) T.2.1 T.2.2.1 T.2.2.2 (nx s a).2.2 k1 k2 m3 ql Ir BQ a' h;exact⟨j1,j2,j3,by omega,by omega,by unfold nx at j6;omega,j7⟩
  ·rw[if_neg h0]at h
   cases h
end
section
open Go
theorem X5{es:List PE}{ws:List RW}(h:es.map PE.name=ws.map RW.name)(k:Nat):nameAt ws k=(es.getD k PE.zero).name:=by
 unfold nameAt;rw[←h,List.getD_eq_getElem?_getD,List.getD_eq_getElem?_getD,List.getElem?_map]
 cases es[k]?<;>rfl
theorem D6{es:List PE}{ws:List RW}(h:es.map PE.name=ws.map RW.name)(s:ByteArray):∀n,eH es s n=if 0≤kY (nameAt ws) s n then some (es.getD (kY (nameAt ws) s n).toNat PE.zero)else none
 |0=>by simp[eH,kY]
 |n+1=>by
  unfold eH kY;rw[X5 h n]
  by_cases hc:((es.getD n PE.zero).name.toList == s.toList)=true
  ·rw[if_pos hc,if_pos hc,if_pos (by omega)]
   simp
  ·rw[if_neg hc,if_neg hc]
   exact D6 h s n
theorem AX{es:List PE}{ws:List RW}(h:es.map PE.name=ws.map RW.name)(s:ByteArray):eH es s es.length=if 0≤dB ws s then some (es.getD (dB ws s).toNat PE.zero)else none:=by
 have hl:es.length=ws.length:=by have:=congrArg List.length h;simpa using this
 rw[hl];exact D6 h s _
end
section
structure Inf.Nn (i:Inf):Prop where
 n:0≤i.need
 m:0≤i.need+i.bu
 h:0≤i.high
 k:i.bu≤i.high
 s:0≤i.steps
 t:i.steps≤1000000001
theorem Inf.ext'{a b:Inf}(h1:a.need=b.need)(h2:a.bu=b.bu)(h3:a.high=b.high)(h4:a.steps=b.steps)(h5:a.str=b.str):a=b:=by
 cases a;cases b;simp_all
theorem Inf.Nn.zero:Inf.zero.Nn:=by constructor<;>simp[Inf.zero]
theorem Inf.Nn.then{a b:Inf}(ha:a.Nn)(hb:b.Nn):(a.then b).Nn:=by
 obtain⟨a1,a2,a3,a4,a5,a6⟩:=ha;obtain⟨b1,b2,b3,b4,b5,b6⟩:=hb
 constructor<;>simp only[Inf.then]<;>omega
theorem Inf.Nn.more{a:Inf}(ha:a.Nn):a.more.Nn:=by
 obtain⟨a1,a2,a3,a4,a5,a6⟩:=ha
 constructor<;>simp only[Inf.more]<;>omega
theorem Inf.Nn.ways{a b:Inf}(ha:a.Nn)(hb:b.Nn)(hn:a.bu=b.bu):(a.ways b).Nn:=by
 obtain⟨a1,a2,a3,a4,a5,a6⟩:=ha;obtain⟨b1,b2,b3,b4,b5,b6⟩:=hb
 constructor<;>simp only[Inf.ways]<;>omega
theorem Inf.Nn.times{a:Inf}(ha:a.Nn){n:Int}(hn:0≤n):(a.times n).Nn:=by
 obtain⟨a1,a2,a3,a4,a5,a6⟩:=ha;have hp:0≤n*min (a.steps+1) 1000000001:=Int.mul_nonneg hn (by omega);unfold Inf.times
 split<;>constructor<;>simp only<;>omega
theorem Inf.Nn.plain{t p:Int}(ht:0≤t)(hp:0≤p):(Inf.plain t p).Nn:=by
 constructor<;>simp only[Inf.plain]<;>omega
theorem then_assoc{a b c:Inf}(ha:a.Nn)(hb:b.Nn)(hc:c.Nn):(a.then b).then c=a.then (b.then c):=by
 obtain⟨a1,a2,a3,a4,a5,a6⟩:=ha;obtain⟨b1,b2,b3,b4,b5,b6⟩:=hb;obtain⟨c1,c2,c3,c4,c5,c6⟩:=hc;refine Inf.ext' ?_ ?_ ?_ ?_ ?_<;>simp only[Inf.then]
 ·omega
 ·omega
 ·omega
 ·omega
 ·exact Bool.and_assoc _ _ _
theorem zo:ai 30=⟨0,0,0,1,true⟩∧ai 32=⟨0,0,0,1,true⟩∧ai 33=⟨0,0,0,1,true⟩∧ai 34=⟨0,0,0,1,true⟩:=⟨rfl,rfl,rfl,rfl⟩
theorem zq:ai 28=Inf.plain 0 1∧ai 29=⟨1, -1,0,1,false⟩∧ai 31=Inf.plain 2 0:=⟨rfl,rfl,rfl⟩
theorem AY{i:Inf}(h:i.Nn):i.then ⟨0,0,0,1,true⟩=i.more:=by
 obtain⟨a1,a2,a3,a4,a5,a6⟩:=h;refine Inf.ext' ?_ ?_ ?_ ?_ ?_<;>simp only[Inf.then,Inf.more]
 ·omega
 ·omega
 ·omega
 ·simp
theorem U0{i:Inf}(h:i.Nn):Inf.then ⟨0,0,0,1,true⟩ i=i.more:=by
 obtain⟨a1,a2,a3,a4,a5,a6⟩:=h;refine Inf.ext' ?_ ?_ ?_ ?_ ?_<;>simp only[Inf.then,Inf.more]
 ·omega
 ·omega
 ·omega
 ·omega
 ·simp
theorem ZQ{d x y:Inf}(hd:d.Nn)(hx:x.Nn)(hy:y.Nn)(hn:x.bu=y.bu):(d.then (ai 29)).then (x.yt y)=d.then ((Inf.plain 1 0).then (y.ways x)):=by
 obtain⟨a1,a2,a3,a4,a5,a6⟩:=hd;obtain⟨b1,b2,b3,b4,b5,b6⟩:=hx;obtain⟨c1,c2,c3,c4,c5,c6⟩:=hy;rw[zq.2.1];refine Inf.ext' ?_ ?_ ?_ ?_ ?_<;>simp only[Inf.then,Inf.yt,Inf.ways,Inf.plain]
 ·omega
 ·omega
 ·omega
 ·omega
 ·simp
theorem afD{d x:Inf}{n:Int}(hd:d.Nn)(hx:x.Nn)(hn:0≤n):(d.then (ai 31)).then ((x.then (ai 32)).eU n)=d.then ((Inf.plain 2 0).then (x.times n)):=by
 have e:(x.then (ai 32)).eU n=x.times n:=by
  rw[zo.2.1,AY hx];unfold Inf.eU Inf.times
  split
  ·rfl
  ·refine Inf.ext' ?_ ?_ ?_ ?_ ?_<;>simp only[Inf.more]
   rw[Int.mul_comm]
 rw[e,zq.2.2,←then_assoc hd (Inf.Nn.plain (by omega) (by omega)) (hx.times hn)]
theorem Le(l:List AI)(x:AI)(j:Nat)(h:j<l.length):kD (l++[x]) j=kD l j:=by
 unfold kD;simp[List.getD,List.getElem?_append_left,h]
theorem AZ{f g:Nat→Inf}:∀n,(∀j,j<n→f j=g j)→upTo f n=upTo g n
 |0,_=>rfl
 |n+1,h=>by rw[upTo,upTo,AZ n (fun j hj=>h j (by omega)),h n (by omega)]
theorem iF(l:List AI)(x:AI):dw (l++[x])=(dw l).then x.inf:=by
 unfold dw;rw[show(l++[x]).length=l.length+1 by simp,upTo,AZ l.length (fun j hj=>Le l x j hj)]
 congr 1
 simp[kD]
def tN(b:PB)(l:List AI):Prop:=
 match l.reverse with
 |⟨some y,_,_⟩ :: ⟨some x,_,_⟩ :: _=>b.numbers=2∧b.a0=x∧b.a1=y
 |⟨some y,_,_⟩ :: _=>b.numbers=1∧b.a1=y
 |_=>b.numbers=0
theorem tN.none{b:PB}{l:List AI}{i:Inf}{t:IT}(h:b.numbers=0):tN b (l++[⟨none,i,t⟩]):=by
 unfold tN;simp[h]
theorem tN.some{b b':PB}{l:List AI}{i:Inf}{t:IT}{n:Int}(h:tN b l)(h1:b'.numbers=min (b.numbers+1) 2)(h2:b'.a0=b.a1)(h3:b'.a1=n):tN b' (l++[⟨some n,i,t⟩]):=by
 unfold tN at h ⊢;rw[List.reverse_append];generalize l.reverse=q at h
 match q,h with
 |[],h=>simp at h ⊢;omega
 |⟨Option.none,_,_⟩ :: _,h=>simp at h ⊢;omega
 |[⟨Option.some y,_,_⟩],h=>simp at h ⊢;omega
 |⟨Option.some y,_,_⟩ :: ⟨Option.none,_,_⟩ :: _,h=>simp at h ⊢;omega
 |⟨Option.some y,_,_⟩ :: ⟨Option.some x,_,_⟩ :: _,h=>simp at h ⊢;omega
theorem tN.two{b:PB}{l:List AI}(h:tN b l):(b.numbers<2∧gp l=Option.none)∨(b.numbers=2∧gp l=Option.some (b.a0,b.a1)):=by
 unfold tN at h;unfold gp;generalize l.reverse=q at h
 match q,h with
 |[],h=>left;simp at h ⊢;omega
 |⟨Option.none,_,_⟩ :: _,h=>left;simp at h ⊢;omega
 |[⟨Option.some y,_,_⟩],h=>left;simp at h ⊢;omega
 |⟨Option.some y,_,_⟩ :: ⟨Option.none,_,_⟩ :: _,h=>left;simp at h ⊢;omega
 |⟨Option.some y,_,_⟩ :: ⟨Option.some x,_,_⟩ :: _,h=>right;simp at h ⊢;exact⟨h.1,h.2.1.symm,h.2.2.symm⟩
structure At (s:ByteArray) (ae:List Tk) (I a:Nat):Prop where
 le:a≤s.size
 tk:aZ s a=ae.drop I
 sd:Sound s a
theorem U1(s:ByteArray):∀(f a:Nat),a≤s.size→s.size - a≤f→aZ s a=[]→(dF s f a).2.1=s.size:=by
 have main:∀a,a≤s.size→aZ s a=aZ s (dL s a)∧(dL s a<s.size→blk (aI s (dL s a))=false):=fun a ha=>by
  have hB:=bJ Es s a ha;refine⟨xA s (dL s a - a) a (dL s a) (by have:=hB.1;unfold dL;omega) hB.2.1 (fun x h1 h2=>?_),fun h=>?_⟩
  ·have:=hB.2.2.1 x h1 h2
   unfold Es at this;simpa using this
  ·rcases hB.2.2.2 with e|e
   ·exact absurd e (by unfold dL at h;omega)
   ·have e':(!blk (aI s (dL s a)))=true:=e
    simpa using e'
 intro f
 induction f with
 |zero=>
  intro a ha hf h;obtain⟨l1,l2,l3⟩:=kW s a ha;unfold dF;simp only;omega
 |succ f ih=>
  intro a ha hf h;obtain⟨l1,l2,l3⟩:=kW s a ha;unfold dF
  by_cases hb:dL s a<s.size
  ·have hk:=(main a ha).2 hb
   have hlt:dL s a<dY s a:=dU s _ hb hk
   by_cases hn:((s.extract (dL s a) (dY s a)).toList == [92])=true
   ·rw[if_pos hn]
    have hsp:=bJ oD s (dY s a) l3
    have e:aZ s a=aZ s (scan oD s (dY s a)):=by
     rw[(main a ha).1,mr s _ hb hk ((jS _ _).1 hn)];rfl
    exact ih _ hsp.2.1 (by have:=hsp.1;omega) (by rw[←e];exact h)
   ·exfalso
    rw[(main a ha).1,oG s _ hb hk (fun e=>hn ((jS _ _).2 e))]at h
    cases h
  ·have e:dL s a=s.size:=by omega
   split
   ·have hsp:=bJ oD s (dY s a) l3
    exact ih _ hsp.2.1 (by have:=hsp.1;omega) (sO s _ (by have:=hsp.1;omega))
   ·exact e
theorem At.next{s:ByteArray}{ae:List Tk}{I a:Nat}(h:At s ae I a)(hI:I≤ae.length):
  (nx s a).1=aC ae I∧((nx s a).2.1:Int)=kz ae s.size I∧((aC ae I).toList=[]∨(I<ae.length∧At s ae (I+1) (nx s a).2.2)):=by
 have hle:=(jk s (s.size - a) a h.le);rcases UC s (s.size - a) a h.le nrq with ⟨h1,h2⟩|⟨h1,h2⟩
 ·have hd:ae.drop I=[]:=by rw[←h.tk];exact h1
  have hl:ae.length≤I:=by
   have:=congrArg List.length hd;simp at this;omega
  have ht:aC ae I=⟨#[]⟩:=by simp[aC,List.getD,List.getElem?_eq_none hl]
  refine⟨by rw[ht];exact h2,?_,Or.inl (by rw[ht];exact aN [])⟩;have:=U1 s (s.size - a) a h.le nrq h1;unfold nx;rw[this];simp[kz,Nat.not_lt.2 hl]
 ·have hd:=h.tk
  rw[h1]at hd
  have hl:I<ae.length:=by
   rcases Nat.lt_or_ge I ae.length with h3|h3
   ·exact h3
   ·rw[List.drop_eq_nil_of_le h3]at hd;cases hd
  rw[List.drop_eq_getElem_cons hl]at hd;have e1:=(List.cons.inj hd).1;have e2:=(List.cons.inj hd).2;refine⟨?_,?_,Or.inr ⟨hl,⟨hle.2.2.1,e2,(D5 h.sd h.le).2⟩⟩⟩
  ·simp[aC,hl,←e1,nx]
  ·simp[kz,hl,←e1,nx]
theorem At.name{s:ByteArray}{ae:List Tk}{I a:Nat}(h:At s ae I a)(hI:I≤ae.length):vI (nx s a).1=gy (aC ae I):=by
 rw[←(h.next hI).1];exact(D5 h.sd h.le).1
end
section
inductive iE (es:List PE) (code:List Int):Bool→IT→Nat→Nat→Prop
 |num (d:Bool) (n:Int) (p:Nat) (h: -2147483648≤n∧n≤2147483647) (h1:code[p]?=some 28) (h2:code[p+1]?=some n):iE es code d (.num n) p (p+2)
 |op (d:Bool) (s:ByteArray) (k p:Nat) (h:fP s=some k) (h1:code[p]?=some (k:Int)) (h2:k=27→d=true):iE es code d (.op s) p (p+1)
 |var (d:Bool) (k:Nat) (x:PE) (p:Nat) (h:es[k]?=some x) (hv:x.var=true) (h1:code[p]?=some 28) (h2:code[p+1]?=some x.place):iE es code d (.own k) p (p+2)
 |own (d:Bool) (k:Nat) (x:PE) (p:Nat) (h:es[k]?=some x) (hv:x.var=false) (h1:code[p]?=some 33) (h2:code[p+1]?=some x.place):iE es code d (.own k) p (p+2)
 |iff (d:Bool) (a:List IT) (p q:Nat) (ps:Nat→Nat) (h1:code[p]?=some 29) (h2:code[p+1]?=some (q:Int)) (h3:ps 0=p+2) (h4:ps a.length=q) (h5:∀(i:Nat) (t:IT),a[i]?=some t→iE es code d t (ps i) (ps (i+1))):iE es code d (.iff a) p q
 |els (d:Bool) (a b:List IT) (p q r:Nat) (ps qs:Nat→Nat) (h1:code[p]?=some 29) (h2:code[p+1]?=some ((q+2:Nat):Int)) (h3:ps 0=p+2) (h4:ps a.length=q) (h5:∀(i:Nat) (t:IT),a[i]?=some t→iE es code d t (ps i) (ps (i+1)))
   (k1:code[q]?=some 30) (k2:code[q+1]?=some (r:Int)) (k3:qs 0=q+2) (k4:qs b.length=r) (k5:∀(i:Nat) (t:IT),b[i]?=some t→iE es code d t (qs i) (qs (i+1))):iE es code d (.els a b) p r
 |Et (d:Bool) (a:List IT) (p q:Nat) (ps:Nat→Nat) (h1:code[p]?=some 31) (h2:code[p+1]?=some ((q+2:Nat):Int)) (h3:ps 0=p+2) (h4:ps a.length=q) (h5:∀(i:Nat) (t:IT),a[i]?=some t→iE es code true t (ps i) (ps (i+1)))
   (k1:code[q]?=some 32) (k2:code[q+1]?=some ((p+2:Nat):Int)):iE es code d (.Et a) p (q+2)
theorem chain{a:List IT}{ps:Nat→Nat}{L:Nat}(h:∀(i:Nat) (t:IT),a[i]?=some t→ps i<ps (i+1)∧ps (i+1)≤L)(h0:ps 0≤L):∀j,j≤a.length→ps j≤L∧∀i,i≤j→ps i≤ps j
 |0,_=>⟨h0,fun i hi=>by rw[show i=0 by omega];exact nrq⟩
 |j+1,hj=>by
  obtain⟨h1,h2⟩:=h j a[j] (List.getElem?_eq_getElem (by omega));obtain⟨_,h4⟩:=chain h h0 j (by omega);refine⟨h2,fun i hi=>?_⟩;rcases Nat.lt_or_ge i (j+1)with e|e
  ·have:=h4 i (by omega);omega
  ·rw[show i=j+1 by omega];exact nrq
theorem eF{code:List Int}{p:Nat}{x:Int}(h:code[p]?=some x):p<code.length:=(List.getElem?_eq_some_iff.1 h).1
theorem iE.le{es:List PE}{code:List Int}{d:Bool}{t:IT}{p q:Nat}(h:iE es code d t p q):p<q∧q≤code.length:=by
 induction h with
 |num d n p h h1 h2=>have:=eF h2;omega
 |op d s k p h h1 h2=>have:=eF h1;omega
 |var d k x p h hv h1 h2=>have:=eF h2;omega
 |own d k x p h hv h1 h2=>have:=eF h2;omega
 |iff d a p q ps h1 h2 h3 h4 h5 ih=>
  have:=eF h2;obtain⟨c1,c2⟩:=chain ih (by omega) a.length nrq;have:=c2 0 (by omega);omega
 |els d a b p q r ps qs h1 h2 h3 h4 h5 k1 k2 k3 k4 k5 ih ih2=>
  have:=eF h2;have:=eF k2;obtain⟨c1,c2⟩:=chain ih (by omega) a.length nrq;obtain⟨d1,d2⟩:=chain ih2 (by omega) b.length nrq;have:=c2 0 (by omega);have:=d2 0 (by omega);omega
 |Et d a p q ps h1 h2 h3 h4 h5 k1 k2 ih=>
  have:=eF h2;have:=eF k2;obtain⟨c1,c2⟩:=chain ih (by omega) a.length nrq;have:=c2 0 (by omega);omega
theorem iE.ny{es es':List PE}{code code':List Int}{d:Bool}{t:IT}{p q:Nat}(h:iE es code d t p q)(he:∀(k:Nat) (x:PE),es[k]?=some x→es'[k]?=some x)(hc:∀i,p≤i→i<q→code'[i]?=code[i]?):iE es' code' d t p q:=by
 induction h with
 |num d n p h h1 h2=>exact .num d n p h ((hc p (by omega) (by omega)).trans h1) ((hc (p+1) (by omega) (by omega)).trans h2)
 |op d s k p h h1 h2=>exact .op d s k p h ((hc p (by omega) (by omega)).trans h1) h2
 |var d k x p h hv h1 h2=>exact .var d k x p (he _ _ h) hv ((hc p (by omega) (by omega)).trans h1) ((hc (p+1) (by omega) (by omega)).trans h2)
 |own d k x p h hv h1 h2=>exact .own d k x p (he _ _ h) hv ((hc p (by omega) (by omega)).trans h1) ((hc (p+1) (by omega) (by omega)).trans h2)
 |iff d a p q ps h1 h2 h3 h4 h5 ih=>
  have hl:=eF h2;have hch:=chain (fun i t ht=>(h5 i t ht).le) (by omega);have hq:=(hch a.length nrq).2 0 (by omega);refine .iff d a p q ps ((hc p (by omega) (by omega)).trans h1) ((hc (p+1) (by omega) (by omega)).trans h2) h3 h4 (fun i t ht=>ih i t ht (fun j j1 j2=>hc j ?_ ?_))
  ·have hi:=(List.getElem?_eq_some_iff.1 ht).1
   have:=(hch i (by omega)).2 0 (by omega);omega
  ·have hi:=(List.getElem?_eq_some_iff.1 ht).1
   have:=(hch a.length nrq).2 (i+1) (by omega);omega
 |els d a b p q r ps qs h1 h2 h3 h4 h5 k1 k2 k3 k4 k5 ih ih2=>
  have hl:=eF h2;have hl2:=eF k2;have hch:=chain (fun i t ht=>(h5 i t ht).le) (by omega);have hq:=(hch a.length nrq).2 0 (by omega);have abv:=chain (fun i t ht=>(k5 i t ht).le) (by omega);have hq2:=(abv b.length nrq).2 0 (by omega);refine .els d a b p q r ps qs ((hc p (by omega) (by omega)).trans h1) ((hc (p+1) (by omega) (by omega)).trans h2) h3 h4 (fun i t ht=>ih i t ht (fun j j1 j2=>hc j ?_ ?_)) ((hc q (by omega) (by omega)).trans k1) ((hc (q+1) (by omega) (by omega)).trans k2) k3 k4 (fun i t ht=>ih2 i t ht (fun j j1 j2=>hc j ?_ ?_))
  ·have hi:=(List.getElem?_eq_some_iff.1 ht).1
   have:=(hch i (by omega)).2 0 (by omega);omega
  ·have hi:=(List.getElem?_eq_some_iff.1 ht).1
   have:=(hch a.length nrq).2 (i+1) (by omega);omega
  ·have hi:=(List.getElem?_eq_some_iff.1 ht).1
   have:=(abv i (by omega)).2 0 (by omega);omega
  ·have hi:=(List.getElem?_eq_some_iff.1 ht).1
   have:=(abv b.length nrq).2 (i+1) (by omega);omega
 |Et d a p q ps h1 h2 h3 h4 h5 k1 k2 ih=>
  have hl:=eF h2;have hl2:=eF k2;have hch:=chain (fun i t ht=>(h5 i t ht).le) (by omega);have hq:=(hch a.length nrq).2 0 (by omega);refine .Et d a p q ps ((hc p (by omega) (by omega)).trans h1) ((hc (p+1) (by omega) (by omega)).trans h2) h3 h4 (fun i t ht=>ih i t ht (fun j j1 j2=>hc j ?_ ?_)) ((hc q (by omega) (by omega)).trans k1) ((hc (q+1) (by omega) (by omega)).trans k2)
  ·have hi:=(List.getElem?_eq_some_iff.1 ht).1
   have:=(hch i (by omega)).2 0 (by omega);omega
  ·have hi:=(List.getElem?_eq_some_iff.1 ht).1
   have:=(hch a.length nrq).2 (i+1) (by omega);omega
def dD(es:List PE)(code:List Int)(d:Bool)(l:List IT)(p q:Nat):Prop:=∃ps:Nat→Nat,ps 0=p∧ps l.length=q∧∀(i:Nat) (t:IT),l[i]?=some t→iE es code d t (ps i) (ps (i+1))
theorem dD.nil(es:List PE)(code:List Int)(d:Bool)(p:Nat):dD es code d [] p p:=⟨fun _=>p,rfl,rfl,fun i t h=>by simp at h⟩
theorem dD.le{es:List PE}{code:List Int}{d:Bool}{l:List IT}{p q:Nat}(h:dD es code d l p q)(hp:p≤code.length):p≤q∧q≤code.length:=by
 obtain⟨ps,h1,h2,h3⟩:=h;obtain⟨c1,c2⟩:=chain (fun i t ht=>(h3 i t ht).le) (by omega) l.length nrq;have:=c2 0 (by omega);omega
theorem dD.ny{es es':List PE}{code code':List Int}{d:Bool}{l:List IT}{p q:Nat}(h:dD es code d l p q)(hp:p≤code.length)(he:∀(k:Nat) (x:PE),es[k]?=some x→es'[k]?=some x)(hc:∀i,p≤i→i<q→code'[i]?=code[i]?):dD es' code' d l p q:=by
 obtain⟨ps,h1,h2,h3⟩:=h;have hch:=chain (fun i t ht=>(h3 i t ht).le) (by omega);refine⟨ps,h1,h2,fun i t ht=>(h3 i t ht).ny he (fun j j1 j2=>hc j ?_ ?_)⟩
 ·have hi:=(List.getElem?_eq_some_iff.1 ht).1
  have:=(hch i (by omega)).2 0 (by omega);omega
 ·have hi:=(List.getElem?_eq_some_iff.1 ht).1
  have:=(hch l.length nrq).2 (i+1) (by omega);omega
theorem dD.snoc{es:List PE}{code:List Int}{d:Bool}{l:List IT}{t:IT}{p q r:Nat}(h:dD es code d l p q)(ht:iE es code d t q r):dD es code d (l++[t]) p r:=by
 obtain⟨ps,h1,h2,h3⟩:=h;refine⟨fun i=>if i≤l.length then ps i else r,by simp[h1],by simp only[List.length_append,List.length_cons,List.length_nil];rw[if_neg (by omega)],fun i u hu=>?_⟩;simp only
 by_cases hi:i<l.length
 ·rw[List.getElem?_append_left hi]at hu
  rw[if_pos (by omega),if_pos (by omega)];exact h3 i u hu
 ·rw[List.getElem?_append_right (by omega)]at hu
  have h0:i - l.length=0:=by have:=(List.getElem?_eq_some_iff.1 hu).1;simp at this;omega
  rw[h0]at hu;obtain rfl:t=u:=by simpa using hu
  obtain rfl:i=l.length:=by omega
  rw[if_pos nrq,if_neg (by omega),h2];exact ht
def CO(es:List PE)(dc:List Int)(p:Nat)(loops:Int)(l:List AI):Prop:=p≤dc.length∧dD es dc (decide (0<loops)) (trees l) p dc.length
theorem CO.snoc{es:List PE}{dc ql:List Int}{p:Nat}{loops:Int}{l:List AI}{x:AI}(h:CO es dc p loops l)(hl:dc.length≤ql.length)(hc:∀i,i<dc.length→ql[i]?=dc[i]?)(hx:iE es ql (decide (0<loops)) x.tree dc.length ql.length):CO es ql p loops (l++[x])∧∀i,i<p→ql[i]?=dc[i]?:=by
 refine⟨⟨Nat.le_trans h.1 hl,?_⟩,fun i hi=>hc i (Nat.lt_of_lt_of_le hi h.1)⟩;unfold trees;rw[List.map_append];exact(h.2.ny h.1 (fun _ _=>id) (fun i _ hi=>hc i hi)).snoc hx
theorem CO.nil(es:List PE)(dc:List Int)(loops:Int):CO es dc dc.length loops []:=⟨nrq,dD.nil _ _ _ _⟩
end
section
theorem abw(s:ByteArray)(w:World):
  Calls Tryz.prog 77 #[.string s] w fun e w'=>e=.returned (.pointer (some ⟨w.heap.size,0,none⟩))∧az w' w.heap.size (Fa s 0) 199∧Below w.heap.size w w':=by
 go_enter Tryz.func77,Tryz.ntmps77
 go_wp2_with fail
 exact bodyPost_ret (v:=.pointer (some ⟨w.heap.size,0,none⟩)) (by simp[results,Tryz.results77,go_sem]) rfl ⟨rfl,ay w _ _,brq.alloc nrq _⟩
theorem IA(es:List PE)(nt:Int)(s:ByteArray):∀(f:Nat) (tk:Int) (dc:List Int) (st:List PB) (kn:Inf) (a:Nat) (E:Int×Int),jZ es nt s f tk dc st kn a=.inr E→E.1≠0
 |0,tk,dc,st,kn,a,E,h=>by rw[jZ]at h;cases h;decide
 |f+1,tk,dc,[],kn,a,E,h=>by rw[jZ]at h;cases h
 |f+1,tk,dc,b :: r,kn,a,E,h=>by
  rw[jZ]at h;obtain⟨T,hT⟩:=exq (aT es nt (tk+1) dc (b :: r) kn (nx s a).1);rw[←hT]at h
  by_cases h0:T.1=0
  ·rw[if_pos h0]at h;exact IA es nt s f _ _ _ _ _ E h
  ·rw[if_neg h0]at h;cases h;exact h0
structure mi (es:List PE) (nv nt:Int) (code:List Int):Prop where
 l:es.length≤40
 w:∀x∈es,x.inf.Wt 1
 s:∀x∈es,x.inf.Sm
 v0:0≤nv
 v1:nv≤16
 t0:0≤nt
 t1:nt≤400
 c:(code.length:Int)≤2*nt
theorem mi.var{es:List PE}{nv nt:Int}{code:List Int}{s:ByteArray}{a:Nat}(h:mi es nv nt code):mi (tH es nv s a).2.1 (tH es nv s a).2.2 nt code:=by
 unfold tH
 split
 ·rename_i hf
  split
  ·exact h
  ·rename_i hv
   have hl:es.length≠40:=by
    intro e;unfold xx at hf
    split at hf
    ·exact absurd hf (by decide)
    ·exact absurd hf (by decide)
   have key:∀(P:Inf→Prop),P Inf.zero→(∀x∈es,P x.inf)→∀x∈es++[⟨(nx s a).1,true,nv,Inf.zero⟩],P x.inf:=fun P p0 p1 x hx=>by
    rcases List.mem_append.1 hx with hx|hx
    ·exact p1 x hx
    ·rw[List.mem_singleton.1 hx];exact p0
   exact⟨by have:=h.l;simp;omega,key (fun i=>i.Wt 1) (Inf.Sm.zero.wt (by decide)) h.w,key (fun i=>i.Sm) Inf.Sm.zero h.s,by have:=h.v0;simp only;omega,by have:=h.v1;simp only;omega,h.t0,h.t1,h.c⟩
 ·exact h
theorem mi.word{es:List PE}{nv nt:Int}{code:List Int}{s:ByteArray}{a:Nat}(ha:a≤s.size)(h:mi es nv nt code):mi (jb es nt code s a).2.1 nv (jb es nt code s a).2.2.1 (jb es nt code s a).2.2.2.1∧((jb es nt code s a).1.1=0→a≤(jb es nt code s a).2.2.2.2):=by
 obtain⟨m1,m2,m3,m4⟩:=jk s (s.size - a) a ha;unfold jb
 split
 ·rename_i hf
  have hl:es.length≠40:=by
   intro e;unfold xx at hf
   split at hf
   ·exact absurd hf (by decide)
   ·exact absurd hf (by decide)
  cases hd:jZ es nt s (s.size+2) 2 code [PB.first] Inf.zero (nx s a).2.2 with
  |inr E=>exact⟨h,fun e=>absurd e (IA es nt s _ _ _ _ _ _ E hd)⟩
  |inl D=>
   obtain⟨dc,kn,tk,a'⟩:=D;simp only;obtain⟨k1,k2,k3,k4,k5,k6,k7⟩:=Ot es h.s nt s _ 2 code [PB.first] Inf.zero (nx s a).2.2 (fun b hb=>by rw[List.mem_singleton.1 hb];exact PB.Sm.z _ rfl Inf.Sm.zero (Int.le_refl _)) (fun e=>absurd e (List.cons_ne_nil _ _)) m3 dc kn tk a' hd
   have key:∀(P:Inf→Prop),P kn→(∀x∈es,P x.inf)→∀x∈es++[⟨(nx s a).1,false,code.length,kn⟩],P x.inf:=fun P p0 p1 x hx=>by
    rcases List.mem_append.1 hx with hx|hx
    ·exact p1 x hx
    ·rw[List.mem_singleton.1 hx];exact p0
   have:=h.t0;have:=h.c;exact⟨⟨by have:=h.l;simp;omega,key (fun i=>i.Wt 1) k1 h.w,key (fun i=>i.Sm) k2 h.s,h.v0,h.v1,by omega,by omega,by omega⟩,fun _=>Nat.le_trans m2 k6⟩
 ·rename_i hf
  exact⟨h,fun e=>absurd e hf⟩
def pY(s:ByteArray):Nat→Nat→List PE→Int→Int→List Int→(Int×Int)×List PE×Int×Int×List Int
 |0,_,es,nv,nt,code=>((99,0),es,nv,nt,code)
 |f+1,a,es,nv,nt,code=>
  if((nx s a).1.toList == [])=true then((0,0),es,nv,nt,code)
  else if((nx s a).1.toList == [118,97,114,105,97,98,108,101])=true then
   if(tH es nv s (nx s a).2.2).1.1=0 then pY s f (nx s (nx s a).2.2).2.2 (tH es nv s (nx s a).2.2).2.1 (tH es nv s (nx s a).2.2).2.2 nt code
   else((tH es nv s (nx s a).2.2).1,(tH es nv s (nx s a).2.2).2.1,(tH es nv s (nx s a).2.2).2.2,nt,code)
  else if((nx s a).1.toList == [58])=true then
   if(jb es nt code s (nx s a).2.2).1.1=0 then pY s f (jb es nt code s (nx s a).2.2).2.2.2.2 (jb es nt code s (nx s a).2.2).2.1 nv (jb es nt code s (nx s a).2.2).2.2.1 (jb es nt code s (nx s a).2.2).2.2.2.1
   else((jb es nt code s (nx s a).2.2).1,(jb es nt code s (nx s a).2.2).2.1,nv,(jb es nt code s (nx s a).2.2).2.2.1,(jb es nt code s (nx s a).2.2).2.2.2.1)
  else((3,((nx s a).2.1:Int)),es,nv,nt,code)
def vN(s:ByteArray)(es:List PE)(nv nt:Int)(code:List Int):(Int×Int)×List PE×Int×Int×List Int:=
 match kS s s.size 0 with
 |some k=>((2,(k:Int)),es,nv,nt,code)
 |none=>pY s (s.size+1) 0 es nv nt code
def IB(w:World)(bb:Nat)(ev cv:Value)(R:(Int×Int)×List PE×Int×Int×List Int)(e:Ending)(w':World):Prop:=
 e=.returned (.tuple #[.int .i64 R.1.1,.int .i64 R.1.2])∧(∃BO cv',iC w' bb BO cv' R.2.1 R.2.2.1 R.2.2.2.1 R.2.2.2.2∧lh w'∧Lc w ev BO∧Lc w cv cv')∧mi R.2.1 R.2.2.1 R.2.2.2.1 R.2.2.2.2∧aj (fun k=>k=bb∨ev.ownBlock=some k∨cv.ownBlock=some k) w w'
theorem Qa{w:World}{bb:Nat}{ev cv:Value}{es:List PE}{nv nt:Int}{code:List Int}(s:ByteArray)(h:iC w bb ev cv es nv nt code)(ht:lh w)(hs:s.size≤1100000)(hi:mi es nv nt code):
  Calls Tryz.prog 52 #[.pointer (some ⟨bb,0,none⟩),.string s] w (IB w bb ev cv (vN s es nv nt code)):=by
 obtain⟨R,hR⟩:=exq (vN s es nv nt code);rw[←hR];unfold vN at hR;have HB:=ast (KQ s w (by omega));have HP:=ast h;have HT:=ast ht;have HI:=ast hi;clear h ht hi
 cases hbad:kS s s.size 0 with
 |some k=>
  rw[hbad]at hR;simp only at hR;rw[hbad]at HB;subst hR;clear hbad;go_enter Tryz.func52,Tryz.ntmps52
  go_wp2_with fail
  refine HB.out.mono ?_;rintro e w1 ⟨rfl,hb1⟩;simp only[KP];go_wp2_with fail
  exact bodyPost_ret (v:=.tuple #[.int .i64 2,.int .i64 k]) (by simp[results,Tryz.results52,go_sem]) rfl ⟨rfl,⟨_,_,HP.out.below hb1,HT.out.below hb1,Lc.refl _ _,Lc.refl _ _⟩,HI.out,aj.au hb1⟩
 |none=>
  rw[hbad]at hR;simp only at hR;rw[hbad]at HB;have HR:=ast hR;clear hbad hR;go_enter Tryz.func52,Tryz.ntmps52
  go_wp2_with fail
  refine HB.out.mono ?_;rintro e w1 ⟨rfl,hb1⟩;simp only[KP];have H2:=ast (abw s w1);have HB1:=ast hb1;clear HB hb1;go_wp2_with fail
  refine H2.out.mono ?_;rintro e w2 ⟨rfl,hb2,hc2⟩;obtain⟨rb,hrb⟩:=exq (w1.heap.size);rw[←hrb]at hb2 ⊢;have hrw:w.heap.size≤rb:=by rw[hrb];exact HB1.out.size
  have hru:3≤rb:=by have:=HT.out.lt;omega
  have afE:=ast (BS.mk ((HP.out.below HB1.out).below hc2) ((HT.out.below HB1.out).below hc2) hb2 hru);have Zg:=ast ((aj.au HB1.out:aj (fun k=>k=bb∨ev.ownBlock=some k∨cv.ownBlock=some k) w w1).trans (aj.au hc2));clear H2 hb2 hc2 hrb HP HT;go_wp2_with fail
  go_loopw[9] (fun _ wr=>∃(a f:Nat) (es':List PE) (qc zt:Int) (code':List Int) (BO cv':Value),BS wr bb rb BO cv' es' qc zt code' s a∧Hid (R=pY s f a es' qc zt code')∧Hid (mi es' qc zt code'∧a≤s.size∧s.size - a+1≤f∧Lc w ev BO∧Lc w cv cv')∧aj (fun k=>k=bb∨ev.ownBlock=some k∨cv.ownBlock=some k) w wr) (fun _ wr=>s.size - qP wr rb)
  case atStart=>exact⟨0,s.size+1,es,nv,nt,code,ev,cv,afE.out,HR,⟨HI.out,Nat.zero_le _,by omega,Lc.refl _ _,Lc.refl _ _⟩,Zg.out⟩
  case round=>
   clear afE Zg HR HB1 HI;obtain⟨a,f,es',qc,zt,code',BO,cv',wU,HRR,HJ,hc⟩:=hrel;obtain⟨j1,j2,j3,j4,j5⟩:=HJ.out;obtain⟨m1,m2,m3,m4⟩:=jk s (s.size - a) a j2;have XV:=fun hne=>o7 s (s.size - a) a j2 hne
   have hN:=ast (zl rb s a wr j2 (by omega) wU.rd);obtain⟨x,hx⟩:=exq (dF s (s.size - a) a);have hxx:nx s a=x:=hx.symm;rw[←hx]at hN m1 m2 m3 m4 XV;obtain⟨t,pl,b⟩:=x;simp only at hN m1 m2 m3 m4 XV;obtain⟨f',rfl⟩:∃f',f=f'+1:=⟨f - 1,by omega⟩;have hrr:=HRR.out;rw[pY,hxx]at hrr;simp only at hrr;have hat:qP wr rb=a:=by unfold qP;rw[show wr.cell? ⟨rb,1,none⟩=some (.int .i64 a)from wU.rd.cell 1 _ rfl];simp
   have DK:=ast wU;have HRF:=ast hrr;have HMV:=ast XV;have vw:=ast hat;have HM:=ast (And.intro m1 (And.intro m2 (And.intro m3 m4)));have HC:=ast hc;clear wU hrr hx hxx XV hat m1 m2 m3 m4 j1 j2 j3 j4 j5 HRR hc;go_wp2_with fail
   refine hN.out.mono ?_;rintro e w4 ⟨rfl,hb4,hc4⟩;have afF:=DK.out.next hb4 hc4;have afG:=afF.below (brq.alloc nrq (.cells #[.string t,.int .i64 pl] 163 (0,0)));have nJ:=ast afG;have BM:=ast ((HC.out.jG hc4 (fun k hk e=>by omega)).alloc (.cells #[.string t,.int .i64 pl] 163 (0,0)));have hbl:b≤s.size:=HM.out.2.2.1;have hk5:=ay w4 #[.string t,.int .i64 pl] 163;obtain⟨W,hW⟩:=exq (w4.alloc (.cells #[.string t,.int .i64 pl] 163 (0,0)));rw[←hW]at nJ BM hk5;have p0:W.cell? ⟨w4.heap.size,0,none⟩=some (.string t):=hk5.cell 0 _ rfl;have p1:W.cell? ⟨w4.heap.size,1,none⟩=some (.int .i64 pl):=hk5.cell 1 _ rfl;have hwl:=hk5.lt;clear hb4 hc4 afF afG DK HC hN hk5
   by_cases g1:(t.toList == [])=true
   ·have hRe:R=((0,0),es',qc,zt,code'):=by have:=HRF.out;rw[if_pos g1]at this;exact this
    have qw:=ast hRe;clear hRe;go_wp2_with fail
    rw[←hW,qw.out];obtain⟨j1,j2,j3,j4,j5⟩:=HJ.out;exact bodyPost_ret (v:=.tuple #[.int .i64 0,.int .i64 0]) (by simp[results,Tryz.results52,go_sem]) rfl ⟨rfl,⟨_,_,nJ.out.sys,nJ.out.tab,j4,j5⟩,j1,BM.out⟩
   have g1':(t.toList == [])=false:=by simpa using g1
   have X6:=ast g1;clear g1
   by_cases g2:(t.toList == [118,97,114,105,97,98,108,101])=true
   ·have hr2:=HRF.out
    rw[if_neg X6.out,if_pos g2]at hr2;have ZR:=ast hr2;clear hr2 HRF;go_wp2_with fail
    rw[←hW];have hv:=vJ nJ.out hbl (by omega) (by have:=HJ.out.1.l;omega) HJ.out.1.v0 HJ.out.1.v1;have X7:=HJ.out.1.var (s:=s) (a:=b);obtain⟨m1,m2,m3,m4⟩:=jk s (s.size - b) b hbl;have D7:=ZR.out;obtain⟨V,hV⟩:=exq (tH es' qc s b);rw[←hV]at hv X7 D7;obtain⟨⟨r,q⟩,es6,nv6⟩:=V;refine hv.mono ?_;rintro e w6 ⟨rfl,⟨ev6,Ig,hl6⟩,Fp⟩;simp only at Ig X7 D7 ⊢;obtain⟨j1,j2,j3,j4,j5⟩:=HJ.out;have hch:=BM.out.jG Fp (fun k hk e=>e.elim (fun e=>by omega) (fun e=>e.elim Or.inl (fun e=>(j4 k e).elim (fun e=>Or.inr (Or.inl e)) (fun e=>by omega))));have hlc:Lc w ev ev6:=j4.trans (hl6.mono BM.out.size);have tq:=ast Ig;have HVI:=ast X7;have HRR:=ast D7;have Lh:=ast hch;have BP:=ast hlc;have HNM:=ast (And.intro m2 m3);clear hv hV Ig hl6 Fp X7 D7 hch hlc j1 j2 j3 j4 j5 m1 m2 m3 m4 ZR nJ BM p0 p1 hW hwl
    by_cases h0:r=0
    ·subst h0
     go_wp2_with fail
     go_roundw
     case rel=>
      have D7:=HRR.out;rw[if_pos rfl]at D7;obtain⟨j1,j2,j3,j4,j5⟩:=HJ.out;have hlt:=HMV.out g1';obtain⟨m2,m3⟩:=HNM.out;exact⟨_,f',es6,nv6,zt,code',ev6,cv',tq.out,ast D7,⟨HVI.out,m3,by unfold nx;omega,BP.out,j5⟩,Lh.out⟩
     case measure=>
      have hlt:=HMV.out g1';obtain⟨m2,m3⟩:=HNM.out;obtain⟨j1,j2,j3,j4,j5⟩:=HJ.out;have e1:qP w6 rb=(nx s b).2.2:=by unfold qP;rw[show w6.cell? ⟨rb,1,none⟩=some (.int .i64 ((nx s b).2.2:Nat))from tq.out.rd.cell 1 _ rfl];simp
      rw[e1,vw.out];unfold nx;omega
    ·have h0':(r == 0)=false:=by simpa using h0
     have h0n:(r != 0)=true:=by simpa using h0
     have HR0:=ast h0;clear h0;have hRe:R=((r,q),es6,nv6,zt,code'):=by have:=HRR.out;rw[if_neg HR0.out]at this;exact this
     have qw:=ast hRe;clear hRe;go_wp2_with fail
     rw[qw.out];exact bodyPost_ret (v:=.tuple #[.int .i64 r,.int .i64 q]) (by simp[results,Tryz.results52,go_sem]) rfl ⟨rfl,⟨_,_,tq.out.sys,tq.out.tab,BP.out,HJ.out.2.2.2.2⟩,HVI.out,Lh.out⟩
   have g2':(t.toList == [118,97,114,105,97,98,108,101])=false:=by simpa using g2
   have HG2:=ast g2;clear g2
   by_cases g3:(t.toList == [58])=true
   ·have hr2:=HRF.out
    rw[if_neg X6.out,if_neg HG2.out,if_pos g3]at hr2;have ZR:=ast hr2;clear hr2 HRF;go_wp2_with fail
    rw[←hW];have hv:=CW nJ.out hbl (by omega) (by have:=HJ.out.1.l;omega) HJ.out.1.w HJ.out.1.t0 (by have:=HJ.out.1.t1;omega) (by have:=HJ.out.1.t1;have:=HJ.out.1.c;omega);have X7:=HJ.out.1.word (s:=s) (a:=b) hbl;have D7:=ZR.out;obtain⟨V,hV⟩:=exq (jb es' zt code' s b);rw[←hV]at hv X7 D7;obtain⟨⟨r,q⟩,es6,nt6,ZT,a6⟩:=V;refine hv.mono ?_;rintro e w6 ⟨rfl,⟨ev6,cv6,b6,Ig,Zm,ha6,hl6,hl7⟩,Fp⟩;simp only at Ig X7 D7 ha6 ⊢;obtain⟨j1,j2,j3,j4,j5⟩:=HJ.out;have hch:=BM.out.jG Fp (fun k hk e=>e.elim (fun e=>by omega) (fun e=>e.elim Or.inl (fun e=>e.elim (fun e=>(j4 k e).elim (fun e=>Or.inr (Or.inl e)) (fun e=>by omega)) (fun e=>(j5 k e).elim (fun e=>Or.inr (Or.inr e)) (fun e=>by omega)))));have hlc:Lc w ev ev6:=j4.trans (hl6.mono BM.out.size);have U2:Lc w cv cv6:=j5.trans (hl7.mono BM.out.size);have tq:=ast Ig;have HVI:=ast X7;have HRR:=ast D7;have Lh:=ast hch;have BP:=ast hlc;have vK:=ast U2;have HA6:=ast ha6;have HS6:=ast Zm;clear hv hV Ig hl6 hl7 Fp X7 D7 hch hlc U2 ha6 Zm j1 j2 j3 j4 j5 ZR nJ BM p0 p1 hW hwl
    by_cases h0:r=0
    ·subst h0
     go_wp2_with fail
     go_roundw
     case rel=>
      have D7:=HRR.out;rw[if_pos rfl]at D7;obtain⟨j1,j2,j3,j4,j5⟩:=HJ.out;have hlt:=HMV.out g1';have e6:=HA6.out rfl;have Zm:=HS6.out;have hge:=HVI.out.2 rfl;subst e6;exact⟨_,f',es6,qc,nt6,ZT,ev6,cv6,tq.out,ast D7,⟨HVI.out.1,Zm,by omega,BP.out,vK.out⟩,Lh.out⟩
     case measure=>
      have hlt:=HMV.out g1';obtain⟨j1,j2,j3,j4,j5⟩:=HJ.out;have e6:=HA6.out rfl;have Zm:=HS6.out;have hge:=HVI.out.2 rfl;have e1:qP w6 rb=b6:=by unfold qP;rw[show w6.cell? ⟨rb,1,none⟩=some (.int .i64 (b6:Nat))from tq.out.rd.cell 1 _ rfl];simp
      rw[e1,vw.out];omega
    ·have h0':(r == 0)=false:=by simpa using h0
     have h0n:(r != 0)=true:=by simpa using h0
     have HR0:=ast h0;clear h0;have hRe:R=((r,q),es6,qc,nt6,ZT):=by have:=HRR.out;rw[if_neg HR0.out]at this;exact this
     have qw:=ast hRe;clear hRe;go_wp2_with fail
     rw[qw.out];exact bodyPost_ret (v:=.tuple #[.int .i64 r,.int .i64 q]) (by simp[results,Tryz.results52,go_sem]) rfl ⟨rfl,⟨_,_,tq.out.sys,tq.out.tab,BP.out,vK.out⟩,HVI.out.1,Lh.out⟩
   have g3':(t.toList == [58])=false:=by simpa using g3
   have HG3:=ast g3;clear g3;have hRe:R=((3,(pl:Int)),es',qc,zt,code'):=by have:=HRF.out;rw[if_neg X6.out,if_neg HG2.out,if_neg HG3.out]at this;exact this
   have qw:=ast hRe;clear hRe;go_wp2_with fail
   rw[←hW];go_quiet (fail)
   go_wp2_with fail
   rw[qw.out,←hW];have lK:Below W.heap.size W (W.drewN nq):=bdq;obtain⟨j1,j2,j3,j4,j5⟩:=HJ.out;exact bodyPost_ret (v:=.tuple #[.int .i64 3,.int .i64 pl]) (by simp[results,Tryz.results52,go_sem]) rfl ⟨rfl,⟨_,_,nJ.out.sys.below lK,nJ.out.tab.below lK,j4,j5⟩,j1,BM.out.trans (aj.au lK)⟩
end
section
theorem mi.zero:mi [] 0 0 []:=⟨by simp,by simp,by simp,by omega,by omega,by omega,by omega,by simp⟩
theorem Qb(w:World)(ht:lh w):
  Calls Tryz.prog 23 #[] w fun e w'=>∃bb,w.heap.size≤bb∧e=.returned (.pointer (some ⟨bb,0,none⟩))∧iC w' bb (.slice none 0 0) (.slice none 0 0) [] 0 0 []∧Below w.heap.size w w':=by
 have HT:=ast ht;clear ht;go_enter Tryz.func23,Tryz.ntmps23
 go_wp2_with fail
 exact bodyPost_ret (v:=.pointer (some ⟨w.heap.size,0,none⟩)) (by simp[results,Tryz.results23,go_sem]) rfl ⟨_,nrq,rfl,⟨ay w _ _,⟨rfl,Or.inl ⟨rfl,rfl⟩⟩,⟨rfl,Or.inl ⟨rfl,rfl⟩⟩,HT.out.lt⟩,brq.alloc nrq _⟩
theorem pg(bb:Nat)(w:World):Calls Tryz.prog 41 #[.pointer (some ⟨bb,0,none⟩)] w fun e w'=>e=.returned (.pointer (some ⟨bb,0,none⟩))∧w'=w:=by
 go_enter Tryz.func41,Tryz.ntmps41
 go_wp2_with fail
 go_ret
 exact⟨rfl,rfl⟩
theorem Lj{w:World}{bb:Nat}{ev cv:Value}{es:List PE}{nv nt:Int}{code:List Int}(s:ByteArray)(h:iC w bb ev cv es nv nt code)(ht:lh w)(hs:s.size≤1100000)(hi:mi es nv nt code):
  Calls Tryz.prog 24 #[.pointer (some ⟨bb,0,none⟩),.string s] w (IB w bb ev cv (vN s es nv nt code)):=by
 have H:=ast (Qa s h ht hs hi);obtain⟨R,hR⟩:=exq (vN s es nv nt code);rw[←hR]at H ⊢;have hb:=h.blk.lt;obtain⟨⟨r,q⟩,es',qc,zt,code'⟩:=R;clear h ht hi hR;go_enter Tryz.func24,Tryz.ntmps24
 go_wp2_with fail
 refine(pg bb _).mono ?_;rintro e w' ⟨rfl,rfl⟩;go_wp2_with fail
 refine H.out.mono ?_;rintro e w' ⟨rfl,h2⟩;have H2:=ast h2;clear H h2;go_wp2_with fail
 exact bodyPost_ret (v:=.tuple #[.int .i64 r,.int .i64 q]) (by simp[results,Tryz.results24,go_sem]) rfl ⟨rfl,H2.out⟩
end
section
structure Alike (es:List PE) (ws:List RW):Prop where
 names:es.map PE.name=ws.map RW.name
 use:∀(k:Nat) (x:PE) (y:RW),es[k]?=some x→ws[k]?=some y→(x.var=true→y.var=x.place∧0≤y.var)∧(x.var=false→y.var= -1∧x.inf=y.inf∧y.inf.Nn∧1≤y.inf.steps∧y.inf.steps≤1000000000)
theorem Alike.len{es:List PE}{ws:List RW}(h:Alike es ws):es.length=ws.length:=by
 have:=congrArg List.length h.names;simpa using this
structure BR (b:PB) (l:List AI) (loops:Int):Prop where
 does:b.does=dw l
 nn:(dw l).Nn
 U3:b.lF=decide (0<loops)
 num:tN b l
structure Same (b b':PB):Prop where
 op:b'.opener=b.opener
 U3:b'.lF=b.lF
 hole:b'.hole=b.hole
 times:b'.times=b.times
 other:b'.other=b.other
theorem Same.refl(b:PB):Same b b:=⟨rfl,rfl,rfl,rfl,rfl⟩
theorem Same.trans{a b c:PB}(h:Same a b)(h':Same b c):Same a c:=⟨h'.op.trans h.op,h'.U3.trans h.U3,h'.hole.trans h.hole,h'.times.trans h.times,h'.other.trans h.other⟩
theorem Same.add(b:PB)(i:Inf):Same b (b.add i):=⟨rfl,rfl,rfl,rfl,rfl⟩
def qQ(o:Int):List ByteArray:=if o=29 then [iQ,dO]else if o=30 then [dO]else if o=31 then [jg]else [ik]
def Opn(b:PB):Prop:=b.opener=29∨b.opener=30∨b.opener=31∨b.opener=34
theorem Opn.none{b:PB}(h:Opn b):jH ⟨#[]⟩ (qQ b.opener)=false:=by
 rcases h with h|h|h|h<;>rw[h]
 ·exact Ha
 ·exact NT
 ·exact NU
 ·exact Zi
theorem BR.snoc{b:PB}{l:List AI}{loops:Int}(h:BR b l loops)(i:Inf)(t:IT)(hi:i.Nn):BR (b.add i) (l++[⟨none,i,t⟩]) loops:=
 ⟨by rw[iF];simp[PB.add,h.does],by rw[iF];exact h.nn.then hi,h.U3,tN.none rfl⟩
theorem lM{es:List PE}{nt:Int}{s:ByteArray}{g:Nat}{tk:Int}{dc:List Int}{b:PB}{r:List PB}{kn:Inf}{a:Nat}{E:Int}(h:(aT es nt (tk+1) dc (b :: r) kn (nx s a).1).1=E)(hE:E≠0):jZ es nt s (g+1) tk dc (b :: r) kn a=.inr (E,((nx s a).2.1:Int)):=by
 rw[jZ,h,if_neg hE]
theorem jU{es:List PE}{nt:Int}{s:ByteArray}{g:Nat}{tk:Int}{dc ql:List Int}{b:PB}{r st':List PB}{kn Ir:Inf}{a:Nat}(h:aT es nt (tk+1) dc (b :: r) kn (nx s a).1=(0,ql,st',Ir)):jZ es nt s (g+1) tk dc (b :: r) kn a=jZ es nt s g (tk+1) ql st' Ir (nx s a).2.2:=by
 rw[jZ,h];simp
theorem D8(t:ByteArray):jH t fQ=true↔(t.toList=[]∨t.toList=[101,108,115,101]∨t.toList=[116,104,101,110]∨t.toList=[108,111,111,112]∨t.toList=[59]∨t.toList=[58]∨t.toList=[118,97,114,105,97,98,108,101]):=by
 unfold jH fQ iQ dO jg ik zT Tj;simp only[List.any_cons,List.any_nil,aN,Bool.or_false,Bool.or_eq_true,beq_iff_eq]
 constructor
 ·rintro (h|h|h|h|h|h|h)<;>simp[←h]
 ·rintro (h|h|h|h|h|h|h)<;>simp[h]
theorem IC{t:ByteArray}(h:jH t fQ=true):t.toList=[]∨t.toList=[101,108,115,101]∨t.toList=[116,104,101,110]∨t.toList=[108,111,111,112]∨t.toList=[59]∨t.toList=[58]∨t.toList=[118,97,114,105,97,98,108,101]:=(D8 t).1 h
theorem xE{t:ByteArray}(h:jH t fQ=false):t.toList≠[]∧t.toList≠[101,108,115,101]∧t.toList≠[116,104,101,110]∧t.toList≠[108,111,111,112]∧t.toList≠[59]∧t.toList≠[58]∧t.toList≠[118,97,114,105,97,98,108,101]:=by
 have h2:¬jH t fQ=true:=by simp[h]
 rw[D8]at h2;simp only[not_or]at h2;exact h2
theorem X8{t:ByteArray}(h:jH t [iQ,dO]=true):t.toList=[101,108,115,101]∨t.toList=[116,104,101,110]:=by
 unfold jH iQ dO at h;simp only[List.any_cons,List.any_nil,aN,Bool.or_false,Bool.or_eq_true,beq_iff_eq]at h;rcases h with h|h<;>simp[←h]
theorem U4{t:ByteArray}(h:jH t [dO]=true):t.toList=[116,104,101,110]:=by
 unfold jH dO at h;simp only[List.any_cons,List.any_nil,aN,Bool.or_false,Bool.or_eq_true,beq_iff_eq]at h;exact h.symm
theorem U5{t:ByteArray}(h:jH t [jg]=true):t.toList=[108,111,111,112]:=by
 unfold jH jg at h;simp only[List.any_cons,List.any_nil,aN,Bool.or_false,Bool.or_eq_true,beq_iff_eq]at h;exact h.symm
theorem U6{t:ByteArray}(h:jH t [ik]=true):t.toList=[59]:=by
 unfold jH ik at h;simp only[List.any_cons,List.any_nil,aN,Bool.or_false,Bool.or_eq_true,beq_iff_eq]at h;exact h.symm
theorem Ll(es:List PE)(nt tk:Int)(dc:List Int){b:PB}(r:List PB)(kn:Inf){t:ByteArray}(hb:Opn b)(h:jH t fQ=true)(hn:jH t (qQ b.opener)=false):(aT es nt tk dc (b :: r) kn t).1=5:=by
 rcases IC h with e|e|e|e|e|e|e
 ·simp[aT,e]
 ·have:b.opener≠29:=by rintro h1;rw[h1]at hn;simp[qQ,jH,iQ,aN,e]at hn
  simp[aT,e,this]
 ·have:¬(b.opener=29∨b.opener=30):=by
   rintro (h1|h1)<;>rw[h1]at hn<;>simp[qQ,jH,iQ,dO,aN,e]at hn
  simp[aT,e,this]
 ·have:b.opener≠31:=by rintro h1;rw[h1]at hn;simp[qQ,jH,jg,aN,e]at hn
  simp[aT,e,this]
 ·have:b.opener≠34:=by rintro h1;rw[h1]at hn;simp[qQ,jH,ik,aN,e]at hn
  simp[aT,e,this]
 ·simp[aT,e]
 ·simp[aT,e]
theorem U7{t:ByteArray}(h:t.toList=[105,102]∨t.toList=[100,111]):(fZ t).2=false:=by
 rcases h with h|h
 ·have:t=⟨#[105,102]⟩:=(jS t [105,102]).1 (by simp[h])
  subst this;decide +kernel
 ·have:t=⟨#[100,111]⟩:=(jS t [100,111]).1 (by simp[h])
  subst this;decide +kernel
theorem U8(es:List PE)(nt tk:Int)(dc:List Int)(b:PB)(r:List PB)(kn:Inf){t:ByteArray}(h:jH t fQ=false)(hn:(fZ t).2=true):
  aT es nt tk dc (b :: r) kn t=(0,dc++[28,(fZ t).1],{b.add (ai 28)with numbers:=min (b.numbers+1) 2,a0:=b.a1,a1:=(fZ t).1} :: r,kn):=by
 obtain⟨h1,h2,h3,h4,h5,h6,h7⟩:=xE h;have n1:t.toList≠[105,102]:=fun e=>by rw[U7 (Or.inl e)]at hn;cases hn
 have n2:t.toList≠[100,111]:=fun e=>by rw[U7 (Or.inr e)]at hn;cases hn
 obtain⟨q1,q2⟩:=KN t;rw[hn]at q1;rw[←q2 q1];simp[aT,h1,h2,h3,h4,h5,h6,h7,n1,n2,q1]
theorem Qc(es:List PE)(nt tk:Int)(dc:List Int)(b:PB)(r:List PB)(kn:Inf){t:ByteArray}(h:jH t fQ=false)(hn:¬(fZ t).2=true)(n1:¬(t.toList == [105,102])=true)(n2:¬(t.toList == [100,111])=true):
  aT es nt tk dc (b :: r) kn t=pX es dc b r kn t:=by
 obtain⟨h1,h2,h3,h4,h5,h6,h7⟩:=xE h;obtain⟨q1,q2⟩:=KN t;have hn':(je t).2=false:=by rw[q1];simpa using hn
 simp only[beq_iff_eq]at n1 n2;simp[aT,h1,h2,h3,h4,h5,h6,h7,n1,n2,hn']
theorem X9{es:List PE}{ws:List RW}(hA:Alike es ws)(dc:List Int){b:PB}(r:List PB)(kn:Inf)(t:ByteArray){loops:Int}(hl:0≤loops)(hb:b.lF=decide (0<loops)):
  (kC ws t loops=0∧(mJ ws t).Nn∧∃ql,pX es dc b r kn t=(0,ql,b.add (mJ ws t) :: r,kn)∧dc.length≤ql.length∧(∀i,i<dc.length→ql[i]?=dc[i]?)∧iE es ql (decide (0<loops)) (sD ws t) dc.length ql.length)∨(kC ws t loops≠0∧(pX es dc b r kn t).1=kC ws t loops):=by
 unfold pX kC mJ;rw[AX hA.names t]
 by_cases hf:0≤dB ws t
 ·left
  have hlt:dB ws t<ws.length:=(qy (nameAt ws) t ws.length).1;have hk:(dB ws t).toNat<ws.length:=by omega
  have hy:ws[(dB ws t).toNat]?=some ws[(dB ws t).toNat]:=List.getElem?_eq_getElem hk;have xU:(dB ws t).toNat<es.length:=by rw[hA.len];exact hk
  have hx:es[(dB ws t).toNat]?=some es[(dB ws t).toNat]:=List.getElem?_eq_getElem xU;have hu:=hA.use _ _ _ hx hy;rw[if_pos hf,if_pos hf,if_pos hf,hy];have hg:es.getD (dB ws t).toNat PE.zero=es[(dB ws t).toNat]:=by simp[xU]
  simp only[hg];have hx':=hx;generalize es[(dB ws t).toNat]=x at hu hx';generalize ws[(dB ws t).toNat]=y at hu
  have key:x.use=zU y∧(zU y).Nn:=by
   unfold PE.use zU
   cases hv:x.var with
   |true=>
    have:=(hu.1 hv).2;rw[if_pos rfl,if_pos this,zq.1];exact⟨rfl,Inf.Nn.plain (by omega) (by omega)⟩
   |false=>
    obtain⟨u1,u2,u3,_⟩:=hu.2 hv;rw[if_neg (by simp),if_neg (by omega),u2,zo.2.2.1];exact⟨U0 u3,u3.more⟩
  refine⟨by trivial,key.2,_,by rw[key.1],by simp,fun i hi=>List.getElem?_append_left hi,?_⟩;unfold sD PE.op;rw[if_pos hf];have g1:∀o:Int,(dc++[o,x.place])[dc.length]?=some o:=fun o=>by simp
  have g2:∀o:Int,(dc++[o,x.place])[dc.length+1]?=some x.place:=fun o=>by rw[List.getElem?_append_right (by omega)];simp
  rw[show(dc++[if x.var=true then 28 else 33,x.place]).length=dc.length+2 by simp]
  cases hv:x.var with
  |true=>exact .var _ _ x _ hx' hv (g1 _) (g2 _)
  |false=>exact .own _ _ x _ hx' hv (g1 _) (g2 _)
 ·rw[if_neg hf,if_neg hf,if_neg hf]
  cases ho:fP t with
  |none=>
   right
   rw[KL ho];exact⟨by simp,by simp⟩
  |some k=>
   obtain⟨e1,e2,e3⟩:=oQ ho;have e4:=PQ ho;have hb2:=wR t;simp only
   by_cases h5:k=27∧b.lF=false
   ·right
    have hl0:loops=0:=by
     have:=h5.2;rw[hb]at this;simp at this;omega
    have hi:(t.toList == [105])=true:=by simpa using e3.2 h5.1
    rw[e1];simp only[Bool.true_eq_false,if_false];rw[if_pos ⟨hi,hl0⟩,if_pos h5];exact⟨by decide,rfl⟩
   ·left
    have hno:¬((t.toList == [105])=true∧loops=0):=by
     rintro ⟨h1,h2⟩;exact h5 ⟨e3.1 (by simpa using h1),by rw[hb,h2];rfl⟩
    rw[if_neg h5];have h22:(ax t).2.2=true:=by rw[e1]
    rw[h22];simp only[Bool.true_eq_false,if_false];rw[if_neg hno];refine⟨rfl,Inf.Nn.plain hb2.1 hb2.2.2.1,_,by rw[e4],by simp,fun i hi=>List.getElem?_append_left hi,?_⟩;unfold sD;rw[if_neg hf,show(dc++[(k:Int)]).length=dc.length+1 by simp];refine .op _ t k _ ho (by simp) (fun hk=>?_);rw[←hb]
    cases hd:b.lF with
    |true=>rfl
    |false=>exact absurd ⟨hk,hd⟩ h5
def Ya(es:List PE)(nt:Int)(s:ByteArray)(ae:List Tk)(ends:List ByteArray)(loops:Int)(I g:Nat)(tk:Int)(dc:List Int)(b:PB)(r:List PB)(kn:Inf)(a:Nat)(acc:List AI):PR→Prop
 |.inr E=>jZ es nt s g tk dc (b :: r) kn a=.inr E
 |.inl (l,t,I')=>I<I'∧I'≤ae.length∧jH t ends=true∧t=aC ae (I' - 1)∧∃g' ql b' a',jZ es nt s g tk dc (b :: r) kn a=jZ es nt s g' (tk+((I' - 1 - I:Nat):Int)) ql (b' :: r) kn a'∧ae.length - (I' - 1)+2≤g'∧At s ae (I' - 1) a'∧Same b b'∧BR b' l loops∧∀p,CO es dc p loops acc→CO es ql p loops l∧∀i,i<p→ql[i]?=dc[i]?
theorem Ya.step{es:List PE}{nt:Int}{s:ByteArray}{ae:List Tk}{ends:List ByteArray}{loops:Int}{I J g g1:Nat}{tk tk1:Int}{dc ja:List Int}{b b1:PB}{r:List PB}{kn:Inf}{a a1:Nat}{acc afK:List AI}{R:PR}
  (h:Ya es nt s ae ends loops J g1 tk1 ja b1 r kn a1 afK R) (h1:jZ es nt s g tk dc (b :: r) kn a=jZ es nt s g1 tk1 ja (b1 :: r) kn a1) (hIJ:I<J) (htk:tk1=tk+((J - I:Nat):Int)) (hs:Same b b1) (hco:∀p,CO es dc p loops acc→CO es ja p loops afK∧∀i,i<p→ja[i]?=dc[i]?):
  Ya es nt s ae ends loops I g tk dc b r kn a acc R:=by
 match R,h with
 |.inr E,h=>exact h1.trans h
 |.inl (l,t,I'),h=>
  obtain⟨c1,c2,c3,c4,g',ql,b',a',c5,c6,c7,c8,c9,c10⟩:=h;refine⟨by omega,c2,c3,c4,g',ql,b',a',?_,c6,c7,hs.trans c8,c9,fun p hp=>?_⟩
  rotate_left
  ·obtain⟨q1,q2⟩:=hco p hp
   obtain⟨q3,q4⟩:=c10 p q1;exact⟨q3,fun i hi=>(q4 i hi).trans (q2 i hi)⟩
  rw[h1,c5,htk]
  congr 1
  omega
theorem CO.nil'(es:List PE){dc:List Int}(p:Nat)(loops:Int)(h:p=dc.length):CO es dc p loops []:=by subst h;exact CO.nil es dc loops
theorem zu(l:List Int)(i:Nat)(x:Int):(l.set i x).length=l.length:=by simp
theorem co_then{es:List PE}{dc ja:List Int}{p:Nat}{loops:Int}{acc la:List AI}{hole:Int}{i:Inf}(hp:CO es dc p loops acc)(hh:hole=(PB.opened {PB.zero with opener:=29} PB.zero (dc.length+2)).hole)
  (h1:CO es ja (dc.length+2) loops la∧∀i,i<dc.length+2→ja[i]?=(dc++[29,0])[i]?):CO es (ja.set hole.toNat ja.length) p loops (acc++[⟨none,i,.iff (trees la)⟩])∧∀i,i<p→(ja.set hole.toNat ja.length)[i]?=dc[i]?:=by
 obtain⟨⟨h2,h3⟩,h4⟩:=h1;have hho:hole.toNat=dc.length+1:=by rw[hh];simp[PB.opened];omega
 rw[hho];have e1:∀i,i≠dc.length+1→(ja.set (dc.length+1) ja.length)[i]?=ja[i]?:=fun i hi=>by rw[List.getElem?_set_ne (by omega)]
 have e2:∀i,i<dc.length→(ja.set (dc.length+1) ja.length)[i]?=dc[i]?:=fun i hi=>by
  rw[e1 i (by omega),h4 i (by omega),List.getElem?_append_left hi]
 refine hp.snoc (by rw[zu];omega) e2 ?_;rw[zu];obtain⟨ps,q1,q2,q3⟩:=h3.ny h2 (es':=es) (code':=ja.set (dc.length+1) ja.length) (fun _ _=>id) (fun i hi _=>e1 i (by omega));refine .iff _ _ _ _ ps ?_ ?_ q1 q2 q3
 ·rw[e1 _ (by omega),h4 _ (by omega)];simp
 ·rw[List.getElem?_set_self (by omega)]
theorem Yb{es:List PE}{dc ja CX:List Int}{p:Nat}{loops:Int}{acc la lb:List AI}{hole Ou:Int}{i:Inf}{o:Inf}{z:PB}(hp:CO es dc p loops acc)(hh:hole=(PB.opened {PB.zero with opener:=29} z (dc.length+2)).hole)
  (hh2:Ou=(PB.opened {PB.zero with opener:=30,other:=o} z (ja.length+2)).hole)
  (h1:CO es ja (dc.length+2) loops la∧∀i,i<dc.length+2→ja[i]?=(dc++[29,0])[i]?)
  (k1:CO es CX (ja.length+2) loops lb∧∀i,i<ja.length+2→CX[i]?=((ja++[30,0]).set hole.toNat (ja.length+2))[i]?):
  CO es (CX.set Ou.toNat CX.length) p loops (acc++[⟨none,i,.els (trees la) (trees lb)⟩])∧∀i,i<p→(CX.set Ou.toNat CX.length)[i]?=dc[i]?:=by
 obtain⟨⟨h2,h3⟩,h4⟩:=h1;obtain⟨⟨k2,k3⟩,k4⟩:=k1;have hho:hole.toNat=dc.length+1:=by rw[hh];simp[PB.opened];omega
 have akf:Ou.toNat=ja.length+1:=by rw[hh2];simp[PB.opened];omega
 rw[akf];rw[hho]at k4;have e1:∀i,i≠ja.length+1→(CX.set (ja.length+1) CX.length)[i]?=CX[i]?:=fun i hi=>by rw[List.getElem?_set_ne (by omega)]
 have e3:∀i,i<ja.length→i≠dc.length+1→(CX.set (ja.length+1) CX.length)[i]?=ja[i]?:=fun i hi hn=>by
  rw[e1 i (by omega),k4 i (by omega),List.getElem?_set_ne (by omega),List.getElem?_append_left hi]
 have e2:∀i,i<dc.length→(CX.set (ja.length+1) CX.length)[i]?=dc[i]?:=fun i hi=>by
  rw[e3 i (by omega) (by omega),h4 i (by omega),List.getElem?_append_left hi]
 refine hp.snoc (by rw[zu];omega) e2 ?_;rw[zu];obtain⟨ps,q1,q2,q3⟩:=h3.ny h2 (es':=es) (code':=CX.set (ja.length+1) CX.length) (fun _ _=>id) (fun i hi Og=>e3 i Og (by omega));obtain⟨qs,r1,r2,r3⟩:=k3.ny k2 (es':=es) (code':=CX.set (ja.length+1) CX.length) (fun _ _=>id) (fun i hi _=>e1 i (by omega));refine .els _ _ _ _ ja.length _ ps qs ?_ ?_ q1 q2 q3 ?_ ?_ r1 r2 r3
 ·rw[e3 _ (by omega) (by omega),h4 _ (by omega)];simp
 ·rw[e1 _ (by omega),k4 _ (by omega),List.getElem?_set_self (by simp;omega)];simp
 ·rw[e1 _ (by omega),k4 _ (by omega),List.getElem?_set_ne (by omega)];simp
 ·rw[List.getElem?_set_self (by omega)]
theorem Yc{es:List PE}{dc ja:List Int}{p:Nat}{loops:Int}{acc la:List AI}{hole:Int}{i:Inf}{tm:Int}{z:PB}(hp:CO es dc p loops acc)(hl:0≤loops)(hh:hole=(PB.opened {PB.zero with opener:=31,times:=tm} z (dc.length+2)).hole)
  (h1:CO es ja (dc.length+2) (loops+1) la∧∀i,i<dc.length+2→ja[i]?=(dc++[31,0])[i]?):CO es ((ja++[32,(hole.toNat:Int)+1]).set hole.toNat (ja.length+2)) p loops (acc++[⟨none,i,.Et (trees la)⟩])∧∀i,i<p→((ja++[32,(hole.toNat:Int)+1]).set hole.toNat (ja.length+2))[i]?=dc[i]?:=by
 obtain⟨⟨h2,h3⟩,h4⟩:=h1;have hho:hole.toNat=dc.length+1:=by rw[hh];simp[PB.opened];omega
 rw[hho];obtain⟨c,hc⟩:=exq ((ja++[32,((dc.length+1:Nat):Int)+1]).set (dc.length+1) (ja.length+2));rw[←hc];have hcl:c.length=ja.length+2:=by rw[hc];simp
 have e1:∀i,i<ja.length→i≠dc.length+1→c[i]?=ja[i]?:=fun i hi hn=>by rw[hc,List.getElem?_set_ne (by omega),List.getElem?_append_left hi]
 have e2:∀i,i<dc.length→c[i]?=dc[i]?:=fun i hi=>by
  rw[e1 i (by omega) (by omega),h4 i (by omega),List.getElem?_append_left hi]
 refine hp.snoc (by omega) e2 ?_;rw[hcl];rw[show decide (0<loops+1)=true by simp;omega]at h3;obtain⟨ps,q1,q2,q3⟩:=h3.ny h2 (es':=es) (code':=c) (fun _ _=>id) (fun i hi Og=>e1 i Og (by omega));refine .Et _ _ _ ja.length ps ?_ ?_ q1 q2 q3 ?_ ?_
 ·rw[e1 _ (by omega) (by omega),h4 _ (by omega)];simp
 ·rw[hc,List.getElem?_set_self (by simp;omega)];simp
 ·rw[hc,List.getElem?_set_ne (by omega)];simp
 ·rw[hc,List.getElem?_set_ne (by omega),List.getElem?_append_right (by omega)]
  simp;omega
theorem Qd{es:List PE}{ws:List RW}(hA:Alike es ws)(nt:Int)(s:ByteArray)(ae:List Tk):∀(f:Nat) (ends:List ByteArray) (loops:Int) (acc:List AI) (I g:Nat) (tk:Int) (dc:List Int) (b:PB) (r:List PB) (kn:Inf) (a:Nat),
  ae.length+1 - I≤f→I≤ae.length→ae.length - I+2≤g→At s ae I a→BR b acc loops→0≤loops→Opn b→ends=qQ b.opener→
  Ya es nt s ae ends loops I g tk dc b r kn a acc (aJ ws ae s.size f ends loops acc I):=by
 intro f
 induction f with
 |zero=>intro ends loops acc I g tk dc b r kn a h1 h2;omega
 |succ f ih=>
  intro ends loops acc I g tk dc b r kn a hf hI hg hat hbr hl hop yh;obtain⟨g,rfl⟩:∃g0,g=g0+1:=⟨g - 1,by omega⟩;obtain⟨n1,n2,n3⟩:=hat.next hI
  have bad:∀{E:Int} {BQ:Int} {ql:List Int} {b':PB} {r':List PB} {Ir:Inf} {g':Nat},(aT es nt (BQ+1) ql (b' :: r') Ir (aC ae I)).1=E→E≠0→jZ es nt s (g'+1) BQ ql (b' :: r') Ir a=.inr (E,kz ae s.size I):=by
   intro E BQ ql b' r' Ir g' h hE;rw[←n1]at h;rw[lM h hE,n2]
  have hnone:=hop.none;rw[aJ]
  split
  ·rename_i hin
   have hlt:I<ae.length:=NS ae I ends (by rw[yh];exact hnone) hin;exact⟨by omega,by omega,hin,by simp,g+1,dc,b,a,by simp,by simpa using hg,by simpa using hat,Same.refl b,hbr,fun p hp=>⟨hp,fun _ _=>rfl⟩⟩
  ·rename_i hin
   have akg:jH (aC ae I) (qQ b.opener)=false:=by rw[←yh];simpa using hin
   split
   ·rename_i hst
    exact bad (Ll es nt (tk+1) dc r kn hop hst akg) (by decide)
   ·rename_i hst
    have xG:jH (aC ae I) fQ=false:=by simpa using hst
    have hne:=(xE xG).1;obtain⟨hlt,yR⟩:=n3.resolve_left hne
    split
    ·rename_i hnum
     have hs:=U8 es nt (tk+1) dc b r kn xG hnum;rw[←n1]at hs
     refine(ih ends loops _ (I+1) g (tk+1) _ {b.add (ai 28)with numbers:=min (b.numbers+1) 2,a0:=b.a1,a1:=(fZ (nx s a).1).1} r kn _ (by omega) (by omega) (by omega) yR ?_ hl hop yh).step (jU hs) (by omega) (by omega) ⟨rfl,rfl,rfl,rfl,rfl⟩ (fun p hp=>hp.snoc (by simp) (fun i hi=>List.getElem?_append_left hi) (by
      rw[n1,show(dc++[28,(fZ (aC ae I)).1]).length=dc.length+2 by simp];exact .num _ _ _ (RU _ hnum) (by simp) (by rw[List.getElem?_append_right (by omega)];simp)))
     refine⟨?_,?_,hbr.U3,?_⟩
     ·rw[iF];simp[PB.add,hbr.does,zq.1]
     ·rw[iF];exact hbr.nn.then (Inf.Nn.plain (by omega) (by omega))
     ·rw[n1];exact hbr.num.some rfl rfl rfl
    ·rename_i hnum
     split
     ·rename_i Zv
      have akh:(nx s a).1.toList=[105,102]:=by rw[n1];simpa using Zv
      have hs:aT es nt (tk+1) dc (b :: r) kn (nx s a).1=(0,dc++[29,0],PB.opened {PB.zero with opener:=29} (b.add (ai 29)) (dc.length+2) :: b.add (ai 29) :: r,kn):=by simp[aT,akh]
      have hd:=jU (es:=es) (nt:=nt) (g:=g) hs;have hB:BR (PB.opened {PB.zero with opener:=29} (b.add (ai 29)) (dc.length+2)) [] loops:=⟨rfl,Inf.Nn.zero,by simp[PB.opened,PB.add,hbr.U3],rfl⟩;have iA:=ih [iQ,dO] loops [] (I+1) g (tk+1) (dc++[29,0]) _ (b.add (ai 29) :: r) kn _ (by omega) (by omega) (by omega) yR hB hl (Or.inl rfl) rfl;generalize aJ ws ae s.size f [iQ,dO] loops [] (I+1)=RA at iA
      match RA,iA with
      |.inr E,iA=>exact hd.trans iA
      |.inl (la,ta,I1),iA=>
       obtain⟨a1,a2,a3,a4,g1,ja,b1,p1,a5,a6,a7,a8,a9,a10⟩:=iA;obtain⟨g1,rfl⟩:∃g0,g1=g0+1:=⟨g1 - 1,by omega⟩;obtain⟨m1,m2,m3⟩:=a7.next (by omega);rw[←a4]at m1;simp only
       have U9:ta.toList=[101,108,115,101]∨ta.toList=[116,104,101,110]:=by
        exact X8 a3
       have hI1:I1 - 1+1=I1:=by omega
       have m4:At s ae I1 (nx s p1).2.2:=by
        rcases m3 with m3|⟨_,m3⟩
        ·rw[←a4]at m3;rcases U9 with h|h<;>rw[h]at m3<;>cases m3
        ·rw[hI1]at m3;exact m3
       have IE:b1.opener=29:=a8.op
       split
       ·rename_i hel
        have XC:(nx s p1).1.toList=[101,108,115,101]:=by rw[m1];simpa using hel
        have hs1:aT es nt (tk+1+((I1 - 1 - (I+1):Nat):Int)+1) ja (b1 :: b.add (ai 29) :: r) kn (nx s p1).1=(0,(ja++[30,0]).set b1.hole.toNat (ja.length+2),PB.opened {PB.zero with opener:=30,other:=b1.does.then (ai 30)} (b.add (ai 29)) (ja.length+2) :: b.add (ai 29) :: r,kn):=by
         simp[aT,XC,IE]
        have uQ:=jU (es:=es) (nt:=nt) (g:=g1) hs1;have hB2:BR (PB.opened {PB.zero with opener:=30,other:=b1.does.then (ai 30)} (b.add (ai 29)) (ja.length+2)) [] loops:=⟨rfl,Inf.Nn.zero,by simp[PB.opened,PB.add,hbr.U3],rfl⟩;have iB:=ih [dO] loops [] I1 g1 (tk+1+((I1 - 1 - (I+1):Nat):Int)+1) ((ja++[30,0]).set b1.hole.toNat (ja.length+2)) _ (b.add (ai 29) :: r) kn _ (by omega) a2 (by omega) m4 hB2 hl (Or.inr (Or.inl rfl)) rfl;generalize aJ ws ae s.size f [dO] loops [] I1=RB at iB
        match RB,iB with
        |.inr E,iB=>exact hd.trans (a5.trans (uQ.trans iB))
        |.inl (lb,tb,I2),iB=>
         obtain⟨b1',b2',b3,b4,g2,CX,b2,p2,b5,b6,b7,b8,b9,sG⟩:=iB;obtain⟨g2,rfl⟩:∃g0,g2=g0+1:=⟨g2 - 1,by omega⟩;obtain⟨q1,q2,q3⟩:=b7.next (by omega);rw[←b4]at q1;simp only
         have htb:tb.toList=[116,104,101,110]:=by
          exact U4 b3
         have hI2:I2 - 1+1=I2:=by omega
         have q4:At s ae I2 (nx s p2).2.2:=by
          rcases q3 with q3|⟨_,q3⟩
          ·rw[←b4,htb]at q3;cases q3
          ·rw[hI2]at q3;exact q3
         have Ug:b2.opener=30:=b8.op;have hoth:b2.other=(dw la).more:=by rw[b8.other,a9.does.symm];show b1.does.then (ai 30)=_;rw[zo.1,AY (by rw[a9.does];exact a9.nn)]
         have nU:b2.does=dw lb:=b9.does;have afL:(nx s p2).1.toList=[116,104,101,110]:=by rw[q1];exact htb
         split
         ·rename_i iJ
          have hnn:b2.does.bu=b2.other.bu:=by rw[hoth,nU];exact iJ.symm
          have hs2:aT es nt (tk+1+((I1 - 1 - (I+1):Nat):Int)+1+((I2 - 1 - I1:Nat):Int)+1) CX (b2 :: b.add (ai 29) :: r) kn (nx s p2).1=(0,CX.set b2.hole.toNat CX.length,(b.add (ai 29)).add (b2.does.yt b2.other) :: r,kn):=by
           simp[aT,afL,Ug,hnn]
          have Aw:=jU (es:=es) (nt:=nt) (g:=g2) hs2;refine(ih ends loops _ I2 g2 (tk+1+((I1 - 1 - (I+1):Nat):Int)+1+((I2 - 1 - I1:Nat):Int)+1) _ ((b.add (ai 29)).add (b2.does.yt b2.other)) r kn _ (by omega) b2' (by omega) q4 ?_ hl hop yh).step (hd.trans (a5.trans (uQ.trans (b5.trans Aw)))) (by omega) (by omega) ⟨rfl,rfl,rfl,rfl,rfl⟩ (fun p hp=>Yb hp a8.hole b8.hole (a10 _ (CO.nil' es _ loops (by simp))) (sG _ (CO.nil' es _ loops (by simp))));have hw:((dw la).more.ways (dw lb)).Nn:=a9.nn.more.ways b9.nn iJ;refine⟨?_,?_,hbr.U3,tN.none rfl⟩
          ·rw[iF]
           show(b.does.then (ai 29)).then (b2.does.yt b2.other)=_
           rw[hbr.does,hoth,nU];exact ZQ hbr.nn b9.nn a9.nn.more iJ.symm
          ·rw[iF];exact hbr.nn.then ((Inf.Nn.plain (by omega) (by omega)).then hw)
         ·rename_i iJ
          have hnn:¬b2.does.bu=b2.other.bu:=by rw[hoth,nU];exact fun e=>iJ e.symm
          refine hd.trans (a5.trans (uQ.trans (b5.trans ?_)));rw[lM (E:=6) (by simp[aT,afL,Ug,hnn]) (by decide),q2]
       ·rename_i hel
        have hth:ta.toList=[116,104,101,110]:=U9.resolve_left (by simpa using hel);have afM:(nx s p1).1.toList=[116,104,101,110]:=by rw[m1];exact hth
        have hoth:b1.other=Inf.zero:=a8.other;have nU:b1.does=dw la:=a9.does
        split
        ·rename_i iJ
         have hnn:b1.does.bu=b1.other.bu:=by rw[hoth,nU];exact iJ
         have hs1:aT es nt (tk+1+((I1 - 1 - (I+1):Nat):Int)+1) ja (b1 :: b.add (ai 29) :: r) kn (nx s p1).1=(0,ja.set b1.hole.toNat ja.length,(b.add (ai 29)).add (b1.does.yt b1.other) :: r,kn):=by
          simp[aT,afM,IE,hnn]
         have uQ:=jU (es:=es) (nt:=nt) (g:=g1) hs1;refine(ih ends loops _ I1 g1 (tk+1+((I1 - 1 - (I+1):Nat):Int)+1) _ ((b.add (ai 29)).add (b1.does.yt b1.other)) r kn _ (by omega) a2 (by omega) m4 ?_ hl hop yh).step (hd.trans (a5.trans uQ)) (by omega) (by omega) ⟨rfl,rfl,rfl,rfl,rfl⟩ (fun p hp=>co_then hp a8.hole (a10 _ (CO.nil' es _ loops (by simp))));have hw:((dw la).ways Inf.zero).Nn:=a9.nn.ways Inf.Nn.zero iJ
         have aki:(dw la).ways Inf.zero=Inf.zero.ways (dw la):=by
          refine Inf.ext' ?_ ?_ ?_ ?_ ?_<;>simp only[Inf.ways]
          ·omega
          ·exact iJ
          ·omega
          ·omega
         refine⟨?_,?_,hbr.U3,tN.none rfl⟩
         ·rw[iF]
          show(b.does.then (ai 29)).then (b1.does.yt b1.other)=_
          rw[hbr.does,hoth,nU,aki];exact ZQ hbr.nn a9.nn Inf.Nn.zero iJ
         ·rw[iF];exact hbr.nn.then ((Inf.Nn.plain (by omega) (by omega)).then hw)
        ·rename_i iJ
         have hnn:¬b1.does.bu=b1.other.bu:=by rw[hoth,nU];exact iJ
         refine hd.trans (a5.trans ?_);rw[lM (E:=6) (by simp[aT,afM,IE,hnn]) (by decide),m2]
     ·rename_i Zv
      split
      ·rename_i hdo
       have mZ:(nx s a).1.toList=[100,111]:=by rw[n1];simpa using hdo
       rcases hbr.num.two with ⟨t1,t2⟩|⟨t1,t2⟩
       ·rw[t2]
        simp only;exact bad (by rw[n1]at mZ;simp[aT,mZ,t1]) (by decide)
       ·rw[t2]
        simp only;have hnl:¬b.numbers<2:=by omega
        split
        ·rename_i hbig
         have h1:1000<max 0 (b.a0 - b.a1):=by omega
         exact bad (E:=7) (by
          rw[n1]at mZ;simp only[aT];rw[if_neg (by simp[mZ]),if_neg (by simp[mZ]),if_neg (by simp[mZ]),if_neg (by simp[mZ]),if_neg (by simp[mZ]),if_neg (by simp[mZ]),if_neg (by simp[mZ]),if_pos (by simp[mZ]),if_neg hnl,if_pos h1]) (by decide)
        ·rename_i hbig
         have h1:¬1000<max 0 (b.a0 - b.a1):=by omega
         have hs:aT es nt (tk+1) dc (b :: r) kn (nx s a).1=(0,dc++[31,0],PB.opened {PB.zero with opener:=31,times:=max 0 (b.a0 - b.a1)} (b.add (ai 31)) (dc.length+2) :: b.add (ai 31) :: r,kn):=by
          simp only[aT];rw[if_neg (by simp[mZ]),if_neg (by simp[mZ]),if_neg (by simp[mZ]),if_neg (by simp[mZ]),if_neg (by simp[mZ]),if_neg (by simp[mZ]),if_neg (by simp[mZ]),if_pos (by simp[mZ]),if_neg hnl,if_neg h1]
         have hd:=jU (es:=es) (nt:=nt) (g:=g) hs;have hB:BR (PB.opened {PB.zero with opener:=31,times:=max 0 (b.a0 - b.a1)} (b.add (ai 31)) (dc.length+2)) [] (loops+1):=⟨rfl,Inf.Nn.zero,by simp[PB.opened];omega,rfl⟩;have iA:=ih [jg] (loops+1) [] (I+1) g (tk+1) (dc++[31,0]) _ (b.add (ai 31) :: r) kn _ (by omega) (by omega) (by omega) yR hB (by omega) (Or.inr (Or.inr (Or.inl rfl))) rfl;generalize aJ ws ae s.size f [jg] (loops+1) [] (I+1)=RA at iA
         match RA,iA with
         |.inr E,iA=>exact hd.trans iA
         |.inl (la,ta,I1),iA=>
          obtain⟨a1,a2,a3,a4,g1,ja,b1,p1,a5,a6,a7,a8,a9,a10⟩:=iA;obtain⟨g1,rfl⟩:∃g0,g1=g0+1:=⟨g1 - 1,by omega⟩;obtain⟨m1,m2,m3⟩:=a7.next (by omega);rw[←a4]at m1;simp only
          have U9:ta.toList=[108,111,111,112]:=by
           exact U5 a3
          have Yd:(nx s p1).1.toList=[108,111,111,112]:=by rw[m1];exact U9
          have hI1:I1 - 1+1=I1:=by omega
          have m4:At s ae I1 (nx s p1).2.2:=by
           rcases m3 with m3|⟨_,m3⟩
           ·rw[←a4,U9]at m3;cases m3
           ·rw[hI1]at m3;exact m3
          have IE:b1.opener=31:=a8.op;have htm:b1.times=max 0 (b.a0 - b.a1):=a8.times;have nU:b1.does=dw la:=a9.does
          split
          ·rename_i iJ
           have hnn:b1.does.bu=0:=by rw[nU];exact iJ
           have hs1:aT es nt (tk+1+((I1 - 1 - (I+1):Nat):Int)+1) ja (b1 :: b.add (ai 31) :: r) kn (nx s p1).1=(0,(ja++[32,(b1.hole.toNat:Int)+1]).set b1.hole.toNat (ja.length+2),(b.add (ai 31)).add ((b1.does.then (ai 32)).eU b1.times) :: r,kn):=by
            simp[aT,Yd,IE,hnn]
           have uQ:=jU (es:=es) (nt:=nt) (g:=g1) hs1;refine(ih ends loops _ I1 g1 (tk+1+((I1 - 1 - (I+1):Nat):Int)+1) _ ((b.add (ai 31)).add ((b1.does.then (ai 32)).eU b1.times)) r kn _ (by omega) a2 (by omega) m4 ?_ hl hop yh).step (hd.trans (a5.trans uQ)) (by omega) (by omega) ⟨rfl,rfl,rfl,rfl,rfl⟩ (fun p hp=>Yc hp hl a8.hole (a10 _ (CO.nil' es _ (loops+1) (by simp))));refine⟨?_,?_,hbr.U3,tN.none rfl⟩
           ·rw[iF]
            show(b.does.then (ai 31)).then ((b1.does.then (ai 32)).eU b1.times)=_
            rw[hbr.does,nU,htm];exact afD hbr.nn a9.nn (by omega)
           ·rw[iF];exact hbr.nn.then ((Inf.Nn.plain (by omega) (by omega)).then (a9.nn.times (by omega)))
          ·rename_i iJ
           have hnn:¬b1.does.bu=0:=by rw[nU];exact iJ
           refine hd.trans (a5.trans ?_);rw[lM (E:=6) (by simp[aT,Yd,IE,hnn]) (by decide),m2]
      ·rename_i hdo
       have hw:=Qc es nt (tk+1) dc b r kn xG hnum Zv hdo;rcases X9 hA dc r kn (aC ae I) hl hbr.U3 with ⟨w1,w2,ql,w3,w4,w5,w6⟩|⟨w1,w2⟩
       ·rw[if_pos w1]
        have hw2:aT es nt (tk+1) dc (b :: r) kn (nx s a).1=(0,ql,b.add (mJ ws (aC ae I)) :: r,kn):=by rw[n1];exact hw.trans w3
        exact(ih ends loops _ (I+1) g (tk+1) _ (b.add (mJ ws (aC ae I))) r kn _ (by omega) (by omega) (by omega) yR (hbr.snoc _ _ w2) hl hop yh).step (jU hw2) (by omega) (by omega) (Same.add b _) (fun p hp=>hp.snoc w4 w5 w6)
       ·rw[if_neg w1]
        exact bad (by rw[hw];exact w2) w1
end
section
def kX(ws:List RW)(k:Int)(ae:List Tk)(fin:Int)(f I:Nat):(ByteArray×List AI×Nat) ⊕ (Int×Int):=
 if gy (aC ae I)=false then .inr (4,kz ae fin I)
 else if 40≤ws.length then .inr (8,kz ae fin I)
 else match aJ ws ae fin f [ik] 0 [] (I+1)with
  |.inr E=>.inr E
  |.inl (l,_,I')=>
   if 1000000000<(dw l).steps+1 then .inr (7,kz ae fin (I' - 1))
   else if 400<k+I' - ((I:Int) - 1)then .inr (8,kz ae fin (I' - 1))
   else .inl (aC ae I,l,I')
def vO(l:List AI):Inf:={dw l with steps:=(dw l).steps+1}
theorem Va{es:List PE}{ws:List RW}(hA:Alike es ws)(hl:es.length≤40){s:ByteArray}{ae:List Tk}{I a:Nat}(hat:At s ae I a)(hI:I≤ae.length):
  xx es (nx s a).1=if gy (aC ae I)=false then 4 else if 40≤ws.length then 8 else 0:=by
 unfold xx;rw[hat.name hI];have:=hA.len
 cases gy (aC ae I)with
 |false=>simp
 |true=>
  simp only[if_true,Bool.true_eq_false,if_false]
  by_cases h:40≤ws.length
  ·rw[if_pos h,if_pos (by omega)]
  ·rw[if_neg h,if_neg (by omega)]
theorem Alike.nil:Alike [] []:=⟨rfl,fun k x y h=>by simp at h⟩
theorem Alike.push{es:List PE}{ws:List RW}(h:Alike es ws){x:PE}{y:RW}(hn:x.name=y.name)(hu:(x.var=true→y.var=x.place∧0≤y.var)∧(x.var=false→y.var= -1∧x.inf=y.inf∧y.inf.Nn∧1≤y.inf.steps∧y.inf.steps≤1000000000)):Alike (es++[x]) (ws++[y]):=by
 refine⟨by simp[h.names,hn],fun k a b h1 h2=>?_⟩;have hl:=h.len
 by_cases hk:k<es.length
 ·rw[List.getElem?_append_left hk]at h1
  rw[List.getElem?_append_left (by omega)]at h2;exact h.use k a b h1 h2
 ·rw[List.getElem?_append_right (by omega)]at h1
  rw[List.getElem?_append_right (by omega)]at h2;rw[←hl]at h2
  by_cases e:k - es.length=0
  ·rw[e]at h1 h2;simp at h1 h2;subst h1;subst h2;exact hu
  ·rw[List.getElem?_eq_none (by simp;omega)]at h1;cases h1
theorem xH{t:ByteArray}(h:gy t=true):t.toList≠[]:=by
 intro e;have:t=⟨#[]⟩:=(jS t []).1 (by simp[e]);subst this;exact absurd h (by decide +kernel)
theorem Qe(ws:List RW)(ae:List Tk)(fin:Int):∀(f:Nat) (ends:List ByteArray) (loops:Int) (acc:List AI) (I:Nat) (E:Int×Int),aJ ws ae fin f ends loops acc I=.inr E→E.1≠0:=by
 intro f
 induction f with
 |zero=>intro ends loops acc I E h;simp[aJ]at h;subst h;decide
 |succ f ih=>
  intro ends loops acc I E h;rw[aJ]at h
  split at h
  ·cases h
  split at h
  ·cases h;simp
  split at h
  ·exact ih _ _ _ _ _ h
  split at h
  ·split at h
   ·rename_i r hr;cases h;exact ih _ _ _ _ _ hr
   ·split at h
    ·split at h
     ·rename_i r hr;cases h;exact ih _ _ _ _ _ hr
     ·split at h
      ·exact ih _ _ _ _ _ h
      ·cases h;simp
    ·split at h
     ·exact ih _ _ _ _ _ h
     ·cases h;simp
  split at h
  ·split at h
   ·cases h;simp
   ·split at h
    ·cases h;simp
    ·split at h
     ·rename_i r hr;cases h;exact ih _ _ _ _ _ hr
     ·split at h
      ·exact ih _ _ _ _ _ h
      ·cases h;simp
  split at h
  ·exact ih _ _ _ _ _ h
  ·rename_i hw;cases h;exact hw
theorem nV(s:ByteArray):∀(f i:Nat),(iP s f i).length≤f
 |0,i=>by simp[iP]
 |f+1,i=>by
  unfold iP
  split
  ·split
   ·have:=nV s f (i+1);omega
   ·split
    ·have:=nV s f (scan oD s (scan blk s i));omega
    ·have:=nV s f (scan blk s i);simp;omega
  ·simp
theorem IG{es:List PE}{ws:List RW}(hA:Alike es ws){nv nt:Int}{code:List Int}(hL:mi es nv nt code){s:ByteArray}{ae:List Tk}(htk:ae.length≤s.size){I a:Nat}(hat:At s ae I a)(hI:I≤ae.length)(hI1:1≤I)(f:Nat)(hf:ae.length+1≤f):
  match kX ws nt ae s.size f I with
  |.inr E=>E.1≠0∧jb es nt code s a=(E,es,nt,code,0)
  |.inl (t,l,I')=>I<I'∧I'≤ae.length∧t=aC ae I∧(dw l).Nn∧(dw l).steps+1≤1000000000∧aJ ws ae s.size f [ik] 0 [] (I+1)=.inl (l,aC ae (I' - 1),I')∧∃dc a',jb es nt code s a=((0,0),es++[⟨t,false,code.length,vO l⟩],nt+(I' - ((I:Int) - 1)),dc,a')∧At s ae I' a'∧(∃q,dD es dc false (trees l) code.length q∧dc[q]?=some 34)∧∀i,i<code.length→dc[i]?=code[i]?:=by
 unfold kX jb;rw[Va hA hL.l hat hI];obtain⟨n1,n2,n3⟩:=hat.next hI
 cases hnm:gy (aC ae I)with
 |false=>
  simp only[if_true];exact⟨by simp,by rw[if_neg (by decide),n2]⟩
 |true=>
  simp only[Bool.true_eq_false,if_false]
  by_cases hfull:40≤ws.length
  ·rw[if_pos hfull,if_pos hfull,if_neg (by decide),n2]
   exact⟨by simp,rfl⟩
  ·rw[if_neg hfull,if_neg hfull,if_pos rfl]
   obtain⟨hlt,yR⟩:=n3.resolve_left (xH hnm);have hB:BR PB.first [] 0:=⟨rfl,Inf.Nn.zero,rfl,rfl⟩;have H:=Qd hA nt s ae f [ik] 0 [] (I+1) (s.size+2) 2 code PB.first [] Inf.zero (nx s a).2.2 (by omega) (by omega) (by omega) yR hB (by omega) (Or.inr (Or.inr (Or.inr rfl))) rfl
   cases hp:aJ ws ae s.size f [ik] 0 [] (I+1)with
   |inr E=>
    rw[hp]at H;have hE:=Qe _ _ _ _ _ _ _ _ _ hp;have H':jZ es nt s (s.size+2) 2 code [PB.first] Inf.zero (nx s a).2.2=.inr E:=H;simp only[H'];exact⟨hE,trivial⟩
   |inl x=>
    obtain⟨l,t',I'⟩:=x;rw[hp]at H;obtain⟨a1,a2,a3,a4,g1,ja,b1,p1,a5,a6,a7,a8,a9,a10⟩:=H;obtain⟨⟨c1,c2⟩,c3⟩:=a10 code.length (CO.nil es code 0);obtain⟨g1,rfl⟩:∃g0,g1=g0+1+1:=⟨g1 - 2,by omega⟩;obtain⟨m1,m2,m3⟩:=a7.next (by omega);rw[←a4]at m1
    have U9:t'.toList=[59]:=by
     exact U6 a3
    have Yd:(nx s p1).1.toList=[59]:=by rw[m1];exact U9
    have IE:b1.opener=34:=a8.op;have nU:b1.does=dw l:=a9.does;have afN:b1.does.then (ai 34)=(dw l).more:=by rw[zo.2.2.2,nU];exact AY a9.nn
    have m4:At s ae I' (nx s p1).2.2:=by
     rcases m3 with m3|⟨_,m3⟩
     ·rw[←a4,U9]at m3;cases m3
     ·rw[show I' - 1+1=I' by omega]at m3;exact m3
    have afO:(2:Int)+((I' - 1 - (I+1):Nat):Int)+1=I' - ((I:Int) - 1):=by omega
    have hs:aT es nt ((2:Int)+((I' - 1 - (I+1):Nat):Int)+1) ja [b1] Inf.zero (nx s p1).1=(jy (dw l).more.steps nt (I' - ((I:Int) - 1)),ja++[34],[],(dw l).more):=by
     rw[←afO,←afN];simp[aT,Yd,IE]
    have hst:(dw l).more.steps=min ((dw l).steps+1) 1000000001:=rfl;simp only
    by_cases h7:1000000000<(dw l).steps+1
    ·rw[if_pos h7]
     have he:jy (dw l).more.steps nt (I' - ((I:Int) - 1))=7:=by unfold jy;rw[if_pos (by omega)]
     rw[a5,lM (E:=7) (by rw[hs,he]) (by decide),m2];exact⟨by simp,rfl⟩
    ·rw[if_neg h7]
     by_cases h8:400<nt+I' - ((I:Int) - 1)
     ·rw[if_pos h8]
      have he:jy (dw l).more.steps nt (I' - ((I:Int) - 1))=8:=by unfold jy;rw[if_neg (by omega),if_pos (by omega)]
      rw[a5,lM (E:=8) (by rw[hs,he]) (by decide),m2];exact⟨by simp,rfl⟩
     ·rw[if_neg h8]
      have he:jy (dw l).more.steps nt (I' - ((I:Int) - 1))=0:=by unfold jy;rw[if_neg (by omega),if_neg (by omega)]
      rw[he]at hs
      have hw:(dw l).more=vO l:=by
       refine Inf.ext' rfl rfl rfl ?_ rfl
       show min ((dw l).steps+1) 1000000001=(dw l).steps+1
       omega
      rw[a5,jU hs,afO,hw];refine⟨by omega,a2,rfl,a9.nn,by omega,by rw[a4],ja++[34],(nx s p1).2.2,?_,m4,⟨ja.length,c2.ny c1 (fun _ _=>id) (fun i _ hi=>List.getElem?_append_left hi),by simp⟩,fun i hi=>(List.getElem?_append_left (by omega)).trans (c3 i hi)⟩;simp[jZ,n1]
structure kE (es:List PE) (code:List Int) (ws:List RW):Prop where
 w:∀(k:Nat) (x:PE) (y:RW),es[k]?=some x→ws[k]?=some y→x.var=false→∃p q:Nat,x.place=p∧p≤code.length∧dD es code false y.its p q∧code[q]?=some 34
 v:∀(k:Nat) (x:PE),es[k]?=some x→x.var=true→0≤x.place∧x.place≤16
structure ZU (es:List PE) (code:List Int) (ws:List RW):Prop extends Alike es ws where
 vP:kE es code ws
theorem kE.nil:kE [] [] []:=⟨fun k x y h=>by simp at h,fun k x h=>by simp at h⟩
theorem kE.push{es:List PE}{code code':List Int}{ws:List RW}(h:kE es code ws)(hl:es.length=ws.length){x:PE}{y:RW}(hc:∀i,i<code.length→code'[i]?=code[i]?)(hle:code.length≤code'.length)
  (h1:x.var=false→∃p q:Nat,x.place=p∧p≤code'.length∧dD es code' false y.its p q∧code'[q]?=some 34) (h2:x.var=true→0≤x.place∧x.place≤16):kE (es++[x]) code' (ws++[y]):=by
 have he:∀(k:Nat) (z:PE),es[k]?=some z→(es++[x])[k]?=some z:=fun k z hz=>by rw[List.getElem?_append_left (List.getElem?_eq_some_iff.1 hz).1];exact hz
 refine⟨fun k a b ha hb hv=>?_,fun k a ha hv=>?_⟩
 ·by_cases hk:k<es.length
  ·rw[List.getElem?_append_left hk]at ha
   rw[List.getElem?_append_left (by omega)]at hb;obtain⟨p,q,e1,e2,e3,e4⟩:=h.w k a b ha hb hv;have hq:=e3.le e2;have:=eF e4;exact⟨p,q,e1,by omega,e3.ny e2 he (fun i _ hi=>hc i (by omega)),(hc q (by omega)).trans e4⟩
  ·rw[List.getElem?_append_right (by omega)]at ha
   rw[List.getElem?_append_right (by omega),←hl]at hb;have h0:k - es.length=0:=by have:=(List.getElem?_eq_some_iff.1 ha).1;simp at this;omega
   rw[h0]at ha hb;obtain rfl:x=a:=by simpa using ha
   obtain rfl:y=b:=by simpa using hb
   obtain⟨p,q,e1,e2,e3,e4⟩:=h1 hv;exact⟨p,q,e1,e2,e3.ny e2 he (fun _ _ _=>rfl),e4⟩
 ·by_cases hk:k<es.length
  ·rw[List.getElem?_append_left hk]at ha;exact h.v k a ha hv
  ·rw[List.getElem?_append_right (by omega)]at ha
   have h0:k - es.length=0:=by have:=(List.getElem?_eq_some_iff.1 ha).1;simp at this;omega
   rw[h0]at ha;obtain rfl:x=a:=by simpa using ha
   exact h2 hv
theorem var_eq{es:List PE}{ws:List RW}(hA:Alike es ws){nv nt:Int}{code:List Int}(hL:mi es nv nt code){s:ByteArray}{ae:List Tk}{I a:Nat}(hat:At s ae I a)(hI:I≤ae.length):
  tH es nv s a=if gy (aC ae I)=false then((4,kz ae s.size I),es,nv)else if 40≤ws.length then((8,kz ae s.size I),es,nv)else if 16≤nv then((8,kz ae s.size I),es,nv)else((0,0),es++[⟨aC ae I,true,nv,Inf.zero⟩],nv+1):=by
 unfold tH;rw[Va hA hL.l hat hI];obtain⟨n1,n2,n3⟩:=hat.next hI;have:=hL.v1
 cases hnm:gy (aC ae I)with
 |false=>simp[n2]
 |true=>
  simp only[Bool.true_eq_false,if_false]
  by_cases hfull:40≤ws.length
  ·simp[hfull,n2]
  ·rw[if_neg hfull,if_neg hfull,if_pos rfl]
   by_cases h16:16≤nv
   ·rw[if_pos h16,if_pos (by omega),n2]
   ·rw[if_neg h16,if_neg (by omega),n1]
end
section
def II(ws:List RW)(c:Int)(t:ByteArray):Int:=if yQ ws t=0 then(if 16≤c then 8 else 0)else yQ ws t
theorem Ov(ws:List RW)(t:ByteArray):(if gy t=false then(4:Int)else if 40≤ws.length then 8 else 0)=yQ ws t:=rfl
structure LD (s:ByteArray) (ae:List Tk) (R:(Int×Int)×List PE×Int×Int×List Int) (I a f:Nat) (es:List PE) (nv nt:Int) (code:List Int) (ws:List RW):Prop where
 at_:At s ae I a
 le:I≤ae.length
 alike:ZU es code ws
 inv:mi es nv nt code
 res:R=pY s f a es nv nt code
 fuel:s.size - a+1≤f
 ok:∀x∈ws,x.inf.Wt 1∧∃a n c,x.items=.slice a n c
theorem zx(s:ByteArray):∀(f i:Nat),∀x∈iP s f i,x.1.toList≠[]
 |0,i=>by simp[iP]
 |f+1,i=>by
  unfold iP
  split
  ·rename_i hi
   split
   ·exact zx s f (i+1)
   ·rename_i hb
    split
    ·exact zx s f _
    ·intro x hx
     rcases List.mem_cons.1 hx with rfl|hx
     ·intro e
      have hlt:=dU s i hi (by simpa using hb);have hle:=(bJ blk s i (by omega)).2.1;have h1:(s.extract i (scan blk s i)).size=scan blk s i - i:=by simp[ByteArray.size_extract];omega
      have h2:s.extract i (scan blk s i)=⟨#[]⟩:=(jS _ []).1 (by simpa using e);rw[h2]at h1;have:(ByteArray.mk #[]).size=0:=rfl;omega
     ·exact zx s f _ x hx
  ·simp
theorem abA{s:ByteArray}{ae:List Tk}(ht:ae=aZ s 0){I:Nat}(h:I<ae.length):(aC ae I).toList≠[]:=by
 have hm:ae[I]∈ae:=List.getElem_mem h;have:aC ae I=ae[I].1:=by simp[aC,h]
 rw[this];exact zx s (s.size - 0) 0 _ (by unfold aZ at ht;rw[←ht];exact hm)
theorem rH(s:ByteArray):∀(f i:Nat),∀x∈iP s f i,x.1.size≤s.size
 |0,i=>by simp[iP]
 |f+1,i=>by
  unfold iP
  split
  ·split
   ·exact rH s f (i+1)
   ·split
    ·exact rH s f _
    ·intro x hx
     rcases List.mem_cons.1 hx with rfl|hx
     ·simp only[ByteArray.size_extract];omega
     ·exact rH s f _ x hx
  ·simp
theorem Ye(s:ByteArray)(f i j:Nat):(aC (iP s f i) j).size≤s.size:=by
 unfold aC
 by_cases h:j<(iP s f i).length
 ·have:=rH s f i _ (List.getElem_mem h)
  simpa [h]using this
 ·simp[List.getD,List.getElem?_eq_none (Nat.le_of_not_lt h)]
  exact Nat.zero_le _
section
variable{s:ByteArray}{ae:List Tk}{R:(Int×Int)×List PE×Int×Int×List Int}{I a f:Nat}{es:List PE}{nv nt:Int}{code:List Int}{ws:List RW}
theorem LD.done(h:LD s ae R I a f es nv nt code ws)(hI:¬I<ae.length):R=((0,0),es,nv,nt,code):=by
 obtain⟨n1,n2,n3⟩:=h.at_.next h.le;have hf:=h.fuel;obtain⟨f',rfl⟩:∃f',f=f'+1:=⟨f - 1,by omega⟩;have he:(aC ae I).toList=[]:=n3.resolve_right (fun e=>hI e.1);rw[h.res,pY,n1];simp[he]
theorem LD.more(h:LD s ae R I a f es nv nt code ws)(ht:ae=aZ s 0)(hI:I<ae.length):
  ∃f',f=f'+1∧(nx s a).1=aC ae I∧((nx s a).2.1:Int)=kz ae s.size I∧((aC ae I).toList == [])=false∧At s ae (I+1) (nx s a).2.2∧a<(nx s a).2.2∧(nx s a).2.2≤s.size:=by
 obtain⟨n1,n2,n3⟩:=h.at_.next h.le;have hf:=h.fuel;have hne:=abA ht hI;have hat:=(n3.resolve_left hne).2;have XG:((aC ae I).toList == [])=false:=by simpa using hne
 exact⟨f - 1,by omega,n1,n2,XG,hat,o7 s (s.size - a) a h.at_.le (by rw[show(dF s (s.size - a) a).1=(nx s a).1 from rfl,n1];exact XG),hat.le⟩
theorem LD.bad(h:LD s ae R I a f es nv nt code ws)(ht:ae=aZ s 0)(hI:I<ae.length)(h1:((aC ae I).toList == [118,97,114,105,97,98,108,101])=false)(h2:((aC ae I).toList == [58])=false):R=((3,kz ae s.size I),es,nv,nt,code):=by
 obtain⟨f',rfl,n1,n2,n3,n4,n5,n6⟩:=h.more ht hI;rw[h.res,pY,n1,n2];simp only[n3,h1,h2,Bool.false_eq_true,if_false]
theorem LD.Yf(h:LD s ae R I a f es nv nt code ws)(ht:ae=aZ s 0)(hI:I<ae.length)(h1:((aC ae I).toList == [118,97,114,105,97,98,108,101])=true)(hE:II ws nv (aC ae (I+1))≠0):R=((II ws nv (aC ae (I+1)),kz ae s.size (I+1)),es,nv,nt,code):=by
 obtain⟨f',rfl,n1,n2,n3,n4,n5,n6⟩:=h.more ht hI;have hv:=var_eq h.alike.toAlike h.inv n4 (by omega);rw[h.res,pY,n1];simp only[n3,h1,Bool.false_eq_true,if_false,if_true];unfold II at hE ⊢;rw[←Ov]at hE ⊢
 cases hn:gy (aC ae (I+1))with
 |false=>
  rw[hn]at hv;simp only[if_true]at hv;simp[hv]
 |true=>
  rw[hn]at hv hE;simp only[Bool.true_eq_false,if_false]at hv hE ⊢
  by_cases PY:40≤ws.length
  ·rw[if_pos PY]at hv
   simp[hv,PY]
  ·rw[if_neg PY]at hv hE
   by_cases h16:16≤nv
   ·rw[if_pos h16]at hv
    simp[hv,PY,h16]
   ·simp[h16]at hE
theorem LD.abB(h:LD s ae R I a f es nv nt code ws)(ht:ae=aZ s 0)(hI:I<ae.length)(h1:((aC ae I).toList == [118,97,114,105,97,98,108,101])=true)(hE:II ws nv (aC ae (I+1))=0):
  ∃a' f' es',LD s ae R (I+2) a' f' es' (nv+1) nt code (ws++[⟨aC ae (I+1),nv,.slice none 0 0,⟨0,0,0,0,false⟩,[]⟩]):=by
 obtain⟨f',rfl,n1,n2,n3,n4,n5,n6⟩:=h.more ht hI;have hv:=var_eq h.alike.toAlike h.inv n4 (by omega);have lD:=h.inv.var (s:=s) (a:=(nx s a).2.2);obtain⟨m1,m2,m3⟩:=n4.next (by omega);have hres:=h.res;rw[pY,n1]at hres;simp only[n3,h1,Bool.false_eq_true,if_false,if_true]at hres;unfold II at hE;rw[←Ov]at hE
 cases hn:gy (aC ae (I+1))with
 |false=>rw[hn]at hE;simp at hE
 |true=>
  rw[hn]at hv hE;simp only[Bool.true_eq_false,if_false]at hv hE
  by_cases PY:40≤ws.length
  ·simp[PY]at hE
  ·rw[if_neg PY]at hv hE
   by_cases h16:16≤nv
   ·simp[h16]at hE
   ·rw[if_neg h16]at hv
    rw[hv]at hres lD;simp only[if_true]at hres lD;obtain⟨hlt,hat⟩:=m3.resolve_left (xH hn);have hv0:=h.inv.v0;obtain⟨q1,q2,q3,q4⟩:=jk s (s.size - (nx s a).2.2) (nx s a).2.2 n6;refine⟨_,f',_,hat,by omega,⟨h.alike.toAlike.push rfl ⟨fun _=>⟨rfl,hv0⟩,fun e=>by cases e⟩,h.alike.vP.push h.alike.len (fun _ _=>rfl) nrq (fun e=>by cases e) (fun _=>⟨hv0,by have:=h.inv.v1;show nv≤16;omega⟩)⟩,lD,hres,?_,?_⟩
    ·have:=h.fuel;unfold nx at *;omega
    ·intro x hx
     rcases List.mem_append.1 hx with hx|hx
     ·exact h.ok x hx
     ·rw[List.mem_singleton.1 hx]
      exact⟨by constructor<;>simp,_,_,_,rfl⟩
theorem LD.Vb(h:LD s ae R I a f es nv nt code ws)(ht:ae=aZ s 0)(hI:I<ae.length)(h1:((aC ae I).toList == [118,97,114,105,97,98,108,101])=false)(h2:((aC ae I).toList == [58])=true)(F:Nat)(hF:ae.length+1≤F){E:Int×Int}(hE:kX ws nt ae s.size F (I+1)=.inr E):R=(E,es,nv,nt,code):=by
 obtain⟨f',rfl,n1,n2,n3,n4,n5,n6⟩:=h.more ht hI;have hl:ae.length≤s.size:=by rw[ht];unfold aZ;have:=nV s (s.size - 0) 0;omega
 have hw:=IG h.alike.toAlike h.inv hl n4 (by omega) (by omega) F hF;rw[hE]at hw;rw[h.res,pY,n1];simp only[n3,h1,h2,Bool.false_eq_true,if_false,if_true];rw[hw.2];simp only;rw[if_neg hw.1]
theorem LD.Yg(h:LD s ae R I a f es nv nt code ws)(ht:ae=aZ s 0)(hI:I<ae.length)(h1:((aC ae I).toList == [118,97,114,105,97,98,108,101])=false)(h2:((aC ae I).toList == [58])=true)(F:Nat)(hF:ae.length+1≤F){t:ByteArray}{l:List AI}{I':Nat}(hE:kX ws nt ae s.size F (I+1)=.inl (t,l,I')){v:Value}(hv:∃a n c,v=.slice a n c):
  I+1<I'∧∃a' f' es' code',LD s ae R I' a' f' es' nv (nt+I' - (((I+1:Nat):Int) - 1)) code' (ws++[⟨t, -1,v,vO l,trees l⟩]):=by
 obtain⟨f',rfl,n1,n2,n3,n4,n5,n6⟩:=h.more ht hI;have hl:ae.length≤s.size:=by rw[ht];unfold aZ;have:=nV s (s.size - 0) 0;omega
 have hw:=IG h.alike.toAlike h.inv hl n4 (by omega) (by omega) F hF;have lD:=h.inv.word (s:=s) (a:=(nx s a).2.2) n6;rw[hE]at hw;obtain⟨w1,w2,w3,w4,w5,w6,dc,a',w7,w8,⟨q9,w9,w10⟩,w11⟩:=hw
 have hle:code.length≤dc.length:=by
  rcases Nat.lt_or_ge dc.length code.length with h|h
  ·have:=w11 dc.length h
   rw[List.getElem?_eq_none nrq,List.getElem?_eq_getElem h]at this;cases this
  ·exact h
 have hres:=h.res;rw[pY,n1]at hres;simp only[n3,h1,h2,Bool.false_eq_true,if_false,if_true]at hres;rw[w7]at hres lD;simp only[if_true]at hres lD;have e1:nt+(((I':Nat):Int) - (((I+1:Nat):Int) - 1))=nt+I' - (((I+1:Nat):Int) - 1):=by omega
 rw[e1]at hres lD
 have hnn:(vO l).Nn:=by
  obtain⟨a1,a2,a3,a4,a5,a6⟩:=w4
  constructor<;>simp only[vO]<;>omega
 have hs1:1≤(vO l).steps:=by have:=w4.s;simp only[vO];omega
 refine⟨w1,a',f',_,dc,w8,w2,⟨h.alike.toAlike.push rfl ⟨(fun e=>by cases e),fun _=>⟨rfl,rfl,hnn,hs1,w5⟩⟩,h.alike.vP.push h.alike.len w11 hle (fun _=>⟨code.length,q9,rfl,hle,w9,w10⟩) (fun e=>by cases e)⟩,lD.1,hres,?_,?_⟩
 ·have:=h.fuel;have:=lD.2 trivial;omega
 ·intro x hx
  rcases List.mem_append.1 hx with hx|hx
  ·exact h.ok x hx
  ·rw[List.mem_singleton.1 hx]
   exact⟨lD.1.w ⟨t,false,code.length,vO l⟩ (by simp),hv⟩
end
end
section
structure TK where
 word:ByteArray
 per:Int
 dl:Int
 off:Int
deriving Inhabited
def TK.cells(t:TK):List Value:=[.string t.word,.int .i64 t.per,.int .i64 t.dl,.int .i64 t.off]
end
end Go.Proofs.YtcphhbofjkenaaaGreatDoor
