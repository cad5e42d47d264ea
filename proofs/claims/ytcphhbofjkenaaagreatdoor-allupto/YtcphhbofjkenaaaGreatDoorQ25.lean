import Derived.Test.YtcphhbofjkenaaaGreatDoorQy
import Derived.Test.YtcphhbofjkenaaaGreatDoorQ23
namespace Go.Proofs.YtcphhbofjkenaaaGreatDoor
open Go Go.RowKit Proofs.Tryz
set_option linter.all false
set_option maxRecDepth 100000
set_option maxHeartbeats 16000000
variable{w:World}{b n i g:Nat}{t:TypeId}{cs:Array Value}{S:Nat->Prop}{K:Value}{P:List EV}{a:JX×MS}{M:List (Value×Fr)}{m:MS}{l:List Bool}
theorem Iy{p:Prop}(h:p:=by rcases h.sat.ty e with ⟨_,t'⟩|⟨_,t'⟩<;>exact absurd (t.uniq t') aj):p:=h
theorem QZ{p:Prop}(h:p:=by by_cases e:j=i;{subst e;rw[eT aa]at hp;exact aD ⟨rfl,(gT (gT hp)).symm⟩};rw[dy (λh=>e h.symm)]at hp;exact az ⟨e,hp⟩):p:=h
section
def ld(w:World)(b:Nat)(t:TypeId):Prop:=∃cs f,w.heap[b]?=some (.cells cs t f)
theorem ld.uniq{c:TypeId}(h:ld w b t)(a:ld w b c):t=c:=by obtain⟨cs,f,h⟩:=h;obtain⟨d,e,a⟩:=a;rw[h]at a;simp at a;exact a.2.1
theorem nZ(h:ax w b cs t):ld w b t:=⟨cs,_,h⟩
theorem kF{base:Nat}{e:TypeId}{size k:Nat}{v:Value}{f:List Value}(h:w.ownsRow base e size v n f)(a:v.ownBlock=some k):ld w k e:=by(rcases h.2 with ⟨rfl,_⟩|⟨g,b,c,rfl,_,d,_⟩);{cases a};simp[Value.ownBlock]at a;subst a;exact⟨_,_,d⟩
theorem vX{f:Nat->Value}(h:w.rowIs b t n f):ld w b t:=by obtain⟨c,a,_⟩:=h;exact⟨_,_,a⟩
section
variable{B:Nat}{w w':World}{s:SX}{code:List Int}{u H:MW}{v:List (JX×MS)}
theorem mo.ty(h:mo B w s code u v)(d:tu s v b):ld w b 116\/ld w b 118\/ld w b 237\/ld w b 3:=by(rcases d with (e|e|e)|⟨i,a,c,e|e|e⟩);{subst e;exact az (aD (nZ h.jR.bN))};{exact az (az (az (kF h.jR.gY e)))};{exact az (az (az (kF h.jR.dB e)))};{subst e;obtain⟨cs,k,_⟩:=(h.each i a c).iL;exact aD (nZ k)};{exact az (az (aD (kF (h.each i a c).gz e)))};exact az (az (az (kF (h.each i a c).cL e)))
theorem mo.not(h:mo B w s code u v)(i:tu s v b)(a:ld w b t)(c:t≠116)(d:t≠118)(f:t≠237)(g:t≠3):False:=by rcases h.ty i with e|e|e|e;{exact c (a.uniq e)};{exact d (a.uniq e)};{exact f (a.uniq e)};exact g (a.uniq e)
structure eU(B:Nat)(w:World)(tb gn gr:Nat)(s:SX)(code:List Int)(u:MW)(ev:Value)(aZ:List Nat)(ts:List JT)(rk:List Nat)(js:List (JX×MS))(bs:List Bool)(es:List EV):Prop where
 ij:mo B w s code u js
 blk:ax w tb #[ar s.wp,aA gn aZ.length aZ.length,aA gr aZ.length aZ.length,ev] 139
 tS:nY B w ev es
 l7:w.rowIs gn 168 aZ.length (λi=>ar (aZ.getD i 0))
 l9:w.rowIs gr 168 aZ.length (λi=>ar (aZ.getD (rk.getD i 0) 0))
 ny:∀(i:Nat)(jb:Nat),aZ[i]?=some jb->∃a t b,js[i]?=some a/\ts[i]?=some t/\bs[i]?=some b/\ax w jb (Cp a.1.mb t i b) 170/\(B<=jb/\a.1.st=(t.st:Int)/\t.st<=code.length)
 nodup:∀(i k jb:Nat),aZ[i]?=some jb->aZ[k]?=some jb->i=k
 bt:B<=tb
 bg:B<=gn/\B<=gr
 len:js.length=aZ.length/\bs.length=aZ.length/\aZ.length<=8
 nA:∀i,i<aZ.length->rk.getD i 0<aZ.length
variable{A z r:Nat}{C:Value}{d:List Nat}{f:List JT}{rk:List Nat}{bs:List Bool}{es:List EV}
theorem eU.aB(h:eU B w A z r s code u C d f rk v bs es)(c:ak S w w')(m:∀b,tu s v b->¬S b)(x:¬S A)(l:∀k,C.ownBlock=some k->¬S k)(o:¬S z)(q:¬S r)(n:∀(i g:Nat),d[i]?=some g->¬S g)(j:∀b,S b->B<=b):eU B w' A z r s code u C d f rk v bs es:=⟨h.ij.aB c m j,h.blk.aB c x,aR h.tS c l,h.l7.of_block (c.block z h.l7.lt o),h.l9.of_block (c.block r h.l9.lt q),λi g e=>by obtain⟨a,t,b,y,D,E,F,G⟩:=h.ny i g e;exact⟨a,t,b,y,D,E,F.aB c (n i g e),G⟩,h.nodup,h.bt,h.bg,h.len,h.nA⟩
theorem eU.adA(h:eU B w A z r s code u C d f rk v bs es)(j:ak (λb=>b=A\/C.ownBlock=some b) w w')(k:ax w' A #[ar s.wp,aA z d.length d.length,aA r d.length d.length,K] 139)(D:nY B w' K P):eU B w' A z r s code u K d f rk v bs P:=by(have c:∀{b:Nat}{t:TypeId},ld w b t->t≠139->t≠69->¬(b=A\/C.ownBlock=some b):=λ{b t} l n o e=>by rcases e with e|e;{subst e;exact n (l.uniq (nZ h.blk))};exact o (l.uniq (kF h.tS e)));(have x:∀b,tu s v b->¬(b=A\/C.ownBlock=some b):=λb k=>by rcases h.ij.ty k with e|e|e|e;{exact c e aj aj};{exact c e aj aj};{exact c e aj aj};exact c e aj aj);(have q:∀b,(b=A\/C.ownBlock=some b)->B<=b:=λb e=>by rcases e with e|e;{subst e;exact h.bt};exact cd h.tS e);refine⟨h.ij.aB j x q,k,D,h.l7.of_block (j.block z h.l7.lt (c (vX h.l7) aj aj)),h.l9.of_block (j.block r h.l9.lt (c (vX h.l9) aj aj)),λi g y=>?_,h.nodup,h.bt,h.bg,h.len,h.nA⟩;obtain⟨a,t,b,E,F,G,m,H⟩:=h.ny i g y;exact⟨a,t,b,E,F,G,m.aB j (c (nZ m) aj aj),H⟩
theorem eU.Px(h:eU B w A z r s code u C d f rk v bs es)(q:d[i]?=some g)(m:Bool):eU B (w.setCell (ai g 6) (.bool m)) A z r s code u C d f rk v (bs.set i m) es:=by obtain⟨O,T,P,Q,R,S,M,N⟩:=h.ny i g q;have j:ak (λb=>b=g) w (w.setCell (ai g 6) (.bool m)):=(ak.refl (λb=>b=g) w).setCell (p:=ai g 6) rfl _;(have c:∀{b:Nat}{t:TypeId},ld w b t->t≠170->¬b=g:=λ{b t} L I e=>by subst e;exact I (L.uniq (nZ M)));(have K:∀b,tu s v b->¬b=g:=λb J=>by rcases h.ij.ty J with e|e|e|e;{exact c e aj};{exact c e aj};{exact c e aj};exact c e aj);refine⟨h.ij.aB j K (λb e=>by subst e;exact N.1),h.blk.aB j (c (nZ h.blk) aj),aR h.tS j (λk l=>c (kF h.tS l) aj),h.l7.of_block (j.block z h.l7.lt (c (vX h.l7) aj)),h.l9.of_block (j.block r h.l9.lt (c (vX h.l9) aj)),λk y l=>?_,h.nodup,h.bt,h.bg,⟨h.len.1,by rw[mD];exact h.len.2.1,h.len.2.2⟩,h.nA⟩;obtain⟨a,t,b,D,E,F,G,H⟩:=h.ny k y l;by_cases n:k=i;{subst n;obtain rfl:y=g:=gT (l.symm.trans q);have x:=(dm.1 F).1;refine⟨a,t,m,D,E,by rw[eT x],?_,H⟩;have:=G.set (o:=6) (.bool m);simpa [Cp]using this};refine⟨a,t,b,D,E,by rw[dy (λe=>n e.symm)];exact F,G.aB j (λe=>?_),H⟩;subst e;exact n (h.nodup k i y l q)
theorem eU.VH{E:MS}{y:RX}(h:eU B w A z r s code u C d f rk v bs es)(m:v[i]?=some a)(P:RN B w (a.1.rx s) code E H w' y):eU B w' A z r ⟨s.wp,s.rv,s.vv,y.ov,y.iv⟩ code H C d f rk (v.set i (⟨a.1.mb,a.1.st,y.lv,y.cv⟩,E)) bs es/\ak (tu s v) w w':=by obtain⟨J,S,j⟩:=h.ij.step m P;have g:∀{b:Nat}{t:TypeId},ld w b t->t≠116->t≠118->t≠237->t≠3->¬tu s v b:=λQ K L M N O=>h.ij.not O Q K L M N;have o:=(dm.1 m).1;refine⟨⟨J,h.blk.aB j (g (nZ h.blk) aj aj aj aj),aR h.tS j (λk n=>g (kF h.tS n) aj aj aj aj),h.l7.of_block (j.block z h.l7.lt (g (vX h.l7) aj aj aj aj)),h.l9.of_block (j.block r h.l9.lt (g (vX h.l9) aj aj aj aj)),λk R n=>?_,h.nodup,h.bt,h.bg,⟨by rw[mD];exact h.len.1,h.len.2⟩,h.nA⟩,j⟩;obtain⟨c,t,b,x,D,F,G,I⟩:=h.ny k R n;have l:=G.aB j (g (nZ G) aj aj aj aj);by_cases q:k=i;{subst q;obtain rfl:c=a:=gT (x.symm.trans m);exact⟨(⟨c.1.mb,c.1.st,y.lv,y.cv⟩,E),t,b,by rw[eT o],D,F,l,I⟩};exact⟨c,t,b,by rw[dy (λe=>q e.symm)];exact x,D,F,l,I⟩
theorem eU.base(h:eU B w A z r s code u C d f rk v bs es):B<=w.heap.size:=by have:=h.blk.lt;have:=h.bt;omega
theorem eU.toBelow(h:eU B w A z r s code u C d f rk v bs es)(c:ak S w w')(a:∀b,S b->B<=b):Below B w w':=c.toBelow h.base (λb g e=>by have:=a b e;omega)
theorem eU.KY(h:eU B w A z r s code u C d f rk v bs es)(a:ak (λb=>b=A\/C.ownBlock=some b) w w'):Below B w w':=h.toBelow a (λb e=>by rcases e with e|e;{subst e;exact h.bt};exact cd h.tS e)
end
end
section
def puts(n a:Int)(l:List Int):List EV:=l.map λc=>⟨3,n,a,c⟩
section
variable{B:Nat}{w:World}{s:SX}{code:List Int}{u:MW}{v:List (JX×MS)}{A z r:Nat}{C:Value}{d:List Nat}{f:List JT}{rk:List Nat}{bs:List Bool}{es:List EV}
theorem eU.note(h:eU B w A z r s code u C d f rk v bs es)(k:d[i]?=some g)(kind c val:Int)(l:es.length<=90000000):Calls prog 84 #[ar A,ae kind,ar g,ae c,ae val] w λe w'=>e=.returned (.tuple #[])/\∃K,eU B w' A z r s code u K d f rk v bs (es++[⟨kind,i,c,val⟩])/\Lc w C K/\ak (λb=>b=A\/C.ownBlock=some b) w w':=by obtain⟨a,t,b,x,y,D,m,E⟩:=h.ny i g k;refine(aaK kind c val h.blk h.tS m l h.base).mono ?_;rintro e w' ⟨rfl,⟨K,n,o,q⟩,j⟩;exact⟨rfl,K,h.adA j n o,q,j⟩
theorem Xg(a:Option Addr)(n b:Nat):(Value.slice a n b).ownBlock=(Value.slice a 0 b).ownBlock:=by cases a<;>rfl
theorem eU.flush{m:Option Addr}{l:Nat}(h:eU B w A z r s code u C d f rk v bs es)(F:s.ov=.slice m n l):eU B (w.setCell (ai s.wp 1) (.slice m 0 l)) A z r ⟨s.wp,s.rv,s.vv,.slice m 0 l,s.iv⟩ code ⟨u.vars,[],u.ins⟩ C d f rk v bs es:=by obtain⟨x,R,S,ov,P⟩:=s;simp only at F;subst F;have q:=h.ij.jR;have y:ak (λb=>b=x) w (w.setCell (ai x 1) (.slice m 0 l)):=(ak.refl (λb=>b=x) w).setCell (p:=ai x 1) rfl _;(have j:∀{b:Nat}{t:TypeId},ld w b t->t≠118->¬b=x:=λ{b t} X T e=>by subst e;exact T (X.uniq (nZ q.bN)));have O:Below B w (w.setCell (ai x 1) (.slice m 0 l)):=y.toBelow h.base (λb G e=>by have:=q.bw;simp only at this;omega);(have rf:bC B (w.setCell (ai x 1) (.slice m 0 l)) (.slice m 0 l) []:=by(have W:=aR q.dB y (λk E=>j (kF q.dB E) aj);rcases W.2 with ⟨e,_⟩|⟨N,I,J,e,K,L,Q,H,M,k6⟩);{(obtain⟨rfl,rfl,rfl⟩:m=none/\n=0/\l=0:=by simpa using e);exact pY _ _ _ _};(obtain⟨rfl,rfl,rfl⟩:m=some (ai N 0)/\n=u.outs.length/\l=I:=by simpa using e);exact⟨rfl,az ⟨N,l,J,rfl,K,L,bR _,H,M,aF⟩⟩);(have V:∀b,(SX.mk x R S (.slice m 0 l) P).W b->(SX.mk x R S (.slice m n l) P).W b:=by rintro b (e|e|e);{exact aD e};{exact az (aD e)};exact az (az (by rw[Xg];exact e)));have U:∀(i:Nat)(c:JX×MS),v[i]?=some c->∀b,c.1.J b->¬b=x:=λi c D b G e=>h.ij.sep i c D b G (aD e);obtain⟨o1,Y,Z,o4⟩:=q.len;refine⟨⟨⟨?_,aR q.gY y (λk E=>j (kF q.gY E) aj),rf,q.ins.below O,q.bJ.below O,λk E=>by rw[<-Xg m n l];exact q.vN k E,q.bw,aF,Y,Z,o4⟩,λi c D=>(h.ij.each i c D).aB y (U i c D),h.ij.apart,λi c D b G e=>h.ij.sep i c D b G (V b e)⟩,h.blk.aB y (j (nZ h.blk) aj),aR h.tS y (λk E=>j (kF h.tS E) aj),h.l7.of_block (y.block z h.l7.lt (j (vX h.l7) aj)),h.l9.of_block (y.block r h.l9.lt (j (vX h.l9) aj)),λi g D=>?_,h.nodup,h.bt,h.bg,h.len,h.nA⟩;{have:=q.bN.set (o:=1) (.slice m 0 l);simpa using this};obtain⟨a,t,b,K,L,Q,H,M⟩:=h.ny i g D;exact⟨a,t,b,K,L,Q,H.aB y (j (nZ H) aj),M⟩
end
end
section
section
variable{B:Nat}{w:World}{s:SX}{code:List Int}{u:MW}{v:List (JX×MS)}{A z r:Nat}{C:Value}{d:List Nat}{f:List JT}{rk:List Nat}{bs:List Bool}{es:List EV}
def H9(B:Nat)(A z r:Nat)(code:List Int)(d:List Nat)(f:List JT)(rk:List Nat)(v:List (JX×MS))(bs:List Bool)(es:List EV)(i:Nat)(a b:Int)(E:MS)(H:MW)(w:World)(e:Ending)(w':World):Prop:=
 e=.returned (.tuple #[])/\Below B w w'/\∃g K c,eU B w' A z r g code ⟨H.vars,[],H.ins⟩ K d f rk (v.set i (c,E)) (if b≠4 then bs.set i false else bs) (es++puts i a H.outs++(if b≠4 then [⟨2,i,a,b⟩]else []))
theorem ack(h:eU B w A z r s code u C d f rk v bs es)(hi:d[i]?=some g)(ha:v[i]?=some a)(ht:cT w)(hG:3<=B)(bo:AL code a.2 u)(j:Int)(hl:es.length<=80000000)(ho:(cf code a.2 u).2.2.outs.length<=100):Calls prog 85 #[ar A,ar g,ae j] w λe w'=>H9 B A z r code d f rk v bs es i j (cf code a.2 u).1 (cf code a.2 u).2.1 (cf code a.2 u).2.2 w e w':=by(obtain⟨J,hE⟩:=aq ((cf code a.2 u).1);obtain⟨E,fB⟩:∃E,E=(cf code a.2 u).2.1:=⟨_,rfl⟩;obtain⟨H,jK⟩:∃H,H=(cf code a.2 u).2.2:=⟨_,rfl⟩;obtain⟨W,t0,b0,k1,k2,k3,k4,k5⟩:=h.ny i g hi;obtain rfl:W=a:=gT (k1.symm.trans ha);have U:=WD (h.ij.rAt ha) ht bo;rw[<-hE,<-fB,<-jK]at U ⊢;rw[<-jK]at ho;have c0:w.cell? (ai g 0)=some (ar W.1.mb):=k4.cell 0 _ rfl;have a5:=k4.lt;have HT:=af h;have ab:Hid (Calls prog 74 #[ar W.1.mb] w λe w'=>e=.returned (ae J)/\gM B w (W.1.rx s) code E H w'):=af U;clear U h hE fB jK bo k4;go_enter func85,ntmps85;go_wp2_with fail;refine ab.mono ?_;rintro e w1 ⟨rfl,y,hn⟩;obtain⟨l,ad⟩:=HT.VH ha hn;have aa:=af (HT.toBelow ad (λb hb=>HT.ij.base hb));obtain⟨X,Y,an,aW,_⟩:=bf l.ij.jR.dB;obtain⟨n,R⟩:=aq (H.outs.length);obtain⟨t,I⟩:=aq (⟨s.wp,s.rv,s.vv,y.ov,y.iv⟩:SX);obtain⟨j1,za⟩:=aq (⟨W.1.mb,W.1.st,y.lv,y.cv⟩:JX);rw[<-I,<-za]at l;have mU:t.wp=s.wp:=by rw[I]);(have T:t.ov=.slice X n Y:=by rw[I,R];exact an);(have q0:w1.cell? (ai A 0)=some (ar t.wp):=l.blk.cell 0 _ rfl;have q1:w1.cell? (ai t.wp 1)=some (.slice X n Y):=by rw[<-T];exact l.ij.jR.bN.cell 1 _ rfl);have aY:n<=100:=ag;have ao:=l.blk.lt;have ei:=l.ij.jR.bN.lt;obtain⟨F,MA⟩:=aq (t.wp);rw[<-MA]at q0 q1 ei;have mI:=af l;have pV:=af R;have K:=af T;have qF:=af MA;clear l ad hn an aW R I za T mU MA ab HT c0;go_wp2_with fail;go_loopw[22] (λk wr=>∃(q:Nat)(M:Value),q<=n/\k=ae q/\Hid (eU B wr A z r t code H M d f rk (v.set i (j1,E)) bs (es++puts i j (H.outs.take q)))/\Hid (Below B w wr)) (λk _=>n-(intOf k).toNat);(case atStart=>exact⟨0,C,bR _,rfl,af (by simpa [puts]using mI.out),aa⟩);case round=>clear mI aa q0 q1 ao ei;obtain⟨q,M,hq,rfl,o,dQ⟩:=hrel;by_cases aM:q<n;{(have ke:(q:Int)<(n:Int):=by omega);have D:=o.ij.jR.dB;rw[K.out]at D;obtain⟨c,hc⟩:∃c,H.outs[q]?=some c:=⟨_,bD (by rw[<-pV.out];exact aM)⟩;obtain⟨a2,a1,hv,_,hg,_,_,am⟩:=bT D (by have:=pV.out;omega);simp only[Value.slice.injEq]at hv;obtain⟨rfl,aS,rfl⟩:=hv;have Q:wr.cell? (ai a2 q)=some (ae c):=am q _ (by rw[ints,jo,hc];rfl);have x:=af (o.note hi 3 j c (by rw[cZ,puts,List.length_map,List.length_take];have:=pV.out;omega));(have yD:es++puts i j (H.outs.take q)++[⟨3,i,j,c⟩]=es++puts i j (H.outs.take (q+1)):=by rw[BH,List.take_add_one,hc];simp[puts]);have av:=af yD;clear D am aS hc yD;go_wp2_with fail;refine x.mono ?_;rintro e w3 ⟨rfl,aE,N,_,ah⟩;have dV:=af (dQ.trans (o.KY ah));rw[av.out]at N;have gh:=af N;clear N ah x Q;go_wp2_with fail;go_roundw;(case rel=>exact⟨q+1,aE,ag,bK,gh,dV⟩);case measure=>simp[intOf];omega};(obtain rfl:q=n:=by omega);(have a4:¬(q:Int)<(q:Int):=ag;have q0:wr.cell? (ai A 0)=some (ar F):=by rw[qF.out];exact o.blk.cell 0 _ rfl);(have q1:wr.cell? (ai F 1)=some (.slice X q Y):=by rw[<-K.out,qF.out];exact o.ij.jR.bN.cell 1 _ rfl);(have f1:wr.frozen? (ai F 1)=false:=by rw[qF.out];exact o.ij.jR.bN.frozen 1);(have ao:=o.blk.lt;have ei:F<wr.heap.size:=by rw[qF.out];exact o.ij.jR.bN.lt);go_upto_region 6 with fail;go_still_tail 14,aO;go_upto_region 7 with fail;have O:=eU.flush (w:=wr) o K;rw[<-qF.out,List.take_of_length_le (by rw[<-pV.out];exact aC)]at O;obtain⟨V,hV⟩:=aq ((wr.setCell (ai F 1) (.slice X 0 Y)).drew:World);have P:=O.aB (w':=V) (S:=λ_=>False) (by rw[hV];exact(ak.refl _ _).drew) (λ_ _=>id) id (λ_ _=>id) id id (λ_ _ _=>id) (λ_ e=>e.elim);have cU:Hid (Below B w V):=af (dQ.trans (o.toBelow (S:=λb=>b=F) (by rw[hV];exact((ak.refl (λb=>b=F) wr).setCell (p:=ai F 1) rfl _).drew) (λb e=>by rw[e,qF.out];exact o.ij.jR.bw)));rw[<-hV];obtain⟨a7,t7,b7,g1,g2,g3,g4,g5⟩:=P.ny i g hi;have d6:V.cell? (ai g 6)=some (.bool b7):=g4.cell 6 _ rfl;have e6:=g4.frozen 6;have a3:=g4.lt;have L:=af P;have au:=af g5.1;have lz:Hid ((es++puts i j H.outs).length<=90000000):=af (by rw[cZ,puts,List.length_map];omega);clear O P hV g1 g2 g3 g4 g5 q0 q1 f1 o;by_cases m:J=4;{(have x4:(J != 4)=false:=by simp[m]);have qQ:=af m;clear m;go_wp2_with fail;go_end0;have h4:=qQ.out;refine(show H9 B A z r code d f rk v bs es i j J E H w _ _ from⟨rfl,cU,⟨F,t.rv,t.vv,.slice X 0 Y,t.iv⟩,M,j1,?_⟩);rw[ay (λh=>h h4),ay (λh=>h h4),List.append_nil];exact L};(have x4:(J != 4)=true:=by simpa using m);have qQ:=af m;clear m;have G:=L.Px hi false;obtain⟨Z,hZ⟩:=aq (V.setCell (ai g 6) (.bool false):World);rw[<-hZ]at G;have ll:Hid (Below B w Z):=af (cU.trans (L.toBelow (S:=λb=>b=g) (by rw[hZ];exact(ak.refl (λb=>b=g) V).setCell (p:=ai g 6) rfl _) (λb e=>by rw[e];exact au)));have x:=af (G.note hi 2 j J lz);have HZ:=af hZ;have aw:=af G;clear hZ G;go_wp2_with fail;rw[<-HZ.out];refine x.mono ?_;rintro e w9 ⟨rfl,aL,ac,_,al⟩;have aB:=af ac;have ap:=af (ll.trans (aw.KY al));clear ac x al;go_wp2_with fail;go_end0;have h4:=qQ.out;refine(show H9 B A z r code d f rk v bs es i j J E H w _ _ from⟨rfl,ap,⟨F,t.rv,t.vv,.slice X 0 Y,t.iv⟩,aL,j1,?_⟩);rw[aG h4,aG h4];exact aB
end
end
section
structure DQ where
 mb:Nat
 fv:Value
 tv:Value
structure DW where
 wp:Nat
 cv:Value
 iv:Value
 ov:Value
 full:List Int
 tk:Nat
def DQ.dx(q:DQ)(s:DW):DX:=⟨q.mb,s.wp,q.fv,q.tv,s.cv,s.iv,s.ov,s.full,s.tk⟩
def DX.q(x:DX):DQ:=⟨x.mb,x.fv,x.tv⟩
def DX.s(x:DX):DW:=⟨x.wp,x.cv,x.iv,x.ov,x.full,x.tk⟩
def DQ.J(q:DQ)(b:Nat):Prop:=b=q.mb\/q.fv.ownBlock=some b\/q.tv.ownBlock=some b
def DW.W(s:DW)(b:Nat):Prop:=b=s.wp\/s.cv.ownBlock=some b\/s.ov.ownBlock=some b
structure uF(B:Nat)(w:World)(sb:Nat)(F:Nat->Prop)(q:DQ)(m:DM):Prop where
 dR:ax w q.mb #[ar sb,q.fv,q.tv,.bool m.done,ae m.ed] 226
 gB:Aw B w q.fv m.fs
 cS:bC B w q.tv m.aw.reverse
 bm:B<=q.mb
 rM:∀p∈m.fs,gv F w p.1 p.2.its
 len:m.fs.length<=2000000/\m.aw.length<=32
structure ze(B:Nat)(w:World)(s:DW)(u:MW):Prop where
 bN:ax w s.wp #[s.cv,s.iv,ae s.tk,s.ov] 221
 cL:bC B w s.cv u.vars
 dB:bC B w s.ov u.outs
 ins:bX B w s.iv s.full
 rest:u.ins=s.full.drop s.tk
 lR:∀k,s.cv.ownBlock=some k->s.ov.ownBlock≠some k
 bw:B<=s.wp
 len:u.outs.length<=2000000/\s.full.length<=2000000/\u.vars.length<=1000/\s.tk<=2000000
section
variable{B:Nat}{w w':World}{I:Nat}{F S:Nat->Prop}{q:DQ}{s:DW}{m:DM}{u:MW}{x:DX}{b:Nat}
theorem ZA(b:uF B w I F q m)(a:ze B w s u)(h:∀k,q.tv.ownBlock=some k->s.cv.ownBlock≠some k/\s.ov.ownBlock≠some k)(c:∀k,F k->k<B):bE B w I F (q.dx s) m u:=by obtain⟨d,e⟩:=b.len;obtain⟨f,g,i,j⟩:=a.len;exact⟨b.dR,b.gB,b.cS,a.bN,a.cL,a.dB,a.ins,a.rest,h,a.lR,b.bm,a.bw,b.rM,c,d,e,f,g,i,j⟩
theorem bE.pF(h:bE B w I F x m u):uF B w I F x.q m:=⟨h.dR,h.gB,h.cS,h.bm,h.rM,h.len.1,h.len.2.1⟩
theorem bE.sat(h:bE B w I F x m u):ze B w x.s u:=⟨h.bN,h.cL,h.dB,h.ins,h.rest,h.lR,h.bw,h.len.2.2⟩
theorem uF.ty(h:uF B w I F q m)(a:q.J b):(b=q.mb/\ld w b 226)\/(q.fv.ownBlock=some b/\ld w b 257)\/(q.tv.ownBlock=some b/\ld w b 3):=by rcases a with e|e|e;{exact aD ⟨e,by rw[e];exact nZ h.dR⟩};{exact az (aD ⟨e,kF h.gB e⟩)};exact az (az ⟨e,kF h.cS e⟩)
theorem ze.ty(h:ze B w s u)(a:s.W b):(b=s.wp/\ld w b 221)\/((s.cv.ownBlock=some b\/s.ov.ownBlock=some b)/\ld w b 3):=by rcases a with e|e|e;{exact aD ⟨e,by rw[e];exact nZ h.bN⟩};{exact az ⟨aD e,kF h.cL e⟩};exact az ⟨az e,kF h.dB e⟩
theorem uF.lt(h:uF B w I F q m)(a:q.J b):b<w.heap.size:=by rcases a with e|e|e;{rw[e];exact h.dR.lt};{exact ct h.gB e};exact ct h.cS e
theorem ze.lt(h:ze B w s u)(a:s.W b):b<w.heap.size:=by rcases a with e|e|e;{rw[e];exact h.bN.lt};{exact ct h.cL e};exact ct h.dB e
theorem uF.aB(h:uF B w I F q m)(e:∀k,F k->k<B)(c:ak S w w')(f:Below B w w')(d:∀b,q.J b->¬S b):uF B w' I F q m:=⟨h.dR.aB c (d _ (aD rfl)),aR h.gB c (λb a=>d b (az (aD a))),aR h.cS c (λb a=>d b (az (az a))),h.bm,λp g=>(h.rM p g).below e f,h.len⟩
theorem ze.aB(h:ze B w s u)(c:ak S w w')(e:Below B w w')(d:∀b,s.W b->¬S b):ze B w' s u:=⟨h.bN.aB c (d _ (aD rfl)),aR h.cL c (λb a=>d b (az (aD a))),aR h.dB c (λb a=>d b (az (az a))),h.ins.below e,h.rest,h.lR,h.bw,h.len⟩
end
def qptr:Option (DQ×DM)->Value
 |none=>.pointer none
 |some p=>ar p.1.mb
structure jw(B:Nat)(w:World)(sb:Nat)(F:Nat->Prop)(mg n:Nat)(s:DW)(u:MW)(qs:List (Option (DQ×DM)))(ev:Value)(es:List EV):Prop where
 ql:qs.length=n
 row:w.ownsRow B 222 1 (aA mg n n) n (qs.map qptr)
 pF:∀(i:Nat)(q:DQ)(m:DM),qs[i]?=some (some (q,m))->uF B w sb F q m
 sat:ze B w s u
 rN:∀(i:Nat)(q:DQ)(m:DM),qs[i]?=some (some (q,m))->∀k,q.tv.ownBlock=some k->s.cv.ownBlock≠some k/\s.ov.ownBlock≠some k
 CZ:∀(i j:Nat)(q:DQ)(m:DM)(q':DQ)(m':DM),i≠j->qs[i]?=some (some (q,m))->qs[j]?=some (some (q',m'))->q.mb≠q'.mb/\∀k,q.fv.ownBlock=some k->q'.fv.ownBlock≠some k
 evs:nY B w ev es
 fb:∀k,F k->k<B
 bs:B<=w.heap.size
section
variable{B:Nat}{w w':World}{I:Nat}{F S:Nat->Prop}{G n:Nat}{s:DW}{u H:MW}{D:List (Option (DQ×DM))}{C:Value}{es:List EV}{q:DQ}{m E:DM}{x y:DX}{b i:Nat}
theorem TW{G:Nat}(h:(aA G n n).ownBlock=some b):b=G:=by simpa [Value.ownBlock,eq_comm]using h
theorem jw.aB(h:jw B w I F G n s u D C es)(a:ak S w w')(l:∀b,S b->B<=b)(g:¬S G)(j:∀(i:Nat)(q:DQ)(m:DM),D[i]?=some (some (q,m))->∀b,q.J b->¬S b)(k:∀b,s.W b->¬S b)(o:nY B w' K P):jw B w' I F G n s u D K P:=by have c:Below B w w':=a.toBelow h.bs (λb d e=>by have:=l b e;omega);exact⟨h.ql,aR h.row a (λb d e=>g (TW d ▸ e)),λi q m f=>(h.pF i q m f).aB h.fb a c (j i q m f),h.sat.aB a c k,h.rN,h.CZ,o,h.fb,aU h.bs a.size⟩
theorem jw.below(h:jw B w I F G n s u D C es)(a:Below w.heap.size w w'):jw B w' I F G n s u D C es:=h.aB (ak.aY (S:=λ_=>False) a) (λ_ e=>e.elim) id (λ_ _ _ _ _ _=>id) (λ_ _=>id) (aR h.evs (ak.aY (S:=λ_=>False) a) (λ_ _=>id))
theorem jw.event(h:jw B w I F G n s u D C es)(f:w.grownBy w' C.ownBlock)(d:nY B w' K P):jw B w' I F G n s u D K P:=by have a:∀b,some b=C.ownBlock->ld w b 69:=λb e=>kF h.evs e.symm;refine h.aB (ak.cA f) (λb e=>cd h.evs e.symm) (λe=>?_) (λi q m g b c e=>?_) (λb c e=>?_) d;{exact absurd ((a _ e).uniq (kF h.row (k:=G) rfl)) aj};{(rcases(h.pF i q m g).ty c with ⟨_,t⟩|⟨_,t⟩|⟨_,t⟩);{exact absurd ((a _ e).uniq t) aj};{exact absurd ((a _ e).uniq t) aj};exact absurd ((a _ e).uniq t) aj};(rcases h.sat.ty c with ⟨_,t⟩|⟨_,t⟩);{exact absurd ((a _ e).uniq t) aj};exact absurd ((a _ e).uniq t) aj
theorem jw.dat(h:jw B w I F G n s u D C es)(a:D[i]?=some (some (q,m))):bE B w I F (q.dx s) m u:=ZA (h.pF i q m a) h.sat (h.rN i q m a) h.fb
theorem jw.step{t:Nat}(h:jw B w I F G n s u D C es)(A:D[i]?=some (some (q,m)))(x:DN B w I F {q.dx s with tk:=(q.dx s).tk+t} E H w' y):jw B w' I F G n y.s H (D.set i (some (y.q,E))) C es/\y.mb=q.mb/\y.wp=s.wp:=by have v:y.mb=q.mb:=x.mb;have mU:y.wp=s.wp:=x.wp;have U:y.cv=s.cv:=x.cv;have km:Lc w q.fv y.fv:=x.fv;have W:Lc w s.ov y.ov:=x.ov;have hd:=h.dat A;have hq:=h.pF i q m A;have aa:=(dm.1 A).1;have K:ak (q.dx s).S w w':=x.aB;have hB:Below B w w':=hd.toBelow K (λ_ e=>e);(have z:∀b,(q.dx s).S b->b=q.mb\/q.fv.ownBlock=some b\/s.W b:=by rintro b (e|e|e|e|e);{exact aD e};{exact az (az (aD e))};{exact az (aD e)};{exact az (az (az (aD e)))};exact az (az (az (az e))));(have V:∀(j:Nat)(c:DQ)(E:DM),j≠i->D[j]?=some (some (c,E))->∀b,c.J b->¬(q.dx s).S b:=λj c d o J b l e=>by(obtain⟨M,N⟩:=h.CZ j i c d q m o J A;rcases(h.pF j c d J).ty l with ⟨g,t⟩|⟨g,t⟩|⟨g,t⟩<;>rcases z b e with e|e|e);{exact M (g.symm.trans e)};{exact absurd (t.uniq (kF hq.gB e)) aj};{exact Iy};{exact absurd (t.uniq Jb) aj};{exact N b g e};{exact Iy};{exact absurd (t.uniq Jb) aj};{exact absurd (t.uniq (kF hq.gB e)) aj};(rcases h.sat.ty e with ⟨_,t'⟩|⟨e',_⟩);{exact absurd (t.uniq t') aj};obtain⟨k1,k2⟩:=h.rN j c d J b g;exact e'.elim k1 k2);(have O:∀j p,(D.set i (some (y.q,E)))[j]?=some (some p)->(j=i/\p=(y.q,E))\/(j≠i/\D[j]?=some (some p)):=λj p hp=>by exact QZ);(have L:(D.set i (some (y.q,E))).map qptr=D.map qptr:=by apply List.ext_getElem?;intro j;rw[jo,jo];by_cases e:j=i;{subst e;rw[eT aa,A];simp[qptr,DX.q,v]};rw[dy (λh=>e h.symm)]);(have S:∀b,w.heap.size<=b->∀(j:Nat)(c:DQ)(E:DM),D[j]?=some (some (c,E))->¬c.J b:=λb l j c d o e=>by have:=(h.pF j c d o).lt e;omega);(have R:¬(q.dx s).S G:=λe=>by have t:=kF h.row (k:=G) rfl;rcases z G e with e|e|e;{exact absurd (t.uniq Jb) aj};{exact absurd (t.uniq (kF hq.gB e)) aj};exact Iy);(have Zt:∀b,C.ownBlock=some b->¬(q.dx s).S b:=λb l e=>by have t:=kF h.evs l;rcases z b e with e|e|e;{exact absurd (t.uniq Jb) aj};{exact absurd (t.uniq (kF hq.gB e)) aj};exact Iy);refine⟨⟨by rw[mD];exact h.ql,?_,λj c d o=>?_,x.at_.sat,λj c d o=>?_,λj k Y X Z d r o Q=>?_,aR h.evs K Zt,h.fb,aU h.bs K.size⟩,v,mU⟩;{rw[L];exact aR h.row K (λb l e=>R (TW l ▸ e))};{(rcases O j _ o with ⟨rfl,e⟩|⟨e,a⟩);{obtain⟨rfl,rfl⟩:=zO e;exact x.at_.pF};exact(h.pF j c d a).aB h.fb K hB (V j c d e a)};{(rcases O j _ o with ⟨rfl,e⟩|⟨e,a⟩);{obtain⟨rfl,rfl⟩:=zO e;exact x.at_.rN};intro k Q;obtain⟨a1,a2⟩:=h.rN j c d a k Q;refine⟨by show y.cv.ownBlock≠_;rw[U];exact a1,λP=>?_⟩;rcases W k P with f|f;{exact a2 f};exact S k f j c d a (az (az Q))};(rcases O j _ o with ⟨rfl,e1⟩|⟨e1,a⟩<;>rcases O k _ Q with ⟨rfl,P⟩|⟨P,T⟩);{exact absurd rfl r};{obtain⟨rfl,rfl⟩:=zO e1;obtain⟨M,N⟩:=h.CZ j k q m Z d r A T;refine⟨by show y.mb≠_;rw[v];exact M,λb l e=>?_⟩;rcases km b l with f|f;{exact N b f e};exact S b f k Z d T (az (aD e))};{obtain⟨rfl,rfl⟩:=zO P;obtain⟨M,N⟩:=h.CZ j k Y X q m r a A;refine⟨by show _≠y.mb;rw[v];exact M,λb l e=>?_⟩;rcases km b e with f|f;{exact N b l f};exact S b f j Y X a (az (aD l))};exact h.CZ j k Y X Z d r a T
theorem jw.release{d:World}{g:Nat}{r x:Value}(h:jw B w I F G n s u D C es)(Z:i<n)(a:Below w.heap.size w d)(hk:ax d g #[ar I,r,x,.bool false,ae 0] 226)(O:w.heap.size<=g)(K:Aw w.heap.size d r M)(P:bC w.heap.size d x [])(r9:∀p∈M,gv F d p.1 p.2.its)(hl:M.length<=2000000):jw B (d.setCell (ai G i) (ar g)) I F G n s u (D.set i (some (⟨g,r,x⟩,⟨M,[],false,0⟩))) C es:=by(have f:=h.below a;have aa:i<D.length:=by rw[h.ql];exact Z);have v:ak (λb=>b=G) d (d.setCell (ai G i) (ar g)):=(ak.refl (λb=>b=G) d).setCell (p:=ai G i) rfl _;have l:ld d G 222:=kF f.row (k:=G) rfl;have Y:B<=G:=cd f.row (k:=G) rfl;have N:Below B d (d.setCell (ai G i) (ar g)):=v.toBelow f.bs (λb a e=>ag);have U:uF B d I F ⟨g,r,x⟩ ⟨M,[],false,0⟩:=⟨hk,Ci K (λb a=>aU h.bs (cd K a)),Ci P (λb a=>aU h.bs (cd P a)),aU h.bs O,r9,hl,aF⟩;(have A:∀{q:DQ}{m:DM},uF B d I F q m->∀b,q.J b->¬b=G:=λhq b a e=>by subst e;rcases hq.ty a with ⟨_,t⟩|⟨_,t⟩|⟨_,t⟩<;>exact absurd (l.uniq t) aj);(have H:∀j p,(D.set i (some (⟨g,r,x⟩,⟨M,[],false,0⟩)))[j]?=some (some p)->(j=i/\p=(⟨g,r,x⟩,⟨M,[],false,0⟩))\/(j≠i/\D[j]?=some (some p)):=λj p hp=>by exact QZ);refine⟨by rw[mD];exact h.ql,?_,λj L o y=>?_,f.sat.aB v N (λb a e=>?_),λj L o y k J=>?_,λj k V T W o z y J=>?_,aR f.evs v (λb a e=>?_),h.fb,aU f.bs v.size⟩;{rw[List.map_set];exact gX f.row i _};{(rcases H j _ y with ⟨rfl,e⟩|⟨e,c⟩);{obtain⟨rfl,rfl⟩:=zO e;exact U.aB h.fb v N (A U)};exact(f.pF j L o c).aB h.fb v N (A (f.pF j L o c))};{subst e;rcases f.sat.ty a with ⟨_,t⟩|⟨_,t⟩<;>exact absurd (l.uniq t) aj};{(rcases H j _ y with ⟨rfl,e⟩|⟨e,c⟩);{obtain⟨rfl,rfl⟩:=zO e;have ab:=cd P J;exact⟨λe=>by have:=h.sat.lt (az (aD e));omega,λe=>by have:=h.sat.lt (az (az e));omega⟩};exact f.rN j L o c k J};{(rcases H j _ y with ⟨rfl,R⟩|⟨R,c⟩<;>rcases H k _ J with ⟨rfl,S⟩|⟨S,Q⟩);{exact absurd rfl z};{obtain⟨rfl,rfl⟩:=zO R;have E:=h.pF k W o Q;refine⟨λe=>?_,λb a e=>?_⟩;{have:g<w.heap.size:=E.lt (aD e);omega};have:=E.lt (az (aD e));have:=cd K a;omega};{obtain⟨rfl,rfl⟩:=zO S;have X:=h.pF j V T c;refine⟨λe=>?_,λb a e=>?_⟩;{have:g<w.heap.size:=X.lt (aD e.symm);omega};have:=X.lt (az (aD a));have:=cd K e;omega};exact f.CZ j k V T W o z c Q};subst e;exact absurd (l.uniq (kF f.evs a)) aj
end
end
section
def turnOf(rk:List Nat)(bs:List Bool):Nat->Nat->Option Nat
 |0,_=>none
 |f+1,k=>if bs.getD (rk.getD k 0) false=true then some (rk.getD k 0)else turnOf rk bs f (k+1)
section
variable{B:Nat}{w:World}{s:SX}{code:List Int}{u:MW}{v:List (JX×MS)}{A z r:Nat}{C:Value}{d:List Nat}{f:List JT}{rk:List Nat}{bs:List Bool}{es:List EV}
def afJ(B:Nat)(A z r:Nat)(s:SX)(code:List Int)(u:MW)(C:Value)(d:List Nat)(f:List JT)(rk:List Nat)(v:List (JX×MS))(bs:List Bool)(es:List EV)(b:Int)(q:Option Nat)(w:World)(e:Ending)(w':World):Prop:=
 match q with
 |none=>e=.returned (.tuple #[])/\w'=w/\eU B w' A z r s code u C d f rk v bs es
 |some i=>∃a,v[i]?=some a/\H9 B A z r code d f rk v bs es i b (cf code a.2 u).1 (cf code a.2 u).2.1 (cf code a.2 u).2.2 w e w'
theorem aba(h:eU B w A z r s code u C d f rk v bs es)(S:cT w)(hG:3<=B)(l:Int)(hl:es.length<=80000000)(P:∀(i:Nat)(a:JX×MS),v[i]?=some a->bs.getD i false=true->AL code a.2 u/\(cf code a.2 u).2.2.outs.length<=100):Calls prog 59 #[ar A,ae l] w λe w'=>afJ B A z r s code u C d f rk v bs es l (turnOf rk bs d.length 0) w e w':=by(obtain⟨Q,K⟩:=aq (turnOf rk bs d.length 0);rw[<-K];obtain⟨n,y⟩:=aq (d.length);have X:w.cell? (ai A 2)=some (aA r n n):=by rw[y];exact h.blk.cell 2 _ rfl);(have ac:=h.blk.lt;have vV:n<=8:=by rw[y];exact h.len.2.2);have W:Hid (∀k,k<n->w.cell? (ai r k)=some (ar (d.getD (rk.getD k 0) 0))/\r<w.heap.size):=af λk hk=>⟨h.l9.cell (by rw[<-y];exact hk),h.l9.lt⟩;have G:=af h;have J:=af S;have R:=af P;have HN:=af y;have E:Hid (Q=turnOf rk bs n 0):=af (by rw[y];exact K);clear h S P y K;go_enter func59,ntmps59;go_wp2_with fail;go_loopw[11] (λk wr=>∃q:Nat,q<=n/\k=ae q/\wr=w/\Hid (Q=turnOf rk bs (n-q) q)) (λk _=>n-(intOf k).toNat);(case atStart=>exact⟨0,bR _,rfl,rfl,E⟩);case round=>clear E X;obtain⟨q,hq,rfl,rfl,N⟩:=hrel;by_cases hlt:q<n;{(have ke:(q:Int)<(n:Int):=by omega);(obtain⟨Y,aa⟩:=W.out q hlt;obtain⟨i,F⟩:=aq (rk.getD q 0);have x:i<d.length:=by rw[F];exact G.nA q sW);(obtain⟨g,m⟩:=aq (d.getD i 0);have j:d[i]?=some g:=by rw[m];simp[x]);(rw[<-F,<-m]at Y;obtain⟨a,t,b,D,T,M,H,U⟩:=G.ny i g j;have c6:wr.cell? (ai g 6)=some (.bool b):=H.cell 6 _ rfl;have ab:=H.lt;have c:bs.getD i false=b:=by rw[oy,M];rfl);(have o:Q=if b=true then some i else turnOf rk bs (n-(q+1)) (q+1):=by rw[N.out,show n-q=(n-(q+1))+1 by omega,turnOf,<-F,c]);have O:=af o;cases b with|true=>(have I:=af (ack G j D J hG (R i a D c).1 l hl (R i a D c).2);have Z:=af D;clear o F m j D T M H U c x;go_wp2_with fail;refine I.mono ?_;intro e w5 L;have V:=af L;have he:e=.returned (.tuple #[]):=L.1;subst he;clear L;go_wp2_with fail;refine bodyPost_ret (results_none rfl _ _ _) rfl ?_;have e:Q=some i:=by rw[O.out];simp);rw[e];exact(show ∃a,_/\_ from⟨a,Z,V⟩)|false=>have mA:Hid (Q=turnOf rk bs (n-(q+1)) (q+1)):=af (by rw[o];simp);clear o F m j D T M H U c x O;go_wp2_with fail;go_roundw;(case rel=>exact⟨q+1,ag,bK,by first|trivial|rfl,mA⟩);case measure=>simp[intOf];omega};(obtain rfl:q=n:=by omega);(have j:¬(q:Int)<(q:Int):=ag;go_wp2_with fail;go_end0;have e:Q=none:=by rw[N.out,Nat.sub_self];rfl);rw[e];exact(show _/\_/\_ from⟨rfl,rfl,G⟩)
end
end
section
def lS(p:Nat):MS:=⟨[],[],[],p⟩
structure PS where
 ms:List MS
 bs:List Bool
 u:MW
 es:List EV
def yz(t:JT)(k:Nat)(a:Int)(p:PS):PS:=if Bj t a=true then⟨p.ms.set k (lS t.st),p.bs.set k true,p.u,p.es++[⟨1,k,a,0⟩]⟩else p
def relP(f:List JT)(a:Int):Nat->Nat->PS->PS
 |0,_,p=>p
 |b+1,k,p=>match f[k]? with
  |none=>relP f a b (k+1) p
  |some t=>relP f a b (k+1) (yz t k a p)
def turnQ(code:List Int)(i:Nat)(a:Int)(p:PS):PS:=
 match p.ms[i]? with
 |none=>p
 |some m=>⟨p.ms.set i (cf code m p.u).2.1,if(cf code m p.u).1≠4 then p.bs.set i false else p.bs,⟨(cf code m p.u).2.2.vars,[],(cf code m p.u).2.2.ins⟩,p.es++puts i a (cf code m p.u).2.2.outs++(if(cf code m p.u).1≠4 then [⟨2,i,a,(cf code m p.u).1⟩]else [])⟩
def turnP(code:List Int)(rk:List Nat)(n:Nat)(a:Int)(p:PS):PS:=
 match turnOf rk p.bs n 0 with
 |none=>p
 |some i=>turnQ code i a p
def Yc(code:List Int)(f:List JT)(rk:List Nat)(n:Nat)(a:Int)(p:PS):PS:=turnP code rk n a (relP f a n 0 p)
def iX(code:List Int)(f:List JT)(rk:List Nat)(n:Nat):Nat->PS->PS
 |0,p=>p
 |k+1,p=>Yc code f rk n k (iX code f rk n k p)
theorem Wb{rk:List Nat}{bs:List Bool}:∀{f k i:Nat},turnOf rk bs f k=some i->bs.getD i false=true|0,_,_,h=>nK|f+1,k,i,h=>by unfold turnOf at h;split at h;{rename_i a;cases h;exact a};exact Wb h
def TOk(es:List PE)(code:List Int)(t:JT):Prop:=∃(y:RW)(q:Nat),dW es code false y.its t.st q/\code[q]?=some 34/\t.st<code.length
structure gp(es:List PE)(code:List Int)(n nv k L:Nat)(p:PS):Prop where
 l1:p.ms.length=n
 l2:p.bs.length=n
 uo:p.u.outs=[]
 uv:p.u.vars.length=nv
 vc:∀a∈p.u.vars,Cell a
 ic:∀a∈p.u.ins,Cell a
 le:p.es.length<=L
 job:∀(i:Nat)(m:MS),p.ms[i]?=some m->p.bs.getD i false=true->∃fs,nj es code k fs m p.u
section
variable{es:List PE}{code:List Int}{O:List RW}{n N k L:Nat}{p:PS}{f:List JT}{rk:List Nat}
theorem gp.more{c b:Nat}(h:gp es code n N k L p)(a:k<=c)(d:L<=b):gp es code n N c b p:=⟨h.l1,h.l2,h.uo,h.uv,h.vc,h.ic,aU h.le d,λi m f e=>by obtain⟨M,s⟩:=h.job i m f e;exact⟨M,s.rel,s.wl,aU s.l1 a,aU s.l2 a,aU s.l3 a,aU s.l4 ag⟩⟩
theorem agn{t:JT}(h:TOk es code t){u:MW}(d:u.outs=[])(e:∀a∈u.vars,Cell a)(f:∀a∈u.ins,Cell a)(k:Nat):∃M,nj es code k M (lS t.st) u:=by obtain⟨y,q,b,c,i⟩:=h;exact⟨[⟨y.its,0,3,0,0⟩],⟨false,.last _ t.st q ⟨rfl,b.most ag⟩ (by simpa using b) c⟩,⟨(λa g=>by cases g),e,f,bR _⟩,bR _,bR _,by rw[d];exact bR _,aF⟩
theorem gp.ait{t:JT}(h:gp es code n N k L p)(g:TOk es code t)(i:Nat)(a:Int):gp es code n N k (L+1) (yz t i a p):=by unfold yz;by_cases d:Bj t a=true;{rw[aG d];refine⟨by rw[mD];exact h.l1,by rw[mD];exact h.l2,h.uo,h.uv,h.vc,h.ic,by have:=h.le;simp;omega,λj m b c=>?_⟩;simp only at b c;by_cases e:j=i;{subst e;by_cases f:j<p.ms.length;{rw[eT f]at b;obtain rfl:=gT b;exact agn g h.uo h.vc h.ic k};rw[jq (by rw[mD];omega)]at b;cases b};rw[dy (λh=>e h.symm)]at b;rw[oy,dy (λh=>e h.symm),<-oy]at c;exact h.job j m b c};rw[ay d];exact h.more aC ag
theorem gp.rel(c:∀t∈f,TOk es code t)(a:Int):∀(b q L:Nat)(p:PS),gp es code n N k L p->gp es code n N k (L+b) (relP f a b q p)|0,_,_,_,h=>h|b+1,q,L,p,h=>by unfold relP;split;{exact(gp.rel c a b (q+1) L p h).more aC ag};rename_i t d;have:=gp.rel c a b (q+1) (L+1) _ (h.ait (c t (nW d)) q a);rwa [show L+1+b=L+(b+1) by omega]at this
theorem gp.ok(e:kj es code O)(c:Alike es O)(h:gp es code n N k L p)(g:k<=1000000)(j:p.ms[i]?=some m)(f:p.bs.getD i false=true):AL code m p.u/\(cf code m p.u).2.2.outs.length<=1:=by obtain⟨M,b⟩:=h.job i m j f;refine⟨b.ok e c g,?_⟩;obtain⟨d,l⟩:=b.rel;have a:=C8 (u:=p.u) e c l m rfl rfl rfl b.wl;have:=a.l3;rw[a.u];rw[h.uo]at this;simpa using this
theorem gp.aiI(x:kj es code O)(w:Alike es O)(h:gp es code n N k L p)(C:p.bs.getD i false=true)(c:Int):gp es code n N (k+1) (L+2) (turnQ code i c p):=by unfold turnQ;split;{exact h.more ag ag};rename_i m y;obtain⟨M,t⟩:=h.job i m y C;obtain⟨d,D⟩:=t.rel;have a:=C8 (u:=p.u) x w D m rfl rfl rfl t.wl;obtain⟨z,F,G,A⟩:=t.step x w;have g:=a.wl;have o:=a.l5;have q:=a.l3;rw[<-a.s,<-a.u]at g;rw[<-a.u]at o q;rw[h.uo]at q;have l:=(dm.1 y).1;refine⟨by rw[mD];exact h.l1,?_,rfl,o.trans h.uv,g.v,g.i,?_,λj E b f=>?_⟩;{show(if _ then _ else _:List Bool).length=n;split;{rw[mD];exact h.l2};exact h.l2};{have:=h.le;show(p.es++puts i c _++_).length<=_;rw[cZ,cZ,puts,List.length_map];simp only[List.length_nil]at q;split<;>simp<;>omega};simp only at b f;by_cases e:j=i;{subst e;rw[eT l]at b;obtain rfl:=gT b;by_cases v:(cf code m p.u).1=4;{have s:=A (z ▸ v);exact⟨_,s.rel,⟨s.wl.s,s.wl.v,s.wl.i,s.wl.l⟩,s.l1,s.l2,bR _,s.l4⟩};rw[aG v,oy,eT (by rw[h.l2,<-h.l1];exact l)]at f;cases f};rw[dy (λh=>e h.symm)]at b;(have r:p.bs.getD j false=true:=by split at f;{rwa [oy,dy (λh=>e h.symm),<-oy]at f};exact f);obtain⟨B,s⟩:=h.job j E b r;have:=s.l1;have:=s.l2;have:=s.l4;exact⟨B,s.rel,⟨s.wl.s,g.v,g.i,s.wl.l⟩,ag,ag,bR _,ag⟩
theorem gp.turn(c:kj es code O)(b:Alike es O)(h:gp es code n N k L p)(a:Int):gp es code n N (k+1) (L+2) (turnP code rk n a p):=by unfold turnP;split;{exact h.more ag ag};rename_i i d;exact h.aiI c b (Wb d) a
theorem gp.tick(c:kj es code O)(b:Alike es O)(d:∀t∈f,TOk es code t)(e:n<=8)(h:gp es code n N k (10*k) p)(a:Int):gp es code n N (k+1) (10*(k+1)) (Yc code f rk n a p):=((h.rel d a n 0 _ p).turn c b a).more aC ag
theorem gp.sim(b:kj es code O)(a:Alike es O)(d:∀t∈f,TOk es code t)(c:n<=8)(h:gp es code n N 0 0 p):∀k,gp es code n N k (10*k) (iX code f rk n k p)|0=>h|k+1=>(gp.sim b a d c h k).tick b a d c k
end
end
section
theorem SQ{rk:List Nat}{bs:List Bool}{i:Nat}:∀{f k:Nat},turnOf rk bs f k=some i->∃q,k<=q/\q<k+f/\i=rk.getD q 0/\bs.getD i false=true/\∀j,k<=j->j<q->bs.getD (rk.getD j 0) false=false|0,_,h=>nK|f+1,k,h=>by unfold turnOf at h;split at h;{rename_i l;obtain rfl:=gT h;exact⟨k,aC,ag,rfl,l,λj a b=>ag⟩};rename_i l;obtain⟨q,a,b,c,d,e⟩:=SQ h;refine⟨q,ag,ag,c,d,λj n m=>?_⟩;rcases lx k j with g|g;{exact e j ag m};(obtain rfl:j=k:=by omega);simpa using l
theorem Xx{rk:List Nat}{bs:List Bool}:∀{f k:Nat},turnOf rk bs f k=none->∀q,k<=q->q<k+f->bs.getD (rk.getD q 0) false=false|0,_,_,q,a,b=>ag|f+1,k,h,q,a,b=>by unfold turnOf at h;split at h;{cases h};rename_i c;rcases lx k q with g|g;{exact Xx h q ag ag};(obtain rfl:q=k:=by omega);simpa using c
section
variable{ls:List (Int×Int)}{bs:List Bool}{i:Nat}
theorem SY(h:turnOf (gI ls) bs ls.length 0=some i):i<ls.length/\bs.getD i false=true/\∀j,j<ls.length->fD ls j i=true->bs.getD j false=false:=by obtain⟨q,_,b,c,d,e⟩:=SQ h;rw[Nat.zero_add]at b;rw[FK b]at c;obtain⟨g,k⟩:=IZ b;refine⟨by rw[c];exact g,d,λj a l=>?_⟩;have f:=J7 a l;rw[c,k]at f;have:=e (mQ ls j) (bR _) f;rw[FK (Em a),Rq a]at this;exact this
theorem adk(h:turnOf (gI ls) bs ls.length 0=none):∀j,j<ls.length->bs.getD j false=false:=λj a=>by have:=Xx h (mQ ls j) (bR _) (by rw[Nat.zero_add];exact Em a);rw[FK (Em a),Rq a]at this;exact this
end
end
section
structure xl(es:List PE)(code:List Int)(k:Nat)(p:PS)(qs:List (Option (DQ×DM)))(s:DW)(u:MW):Prop where
 len:qs.length=p.ms.length
 lb:p.bs.length=p.ms.length
 vars:u.vars=p.u.vars
 ins:u.ins=p.u.ins
 po:p.u.outs=[]
 outs:u.outs.length<=k
 tk:s.tk<=k
 busy:∀i,p.bs.getD i false=true->∃q m ms,qs[i]?=some (some (q,m))/\p.ms[i]?=some ms/\m.done=false/\nj es code k (m.fs.map Prod.snd) ms u/\m.aw=ms.aw
 idle:∀i q m,p.bs.getD i false=false->qs[i]?=some (some (q,m))->m.done=true
section
variable{es:List PE}{code:List Int}{O:List RW}{k i:Nat}{p:PS}{D:List (Option (DQ×DM))}{s:DW}{u H:MW}{q:DQ}{m E:DM}{ms:MS}
theorem Wc{b:Bool}(h:i<l.length):(l.set i b).getD i false=b:=yh
theorem getD_set_ne{j:Nat}{b:Bool}(h:j≠i):(l.set i b).getD j false=l.getD j false:=by simp only[oy];rw[dy (λe=>h e.symm)]
theorem xl.release{l:Nat}{x:EV}(h:xl es code k p D s u)(hi:i<p.ms.length)(m:nj es code k (M.map Prod.snd) (lS l) u):xl es code k ⟨p.ms.set i (lS l),p.bs.set i true,p.u,p.es++[x]⟩ (D.set i (some (q,⟨M,[],false,0⟩))) s u:=by refine⟨by simp only[mD];exact h.len,by simp only[mD];exact h.lb,h.vars,h.ins,h.po,h.outs,h.tk,λj d=>?_,λj f E d g=>?_⟩;{by_cases e:j=i;{subst e;exact⟨_,_,_,by rw[eT yN],by simp only;rw[eT hi],rfl,m,rfl⟩};simp only at d;rw[getD_set_ne e]at d;obtain⟨f,E,ms,a,b,c⟩:=h.busy j d;exact⟨f,E,ms,by rw[dy (λh=>e h.symm)];exact a,by simp only;rw[dy (λh=>e h.symm)];exact b,c⟩};by_cases e:j=i;{subst e;simp only at d;rw[Wc (by rw[h.lb];exact hi)]at d;cases d};simp only at d;rw[getD_set_ne e]at d;rw[dy (λh=>e h.symm)]at g;exact h.idle j f E d g
theorem nj.after{M:List Fr}(h:nj es code n M ms u)(d:∀a∈H.vars,Cell a)(b:∀a∈H.ins,Cell a)(c:H.outs.length<=n+1):nj es code (n+1) M ms H:=by have:=h.l1;have:=h.l2;have:=h.l4;exact⟨h.rel,⟨h.wl.s,d,b,h.wl.l⟩,ag,ag,c,ag⟩
theorem xl.turn{y:DX}{t:Nat}(Z:kj es code O)(Y:Alike es O)(h:xl es code k p D s u)(hb:p.bs.getD i false=true)(hq:D[i]?=some (some (q,m)))(hm:p.ms[i]?=some ms)(S:nj es code k (m.fs.map Prod.snd) ms u)(J:m.aw=ms.aw)(hd:m.done=false)(ht:t<=1)(ab:y.tk=s.tk+t)(l:Int)(hA:After m E H (dStep O (m.fs.map Prod.snd) m.aw u)):xl es code (k+1) (turnQ code i l p) (D.set i (some (y.q,E))) y.s H/\E.done=decide ((cf code ms p.u).1≠4)/\((cf code ms p.u).1≠4->E.ed=(cf code ms p.u).1)/\H.outs=u.outs++(cf code ms p.u).2.2.outs/\(cf code ms p.u).2.2.outs.length<=1:=by(obtain⟨a1,R,L⟩:=hA;obtain⟨w,M,C,N⟩:=S.step Z Y;rw[<-J]at w M C N;obtain⟨d,hr⟩:=S.rel;have F:=C8 (u:=u) Z Y hr ms rfl rfl rfl S.wl;have P:=F.wl;have K:=F.l3;rw[<-J]at P K;rw[<-R]at P K;have x:=(dm.1 hm).1;have hu:u=⟨p.u.vars,u.outs,p.u.ins⟩:=by rw[<-h.vars,<-h.ins]);(have yD:p.u=⟨p.u.vars,[],p.u.ins⟩:=by rw[<-h.po]);(have T:=aay code ms p.u.vars u.outs p.u.ins;rw[<-hu,<-yD]at T;obtain⟨r,I⟩:=aq (cf code ms p.u);rw[<-I]at T ⊢;rw[T]at w M C N;simp only[AQ]at w M C N;have Q:H=⟨r.2.2.vars,u.outs++r.2.2.outs,r.2.2.ins⟩:=by rw[R,<-C]);(have G:r.2.2.outs.length<=1:=by rw[Q]at K;simp only[cZ]at K;omega);have nX:=h.outs;have aa:=h.tk;have A:H.outs.length<=k+1:=ag;(have hT:turnQ code i l p=⟨p.ms.set i r.2.1,if r.1≠4 then p.bs.set i false else p.bs,⟨r.2.2.vars,[],r.2.2.ins⟩,p.es++puts i l r.2.2.outs++(if r.1≠4 then [⟨2,i,l,r.1⟩]else [])⟩:=by unfold turnQ;rw[hm,I]);refine⟨?_,?_,λe=>?_,by rw[Q],G⟩;{rw[hT];refine⟨by simp only[mD];exact h.len,?_,by rw[Q],by rw[Q],rfl,A,by show y.tk<=_;omega,λj g=>?_,λj W U g z=>?_⟩;{simp only;split<;>simp only[mD]<;>exact h.lb};{by_cases e:j=i;{subst e;(simp only at g;rcases L with ⟨n,o,v,X⟩|⟨n,o,v⟩);{refine⟨_,_,_,by rw[eT (by rw[h.len];exact x)],by simp only;rw[eT x],v.trans hd,?_,by rw[a1,<-M]⟩;rw[o,R,<-C];exact N n};rw[aG (by rw[w];exact n),Wc (by rw[h.lb];exact x)]at g;cases g};simp only at g;(have B:p.bs.getD j false=true:=by split at g;{rwa [getD_set_ne e]at g};exact g);obtain⟨W,U,V,a,b,c,d,f⟩:=h.busy j B;exact⟨W,U,V,by rw[dy (λh=>e h.symm)];exact a,by simp only;rw[dy (λh=>e h.symm)];exact b,c,d.after P.v P.i A,f⟩};by_cases e:j=i;{subst e;(rw[eT (by rw[h.len];exact x)]at z;obtain⟨rfl,rfl⟩:=zO (gT (gT z));rcases L with ⟨n,o,v,X⟩|⟨n,o,v⟩);{simp only at g;rw[ay (λe=>e (by rw[w];exact n)),hb]at g;cases g};exact o};simp only at g;(have B:p.bs.getD j false=false:=by split at g;{rwa [getD_set_ne e]at g};exact g);rw[dy (λh=>e h.symm)]at z;exact h.idle j W U B z};{(rcases L with ⟨n,o,v,X⟩|⟨n,o,v⟩);{rw[v,hd,w,n];rfl};rw[o,w,kJ n]};(rcases L with ⟨n,_⟩|⟨n,o,v⟩);{exact absurd (w.trans n) e};rw[v,w]
def rY(ls:List (Int×Int))(bs:List Bool)(i:Nat)(c:Int):Prop:=(c= -1/\∀j,j<i->bs.getD j false=false)\/∃k:Nat,k<i/\c=k/\bs.getD k false=true/\∀j,j<i->bs.getD j false=true->j=k\/fD ls k j=true
end
section
variable{ls:List (Int×Int)}{bs:List Bool}{i k:Nat}{c:Int}
theorem rY.skip(h:rY ls bs i c)(e:bs.getD i false=false):rY ls bs (i+1) c:=by(rcases h with ⟨d,a⟩|⟨k,d,a,f,l⟩);{refine aD ⟨d,λj m=>?_⟩;rcases lx j i with g|g;{exact a j g};rw[show j=i by omega];exact e};refine az ⟨k,ag,a,f,λj m b=>?_⟩;rcases lx j i with g|g;{exact l j g b};rw[show j=i by omega,e]at b;cases b
theorem rY.keep(h:rY ls bs i (k:Int))(f:fD ls i k=false):rY ls bs (i+1) (k:Int):=by(rcases h with ⟨a,_⟩|⟨l,a,m,b,c⟩);{omega};(obtain rfl:k=l:=by omega);refine az ⟨k,ag,rfl,b,λj n d=>?_⟩;rcases lx j i with g|g;{exact c j g d};rw[show j=i by omega];rcases TX (ls:=ls) (show k≠i by omega)with e|e;{exact az e};rw[f]at e;cases e
theorem rY.take(h:rY ls bs i c)(m:bs.getD i false=true)(n:c= -1\/∃k:Nat,c=k/\fD ls i k=true):rY ls bs (i+1) (i:Int):=by refine az ⟨i,ag,rfl,m,λj r a=>?_⟩;rcases lx j i with g|g;{(rcases h with ⟨f,b⟩|⟨o,f,b,q,l⟩);{rw[b j g]at a;cases a};rcases n with e|⟨k,e,d⟩;{omega};(obtain rfl:k=o:=by omega);rcases l j g a with e|e;{rw[e];exact az d};exact az (Pe d e)};exact aD ag
theorem rY.fin(h:rY ls bs ls.length c):c=match turnOf (gI ls) bs ls.length 0 with|none=> -1|some t=>(t:Int):=by cases ht:turnOf (gI ls) bs ls.length 0 with|none=>(rcases h with ⟨a,_⟩|⟨k,a,d,b,_⟩);{exact a};rw[adk ht k a]at b;cases b|some t=>(obtain⟨g,f,j⟩:=SY ht;rcases h with ⟨a,d⟩|⟨k,a,d,b,i⟩);{rw[d t g]at f;cases f};rcases i t g f with e|e;{rw[d,e]};rw[j k a e]at b;cases b
end
end
section
theorem Vb(B:Nat)(w:World):bX B w aH []:=aD ⟨rfl,none,0,rfl⟩
theorem Te(w:World)(v:Value):Lc w v aH:=λk hk=>Hw
section
variable{B:Nat}{w:World}{s:SX}{code:List Int}{u:MW}{v:List (JX×MS)}{A z r:Nat}{C:Value}{d:List Nat}{f:List JT}{rk:List Nat}{bs:List Bool}{es:List EV}
theorem acz{w':World}{x:RX}{a:Array Value}{p:Nat}(h:aX B w x code m u)(c:yJ x m cs)(f:ax w' x.mb a 116)(d:M7 cs a [] (p:Int))(i:p<=code.length)(g:ak (λb=>b=x.mb) w w'):RN B w x code (lS p) u w' {x with lv:=aH,cv:=aH}:=h.machine (m':=lS p) (fN:=aH) (cv':=aH) (g.mono (λb _ e=>aD e)) ⟨a,f,⟨(by have:=d.mc;simpa [lS]using this),d.uI,d.xy,d.fZ.trans c.fZ,d.fT.trans c.fT,d.c37.trans c.c37,d.bq⟩⟩ (Cb _ _ _ _) (Cb _ _ _ _) (Te _ _) (Te _ _) ⟨by simp[lS],by simp[lS],i⟩
theorem eU.begin{t:JT}(h:eU B w A z r s code u C d f rk v bs es)(E:d[i]?=some g)(l:v[i]?=some a)(G:f[i]?=some t):Calls prog 73 #[ar a.1.mb,aH] w λe w'=>e=.returned (.tuple #[])/\(∃c,c.map Prod.snd=(v.map Prod.snd).set i (lS t.st)/\eU B w' A z r s code u C d f rk c bs es)/\Below B w w':=by obtain⟨o,n,N,H,I,O,P,Q,J,K⟩:=h.ny i g E;obtain rfl:o=a:=gT (H.symm.trans l);obtain rfl:n=t:=gT (I.symm.trans G);have k:=h.ij.rAt l;obtain⟨cs,q,j⟩:=k.iL;refine(Yq (B:=B) (st:=(n.st:Int)) [] q j.mc.size (by rw[<-J];exact j.c37) (bR _) (Vb B w) k.bm).mono ?_;rintro e w' ⟨rfl,x,m,D,y⟩;have F:=acz k j m D K y;obtain⟨L,M⟩:=h.VH l F;refine⟨rfl,⟨_,?_,L⟩,h.toBelow M (λb m=>h.ij.base m)⟩;rw[List.map_set]
def QO(B:Nat)(A z r:Nat)(s:SX)(code:List Int)(u:MW)(d:List Nat)(f:List JT)(rk:List Nat)(P:PS)(w:World)(e:Ending)(w':World):Prop:=
 e=.returned (.tuple #[])/\Below B w w'/\∃K a,a.map Prod.snd=P.ms/\eU B w' A z r s code u K d f rk a P.bs P.es
def Iq(t:JT):Prop:=1<=t.cE/\t.cE<=1000000/\0<=t.off/\t.off<=1000000
theorem adD(h:eU B w A z r s code u C d f rk v bs es)(c:Int)(aa:∀t∈f,Iq t)(k1:0<=c)(k2:c<=1000000)(hl:es.length<=80000000):Calls prog 58 #[ar A,ae c] w (QO B A z r s code u d f rk (relP f c d.length 0 ⟨v.map Prod.snd,bs,u,es⟩) w):=by(obtain⟨n,X⟩:=aq (d.length);obtain⟨P,hP⟩:=aq (relP f c n 0 ⟨v.map Prod.snd,bs,u,es⟩);rw[<-X,<-hP];have c1:w.cell? (ai A 1)=some (aA z n n):=by rw[X];exact h.blk.cell 1 _ rfl);(have am:=h.blk.lt;have vV:n<=8:=by rw[X];exact h.len.2.2);have HT:=af h;have HN:=af X;have ni:=af aa;have M:Hid (P=relP f c (n-0) 0 ⟨v.map Prod.snd,bs,u,es⟩):=af hP;have bj:=af (Below.refl B w);clear h X hP aa;go_enter func58,ntmps58;go_wp2_with fail;go_loopw[11] (λk wr=>∃(q:Nat)(x:Value)(j:List (JX×MS))(i:List Bool)(o:List EV),q<=n/\k=ae q/\Hid (eU B wr A z r s code u x d f rk j i o)/\Hid (P=relP f c (n-q) q ⟨j.map Prod.snd,i,u,o⟩)/\Hid (Below B w wr)/\o.length<=es.length+q) (λk _=>n-(intOf k).toNat);(case atStart=>exact⟨0,C,v,bs,es,bR _,rfl,HT,M,bj,aC⟩);case round=>clear M HT c1 bj am;obtain⟨q,x,j,i,o,hq,rfl,H,M,dQ,ao⟩:=hrel;by_cases hlt:q<n;{(have ke:(q:Int)<(n:Int):=by omega);(have J:q<d.length:=sW;obtain⟨g,K⟩:=aq (d.getD q 0);have E:d[q]?=some g:=by rw[K];simp[J]);(have cr:wr.cell? (ai z q)=some (ar g):=by rw[K];exact H.l7.cell J);have ah:=H.l7.lt;obtain⟨a,t,b,L,F,j3,m,N⟩:=H.ny q g E;have kV:=ni.out t (nW F);have HD:=af (acy c m kV.1 kV.2.1 kV.2.2.1 kV.2.2.2 k1 k2);obtain⟨D,hD⟩:=aq (Bj t c);rw[<-hD]at HD;(have Y:P=relP f c (n-(q+1)) (q+1) (yz t q c ⟨j.map Prod.snd,i,u,o⟩):=by rw[M.out,show n-q=(n-(q+1))+1 by omega,relP,F]);have HS:=af Y;have G:=af L;have Q:=af F;have l:=af E;have fF:=af hD;clear Y K E J L F j3 m N kV hD M;go_wp2_with fail;refine HD.mono ?_;rintro e w3 ⟨rfl,I⟩;have U:=H.aB (S:=λ_=>False) (ak.aY I) (λ_ _=>id) id (λ_ _=>id) id id (λ_ _ _=>id) (λ_ e=>e.elim);have dV:=af (dQ.trans (I.mono H.base));have gh:=af U;clear I U HD cr ah H dQ;cases D with|false=>have mA:Hid (P=relP f c (n-(q+1)) (q+1) ⟨j.map Prod.snd,i,u,o⟩):=af (by rw[HS.out,yz,ay (by rw[<-fF.out];decide)]);clear HS G Q l fF;go_wp2_with fail;go_roundw;(case rel=>exact⟨q+1,x,j,i,o,ag,bK,gh,mA,dV,ag⟩);case measure=>simp[intOf];omega|true=>obtain⟨a3,t3,b3,L,F,j3,m,N⟩:=gh.ny q g l;obtain rfl:a3=a:=gT (L.symm.trans G);have c0:w3.cell? (ai g 0)=some (ar a3.1.mb):=m.cell 0 _ rfl;have al:=m.lt;have O:=af (gh.begin l G Q);clear L F j3 m N;go_wp2_with fail;refine O.mono ?_;rintro e w4 ⟨rfl,⟨ab,WZ,y⟩,W⟩;obtain⟨a4,t4,b4,L,F,j3,m,N⟩:=y.ny q g l;have d6:w4.cell? (ai g 6)=some (.bool b4):=m.cell 6 _ rfl;have e6:=m.frozen 6;have an:=m.lt;have yI:=y.Px l true;obtain⟨Z,hZ⟩:=aq (w4.setCell (ai g 6) (.bool true):World);rw[<-hZ]at yI;have dD:Hid (Below B w Z):=af ((dV.trans W).trans (y.toBelow (S:=λb=>b=g) (by rw[hZ];exact(ak.refl (λb=>b=g) w4).setCell (p:=ai g 6) rfl _) (λb e=>by rw[e];exact N.1)));have R:=af (yI.note l 1 c 0 ag);have mA:Hid (P=relP f c (n-(q+1)) (q+1) ⟨ab.map Prod.snd,i.set q true,u,o++[⟨1,q,c,0⟩]⟩):=af (by rw[HS.out,yz,aG fF.symm,WZ]);have HZ:=af hZ;have T:=af yI;clear y yI W hZ L F j3 m N WZ O gh c0 HS dV al;go_wp2_with fail;rw[<-HZ.out];refine R.mono ?_;rintro e w6 ⟨rfl,ad,V,_,ju⟩;have fE:=af (dD.trans (T.KY ju));have ac:=af V;clear V ju R T dD d6 e6;go_wp2_with fail;go_roundw;(case rel=>exact⟨q+1,ad,ab,i.set q true,o++[⟨1,q,c,0⟩],ag,bK,ac,mA,fE,Pj⟩);case measure=>simp[intOf];omega};(obtain rfl:q=n:=by omega);(have E:¬(q:Int)<(q:Int):=ag;go_wp2_with fail;go_end0;have e:P=⟨j.map Prod.snd,i,u,o⟩:=by rw[M.out,Nat.sub_self];rfl);rw[e];exact(show QO _ _ _ _ _ _ _ _ _ _ _ _ _ _ from⟨rfl,dQ,x,j,rfl,H⟩)
end
end
section
theorem Np(f:List JT)(a:Int):∀(b k:Nat)(p:PS),(relP f a b k p).u=p.u|0,_,_=>rfl|b+1,k,p=>by unfold relP;split;{exact Np f a b (k+1) p};rw[Np f a b (k+1)];unfold yz;split<;>rfl
def D2(B:Nat)(w:World)(A z r:Nat)(code:List Int)(d:List Nat)(f:List JT)(rk:List Nat)(p:PS):Prop:=
 ∃s C v,v.map Prod.snd=p.ms/\eU B w A z r s code p.u C d f rk v p.bs p.es
section
variable{B:Nat}{w:World}{code:List Int}{A z r:Nat}{d:List Nat}{f:List JT}{rk:List Nat}{p:PS}
theorem ZZ(h:D2 B w A z r code d f rk p)(a:Int)(b:∀t∈f,Iq t)(n:0<=a)(o:a<=1000000)(m:p.es.length<=80000000):Calls prog 58 #[ar A,ae a] w λe w'=>e=.returned (.tuple #[])/\D2 B w' A z r code d f rk (relP f a d.length 0 p)/\Below B w w':=by obtain⟨s,C,v,j,k⟩:=h;refine(adD k a b n o m).mono ?_;rintro e w' ⟨rfl,l,K,c,g,i⟩;rw[j]at g i;refine⟨rfl,⟨s,K,c,g,?_⟩,l⟩;rw[Np];exact i
theorem ahf(h:D2 B w A z r code d f rk p)(x:cT w)(q:3<=B)(b:Int)(t:p.es.length<=80000000)(o:∀(i:Nat)(m:MS),p.ms[i]?=some m->p.bs.getD i false=true->AL code m p.u/\(cf code m p.u).2.2.outs.length<=1):Calls prog 59 #[ar A,ae b] w λe w'=>e=.returned (.tuple #[])/\D2 B w' A z r code d f rk (turnP code rk d.length b p)/\Below B w w':=by obtain⟨s,C,v,c,l⟩:=h;refine(aba l x q b t (λi a j k=>?_)).mono ?_;{obtain⟨y,F⟩:=o i a.2 (by rw[<-c,jo,j];rfl) k;exact⟨y,ag⟩};intro e w' g;cases hq:turnOf rk p.bs d.length 0 with|none=>rw[hq]at g;obtain⟨rfl,rfl,n⟩:=g;refine⟨rfl,?_,aQ⟩;unfold turnP;rw[hq];exact⟨s,C,v,c,l⟩|some i=>(rw[hq]at g;obtain⟨a,j,rfl,k,D,K,E,n⟩:=g;refine⟨rfl,?_,k⟩;have u:p.ms[i]?=some a.2:=by rw[<-c,jo,j];rfl);unfold turnP turnQ;rw[hq];simp only[u];exact⟨D,K,_,by rw[List.map_set,c],n⟩
end
end
section
theorem vK{α:Type}{l:List α}{x y:α}(h:(l++[x])[i]?=some y):(i<l.length/\l[i]?=some y)\/(i=l.length/\y=x):=by rcases Nat.lt_trichotomy i l.length with e|e|e;{rw[eE e]at h;exact aD ⟨e,h⟩};{subst e;rw[gO aC,Nat.sub_self]at h;exact az ⟨rfl,(gT h).symm⟩};rw[jq aJ]at h;cases h
section
variable{B:Nat}{w w':World}{s:SX}{code:List Int}{u:MW}{v:List (JX×MS)}
theorem mo.add(h:mo B w s code u v)(D:Below w.heap.size w w')(r:aX B w' (a.1.rx s) code a.2 u)(o:∀b,a.1.J b->w.heap.size<=b):mo B w' s code u (v++[a]):=by have f:ak (λ_=>False) w w':=ak.aY D;have C:=h.aB f (λ_ _=>id) (λ_ e=>e.elim);refine⟨r.jR,λi c g=>?_,λi k c d g q l n f m=>?_,λi c g n f e=>?_⟩;{(rcases vK g with ⟨_,g⟩|⟨_,rfl⟩);{exact C.each i c g};exact r.job};{(rcases vK g with ⟨_,t⟩|⟨x,z⟩);{(rcases vK q with ⟨_,j⟩|⟨_,A⟩);{exact h.apart i k c d t j l n f m};rw[A]at m;have:=(h.each i c t).lt f;have:=o n m;omega};(rcases vK q with ⟨_,j⟩|⟨y,_⟩);{rw[z]at f;have:=(h.each k d j).lt m;have:=o n f;omega};exact l (x.trans y.symm)};(rcases vK g with ⟨_,g⟩|⟨_,rfl⟩);{exact h.sep i c g n f e};have:=h.jR.lt e;have:=o n f;omega
abbrev Br(g:Nat):Value:=ar g
structure TB(B:Nat)(w:World)(tb gn gr n:Nat)(s:SX)(code:List Int)(u:MW)(aZ:List Nat)(ts:List JT)(nA:Nat->Nat)(js:List (JX×MS)):Prop where
 ij:mo B w s code u js
 blk:ax w tb #[ar s.wp,aA gn n n,aA gr n n,aH] 139
 l7:∃f,w.rowIs gn 168 n f/\∀(i jb:Nat),aZ[i]?=some jb->f i=Br jb
 l9:∃f,w.rowIs gr 168 n f/\∀(i jb:Nat),aZ[i]?=some jb->f (nA i)=Br jb
 ny:∀(i:Nat)(jb:Nat),aZ[i]?=some jb->∃a t,js[i]?=some a/\ts[i]?=some t/\ax w jb (Cp a.1.mb t i false) 170/\(B<=jb/\a.1.st=(t.st:Int)/\t.st<=code.length)
 nodup:∀(i k jb:Nat),aZ[i]?=some jb->aZ[k]?=some jb->i=k
 bt:B<=tb
 bg:B<=gn/\B<=gr
 gne:gn≠gr
 len:js.length=aZ.length
 ini:js.map Prod.snd=(ts.take aZ.length).map λt=>lS t.st
variable{A z r n:Nat}{d:List Nat}{f:List JT}{nA:Nat->Nat}
theorem TB.below(h:TB B w A z r n s code u d f nA v)(b:Below w.heap.size w w'):TB B w' A z r n s code u d f nA v:=by have c:ak (λ_=>False) w w':=ak.aY b;obtain⟨l,j,m⟩:=h.l7;obtain⟨o,k,q⟩:=h.l9;refine⟨h.ij.aB c (λ_ _=>id) (λ_ e=>e.elim),h.blk.aB c id,⟨l,j.of_block (b.block z j.lt),m⟩,⟨o,k.of_block (b.block r k.lt),q⟩,λi g x=>?_,h.nodup,h.bt,h.bg,h.gne,h.len,h.ini⟩;obtain⟨a,t,y,C,D,E⟩:=h.ny i g x;exact⟨a,t,y,C,D.aB c id,E⟩
theorem TB.add{X:World}{t:JT}(h:TB B w A z r n s code u d f nA v)(I:Below w.heap.size w X)(P:mo B X s code u (v++[a]))(y:f[d.length]?=some t)(Q:ax X g (Cp a.1.mb t d.length false) 170)(ab:w.heap.size<=g)(L:a.1.st=(t.st:Int)/\t.st<=code.length)(ha:a.2=lS t.st)(G:∀i,i<d.length->nA i≠nA d.length):TB B ((X.setCell (ai z d.length) (Br g)).setCell (ai r (nA d.length)) (Br g)) A z r n s code u (d++[g]) f nA (v++[a]):=by(have q:=h.below I;obtain⟨ac,H,M⟩:=q.l7;obtain⟨ad,N,g2⟩:=q.l9;have aa:B<=w.heap.size:=by have:=h.blk.lt;have:=h.bt;omega);have D:ak (λb=>b=z\/b=r) X ((X.setCell (ai z d.length) (Br g)).setCell (ai r (nA d.length)) (Br g)):=(((ak.refl (λb=>b=z\/b=r) X).setCell (p:=ai z d.length) (aD rfl) _).setCell (p:=ai r (nA d.length)) (az rfl) _);(have l:∀{b:Nat}{t:TypeId},ld X b t->t≠168->¬(b=z\/b=r):=λ{b t} y O e=>by rcases e with e|e;{subst e;exact O (y.uniq (vX H))};subst e;exact O (y.uniq (vX N)));(have J:∀b,tu s (v++[a]) b->¬(b=z\/b=r):=λb I=>by rcases P.ty I with e|e|e|e;{exact l e aj};{exact l e aj};{exact l e aj};exact l e aj);(have hB:∀b,(b=z\/b=r)->B<=b:=λb e=>by rcases e with e|e;{subst e;exact h.bg.1};subst e;exact h.bg.2);refine⟨P.aB D J hB,q.blk.aB D (l (nZ q.blk) aj),⟨_,(H.set d.length (Br g)).setOther (by exact h.gne) _,λi o j=>?_⟩,⟨_,(N.setOther (by exact h.gne.symm) _).set (nA d.length) (Br g),λi o j=>?_⟩,λi o j=>?_,λi k o j R=>?_,h.bt,h.bg,h.gne,by simp[h.len],?_⟩;{(rcases vK j with ⟨x,j⟩|⟨rfl,rfl⟩);{rw[ay ag];exact M i o j};simp};{(rcases vK j with ⟨x,j⟩|⟨rfl,rfl⟩);{rw[ay (G i x)];exact g2 i o j};simp};{(rcases vK j with ⟨x,j⟩|⟨rfl,rfl⟩);{obtain⟨c,W,S,T,F,U⟩:=q.ny i o j;exact⟨c,W,by rw[eE (by rw[h.len];exact x)];exact S,T,F.aB D (l (nZ F) aj),U⟩};exact⟨a,t,by rw[<-h.len,gO aC,Nat.sub_self];rfl,y,Q.aB D (l (nZ Q) aj),ag,L⟩};{(have C:∀(i E:Nat),d[i]?=some E->E<w.heap.size:=λi E j=>by obtain⟨c,W,S,T,F,U⟩:=h.ny i E j;exact F.lt);(rcases vK j with ⟨x,V⟩|⟨Y,H⟩);{(rcases vK R with ⟨K,m⟩|⟨_,M⟩);{exact h.nodup i k o V m};have:=C i _ V;omega};(rcases vK R with ⟨K,m⟩|⟨Z,_⟩);{have:=C k _ m;omega};exact Y.trans Z.symm};rw[List.map_append,h.ini,cZ,jL,List.take_add_one,y,List.map_append,List.map_singleton,ha];rfl
theorem TB.all{ls:List (Int×Int)}(h:TB B w A z r n s code u d f (mQ ls) v)(q:d.length=n)(H:ls.length=n)(o:n<=8)(x:f.length=n):eU B w A z r s code u aH d f (gI ls) v (List.replicate n false) []/\v.map Prod.snd=f.map λt=>lS t.st:=by(subst q;obtain⟨F,j,k⟩:=h.l7;obtain⟨G,l,m⟩:=h.l9;have c:∀i,i<d.length->d[i]?=some (d.getD i 0):=λi e=>by simp[e]);refine⟨⟨h.ij,h.blk,Cb _ _ _ _,j.congr λi e=>k i _ (c i e),l.congr λi e=>?_,λi g e=>?_,h.nodup,h.bt,h.bg,⟨h.len,aF,o⟩,λi e=>?_⟩,?_⟩;{rw[FK ag];obtain⟨a,b⟩:=IZ (ls:=ls) (p:=i) ag;have:=m (BU ls i) _ (c _ ag);rw[b]at this;exact this};{obtain⟨a,t,y,C,D,E⟩:=h.ny i g e;exact⟨a,t,false,y,C,by rw[B3,aG (dm.1 e).1],D,E⟩};{rw[FK ag];obtain⟨a,b⟩:=IZ (ls:=ls) (p:=i) ag;omega};rw[h.ini,List.take_of_length_le ag]
end
end
end Go.Proofs.YtcphhbofjkenaaaGreatDoor
