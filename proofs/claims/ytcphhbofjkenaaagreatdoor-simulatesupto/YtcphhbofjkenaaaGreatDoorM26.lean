import Derived.Test.YtcphhbofjkenaaaGreatDoorMy
import Derived.Test.YtcphhbofjkenaaaGreatDoorM25
namespace Go.Proofs.YtcphhbofjkenaaaGreatDoor
open Go Go.RowKit Proofs.Tryz
set_option linter.unusedVariables false
set_option linter.unusedSimpArgs false
set_option maxRecDepth 100000
set_option maxHeartbeats 16000000
variable{j B q b wb n k g cap bzz size:Nat}{S:Nat→Prop}{w w' w2:World}{u a c lv u0 v:Value}{gs xs:List Value}{e t:TypeId}{cs:Array Value}
theorem RO{p:Prop}(h:p:=by
  go_quiet (fail)
  go_wp2_with fail
  go_roundw
  case rel=>exact⟨q+1,ag,bO,af (HQ.trans ⟨rfl,rfl,rfl,aH,fun _ _=>rfl⟩)⟩
  case measure=>simp[intOf];omega):p:=h
theorem R7{p:Prop}(h:p:=by
  have jf:¬(q:Int)<(n:Int):=by omega
  go_wp2_with fail
  go_roundw
  case rel=>exact⟨k+1,ag,bO,aW⟩
  case measure=>simp[intOf];omega):p:=h
theorem RD{p:Prop}(h:p:=by
  have jf:¬(q:Int)<(n:Int):=by omega
  go_wp2_with fail
  go_roundw
  case rel=>exact⟨k+1,ag,bO,eR⟩
  case measure=>simp[intOf];omega):p:=h
theorem OU{p:Prop}(h:p:=by
  clear hc;go_wp2_with fail;go_round
  case rel=>exact⟨q+1,ag,bO⟩
  case measure=>simp[intOf];omega):p:=h
section
def qM(c n:Int):Int:=if c<0 then -((c+1).tmod n)else c % n
theorem YQ(c n:Int)(hn:0<n):0≤qM c n∧qM c n<n:=by
 unfold qM
 split
 ·rename_i h
  have e: -((c+1).tmod n)=(-(c+1)) % n:=by
   rw[←Int.neg_tmod,Int.tmod_eq_emod_of_nonneg ag]
  rw[e];exact⟨Int.emod_nonneg _ ag,Eb _ hn⟩
 ·exact⟨Int.emod_nonneg _ ag,Eb _ hn⟩
theorem PI(c n:Int)(w:World)(hn:0<n)(hn2:n≤1000000000)(h0: -9223372036854775808≤c)(h1:c≤9223372036854775807):
  Calls prog 63 #[ae c,ae n] w fun e w'=>e=.returned (ae (qM c n))∧w'=w:=by
 by_cases hc:c<0
 ·have e:qM c n= -((c+1).tmod n):=by unfold qM;rw[aG hc]
  rw[e];clear e;go_enter func63,ntmps63;go_wp2;go_ret;exact⟨rfl,rfl⟩
 ·have e:qM c n=c % n:=by unfold qM;rw[az hc]
  rw[e];clear e;have hc':0≤c:=ag;go_enter func63,ntmps63;go_wp2;go_ret;exact⟨rfl,rfl⟩
def markG:Nat→Nat→ByteArray→ByteArray
 |0,_,s=>s
 |f+1,k,s=>if 0<k then markG f (k / 2) (s++strOfNums [48+(k:Int) % 2])else s
def Er(q:Nat):ByteArray:=markG (q+1) q ⟨#[109]⟩
theorem OZ(x:Int):(strOfNums [x]).size=1:=rfl
theorem Vo(n:Nat)(w:World)(hn:n≤1000000000):
  Calls prog 70 #[ae n] w fun e w'=>e=.returned (.string (Er (n / 4)))∧Below w.heap.size w w':=by
 obtain⟨R,hR⟩:=ak (Er (n / 4));rw[←hR];have HR:=af hR;clear hR;go_enter func70,ntmps70;go_wp2;go_loopw[3,4] (fun s k wr=>∃(x:ByteArray) (j f:Nat),s=.string x∧k=ae j∧Hid (R=markG f j x)∧Hid (j<f∧f≤1000000001∧x.size+f≤1000000005)∧Hid (Below w.heap.size w wr)) (fun _ k _=>(intOf k).toNat)
 case atStart=>exact⟨_,n / 4,n / 4+1,rfl,bO,HR,⟨ag,ag,by have:(ByteArray.mk #[109]).size=1:=rfl;omega⟩,aQ⟩
 case round=>
  clear HR;obtain⟨x,j,f,rfl,rfl,HRR,HF,HB⟩:=hrel;obtain⟨f1,f2,f3⟩:=HF.out;obtain⟨f,rfl⟩:∃f',f=f'+1:=⟨f - 1,ag⟩
  by_cases h0:0<j
  ·have hj0:(0:Int)<(j:Int):=by omega
   have tZ:(j:Int)≤1000000000:=ag
   have hcv:=run_convert_bytes_arg (P:=prog) (wr.alloc (Obj.cells #[Value.int .u8 (48+(j:Int) % 2)] 5)) 93 5 underlying93 underlying5 wr.heap.size 0 1 1 [48+(j:Int) % 2] rfl (fun i hi=>by
    obtain rfl:i=0:=ag;simp) 9 underlying9
   have hz:¬9223372036854775807<x.size+(strOfNums [48+(j:Int) % 2]).size:=by rw[OZ];omega
   have hsz:=af (OZ (48+(j:Int) % 2));have hrr:=HRR.out;rw[markG,aG h0]at hrr;have HR2:=af hrr;clear hrr HRR f1 f2 f3;go_wp2;go_roundw
   case rel=>
    obtain⟨f1,f2,f3⟩:=HF.out;refine⟨_,j / 2,f,rfl,bO,HR2,⟨ag,ag,?_⟩,HB.alloc HB.size _⟩;rw[ByteArray.size_append,hsz.out];omega
   case measure=>simp[intOf];omega
  ·obtain rfl:j=0:=by omega
   have hrr:=HRR.out;rw[markG,az ag]at hrr;have HR2:=af hrr;clear hrr HRR f1 f2 f3;go_wp2;rw[HR2.out];go_ret;exact⟨rfl,HB⟩
theorem abg(b:Nat)(cap:Nat)(l:List Int)(k:Int)(w:World)(hl:l.length≤100)(hcap:l.length≤cap)(hc:∀j (h:j<l.length),w.cell? (ai b j)=some (ae l[j])):
  Calls prog 34 #[aD b l.length cap,ae k] w fun e w'=>e=.returned (.bool (l.any (fun x=>x == k)))∧w'=w:=by
 obtain⟨r,hr⟩:=ak (l.any (fun x=>x == k));rw[←hr];have HC:Hid _:=hc;clear hc;go_enter func34,ntmps34;go_wp2;go_loop [5] (fun i=>∃j:Nat,j≤l.length∧i=ae j∧Hid (∀x (h:x<l.length),x<j→(l[x] == k)=false)) (fun i=>l.length - (intOf i).toNat)
 case atStart=>exact⟨0,bU _,rfl,fun x h h'=>ag⟩
 case round=>
  obtain⟨j,hj,rfl,HJ⟩:=hrel
  by_cases hlt:j<l.length
  ·obtain⟨x,hx⟩:=ak (l[j])
   have oK:w.cell? (ai b j)=some (ae x):=by rw[hx];exact HC j hlt
   by_cases he:(x == k)=true
   ·have HR:Hid (r=true):=by
     show r=true
     rw[hr,List.any_eq_true];exact⟨l[j],nS hlt,by rw[←hx];exact he⟩
    clear hr hx;go_wp2;go_ret;exact⟨ve HR.symm,rfl⟩
   ·have he':(x == k)=false:=by simpa using he
    have HX:Hid (x=l[j]):=hx;clear hx he;go_wp2;go_round
    case rel=>
     refine⟨j+1,ag,bO,fun y hy hy'=>?_⟩
     by_cases e:y=j
     ·subst e;rw[←HX.out];exact he'
     ·exact HJ y hy ag
    case measure=>simp[intOf];omega
  ·have HR:Hid (r=false):=by
    show r=false
    rw[hr,List.any_eq_false];intro y hy;obtain⟨k,hk,rfl⟩:=List.getElem_of_mem hy;have:=HJ.out k hk ag;simpa using this
   clear hr;go_wp2;go_ret;exact⟨ve HR.symm,rfl⟩
end
section
def bLt:Nat→TypeId
 |0=>71
 |1=>24
 |2=>57
 |_=>60
def bEt:Nat→TypeId
 |0=>9
 |1=>3
 |2=>133
 |_=>69
def kO:Nat→Nat
 |0=>1
 |1=>1
 |2=>3
 |_=>4
def Ci:Nat→Nat→List Value
 |0,q=>[.string (Er q)]
 |1,q=>[ae (-1000 - (q:Int))]
 |2,q=>[ae (-1000 - (q:Int)),ae 0,ae 0]
 |_,q=>[ae (-1000 - (q:Int)),ae 0,ae 0,ae 0]
def nL(j B:Nat)(w:World)(u:Value)(q:Nat):Prop:=∃k,k≤3000000∧w.ownsRow B (bEt j) (kO j) u k (dE (Ci j q) k)
theorem nL.aB(h:nL j B w u q)(hc:aq S w w')(hs:∀k,u.ownBlock=some k→¬S k):nL j B w' u q:=by
 obtain⟨k,hk,hr⟩:=h;exact⟨k,hk,aR hr hc hs⟩
theorem nL.lt(h:nL j B w u q)(hb:u.ownBlock=some b):b<w.heap.size:=by
 obtain⟨k,hk,hr⟩:=h;exact cJ hr hb
theorem nL.base(h:nL j B w u q)(hb:u.ownBlock=some b):B≤b:=by
 obtain⟨k,hk,hr⟩:=h;exact cR hr hb
structure B4 where
 n:Value
 i:Value
 p:Value
 e:Value
def B4.get(b:B4):Nat→Value
 |0=>b.n
 |1=>b.i
 |2=>b.p
 |_=>b.e
def B4.set(b:B4)(j:Nat)(v:Value):B4:=
 match j with
 |0=>{b with n:=v}
 |1=>{b with i:=v}
 |2=>{b with p:=v}
 |_=>{b with e:=v}
structure G4 where
 n:List Value
 i:List Value
 p:List Value
 e:List Value
def G4.get(b:G4):Nat→List Value
 |0=>b.n
 |1=>b.i
 |2=>b.p
 |_=>b.e
def G4.set(b:G4)(j:Nat)(v:List Value):G4:=
 match j with
 |0=>{b with n:=v}
 |1=>{b with i:=v}
 |2=>{b with p:=v}
 |_=>{b with e:=v}
def G4.none:G4:=⟨[],[],[],[]⟩
theorem gR{p:Nat→Prop}(h0:p 0)(h1:p 1)(h2:p 2)(h3:p 3):∀j,j<4→p j
 |0,_=>h0
 |1,_=>h1
 |2,_=>h2
 |3,_=>h3
 |n+4,h=>ag
theorem B4.zz(b:B4)(v:Value):∀j,j<4→∀k,k<4→(b.set j v).get k=if k=j then v else b.get k:=
 gR (gR rfl rfl rfl rfl) (gR rfl rfl rfl rfl) (gR rfl rfl rfl rfl) (gR rfl rfl rfl rfl)
theorem G4.zz(b:G4)(v:List Value):∀j,j<4→∀k,k<4→(b.set j v).get k=if k=j then v else b.get k:=
 gR (gR rfl rfl rfl rfl) (gR rfl rfl rfl rfl) (gR rfl rfl rfl rfl) (gR rfl rfl rfl rfl)
theorem acZ:∀j,j<4→∀k,k<4→bLt j≠bEt k:=
 gR (gR aj aj aj aj) (gR aj aj aj aj) (gR aj aj aj aj) (gR aj aj aj aj)
theorem Yt:∀j,j<4→∀k,k<4→j≠k→bLt j≠bLt k:=
 gR (gR aj aj aj aj) (gR aj aj aj aj) (gR aj aj aj aj) (gR aj aj aj aj)
theorem uF:∀j,j<4→bLt j≠84∧bEt j≠84∧bLt j≠143∧bEt j≠143:=
 gR aj aj aj aj
def ku(bk:B4)(G:G4)(b:Nat):Prop:=∃j,j<4∧((bk.get j).ownBlock=some b∨∃(i:Nat) (u:Value),(G.get j)[i]?=some u∧u.ownBlock=some b)
structure jJ (B:Nat) (w:World) (bk:B4) (G:G4):Prop where
 row:∀j,j<4→w.ownsRow B (bLt j) 1 (bk.get j) (G.get j).length (G.get j)
 qV:∀j,j<4→∀(i:Nat) (u:Value),(G.get j)[i]?=some u→nL j B w u (i / 4)
 four:∀j,j<4→(G.get j).length % 4=0
theorem jJ.aB{bk:B4}{G:G4}(h:jJ B w bk G)(hc:aq S w w')(hs:∀k,ku bk G k→¬S k):jJ B w' bk G:=
 ⟨fun j hj=>aR (h.row j hj) hc (fun k hk=>hs k ⟨j,hj,aC hk⟩),fun j hj i u hu=>(h.qV j hj i u hu).aB hc (fun k hk=>hs k ⟨j,hj,aA ⟨i,u,hu,hk⟩⟩),h.four⟩
theorem jJ.below{bk:B4}{G:G4}(h:jJ B w bk G)(hb:Below w.heap.size w w'):jJ B w' bk G:=
 h.aB (aq.bf (S:=fun _=>False) hb) (fun _ _=>id)
theorem jJ.lt{bk:B4}{G:G4}(h:jJ B w bk G)(hb:ku bk G b):b<w.heap.size:=by
 obtain⟨j,hj,hb|⟨i,u,hu,hb⟩⟩:=hb
 ·exact cJ (h.row j hj) hb
 ·exact(h.qV j hj i u hu).lt hb
theorem jJ.base{bk:B4}{G:G4}(h:jJ B w bk G)(hb:ku bk G b):B≤b:=by
 obtain⟨j,hj,hb|⟨i,u,hu,hb⟩⟩:=hb
 ·exact cR (h.row j hj) hb
 ·exact(h.qV j hj i u hu).base hb
def lwC(lv nv iv pv ev:Value):Array Value:= #[lv,nv,iv,pv,ev]
def qT(lv:Value)(b:B4):Array Value:=lwC lv b.n b.i b.p b.e
def AD(j B:Nat)(w:World)(wb:Nat)(lv:Value)(bk:B4)(gs:List Value)(u0:Value)(e:Ending)(w':World):Prop:=
 e=.returned (.tuple #[])∧∃dZ u1 u2 u3,ay w' wb (qT lv (bk.set j dZ)) 84∧w'.ownsRow B (bLt j) 1 dZ (gs.length+4) (gs++[u0,u1,u2,u3])∧
  nL j B w' u0 (gs.length / 4)∧nL j B w' u1 (gs.length / 4)∧nL j B w' u2 (gs.length / 4)∧nL j B w' u3 (gs.length / 4)∧
  (∀u,(u=u1∨u=u2∨u=u3)→∀k,u.ownBlock=some k→u0.ownBlock=some k∨w.heap.size≤k)∧Lc w (bk.get j) dZ∧aq (fun b=>b=wb∨u0.ownBlock=some b∨(bk.get j).ownBlock=some b) w w'
theorem K5{b d:Value}(hu:(gs++[a,b,c,d])[j]?=some u):(j<gs.length∧gs[j]?=some u)∨(gs.length≤j∧j<gs.length+4∧(u=a∨u=b∨u=c∨u=d)):=by
 by_cases hj:j<gs.length
 ·rw[dH hj]at hu;exact aC ⟨hj,hu⟩
 ·rw[fP ag]at hu
  refine aA ⟨ag,?_,?_⟩
  ·have:=(cI.1 hu).1;simp at this;omega
  ·have hm:=mF hu
   simpa using hm
theorem jJ.keeps{bk:B4}{G:G4}{e:Ending}(h:jJ B w bk G)(hj:j<4)(hwb:ay w wb (qT lv bk) 84)
  (hu:∀b,u0.ownBlock=some b→¬ku bk G b∧b<w.heap.size) (hp:AD j B w wb lv bk (G.get j) u0 e w'):
  ∃jG G',jG=bk.set j (jG.get j)∧jJ B w' jG G'∧ay w' wb (qT lv jG) 84∧G'=G.set j (G'.get j)∧(G'.get j).length=(G.get j).length+4∧(∀b,ku jG G' b→ku bk G b∨u0.ownBlock=some b∨w.heap.size≤b):=by
 obtain⟨_,dZ,u1,u2,u3,hb,hr,m0,m1,m2,m3,hown,hlc,hc⟩:=hp;have hget:(bk.set j dZ).get j=dZ:=by rw[B4.zz bk dZ j hj j hj,aG rfl]
 have zw:(G.set j (G.get j++[u0,u1,u2,u3])).get j=G.get j++[u0,u1,u2,u3]:=by rw[G4.zz G _ j hj j hj,aG rfl]
 have ht:=uF j hj
 have jU:∀k,k<4→k≠j→((bk.set j dZ).get k=bk.get k∧(G.set j (G.get j++[u0,u1,u2,u3])).get k=G.get k):=fun k hk hne=>by
  rw[B4.zz bk dZ j hj k hk,G4.zz G _ j hj k hk,az hne,az hne];exact⟨rfl,rfl⟩
 have WA:∀k,k<4→k≠j→∀b,(bk.get k).ownBlock=some b→¬(b=wb∨u0.ownBlock=some b∨(bk.get j).ownBlock=some b):=fun k hk hne b hb' e=>by
  rcases e with e|e|e
  ·subst e;exact aZ (h.row k hk) hwb (Ne.symm (uF k hk).1) hb'
  ·exact(hu b e).1 ⟨k,hk,aC hb'⟩
  ·exact fw (h.row k hk) (h.row j hj) (Yt k hk j hj hne) hb' e
 have Le:∀k,k<4→∀(i:Nat) (u:Value),(G.get k)[i]?=some u→∀b,u.ownBlock=some b→¬(b=wb∨u0.ownBlock=some b∨(bk.get j).ownBlock=some b):=fun k hk i u iz b hb' e=>by
  obtain⟨kk,_,hrr⟩:=h.qV k hk i u iz;rcases e with e|e|e
  ·subst e;exact aZ hrr hwb (Ne.symm (uF k hk).2.1) hb'
  ·exact(hu b e).1 ⟨k,hk,aA ⟨i,u,iz,hb'⟩⟩
  ·exact fw hrr (h.row j hj) (fun e'=>acZ j hj k hk e'.symm) hb' e
 refine⟨bk.set j dZ,G.set j (G.get j++[u0,u1,u2,u3]),by rw[hget],⟨fun k hk=>?_,fun k hk i u iz=>?_,fun k hk=>?_⟩,hb,by rw[zw],by rw[zw];simp,?_⟩
 ·by_cases hne:k=j
  ·subst hne;rw[hget,zw];have:=hr;simpa using this
  ·rw[(jU k hk hne).1,(jU k hk hne).2];exact aR (h.row k hk) hc (WA k hk hne)
 ·by_cases hne:k=j
  ·subst hne
   rw[zw]at iz;rcases K5 iz with ⟨_,hx⟩|⟨j1,j2,hx⟩
   ·exact(h.qV k hk i u hx).aB hc (Le k hk i u hx)
   ·have hq:i / 4=(G.get k).length / 4:=by have:=h.four k hk;omega
    rw[hq];rcases hx with rfl|rfl|rfl|rfl<;>assumption
  ·rw[(jU k hk hne).2]at iz;exact(h.qV k hk i u iz).aB hc (Le k hk i u iz)
 ·by_cases hne:k=j
  ·subst hne;rw[zw];have:=h.four k hk;simp;omega
  ·rw[(jU k hk hne).2];exact h.four k hk
 ·rintro b ⟨k,hk,hb'|⟨i,u,iz,hb'⟩⟩
  ·by_cases hne:k=j
   ·subst hne;rw[hget]at hb'
    rcases hlc b hb' with e|e
    ·exact aC ⟨k,hk,aC e⟩
    ·exact aA (aA e)
   ·rw[(jU k hk hne).1]at hb';exact aC ⟨k,hk,aC hb'⟩
  ·by_cases hne:k=j
   ·subst hne
    rw[zw]at iz;rcases K5 iz with ⟨_,hx⟩|⟨j1,j2,hx⟩
    ·exact aC ⟨k,hk,aA ⟨i,u,hx,hb'⟩⟩
    ·rcases hx with rfl|hx
     ·exact aA (aC hb')
     ·exact aA (hown u hx b hb')
   ·rw[(jU k hk hne).2]at iz;exact aC ⟨k,hk,aA ⟨i,u,iz,hb'⟩⟩
end
section
def jg:Value:=aI
theorem C9{ua:Option Addr}{uc:Nat}(hr:w.ownsRow B (bEt j) (kO j) (.slice ua n uc) n (dE (Ci j q) n))(hp:(Ci j q).length=kO j)(h0:0<kO j)(hk:k<n):
  ∃g,ua=some (ai g 0)∧g<w.heap.size∧∀m u,m<kO j→(Ci j q)[m]?=some u→w.cell? (ai g (k*kO j+m))=some u:=by
 obtain⟨g,cap',hv,_,hg,_,_,hc⟩:=cd hr ag;obtain⟨rfl,rfl⟩:ua=some (ai g 0)∧uc=cap':=gW;refine⟨g,rfl,hg,fun m u hm hu=>hc _ _ ?_⟩
 have hlt:k*kO j+m<n*kO j:=by
  have:(k+1)*kO j≤n*kO j:=Nat.mul_le_mul_right _ hk;rw[Nat.add_mul,Nat.one_mul]at this;omega
 rw[DZ _ ag n _ (by rw[hp];exact hlt),hp,Nat.mul_comm,Nat.mul_add_mod,Nat.mod_eq_of_lt hm];exact hu
theorem aa9(B:Nat)(w:World)(wb:Nat)(lv:Value)(bk:B4)(G:G4)(hb:ay w wb (qT lv bk) 84)(hk:jJ B w bk G)(hlen:∀j,j<4→(G.get j).length≤90000000):
  Calls prog 36 #[.pointer (some (ai wb 1))] w fun e w'=>e=.returned (.bool true)∧Below w.heap.size w w':=by
 obtain⟨nv,iv,pv,ev⟩:=bk;obtain⟨g0,g1,g2,g3⟩:=G;have r0:=hk.row 0 ag;have r1:=hk.row 1 ag;have r2:=hk.row 2 ag;have r3:=hk.row 3 ag;have l0:=hlen 0 ag;have l1:=hlen 1 ag;have l2:=hlen 2 ag;have l3:=hlen 3 ag;simp only[B4.get,G4.get]at r0 r1 r2 r3 l0 l1 l2 l3;obtain⟨na,nc,hnv,SH,_⟩:=bo r0;obtain⟨ia,ic,oo,adJ,_⟩:=bo r1;obtain⟨pa,pc,hpv,aeE,_⟩:=bo r2;obtain⟨ea,ec,hev,FK,_⟩:=bo r3;subst hnv;subst oo;subst hpv;subst hev
 have HC:=af (fun (w':World) (h:Below w.heap.size w w')=>(show w'.cell? (ai wb 1)=some (.slice na g0.length nc)∧w'.cell? (ai wb 2)=some (.slice ia g1.length ic)∧w'.cell? (ai wb 3)=some (.slice pa g2.length pc)∧w'.cell? (ai wb 4)=some (.slice ea g3.length ec)from
  ⟨(hb.sub h hb.lt).cell 1 _ rfl,(hb.sub h hb.lt).cell 2 _ rfl,(hb.sub h hb.lt).cell 3 _ rfl,(hb.sub h hb.lt).cell 4 _ rfl⟩))
 have HK:=af (fun (w':World) (h:Below w.heap.size w w')=>hk.below h);have hwb:=hb.lt;clear hb hk hlen r0 r1 r2 r3;go_enter func36,ntmps36;go_wp2_with fail;go_loopw[3] (fun i wr=>∃k:Nat,k≤g0.length∧i=ae k∧Hid (Below w.heap.size w wr)) (fun i _=>g0.length - (intOf i).toNat)
 case atStart=>exact⟨0,bU _,rfl,aQ⟩
 case round=>
  obtain⟨k,hk,rfl,HB⟩:=hrel;obtain⟨c1,c2,c3,c4⟩:=HC.out wr HB
  by_cases hlt:k<g0.length
  ·have bV:(k:Int)<(g0.length:Int):=by omega
   have hl0:(0:Int)≤(k:Int):=ag;have hl9:(k:Int)≤90000000:=ag;obtain⟨u,hu⟩:∃u,g0[k]?=some u:=⟨_,bE hlt⟩;have HU:=af hu;clear hu;have yO:=af (Vo k wr ag);obtain⟨m,hm⟩:=ak (Er (k / 4));rw[←hm]at yO;have HM:=af hm;clear hm;go_wp2_with fail;refine yO.mono ?_;rintro e w2 ⟨rfl,h2⟩;have hb2:Below w.heap.size w w2:=HB.trans (h2.mono HB.size);clear yO h2;obtain⟨d1,d2,d3,d4⟩:=HC.out w2 hb2;have hK2:=HK.out w2 hb2;have hrow2:w2.ownsRow B (bLt 0) 1 (.slice na g0.length nc) g0.length g0:=hK2.row 0 ag;obtain⟨ng,nc',hv,_,hng,_,_,hcell⟩:=cd hrow2 ag;obtain⟨rfl,rfl⟩:na=some (ai ng 0)∧nc=nc':=gW;obtain⟨n,hn,hrow⟩:=hK2.qV 0 ag k u HU;obtain⟨ua,uc,hus,huc,_⟩:=bo hrow;subst hus;have e1:w2.cell? (ai ng k)=some (.slice ua n uc):=hcell k _ HU;have aW:=af hb2;have fc:=af hrow;clear hb2 hcell hv hrow hrow2 hK2 c1 c2 c3 c4;go_wp2_with fail;go_loop [5] (fun j=>∃q:Nat,q≤n∧j=ae q) (fun j=>n - (intOf j).toNat)
   case atStart=>exact⟨0,bU _,rfl⟩
   case round=>
    obtain⟨q,hq,rfl⟩:=hrel
    by_cases lN:q<n
    ·have jf:(q:Int)<(n:Int):=by omega
     have lV:(0:Int)≤(q:Int):=ag;obtain⟨g,rfl,hg,hc⟩:=C9 fc rfl aj lN
     have e2:w2.cell? (ai g q)=some (.string m):=by
      have:=hc 0 _ aj rfl;rw[HM.out];simpa [kO]using this
     exact OU
    ·exact R7
  ·have bV:¬(k:Int)<(g0.length:Int):=by omega
   go_wp2_with fail
   go_loopw[6] (fun i wr=>∃k:Nat,k≤g1.length∧i=ae k∧Hid (Below w.heap.size w wr)) (fun i _=>g1.length - (intOf i).toNat)
   case atStart=>exact⟨0,bU _,rfl,HB⟩
   case round=>
    clear HB;obtain⟨k,hk,rfl,HB⟩:=hrel;obtain⟨c1,c2,c3,c4⟩:=HC.out wr HB
    by_cases hlt:k<g1.length
    ·have bV:(k:Int)<(g1.length:Int):=by omega
     have hl0:(0:Int)≤(k:Int):=ag;have hl9:(k:Int)≤90000000:=ag;obtain⟨u,hu⟩:∃u,g1[k]?=some u:=⟨_,bE hlt⟩;have HU:=af hu;clear hu;obtain⟨w2,hw2⟩:=ak (wr:World);have hb2:Below w.heap.size w w2:=by rw[hw2];exact HB
     rw[←hw2];clear hw2;obtain⟨d1,d2,d3,d4⟩:=HC.out w2 hb2;have hK2:=HK.out w2 hb2;have hrow2:w2.ownsRow B (bLt 1) 1 (.slice ia g1.length ic) g1.length g1:=hK2.row 1 ag;obtain⟨ng,nc',hv,_,hng,_,_,hcell⟩:=cd hrow2 ag;obtain⟨rfl,rfl⟩:ia=some (ai ng 0)∧ic=nc':=gW;obtain⟨n,hn,hrow⟩:=hK2.qV 1 ag k u HU;obtain⟨ua,uc,hus,huc,_⟩:=bo hrow;subst hus;have e1:w2.cell? (ai ng k)=some (.slice ua n uc):=hcell k _ HU;have aW:=af hb2;have fc:=af hrow;clear hb2 hcell hv hrow hrow2 hK2 c1 c2 c3 c4;go_wp2_with fail;go_loop [7] (fun j=>∃q:Nat,q≤n∧j=ae q) (fun j=>n - (intOf j).toNat)
     case atStart=>exact⟨0,bU _,rfl⟩
     case round=>
      obtain⟨q,hq,rfl⟩:=hrel
      by_cases lN:q<n
      ·have jf:(q:Int)<(n:Int):=by omega
       have lV:(0:Int)≤(q:Int):=ag;obtain⟨g,rfl,hg,hc⟩:=C9 fc rfl aj lN
       have e2:w2.cell? (ai g q)=some (ae (-1000 - (k:Int) / 4)):=by
        have:=hc 0 _ aj rfl;simpa [kO]using this
       have e3:((-1000 - (k:Int) / 4) != (-1000 - (k:Int) / 4))=false:=aF;exact OU
      ·exact R7
    ·have bV:¬(k:Int)<(g1.length:Int):=by omega
     go_wp2_with fail
     go_loopw[8] (fun i wr=>∃k:Nat,k≤g2.length∧i=ae k∧Hid (Below w.heap.size w wr)) (fun i _=>g2.length - (intOf i).toNat)
     case atStart=>exact⟨0,bU _,rfl,HB⟩
     case round=>
      clear HB;obtain⟨k,hk,rfl,HB⟩:=hrel;obtain⟨c1,c2,c3,c4⟩:=HC.out wr HB
      by_cases hlt:k<g2.length
      ·have bV:(k:Int)<(g2.length:Int):=by omega
       have hl0:(0:Int)≤(k:Int):=ag;have hl9:(k:Int)≤90000000:=ag;obtain⟨u,hu⟩:∃u,g2[k]?=some u:=⟨_,bE hlt⟩;have HU:=af hu;clear hu;obtain⟨w2,hw2⟩:=ak (wr.alloc (.cells #[ae (-1000 - (k:Int) / 4),ae 0,ae 0] 133 (0,0)):World);obtain⟨mb,hmb⟩:=ak (wr.heap.size);have hb2:Below w.heap.size w w2:=by rw[hw2];exact HB.alloc HB.size _
       have sP:ay w2 mb #[ae (-1000 - (k:Int) / 4),ae 0,ae 0] 133:=by rw[hw2,hmb];exact bJ wr _ _
       have HW2:=af hw2;have jH:=af hmb;have HKM:=af sP;clear hw2 hmb sP;go_upto_region 22 with fail
       rw[←HW2.out,←jH.out];obtain⟨d1,d2,d3,d4⟩:=HC.out w2 hb2;have hK2:=HK.out w2 hb2;have hrow2:w2.ownsRow B (bLt 2) 1 (.slice pa g2.length pc) g2.length g2:=hK2.row 2 ag;obtain⟨ng,nc',hv,_,hng,_,_,hcell⟩:=cd hrow2 ag;obtain⟨rfl,rfl⟩:pa=some (ai ng 0)∧pc=nc':=gW;obtain⟨n,hn,hrow⟩:=hK2.qV 2 ag k u HU;obtain⟨ua,uc,hus,huc,_⟩:=bo hrow;subst hus;have e1:w2.cell? (ai ng k)=some (.slice ua n uc):=hcell k _ HU;have aW:=af hb2;have fc:=af hrow;clear hb2 hcell hv hrow hrow2 hK2 c1 c2 c3 c4;go_wp2_with fail;go_loopw[10] (fun j wr=>∃q:Nat,q≤n∧j=ae q∧Hid (Below w2.heap.size w2 wr)) (fun j _=>n - (intOf j).toNat)
       case atStart=>exact⟨0,bU _,rfl,aQ⟩
       case round=>
        obtain⟨q,hq,rfl,HQ⟩:=hrel;have eR:=af (aW.trans (HQ.mono aW.size));clear d1 d2 d3 d4;obtain⟨d1,d2,d3,d4⟩:=HC.out wr eR;have e1q:wr.cell? (ai ng k)=some (.slice ua n uc):=NL;clear e1
        by_cases lN:q<n
        ·have jf:(q:Int)<(n:Int):=by omega
         have lV:(0:Int)≤(q:Int):=ag;obtain⟨g,rfl,hg,hc⟩:=C9 (aR fc (aq.bf (S:=fun _=>False) HQ) (fun _ _=>id)) rfl aj lN;have hKQ:=HKM.sub HQ HKM.lt
         have f0:wr.cell? (ai g (q*3))=some (ae (-1000 - (k:Int) / 4)):=by
          have:=hc 0 _ aj rfl;simpa [kO]using this
         have m0:wr.cell? (ai mb 0)=some (ae (-1000 - (k:Int) / 4)):=hKQ.cell 0 _ rfl
         have f1:wr.cell? (ai g (q*3+1))=some (ae 0):=by
          have:=hc 1 _ aj rfl;simpa [kO]using this
         have m1:wr.cell? (ai mb 1)=some (ae 0):=hKQ.cell 1 _ rfl
         have f2:wr.cell? (ai g (q*3+2))=some (ae 0):=by
          have:=hc 2 _ aj rfl;simpa [kO]using this
         have m2:wr.cell? (ai mb 2)=some (ae 0):=hKQ.cell 2 _ rfl;clear hc hKQ;go_wp2_with fail;exact RO
        ·exact RD
      ·have bV:¬(k:Int)<(g2.length:Int):=by omega
       go_wp2_with fail
       go_loopw[11] (fun i wr=>∃k:Nat,k≤g3.length∧i=ae k∧Hid (Below w.heap.size w wr)) (fun i _=>g3.length - (intOf i).toNat)
       case atStart=>exact⟨0,bU _,rfl,HB⟩
       case round=>
        clear HB;obtain⟨k,hk,rfl,HB⟩:=hrel;obtain⟨c1,c2,c3,c4⟩:=HC.out wr HB
        by_cases hlt:k<g3.length
        ·have bV:(k:Int)<(g3.length:Int):=by omega
         have hl0:(0:Int)≤(k:Int):=ag;have hl9:(k:Int)≤90000000:=ag;obtain⟨u,hu⟩:∃u,g3[k]?=some u:=⟨_,bE hlt⟩;have HU:=af hu;clear hu;obtain⟨w2,hw2⟩:=ak (wr.alloc (.cells #[ae (-1000 - (k:Int) / 4),ae 0,ae 0,ae 0] 69 (0,0)):World);obtain⟨mb,hmb⟩:=ak (wr.heap.size);have hb2:Below w.heap.size w w2:=by rw[hw2];exact HB.alloc HB.size _
         have sP:ay w2 mb #[ae (-1000 - (k:Int) / 4),ae 0,ae 0,ae 0] 69:=by rw[hw2,hmb];exact bJ wr _ _
         have HW2:=af hw2;have jH:=af hmb;have HKM:=af sP;clear hw2 hmb sP;go_upto_region 31 with fail
         rw[←HW2.out,←jH.out];obtain⟨d1,d2,d3,d4⟩:=HC.out w2 hb2;have hK2:=HK.out w2 hb2;have hrow2:w2.ownsRow B (bLt 3) 1 (.slice ea g3.length ec) g3.length g3:=hK2.row 3 ag;obtain⟨ng,nc',hv,_,hng,_,_,hcell⟩:=cd hrow2 ag;obtain⟨rfl,rfl⟩:ea=some (ai ng 0)∧ec=nc':=gW;obtain⟨n,hn,hrow⟩:=hK2.qV 3 ag k u HU;obtain⟨ua,uc,hus,huc,_⟩:=bo hrow;subst hus;have e1:w2.cell? (ai ng k)=some (.slice ua n uc):=hcell k _ HU;have aW:=af hb2;have fc:=af hrow;clear hb2 hcell hv hrow hrow2 hK2 c1 c2 c3 c4;go_wp2_with fail;go_loopw[13] (fun j wr=>∃q:Nat,q≤n∧j=ae q∧Hid (Below w2.heap.size w2 wr)) (fun j _=>n - (intOf j).toNat)
         case atStart=>exact⟨0,bU _,rfl,aQ⟩
         case round=>
          obtain⟨q,hq,rfl,HQ⟩:=hrel;have eR:=af (aW.trans (HQ.mono aW.size));clear d1 d2 d3 d4;obtain⟨d1,d2,d3,d4⟩:=HC.out wr eR;have e1q:wr.cell? (ai ng k)=some (.slice ua n uc):=NL;clear e1
          by_cases lN:q<n
          ·have jf:(q:Int)<(n:Int):=by omega
           have lV:(0:Int)≤(q:Int):=ag;obtain⟨g,rfl,hg,hc⟩:=C9 (aR fc (aq.bf (S:=fun _=>False) HQ) (fun _ _=>id)) rfl aj lN;have hKQ:=HKM.sub HQ HKM.lt
           have f0:wr.cell? (ai g (q*4))=some (ae (-1000 - (k:Int) / 4)):=by
            have:=hc 0 _ aj rfl;simpa [kO]using this
           have m0:wr.cell? (ai mb 0)=some (ae (-1000 - (k:Int) / 4)):=hKQ.cell 0 _ rfl
           have f1:wr.cell? (ai g (q*4+1))=some (ae 0):=by
            have:=hc 1 _ aj rfl;simpa [kO]using this
           have m1:wr.cell? (ai mb 1)=some (ae 0):=hKQ.cell 1 _ rfl
           have f2:wr.cell? (ai g (q*4+2))=some (ae 0):=by
            have:=hc 2 _ aj rfl;simpa [kO]using this
           have m2:wr.cell? (ai mb 2)=some (ae 0):=hKQ.cell 2 _ rfl
           have f3:wr.cell? (ai g (q*4+3))=some (ae 0):=by
            have:=hc 3 _ aj rfl;simpa [kO]using this
           have m3:wr.cell? (ai mb 3)=some (ae 0):=hKQ.cell 3 _ rfl;clear hc hKQ;go_wp2_with fail;exact RO
          ·exact RD
        ·have bV:¬(k:Int)<(g3.length:Int):=by omega
         go_wp2_with fail
         go_ret
         exact⟨rfl,HB⟩
end
section
theorem Yl(lv:Value)(bk:B4)(v v':Value):∀j,j<4→(qT lv (bk.set j v)).setIfInBounds (1+j) v'=qT lv (bk.set j v'):=gR rfl rfl rfl rfl
structure NSJ (j B:Nat) (w0 w:World) (wb:Nat) (lv:Value) (bk:B4) (nvv:Value) (gs:List Value):Prop where
 blk:ay w wb (qT lv (bk.set j nvv)) 84
 row:w.ownsRow B (bLt j) 1 nvv gs.length gs
 jS:aq (fun b=>b=wb∨(bk.get j).ownBlock=some b) w0 w
 loc:Lc w0 (bk.get j) nvv
 le:w0.heap.size≤w.heap.size
 lz:B≤w0.heap.size
theorem NSJ.step{w0:World}{nvv:Value}{bk:B4}{o:Obj}(hj:j<4)(h:NSJ j B w0 w wb lv bk nvv gs)(hn:n=gs.length)
  (hr:w2.ownsRow B (bLt j) 1 (aD g (n+1) cap) (n+1) (gs++[u])) (hg:(w.alloc o).grownBy w2 nvv.ownBlock) (hat:nvv.ownBlock=some g∨g=w.heap.size+1):
  NSJ j B w0 (w2.setCell (ai wb (1+j)) (aD g (n+1) cap)) wb lv bk (aD g (n+1) cap) (gs++[u]):=by
 subst hn;have bP:aq (fun k=>nvv.ownBlock=some k) w w2:=((aq.refl _ w).alloc o).trans ((aq.dP hg).mono (fun k _ e=>e.symm));have hnw:nvv.ownBlock≠some wb:=aZ h.row h.blk (Ne.symm (uF j hj).1);have hb2:ay w2 wb (qT lv (bk.set j nvv)) 84:=h.blk.aB bP hnw;have hne:(aD g (gs.length+1) cap).ownBlock≠some wb:=aZ hr hb2 (Ne.symm (uF j hj).1);have cO:aq (fun b=>b=wb) w2 (w2.setCell (ai wb (1+j)) (aD g (gs.length+1) cap)):=(aq.refl (fun b=>b=wb) w2).setCell (p:=ai wb (1+j)) rfl _;refine⟨?_,?_,?_,?_,?_,h.lz⟩
 ·have:=hb2.set (o:=1+j) (aD g (gs.length+1) cap)
  rw[Yl lv bk _ _ j hj]at this;exact this
 ·rw[cF,gJ]
  exact aR hr cO (fun k hk e=>hne jr)
 ·exact(h.jS.fz bP (fun k hk e=>aA ((h.loc k e).elim id (fun e=>ag)))).trans (cO.mono (fun k _ e=>aC e))
 ·intro k hk
  simp only[Value.ownBlock,Option.some.injEq]at hk;subst hk;rcases hat with e|e
  ·exact h.loc _ e
  ·right;have:=h.le;omega
 ·exact bB h.le (bB bP.size cO.size)
theorem XS(pat:List Value)(n:Nat)(ys:List Value)(h0:0<pat.length)(hl:ys.length=n*pat.length)(h:∀j,j<n*pat.length→ys[j]?=pat[j % pat.length]?):ys=dE pat n:=by
 apply List.ext_getElem?;intro j
 by_cases hj:j<n*pat.length
 ·rw[h j hj,DZ pat h0 n j hj]
 ·rw[jh ag,jh (by rw[Dk];omega)]
theorem F5(W:World)(pat:List Value)(t:TypeId)(m:Nat)(cs:Array Value)(h:cs.toList=dE pat m):∀j u,(dE pat m)[j]?=some u→(W.alloc (.cells cs t (0,0))).cell? ((Addr.mk W.heap.size 0 none).add j)=some u:=by
 rw[←h];exact World.news_of_block (fr:=(0,0)) (heap_alloc_new W _)
theorem XF(pat:List Value)(h:∀u∈pat,u.oneCell'=true)(n:Nat):∀u∈dE pat n,u.oneCell'=true:=by
 intro u hu;unfold dE at hu;rw[List.mem_flatMap]at hu;obtain⟨_,_,hu⟩:=hu;exact h u hu
theorem C7(h:w.ownsRow bzz e size (aD g n cap) n xs)(k:Nat):w.frozen? (ai g k)=false:=by
 rcases h.2 with ⟨h0,_⟩|⟨g',cap',cur,hv,_,hh,_⟩
 ·cases h0
 ·obtain⟨rfl,rfl⟩:g=g'∧cap=cap':=by simpa using hv
  simp[World.frozen?,hh]
end
section
structure PD where
 bb:Nat
 ev:Value
 cv:Value
 es:List PE
 nv:Int
 nt:Int
 code:List Int
 sb:Nat
 sv:Value
 ws:List RW
 F:Nat→Prop
def PD.foot(d:PD)(k:Nat):Prop:=k=d.bb∨d.ev.ownBlock=some k∨d.cv.ownBlock=some k∨k=d.sb∨d.sv.ownBlock=some k∨d.F k
structure mf (B:Nat) (w:World) (d:PD):Prop where
 ps:dF w d.bb d.ev d.cv d.es d.nv d.nt d.code
 li:jP d.es d.nv d.nt d.code
 rs:cG w d.sb d.sv d.ws d.nv d.nt
 al:rH d.es d.code d.ws
 ok:wA d.ws
 fp:∀k,d.foot k→B≤k
 tr:fM d.F w d.ws
 fi:∀k,d.F k→∃cs,ay w k cs 249
theorem mf.lt{d:PD}(h:mf B w d)(hk:d.foot k):k<w.heap.size:=by
 rcases hk with e|e|e|e|e|e
 ·rw[e];exact h.ps.blk.lt
 ·exact cJ h.ps.row e
 ·exact cJ h.ps.bG e
 ·rw[e];exact h.rs.blk.lt
 ·exact cJ h.rs.row e
 ·obtain⟨cs,hb⟩:=h.fi k e;exact hb.lt
theorem mf.aB{d:PD}(h:mf B w d)(hc:aq S w w')(hs:∀k,d.foot k→¬S k):mf B w' d:=
 ⟨h.ps.aB hc (hs _ (aC rfl)) (fun k hk=>hs k (aA (aC hk))) (fun k hk=>hs k (aA (aA (aC hk)))),h.li,
  h.rs.aB hc (hs _ (aA (aA (aA (aC rfl))))) (fun k hk=>hs k (aA (aA (aA (aA (aC hk)))))),h.al,h.ok,h.fp,h.tr.aB hc (fun k _ hk _=>hs k (aA (aA (aA (aA (aA hk)))))),fun k hk=>(h.fi k hk).imp (fun cs hb=>hb.aB hc (hs k (aA (aA (aA (aA (aA hk)))))))⟩
theorem mf.other{d:PD}(h:mf B w d)(hr:w.ownsRow bzz e size v n xs)
  (h1:122≠e) (h2:153≠e) (h3:3≠e) (h4:176≠e) (h5:186≠e) (h6:249≠e)  (hk:v.ownBlock=some k):¬d.foot k:=by
 rintro (e'|e'|e'|e'|e'|e')
 ·subst e';exact aZ hr h.ps.blk h1 hk
 ·exact fw h.ps.row hr h2 e' hk
 ·exact fw h.ps.bG hr h3 e' hk
 ·subst e';exact aZ hr h.rs.blk h4 hk
 ·exact fw h.rs.row hr h5 e' hk
 ·obtain⟨cs,hb⟩:=h.fi k e';exact aZ hr hb h6 hk
theorem mf.Bl{d:PD}(h:mf B w d)(hb:ay w b cs e)
  (h1:122≠e) (h2:153≠e) (h3:3≠e) (h4:176≠e) (h5:186≠e) (h6:249≠e):¬d.foot b:=by
 rintro (e'|e'|e'|e'|e'|e')
 ·subst e';exact h1 (kE h.ps.blk hb)
 ·exact aZ h.ps.row hb h2.symm e'
 ·exact aZ h.ps.bG hb h3.symm e'
 ·subst e';exact h4 (kE h.rs.blk hb)
 ·exact aZ h.rs.row hb h5.symm e'
 ·obtain⟨cs,hb'⟩:=h.fi b e';exact h6 (kE hb' hb)
def PD.cells(d:PD):List Value:=[ax d.bb,ax d.sb]
def PD.fresh(bb sb:Nat):PD:=⟨bb,aI,aI,[],0,0,[],sb,aI,[],fun _=>False⟩
structure eT (B:Nat) (w:World) (wb:Nat) (lv:Value) (bk:B4) (G:G4) (ds:List PD):Prop where
 blk:ay w wb (qT lv bk) 84
 lA:w.ownsRow B 143 2 lv ds.length (ds.flatMap PD.cells)
 at_:∀(i:Nat) (d:PD),ds[i]?=some d→mf B w d
 dis:∀(i j:Nat) (d d':PD),ds[i]?=some d→ds[j]?=some d'→i≠j→∀k,d.foot k→¬d'.foot k
 sep:∀(i:Nat) (d:PD),ds[i]?=some d→∀k,d.foot k→¬ku bk G k
 o9:jJ B w bk G
 tab:cQ w
 lz:3≤B∧B≤wb
section
variable{B:Nat}{w w':World}{wb:Nat}{lv:Value}{bk:B4}{G:G4}{ds:List PD}
theorem eT.le(h:eT B w wb lv bk G ds):B≤w.heap.size:=by
 have:=h.blk.lt;have:=h.lz.2;omega
theorem jJ.adl(h:jJ B w bk G)(hb:ay w b cs t)(ht:∀j,j<4→t≠bLt j∧t≠bEt j):¬ku bk G b:=by
 rintro ⟨j,hj,e|⟨i,u,hu,e⟩⟩
 ·exact aZ (h.row j hj) hb (ht j hj).1 e
 ·obtain⟨k,_,hr⟩:=h.qV j hj i u hu
  exact aZ hr hb (ht j hj).2 e
theorem jJ.Vn(h:jJ B w bk G)(hb:w.ownsRow bzz t size v n xs)(ht:∀j,j<4→t≠bLt j∧t≠bEt j)(hv:v.ownBlock=some b):¬ku bk G b:=by
 rintro ⟨j,hj,e|⟨i,u,hu,e⟩⟩
 ·exact fw hb (h.row j hj) (ht j hj).1 hv e
 ·obtain⟨k,_,hr⟩:=h.qV j hj i u hu
  exact fw hb hr (ht j hj).2 hv e
theorem eT.nof(h:eT B w wb lv bk G ds):¬ku bk G wb∧∀k,lv.ownBlock=some k→¬ku bk G k:=
 ⟨h.o9.adl h.blk (fun j hj=>⟨Ne.symm (uF j hj).1,Ne.symm (uF j hj).2.1⟩),fun k hk=>h.o9.Vn h.lA (fun j hj=>⟨Ne.symm (uF j hj).2.2.1,Ne.symm (uF j hj).2.2.2⟩) hk⟩
theorem eT.aB(h:eT B w wb lv bk G ds)(hc:aq S w w')(h1:¬S wb)(h2:∀k,lv.ownBlock=some k→¬S k)
  (h3:∀(i:Nat) (d:PD),ds[i]?=some d→∀k,d.foot k→¬S k) (h4:∀k,S k→3≤k) (h5:∀k,ku bk G k→¬S k):eT B w' wb lv bk G ds:=
 ⟨h.blk.aB hc h1,aR h.lA hc h2,fun i d hd=>(h.at_ i d hd).aB hc (h3 i d hd),h.dis,h.sep,h.o9.aB hc h5,h.tab.aB hc h4,h.lz⟩
theorem eT.below(h:eT B w wb lv bk G ds)(hb:Below w.heap.size w w'):eT B w' wb lv bk G ds:=
 h.aB (aq.bf (S:=fun _=>False) hb) id (fun _ _=>id) (fun _ _ _ _ _=>id) (fun _ e=>e.elim) (fun _ _=>id)
theorem eT.turn(h:eT B w wb lv bk G ds){i:Nat}{d d':PD}(hi:ds[i]?=some d)(hb:d'.bb=d.bb)(rJ:d'.sb=d.sb)
  (hc:aq d.foot w w') (hp:mf B w' d') (hf:∀k,d'.foot k→d.foot k∨w.heap.size≤k):eT B w' wb lv bk G (ds.set i d'):=by
 have hil:i<ds.length:=(cI.1 hi).1;have hd:=h.at_ i d hi
 have other:∀(j:Nat) (x:PD),(ds.set i d')[j]?=some x→(j=i∧x=d')∨(j≠i∧ds[j]?=some x):=fun j x hx=>by
  by_cases e:j=i
  ·subst e;rw[eL hil]at hx;exact aC ⟨rfl,(fy hx).symm⟩
  ·rw[dr (Ne.symm e)]at hx;exact aA ⟨e,hx⟩
 have hwb:¬d.foot wb:=hd.Bl h.blk aj aj aj aj aj aj;have hlv:∀k,lv.ownBlock=some k→¬d.foot k:=fun k hk=>hd.other h.lA aj aj aj aj aj aj hk
 have hcells:(ds.set i d').flatMap PD.cells=ds.flatMap PD.cells:=by
  rw[List.flatMap_def,List.flatMap_def,List.map_set];have e:d'.cells=d.cells:=by unfold PD.cells;rw[hb,rJ]
  rw[e]
  congr 1
  apply List.ext_getElem?;intro j
  by_cases hj:j=i
  ·subst hj;rw[eL (by simpa using hil),iH,hi];rfl
  ·rw[dr (Ne.symm hj)]
 refine⟨h.blk.aB hc hwb,?_,?_,?_,?_,h.o9.aB hc (fun k hk e=>h.sep i d hi k e hk),?_,h.lz⟩
 ·rw[hcells,km];exact aR h.lA hc hlv
 ·intro j x hx
  rcases other j x hx with ⟨_,rfl⟩|⟨hne,hx⟩
  ·exact hp
  ·exact(h.at_ j x hx).aB hc (h.dis j i x d hx hi hne)
 ·intro j l x y hx hy hne k h1 h2
  rcases other j x hx with ⟨e1,rfl⟩|⟨e1,hx'⟩<;>rcases other l y hy with ⟨e2,e3⟩|⟨e2,hy'⟩
  ·omega
  ·rcases hf k h1 with h3|h3
   ·exact h.dis i l d y hi hy' (Ne.symm e2) k h3 h2
   ·have:=(h.at_ l y hy').lt h2;omega
  ·subst e3
   rcases hf k h2 with h3|h3
   ·exact h.dis i j d x hi hx' (Ne.symm e1) k h3 h1
   ·have:=(h.at_ j x hx').lt h1;omega
  ·exact h.dis j l x y hx' hy' hne k h1 h2
 ·intro j x hx k hk hF
  rcases other j x hx with ⟨_,rfl⟩|⟨hne,hx⟩
  ·rcases hf k hk with h3|h3
   ·exact h.sep i d hi k h3 hF
   ·have:=h.o9.lt hF;omega
  ·exact h.sep j x hx k hk hF
 ·exact h.tab.aB hc (fun k hk=>bB h.lz.1 (hd.fp k hk))
theorem eT.push{v2:Value}{d:PD}(h:eT B w wb lv bk G ds)(hd:mf B w d)
  (h1:∀(i:Nat) (x:PD),ds[i]?=some x→∀k,x.foot k→¬d.foot k) (h2:∀k,d.foot k→¬ku bk G k)
  (hr:w2.ownsRow B 143 2 v2 (ds.length+1) (ds.flatMap PD.cells++d.cells)) (hc:aq (fun b=>lv.ownBlock=some b) w w2) (hv:∀k,v2.ownBlock=some k→lv.ownBlock=some k∨w.heap.size≤k):
  eT B (w2.setCell (ai wb 0) v2) wb v2 bk G (ds++[d]):=by
 have nl:∀(x:PD),mf B w x→∀k,x.foot k→¬lv.ownBlock=some k:=fun x hx k hk e=>hx.other h.lA aj aj aj aj aj aj e hk
 have nw:∀(x:PD),mf B w x→¬x.foot wb:=fun x hx=>hx.Bl h.blk aj aj aj aj aj aj
 have hb2:ay w2 wb (qT lv bk) 84:=h.blk.aB hc (aZ h.lA h.blk aj);have hv2:v2.ownBlock≠some wb:=aZ hr hb2 aj;have cO:aq (fun b=>b=wb) w2 (w2.setCell (ai wb 0) v2):=(aq.refl (fun b=>b=wb) w2).setCell (p:=ai wb 0) rfl _;have pair:∀(x:PD),mf B w x→mf B (w2.setCell (ai wb 0) v2) x:=fun x hx=>(hx.aB hc (nl x hx)).aB cO (fun k hk e=>nw x hx (by rw[←e];exact hk))
 have last:∀(j:Nat) (x:PD),(ds++[d])[j]?=some x→(j<ds.length∧ds[j]?=some x)∨(j=ds.length∧x=d):=fun j x hx=>by
  by_cases hj:j<ds.length
  ·rw[dH hj]at hx;exact aC ⟨hj,hx⟩
  ·rw[fP ag]at hx
   by_cases e:j - ds.length=0
   ·rw[e]at hx;simp at hx;exact aA ⟨ag,hx.symm⟩
   ·rw[jh aK]at hx;cases hx
 refine⟨?_,?_,?_,?_,?_,(h.o9.aB hc (fun k hk e=>h.nof.2 k e hk)).aB cO (fun k hk e=>h.nof.1 (by rw[←e];exact hk)),?_,h.lz⟩
 ·have:=hb2.set (o:=0) v2
  simpa [qT,lwC]using this
 ·rw[cF,gJ,kS]
  have:=aR hr cO (fun k hk e=>hv2 jr);simpa using this
 ·intro j x hx
  rcases last j x hx with ⟨_,hx⟩|⟨_,rfl⟩
  ·exact pair x (h.at_ j x hx)
  ·exact pair _ hd
 ·intro i j x y hx hy hne k a1 a2
  rcases last i x hx with ⟨_,hx'⟩|⟨e1,e4⟩<;>rcases last j y hy with ⟨_,hy'⟩|⟨e2,e3⟩
  ·exact h.dis i j x y hx' hy' hne k a1 a2
  ·rw[e3]at a2;exact h1 i x hx' k a1 a2
  ·rw[e4]at a1;exact h1 j y hy' k a2 a1
  ·omega
 ·intro j x hx k hk
  rcases last j x hx with ⟨_,hx⟩|⟨_,rfl⟩
  ·exact h.sep j x hx k hk
  ·exact h2 k hk
 ·refine(h.tab.aB hc (fun k hk=>bB h.lz.1 (cR h.lA hk))).aB cO (fun k e=>?_)
  rw[e];exact bB h.lz.1 h.lz.2
theorem eT.keeps{e:Ending}(h:eT B w wb lv bk G ds)(hj:j<4)
  (hu:∀b,u0.ownBlock=some b→B≤b∧b<w.heap.size∧b≠wb∧lv.ownBlock≠some b∧¬ku bk G b∧∀(i:Nat) (d:PD),ds[i]?=some d→¬d.foot b) (hp:AD j B w wb lv bk (G.get j) u0 e w'):
  ∃jG G',eT B w' wb lv jG G' ds∧G'=G.set j (G'.get j)∧(G'.get j).length=(G.get j).length+4∧(∀b,ku jG G' b→ku bk G b∨u0.ownBlock=some b∨w.heap.size≤b)∧aq (fun b=>b=wb∨u0.ownBlock=some b∨ku bk G b) w w':=by
 obtain⟨jG,G',_,hk,hb,hG,hl,hF⟩:=h.o9.keeps hj h.blk (fun b hb=>⟨(hu b hb).2.2.2.2.1,(hu b hb).2.1⟩) hp;obtain⟨_,dZ,u1,u2,u3,_,_,_,_,_,_,_,_,hc⟩:=hp;have hc':aq (fun b=>b=wb∨u0.ownBlock=some b∨ku bk G b) w w':=hc.mono (fun b _ e=>e.imp id (fun e=>e.imp id (fun e=>⟨j,hj,aC e⟩)));have hwB:=h.lz.2
 have Xl:∀(i:Nat) (d:PD),ds[i]?=some d→∀k,d.foot k→¬(k=wb∨u0.ownBlock=some k∨ku bk G k):=fun i d hd k hk e=>by
  rcases e with e|e|e
  ·subst e;exact(h.at_ i d hd).Bl h.blk aj aj aj aj aj aj hk
  ·exact(hu k e).2.2.2.2.2 i d hd hk
  ·exact h.sep i d hd k hk e
 refine⟨jG,G',⟨hb,aR h.lA hc' ?_,fun i d hd=>(h.at_ i d hd).aB hc' (Xl i d hd),h.dis,?_,hk,h.tab.aB hc' ?_,h.lz⟩,hG,hl,hF,hc'⟩
 ·rintro k hk (e|e|e)
  ·subst e;exact aZ h.lA h.blk aj hk
  ·exact(hu k e).2.2.2.1 hk
  ·exact h.nof.2 k hk e
 ·intro i d hd k hk hf
  rcases hF k hf with e|e|e
  ·exact h.sep i d hd k hk e
  ·exact(hu k e).2.2.2.2.2 i d hd hk
  ·have:=(h.at_ i d hd).lt hk;omega
 ·rintro k (e|e|e)
  ·rw[e];exact bB h.lz.1 hwB
  ·exact bB h.lz.1 (hu k e).1
  ·exact bB h.lz.1 (h.o9.base e)
end
def prz:Value:=.agg #[.pointer none,.pointer none]
theorem Tryz.TC:(prog.info? 143).map (fun i=>(i.zero,i.size,i.bytes))=some (some prz,2,16):=aP
theorem Yg{bk:B4}{G:G4}{ds:List PD}(h:eT B w wb lv bk G ds)(hl:ds.length≤10000000):
  Calls prog 62 #[ax wb] w fun e w'=>e=.returned (.bool true)∧∃eD d,eT B w' wb eD bk G (ds++[d])∧aq (fun b=>b=wb∨lv.ownBlock=some b) w w':=by
 obtain⟨pR,nE,hlv,_,_⟩:=bo h.lA;subst hlv;have jL:=af (Uy w h.tab);have HL:=af h;have hB:=h.le;have mG:=h.blk.lt;clear h;go_enter func62,ntmps62;go_wp2_with fail;refine jL.mono ?_;rintro e w1 ⟨bb,fK,rfl,k9,bL⟩;have hL1:=HL.below bL;have c0:w1.cell? (ai wb 0)=some (.slice pR ds.length nE):=hL1.blk.cell 0 _ rfl;have HPS:=af k9;have lW:=af hL1;have qR:=af bL;have hs1:=bL.size;obtain⟨i0,hi,hz0,hz1,hz2⟩:=info_parts Tryz.TC;have HI:=af (aY hi (aY hz0 (aY hz1 hz2)));clear jL k9 hL1 bL hi hz0 hz1 hz2;obtain⟨sb,rJ⟩:=ak (w1.heap.size);obtain⟨X,hX⟩:=ak (w1.alloc (.cells #[aI,ae 0,ae 0] 176 (0,0)):World);have hbX:Below w1.heap.size w1 X:=jo;have hXs:X.heap.size=sb+1:=by rw[hX,rJ];simp
 have aN:ay X sb #[aI,ae 0,ae 0] 176:=by rw[hX,rJ];exact bJ w1 _ _
 obtain⟨Y,hY⟩:=ak (X.alloc (.cells #[ax bb,ax sb] 143 (0,0)):World);have dV:Below X.heap.size X Y:=Gj;have hYs:Y.heap.size=sb+1+1:=by rw[hY];simp[hXs]
 have hLY:eT B Y wb (.slice pR ds.length nE) bk G ds:=(lW.below hbX).below dV;have hpY:dF Y bb aI aI [] 0 0 []:=(HPS.below hbX).below dV;have hrY:cG Y sb aI [] 0 0:=⟨aN.sub dV ag,⟨rfl,aC ⟨rfl,rfl⟩⟩,by simp[Value.ownBlock]⟩
 have hft:∀k,(PD.fresh bb sb).foot k→k=bb∨k=sb:=fun k hk=>by
  rcases hk with e|e|e|e|e|e
  ·exact aC e
  ·cases e
  ·cases e
  ·exact aA e
  ·cases e
  ·exact e.elim
 have hdY:mf B Y (PD.fresh bb sb):=⟨hpY,jP.zero,hrY,⟨Alike.nil,kA.nil⟩,(fun x hx=>by cases hx),(fun k hk=>by rcases hft k hk with e|e<;>omega),fM.nil _ _,fun k hk=>hk.elim⟩;have hnew:∀k,(PD.fresh bb sb).foot k→w.heap.size≤k:=fun k hk=>by rcases hft k hk with e|e<;>omega
 have hn1:∀(i:Nat) (x:PD),ds[i]?=some x→∀k,x.foot k→¬(PD.fresh bb sb).foot k:=fun i x hx k hk e=>by
  have:=(HL.at_ i x hx).lt hk;have:=hnew k e;omega
 have hn2:∀k,(PD.fresh bb sb).foot k→¬ku bk G k:=fun k hk e=>by have:=HL.o9.lt e;have:=hnew k hk;omega
 have jX:aq (fun b=>b=wb∨(Value.slice pR ds.length nE).ownBlock=some b) w Y:=((aq.bf qR).trans (aq.bf hbX)).trans (aq.bf dV);have HLY:=af hLY;have HDY:=af hdY;have eA:=af hn1;have fW:=af hn2;have kN:=af jX;have HNE:=af (show ∀j u,([ax bb,ax sb]:List Value)[j]?=some u→Y.cell? ((Addr.mk (sb+1) 0 none).add j)=some u by rw[hY,←hXs];exact World.news_of_block (fr:=(0,0)) (heap_alloc_new X _));have fB:=af (show ∀u∈([ax bb,ax sb]:List Value),u.oneCell'=true by intro u hu;simp at hu;rcases hu with rfl|rfl<;>rfl);have HQ:=af (aY (show ds.length+1≤maxLen by unfold maxLen;omega) (show(ds.length+1)*16≤140737488355328 by omega));have cx:=af (show B≤Y.heap.size by omega);have rD:=af hYs;clear hbX hXs aN dV hYs hLY hpY hrY hft hdY hnew hn1 hn2 jX;subst hY;subst hX;subst rJ;go_wp2_with (at_builtin;refine wpList_append_lies _ rfl _ _ 76 rfl B 143 i0 prz 2 16 underlying76 HI.out.1 HI.out.2.1 HI.out.2.2.1 HI.out.2.2.2 rfl aj (.slice pR ds.length nE) ds.length (ds.flatMap PD.cells) rfl HLY.lA (Addr.mk (w1.heap.size+1) 0 none) 1 1 [ax bb,ax w1.heap.size] rfl rfl HNE fB aj HQ.out.1 HQ.out.2 cx (w1.heap.size+1+1) rD ?_);intro g2 bq w2 hr2 hg2 lJ hlt2;have bP:aq (fun b=>(Value.slice pR ds.length nE).ownBlock=some b) _ w2:=(aq.dP hg2).mono (fun k _ e=>e.symm)
 have hfin:=HLY.push HDY eA fW hr2 bP (fun k hk=>by
  simp only[Value.ownBlock,Option.some.injEq]at hk;subst hk;exact lJ.imp id (fun e=>by rw[e,rD.out];exact aH))
 have hcw:aq (fun b=>b=wb∨(Value.slice pR ds.length nE).ownBlock=some b) w w2:=kN.trans (bP.mono (fun k _ e=>aA e));have hb2:=HLY.blk.aB bP (aZ HLY.lA HLY.blk aj);have d0:w2.cell? (ai wb 0)=some (.slice pR ds.length nE):=hb2.cell 0 _ rfl;have d1:=hb2.frozen 0;have iM:=af hfin;have kG:=af (hcw.setCell (p:=ai wb 0) (aC rfl) (aD g2 (ds.length+1) bq));clear hr2 hg2 lJ hlt2 bP hfin hcw hb2 c0;go_wp2_with fail;go_ret;exact⟨rfl,_,_,iM,kG⟩
end
section
theorem SN{ys:List Value}{b d:Value}(hk:k<n)(hl:ys.length=n*4)(h:∀j,j<k*4→ys[j]?=[a,b,c,d][j % 4]?):
  ∀j,j<(k+1)*4→((((ys.set (k*4) a).set (k*4+1) b).set (k*4+2) c).set (k*4+3) d)[j]?=[a,b,c,d][j % 4]?:=by
 intro j hj
 by_cases e3:j=k*4+3
 ·subst e3;rw[eL aK,show(k*4+3) % 4=3 by omega];rfl
 ·rw[dr ag]
  by_cases e2:j=k*4+2
  ·subst e2;rw[eL aK,show(k*4+2) % 4=2 by omega];rfl
  ·rw[dr ag]
   by_cases e1:j=k*4+1
   ·subst e1;rw[eL aK,show(k*4+1) % 4=1 by omega];rfl
   ·rw[dr ag]
    by_cases e0:j=k*4
    ·subst e0;rw[eL ag,show(k*4) % 4=0 by omega];rfl
    ·rw[dr ag];exact h j ag
def evz:Value:=.agg #[ae 0,ae 0,ae 0,ae 0]
theorem Tryz.acE:(prog.info? 69).map (fun i=>(i.zero,i.size,i.bytes))=some (some evz,4,32):=aP
theorem Tryz.VJ:(prog.info? 60).map (fun i=>(i.zero,i.size,i.bytes))=some (some aI,1,24):=aP
theorem Ue(B:Nat)(w:World)(wb:Nat)(lv:Value)(bk:B4)(gs:List Value)(ua:Option Addr)(n uc:Nat)(xs:List Value)(hb:ay w wb (qT lv bk) 84)(hrow:w.ownsRow B 60 1 bk.e gs.length gs)
  (hlen:gs.length≤90000000) (hn:n≤2000000) (hB:B≤w.heap.size) (hl:w.ownsRow B 69 4 (.slice ua n uc) n xs):
  Calls prog 104 #[.pointer (some (ai wb 1)),.slice ua n uc] w (AD 3 B w wb lv bk gs (.slice ua n uc)):=by
 obtain⟨nv,iv,pv,ev⟩:=bk;simp only at hrow;obtain⟨nad,wm,hnv,SH,_⟩:=bo hrow;subst hnv;have c1:w.cell? (ai wb 4)=some (.slice nad gs.length wm):=hb.cell 4 _ rfl;have hwl:(Value.slice ua n uc).ownBlock≠some wb:=aZ hl hb aj;have hnl:∀b,(Value.slice nad gs.length wm).ownBlock=some b→(Value.slice ua n uc).ownBlock≠some b:=fun b e=>fw hrow hl aj e
 have hnw:(Value.slice nad gs.length wm).ownBlock≠some wb:=aZ hrow hb aj;obtain⟨m,hm⟩:=ak (-1000 - ((gs.length / 4:Nat):Int):Int);have sL:(-1000 - (gs.length:Int) / 4)=m:=by rw[hm];omega
 have mG:=hb.lt;obtain⟨W,hW⟩:=ak (w.alloc (.cells #[ae m,ae 0,ae 0,ae 0] 69 (0,0)):World);obtain⟨mb,hmb⟩:=ak (w.heap.size);have hbW:Below w.heap.size w W:=Aa;have hkW:ay W mb #[ae m,ae 0,ae 0,ae 0] 69:=by rw[hW,hmb];exact bJ w _ _
 have hul:∀b,(Value.slice ua n uc).ownBlock=some b→b<w.heap.size:=fun b hb'=>cJ hl hb'
 have HB:=af hb;have HR:=af hrow;have HL:=af hl;have HM:=af hm;have HM':=af sL;have HW:=af hW;have jH:=af hmb;have bu:=af hbW;have HKW:=af hkW;clear hb hrow hl hm sL hW hmb hbW hkW;go_enter func104,ntmps104;go_upto_region 1 with fail
 rw[HM'.out,←HW.out,←jH.out];clear c1;go_wp2_with fail;go_loopw[5] (fun i wr=>∃(k:Nat) (ys:List Value),k≤n∧i=ae k∧Hid (wr.ownsRow B 69 4 (.slice ua n uc) n ys∧∀j,j<k*4→ys[j]?=[ae m,ae 0,ae 0,ae 0][j % 4]?)∧Hid (aq (fun b=>(Value.slice ua n uc).ownBlock=some b) W wr)) (fun i _=>n - (intOf i).toNat)
 case atStart=>exact⟨0,xs,bU _,rfl,af ⟨aR HL (aq.bf (S:=fun _=>False) bu) (fun _ _=>id),fun j h=>ag⟩,af (aq.refl _ _)⟩
 case round=>
  obtain⟨k,ys,hk,rfl,HY,HC⟩:=hrel;have yC:ay wr mb #[ae m,ae 0,ae 0,ae 0] 69:=HKW.aB HC (fun e=>by have:=hul _ e;have:=jH.out;omega);have m0:wr.cell? (ai mb 0)=some (ae m):=yC.cell 0 _ rfl;have m1:wr.cell? (ai mb 1)=some (ae 0):=yC.cell 1 _ rfl;have m2:wr.cell? (ai mb 2)=some (ae 0):=yC.cell 2 _ rfl;have m3:wr.cell? (ai mb 3)=some (ae 0):=yC.cell 3 _ rfl;have HKR:=af yC;clear yC
  by_cases hlt:k<n
  ·have bV:(k:Int)<(n:Int):=by omega
   have hl0:(0:Int)≤(k:Int):=ag;obtain⟨lg,cap,hv,_,hlg,_,_,hc⟩:=cd HY.out.1 ag;obtain⟨rfl,rfl⟩:ua=some (ai lg 0)∧uc=cap:=gW;have pM:ys.length=n*4:=HY.out.1.1;obtain⟨x0,hx0⟩:∃x,ys[k*4]?=some x:=⟨_,bE ag⟩;obtain⟨x1,hx1⟩:∃x,ys[k*4+1]?=some x:=⟨_,bE ag⟩;obtain⟨x2,hx2⟩:∃x,ys[k*4+2]?=some x:=⟨_,bE ag⟩;obtain⟨x3,hx3⟩:∃x,ys[k*4+3]?=some x:=⟨_,bE ag⟩;have e0:wr.cell? (ai lg (k*4))=some x0:=hc _ _ hx0;have e1:wr.cell? (ai lg (k*4+1))=some x1:=hc _ _ hx1;have e2:wr.cell? (ai lg (k*4+2))=some x2:=hc _ _ hx2;have e3:wr.cell? (ai lg (k*4+3))=some x3:=hc _ _ hx3;have f0:=C7 HY.out.1 (k*4);have f1:=C7 HY.out.1 (k*4+1);have f2:=C7 HY.out.1 (k*4+2);have f3:=C7 HY.out.1 (k*4+3);clear hx0 hx1 hx2 hx3 hc hv;go_wp2_with fail;go_roundw
   case rel=>
    refine⟨k+1,(((ys.set (k*4) (ae m)).set (k*4+1) (ae 0)).set (k*4+2) (ae 0)).set (k*4+3) (ae 0),ag,bO,af ⟨iJ (iJ (iJ (iJ HY.out.1 (k*4) _) (k*4+1) _) (k*4+2) _) (k*4+3) _,SN hlt pM HY.out.2⟩,af ((((HC.setCell (p:=ai lg (k*4)) rfl _).setCell (p:=ai lg (k*4+1)) rfl _).setCell (p:=ai lg (k*4+2)) rfl _).setCell (p:=ai lg (k*4+3)) rfl _)⟩
   case measure=>simp[intOf];omega
  ·obtain rfl:k=n:=by omega
   have hys:=XS [ae m,ae 0,ae 0,ae 0] k ys aF HY.out.1.1 HY.out.2;have hown:wr.ownsRow B 69 4 (.slice ua k uc) k (dE [ae m,ae 0,ae 0,ae 0] k):=Fq;have HO:=af hown;clear hys hown HY;have hCW:aq (fun b=>(Value.slice ua k uc).ownBlock=some b) w wr:=(aq.bf bu).trans HC;have HC0:=af hCW;clear hCW HC;have bV:¬(k:Int)<(k:Int):=ag;obtain⟨i0,hi,hz0,hz1,hz2⟩:=info_parts Tryz.acE;have HI:=af (aY hi (aY hz0 (aY hz1 hz2)));have hBr:B≤wr.heap.size:=bB hB HC0.size;have HPO:=af (fun q=>XF [ae m,ae 0,ae 0,ae 0] (by intro u hu;simp at hu;rcases hu with rfl|rfl<;>rfl) q);have HX1:=af (HO.alloc (.cells #[ae m,ae 0,ae 0,ae 0] 69 (0,0)));have eA:=af (F5 wr [ae m,ae 0,ae 0,ae 0] 69 1 #[ae m,ae 0,ae 0,ae 0] rfl);have HB1:=af (show B≤(wr.alloc (.cells #[ae m,ae 0,ae 0,ae 0] 69 (0,0))).heap.size by simp;omega);have ud:=af (aY (show k+1≤maxLen by unfold maxLen;omega) (aY (show k+2≤maxLen by unfold maxLen;omega) (show k+3≤maxLen by unfold maxLen;omega)));have HQ2:=af (aY (show(k+1)*32≤140737488355328 by omega) (aY (show(k+2)*32≤140737488355328 by omega) (show(k+3)*32≤140737488355328 by omega)));clear hi hz0 hz1 hz2;go_wp2_with (at_builtin;refine Gb _ rfl _ _ 60 rfl B 69 i0 evz 4 32 underlying60 HI.out.1 HI.out.2.1 HI.out.2.2.1 HI.out.2.2.2 rfl aj [ae m,ae 0,ae 0,ae 0] rfl (.slice ua k uc) k rfl HX1 (ai wr.heap.size 0) 1 1 rfl eA (HPO 1) ud.out.1 HQ2.out.1 HB1 ?_);intro v1 w2 ho1 hg1 qL Bh;obtain⟨a1,c1,hv1,_,_⟩:=bo ho1;subst hv1;have hc1:aq (fun b=>(Value.slice ua k uc).ownBlock=some b) w w2:=(HC0.alloc _).trans ((aq.dP hg1).mono (fun b _ e=>e.symm));have hl1:=Bh _ _ _ HX1
   have JP:∀b,(Value.slice a1 (k+1) c1).ownBlock=some b→(Value.slice ua k uc).ownBlock=some b∨w.heap.size≤b:=fun b hb=>by
    rcases qL with e|e
    ·rw[e]at hb;exact aC hb
    ·rw[e]at hb;right;have:=HC0.size;simp at hb;omega
   have tu:ay w2 mb #[ae m,ae 0,ae 0,ae 0] 69:=(HKR.alloc _).aB (aq.dP hg1) (fun e=>by have:=hul _ e.symm;have:=jH.out;omega);have HO1:=af ho1;have iI:=af hc1;have lW:=af hl1;have bH:=af JP;have hB2:B≤w2.heap.size:=bB hB hc1.size;clear m0 m1 m2 m3;have m0:w2.cell? (ai mb 0)=some (ae m):=tu.cell 0 _ rfl;have m1:w2.cell? (ai mb 1)=some (ae 0):=tu.cell 1 _ rfl;have m2:w2.cell? (ai mb 2)=some (ae 0):=tu.cell 2 _ rfl;have m3:w2.cell? (ai mb 3)=some (ae 0):=tu.cell 3 _ rfl;have eu:=af tu;clear ho1 hg1 qL Bh hc1 hl1 JP tu HX1 eA HB1 HO;have HX2:=af (lW.alloc (.cells #[ae m,ae 0,ae 0,ae 0,ae m,ae 0,ae 0,ae 0] 69 (0,0)));have HY2:=af (HO1.alloc (.cells #[ae m,ae 0,ae 0,ae 0,ae m,ae 0,ae 0,ae 0] 69 (0,0)));have fW:=af (F5 w2 [ae m,ae 0,ae 0,ae 0] 69 2 #[ae m,ae 0,ae 0,ae 0,ae m,ae 0,ae 0,ae 0] rfl);have aW:=af (show B≤(w2.alloc (.cells #[ae m,ae 0,ae 0,ae 0,ae m,ae 0,ae 0,ae 0] 69 (0,0))).heap.size by simp;omega);go_wp2_with (at_builtin;refine Gb _ rfl _ _ 60 rfl B 69 i0 evz 4 32 underlying60 HI.out.1 HI.out.2.1 HI.out.2.2.1 HI.out.2.2.2 rfl aj [ae m,ae 0,ae 0,ae 0] rfl (.slice ua k uc) k rfl HX2 (ai w2.heap.size 0) 2 2 rfl fW (HPO 2) ud.out.2.1 HQ2.out.2.1 aW ?_);intro v2 w3 ho2 hg2 lJ xN;obtain⟨a2,c2,hv2,_,_⟩:=bo ho2;subst hv2;have hc2:aq (fun b=>(Value.slice ua k uc).ownBlock=some b) w w3:=(iI.alloc _).trans ((aq.dP hg2).mono (fun b _ e=>e.symm))
   have QQ:∀b,(Value.slice a2 (k+2) c2).ownBlock=some b→(Value.slice ua k uc).ownBlock=some b∨w.heap.size≤b:=fun b hb=>by
    rcases lJ with e|e
    ·rw[e]at hb;exact aC hb
    ·rw[e]at hb;right;have:=iI.size;simp at hb;omega
   have hl2:=xN _ _ _ HX2;have hm2:=xN _ _ _ HY2;have AA:ay w3 mb #[ae m,ae 0,ae 0,ae 0] 69:=(eu.alloc _).aB (aq.dP hg2) (fun e=>by have:=hul _ e.symm;have:=jH.out;omega);have HO2:=af ho2;have lB:=af hc2;have HL2:=af hl2;have HM2:=af hm2;have bp:=af QQ;have oz:B≤w3.heap.size:=bB hB hc2.size;clear m0 m1 m2 m3;have m0:w3.cell? (ai mb 0)=some (ae m):=AA.cell 0 _ rfl;have m1:w3.cell? (ai mb 1)=some (ae 0):=AA.cell 1 _ rfl;have m2:w3.cell? (ai mb 2)=some (ae 0):=AA.cell 2 _ rfl;have m3:w3.cell? (ai mb 3)=some (ae 0):=AA.cell 3 _ rfl;clear ho2 hg2 lJ xN hc2 hl2 hm2 QQ AA HX2 HY2 fW aW HO1 lW iI eu;have HX3:=af (HL2.alloc (.cells #[ae m,ae 0,ae 0,ae 0,ae m,ae 0,ae 0,ae 0,ae m,ae 0,ae 0,ae 0] 69 (0,0)));have HY3:=af (HM2.alloc (.cells #[ae m,ae 0,ae 0,ae 0,ae m,ae 0,ae 0,ae 0,ae m,ae 0,ae 0,ae 0] 69 (0,0)));have HZ3:=af (HO2.alloc (.cells #[ae m,ae 0,ae 0,ae 0,ae m,ae 0,ae 0,ae 0,ae m,ae 0,ae 0,ae 0] 69 (0,0)));have tX:=af (F5 w3 [ae m,ae 0,ae 0,ae 0] 69 3 #[ae m,ae 0,ae 0,ae 0,ae m,ae 0,ae 0,ae 0,ae m,ae 0,ae 0,ae 0] rfl);have eR:=af (show B≤(w3.alloc (.cells #[ae m,ae 0,ae 0,ae 0,ae m,ae 0,ae 0,ae 0,ae m,ae 0,ae 0,ae 0] 69 (0,0))).heap.size by simp;omega);go_wp2_with (at_builtin;refine Gb _ rfl _ _ 60 rfl B 69 i0 evz 4 32 underlying60 HI.out.1 HI.out.2.1 HI.out.2.2.1 HI.out.2.2.2 rfl aj [ae m,ae 0,ae 0,ae 0] rfl (.slice ua k uc) k rfl HX3 (ai w3.heap.size 0) 3 3 rfl tX (HPO 3) ud.out.2.2 HQ2.out.2.2 eR ?_);intro v3 w4 ho3 hg3 A9 wX;obtain⟨a3,c3,hv3,_,_⟩:=bo ho3;subst hv3;have hc3:aq (fun b=>(Value.slice ua k uc).ownBlock=some b) w w4:=(lB.alloc _).trans ((aq.dP hg3).mono (fun b _ e=>e.symm))
   have Ox:∀b,(Value.slice a3 (k+3) c3).ownBlock=some b→(Value.slice ua k uc).ownBlock=some b∨w.heap.size≤b:=fun b hb=>by
    rcases A9 with e|e
    ·rw[e]at hb;exact aC hb
    ·rw[e]at hb;right;have:=lB.size;simp at hb;omega
   have hq:=HM.out
   have mk:∀(v:Value) (q:Nat),q≤3000000→w4.ownsRow B 69 4 v q (dE [ae m,ae 0,ae 0,ae 0] q)→nL 3 B w4 v (gs.length / 4):=fun v q h1 h2=>⟨q,h1,by
    show w4.ownsRow B 69 4 v q (dE [ae (-1000 - ((gs.length / 4:Nat):Int)),ae 0,ae 0,ae 0] q)
    rw[←hq];exact h2⟩
   have M0:=mk _ k ag (wX _ _ _ HX3);have M1:=mk _ (k+1) ag (wX _ _ _ HY3);have M2:=mk _ (k+2) ag (wX _ _ _ HZ3);have M3:=mk _ (k+3) ag ho3;have HMM:=af (aY M0 (aY M1 (aY M2 M3)));have oQ:=af hc3;have cB:=af Ox;clear ho3 hg3 A9 wX hc3 Ox HX3 HY3 HZ3 tX eR HO2 HL2 HM2 lB hq mk M0 M1 M2 M3 m0 m1 m2 m3;have hrow4:=aR HR oQ (fun b hb e=>hnl b hb e);have rP:=HB.aB oQ hwl;have HR4:=af hrow4;have HB4:=af rP;have c4:w4.cell? (ai wb 4)=some (.slice nad gs.length wm):=rP.cell 4 _ rfl;have f4:=rP.frozen 4;clear hrow4 rP;obtain⟨j0,hj,hy0,hy1,hy2⟩:=info_parts Tryz.VJ;have HJ:=af (aY hj (aY hy0 (aY hy1 hy2)));have hB4:B≤w4.heap.size:=bB hB oQ.size;have hN4:NSJ 3 B w4 w4 wb lv ⟨nv,iv,pv,.slice nad gs.length wm⟩ (.slice nad gs.length wm) gs:=⟨HB4,HR4,aq.refl _ _,Lc.refl _ _,aH,hB4⟩;have ie:=af hN4;have HE1:=af (fun (a:Option Addr) (x y:Nat)=>(show ∀u∈[Value.slice a x y],u.oneCell'=true by intro u hu;simp at hu;rw[hu];rfl));clear hj hy0 hy1 hy2 hN4 HB4 HR4;have HW0:=af (ie.row.alloc (.cells #[Value.slice ua k uc] 60 (0,0)));have HV0:=af (qd w4 #[Value.slice ua k uc] 60);have HU0:=af (show gs.length+1≤maxLen by unfold maxLen;omega);have HT0:=af (show(gs.length+1)*24≤140737488355328 by omega);have kT:=af (show B≤(World.alloc w4 (.cells #[Value.slice ua k uc] 60 (0,0))).heap.size by have:=ie.le;simp;omega);have HH0:=af (show(World.alloc w4 (.cells #[Value.slice ua k uc] 60 (0,0))).heap.size=w4.heap.size+1 by simp);go_wp2_with (at_builtin;refine wpList_append_lies _ rfl _ _ 80 rfl B 60 j0 aI 1 24 underlying80 HJ.out.1 HJ.out.2.1 HJ.out.2.2.1 HJ.out.2.2.2 rfl aj (Value.slice nad gs.length wm) (gs.length) gs rfl HW0 (ai w4.heap.size 0) 1 1 [Value.slice ua k uc] rfl rfl HV0 (HE1 _ _ _) aj HU0 HT0 kT (w4.heap.size+1) HH0 ?_)
   intro g0 Ac y0 np hg0 Au Z1;have xS:=ie.step ag (u:=Value.slice ua k uc) (n:=gs.length) rfl np hg0 Au;have Ax:=(ie.blk.alloc (.cells #[Value.slice ua k uc] 60 (0,0))).aB (aq.dP hg0) (fun e=>aZ ie.row ie.blk aj e.symm);have q0:y0.cell? (ai wb 4)=some (Value.slice nad gs.length wm):=Ax.cell 4 _ rfl;have r0:=Ax.frozen 4;obtain⟨z0,hz0⟩:∃z:World,z=y0.setCell (ai wb 4) (aD g0 (gs.length+1) Ac):=⟨_,rfl⟩;obtain⟨G0,hG0⟩:∃G:List Value,G=gs++[Value.slice ua k uc]:=⟨_,rfl⟩;rw[←hG0]at xS;simp only[show 1+3=4 from rfl]at xS;rw[←hz0]at xS;have HL0:Hid (G0.length=gs.length+1):=by show G0.length=_;rw[hG0,cF,gJ]
   have eU:=af xS;have HG0:=af hG0;have p0:z0.cell? (ai wb 4)=some (aD g0 (gs.length+1) Ac):=xS.blk.cell 4 _ rfl;have s0:=xS.blk.frozen 4;clear np hg0 Au Z1 xS Ax hG0 HW0 HV0 HU0 HT0 kT HH0 c4 f4;go_upto_region 9 with fail
   rw[←hz0];clear q0 r0 hz0;have HW1:=af (show(World.alloc z0 (.cells #[Value.slice a1 (k+1) c1] 60 (0,0))).ownsRow B 60 1 (aD g0 (gs.length+1) Ac) (gs.length+1) G0 by have h:=eU.row;rw[HL0.out]at h;exact h.alloc _);have HV1:=af (qd z0 #[Value.slice a1 (k+1) c1] 60);have HU1:=af (show gs.length+1+1≤maxLen by unfold maxLen;omega);have r8:=af (show(gs.length+1+1)*24≤140737488355328 by omega);have HS1:=af (show B≤(World.alloc z0 (.cells #[Value.slice a1 (k+1) c1] 60 (0,0))).heap.size by have:=eU.le;simp;omega);have HH1:=af (show(World.alloc z0 (.cells #[Value.slice a1 (k+1) c1] 60 (0,0))).heap.size=z0.heap.size+1 by simp);go_wp2_with (at_builtin;refine wpList_append_lies _ rfl _ _ 80 rfl B 60 j0 aI 1 24 underlying80 HJ.out.1 HJ.out.2.1 HJ.out.2.2.1 HJ.out.2.2.2 rfl aj (aD g0 (gs.length+1) Ac) (gs.length+1) G0 rfl HW1 (ai z0.heap.size 0) 1 1 [Value.slice a1 (k+1) c1] rfl rfl HV1 (HE1 _ _ _) aj HU1 r8 HS1 (z0.heap.size+1) HH1 ?_);intro g1 gX y1 hr1 hg1 qL j9;have xH:=eU.step ag (u:=Value.slice a1 (k+1) c1) (n:=gs.length+1) HL0.symm hr1 hg1 qL;have Bq:=(eU.blk.alloc (.cells #[Value.slice a1 (k+1) c1] 60 (0,0))).aB (aq.dP hg1) (fun e=>aZ eU.row eU.blk aj e.symm);have q1:y1.cell? (ai wb 4)=some (aD g0 (gs.length+1) Ac):=Bq.cell 4 _ rfl;have r1:=Bq.frozen 4;obtain⟨z1,hz1⟩:∃z:World,z=y1.setCell (ai wb 4) (aD g1 (gs.length+1+1) gX):=⟨_,rfl⟩;obtain⟨G1,hG1⟩:∃G:List Value,G=G0++[Value.slice a1 (k+1) c1]:=⟨_,rfl⟩;rw[←hG1]at xH;simp only[show 1+3=4 from rfl]at xH;rw[←hz1]at xH;have lW:Hid (G1.length=gs.length+1+1):=by show G1.length=_;rw[hG1,cF,gJ,HL0.out]
   have eA:=af xH;have HG1:=af hG1;have p1:z1.cell? (ai wb 4)=some (aD g1 (gs.length+1+1) gX):=xH.blk.cell 4 _ rfl;have s1:=xH.blk.frozen 4;clear hr1 hg1 qL j9 xH Bq hG1 HW1 HV1 HU1 r8 HS1 HH1 p0 s0;go_upto_region 10 with fail
   rw[←hz1];clear q1 r1 hz1;have HW2:=af (show(World.alloc z1 (.cells #[Value.slice a2 (k+2) c2] 60 (0,0))).ownsRow B 60 1 (aD g1 (gs.length+1+1) gX) (gs.length+1+1) G1 by have h:=eA.row;rw[lW.out]at h;exact h.alloc _);have HV2:=af (qd z1 #[Value.slice a2 (k+2) c2] 60);have HU2:=af (show gs.length+1+1+1≤maxLen by unfold maxLen;omega);have dv:=af (show(gs.length+1+1+1)*24≤140737488355328 by omega);have HS2:=af (show B≤(World.alloc z1 (.cells #[Value.slice a2 (k+2) c2] 60 (0,0))).heap.size by have:=eA.le;simp;omega);have HH2:=af (show(World.alloc z1 (.cells #[Value.slice a2 (k+2) c2] 60 (0,0))).heap.size=z1.heap.size+1 by simp);go_wp2_with (at_builtin;refine wpList_append_lies _ rfl _ _ 80 rfl B 60 j0 aI 1 24 underlying80 HJ.out.1 HJ.out.2.1 HJ.out.2.2.1 HJ.out.2.2.2 rfl aj (aD g1 (gs.length+1+1) gX) (gs.length+1+1) G1 rfl HW2 (ai z1.heap.size 0) 1 1 [Value.slice a2 (k+2) c2] rfl rfl HV2 (HE1 _ _ _) aj HU2 dv HS2 (z1.heap.size+1) HH2 ?_);intro g2 bq y2 hr2 hg2 lJ hlt2;have wL:=eA.step ag (u:=Value.slice a2 (k+2) c2) (n:=gs.length+1+1) lW.symm hr2 hg2 lJ;have II:=(eA.blk.alloc (.cells #[Value.slice a2 (k+2) c2] 60 (0,0))).aB (aq.dP hg2) (fun e=>aZ eA.row eA.blk aj e.symm);have q2:y2.cell? (ai wb 4)=some (aD g1 (gs.length+1+1) gX):=II.cell 4 _ rfl;have r2:=II.frozen 4;obtain⟨z2,hz2⟩:∃z:World,z=y2.setCell (ai wb 4) (aD g2 (gs.length+1+1+1) bq):=⟨_,rfl⟩;obtain⟨G2,hG2⟩:∃G:List Value,G=G1++[Value.slice a2 (k+2) c2]:=⟨_,rfl⟩;rw[←hG2]at wL;simp only[show 1+3=4 from rfl]at wL;rw[←hz2]at wL;have HL2:Hid (G2.length=gs.length+1+1+1):=by show G2.length=_;rw[hG2,cF,gJ,lW.out]
   have fW:=af wL;have HG2:=af hG2;have p2:z2.cell? (ai wb 4)=some (aD g2 (gs.length+1+1+1) bq):=wL.blk.cell 4 _ rfl;have s2:=wL.blk.frozen 4;clear hr2 hg2 lJ hlt2 wL II hG2 HW2 HV2 HU2 dv HS2 HH2 p1 s1;go_upto_region 11 with fail
   rw[←hz2];clear q2 r2 hz2;have HW3:=af (show(World.alloc z2 (.cells #[Value.slice a3 (k+3) c3] 60 (0,0))).ownsRow B 60 1 (aD g2 (gs.length+1+1+1) bq) (gs.length+1+1+1) G2 by have h:=fW.row;rw[HL2.out]at h;exact h.alloc _);have HV3:=af (qd z2 #[Value.slice a3 (k+3) c3] 60);have HU3:=af (show gs.length+1+1+1+1≤maxLen by unfold maxLen;omega);have jk:=af (show(gs.length+1+1+1+1)*24≤140737488355328 by omega);have HS3:=af (show B≤(World.alloc z2 (.cells #[Value.slice a3 (k+3) c3] 60 (0,0))).heap.size by have:=fW.le;simp;omega);have HH3:=af (show(World.alloc z2 (.cells #[Value.slice a3 (k+3) c3] 60 (0,0))).heap.size=z2.heap.size+1 by simp);go_wp2_with (at_builtin;refine wpList_append_lies _ rfl _ _ 80 rfl B 60 j0 aI 1 24 underlying80 HJ.out.1 HJ.out.2.1 HJ.out.2.2.1 HJ.out.2.2.2 rfl aj (aD g2 (gs.length+1+1+1) bq) (gs.length+1+1+1) G2 rfl HW3 (ai z2.heap.size 0) 1 1 [Value.slice a3 (k+3) c3] rfl rfl HV3 (HE1 _ _ _) aj HU3 jk HS3 (z2.heap.size+1) HH3 ?_);intro g3 lH y3 hr3 hg3 A9 hlt3;have wY:=fW.step ag (u:=Value.slice a3 (k+3) c3) (n:=gs.length+1+1+1) HL2.symm hr3 hg3 A9;have Ic:=(fW.blk.alloc (.cells #[Value.slice a3 (k+3) c3] 60 (0,0))).aB (aq.dP hg3) (fun e=>aZ fW.row fW.blk aj e.symm);have q3:y3.cell? (ai wb 4)=some (aD g2 (gs.length+1+1+1) bq):=Ic.cell 4 _ rfl;have r3:=Ic.frozen 4;obtain⟨z3,hz3⟩:∃z:World,z=y3.setCell (ai wb 4) (aD g3 (gs.length+1+1+1+1) lH):=⟨_,rfl⟩;obtain⟨G3,hG3⟩:∃G:List Value,G=G2++[Value.slice a3 (k+3) c3]:=⟨_,rfl⟩;rw[←hG3]at wY;simp only[show 1+3=4 from rfl]at wY;rw[←hz3]at wY;have tA:Hid (G3.length=gs.length+1+1+1+1):=by show G3.length=_;rw[hG3,cF,gJ,HL2.out]
   have tX:=af wY;have HG3:=af hG3;have p3:z3.cell? (ai wb 4)=some (aD g3 (gs.length+1+1+1+1) lH):=wY.blk.cell 4 _ rfl;have s3:=wY.blk.frozen 4;clear hr3 hg3 A9 hlt3 wY Ic hG3 HW3 HV3 HU3 jk HS3 HH3 p2 s2;go_wp2_with fail;rw[←hz3];clear q3 r3 hz3 p3 s3;go_end0;have hF:=tX.out;obtain⟨M0,M1,M2,M3⟩:=HMM.out
   have tn:∀(u:Value) (q:Nat),nL 3 B w4 u q→nL 3 B z3 u q:=fun u q hM=>hM.aB hF.jS (fun b hb e=>by
    obtain⟨kk,_,hr⟩:=hM;rcases e with e|e
    ·subst e;exact aZ hr (HB.aB oQ hwl) aj hb
    ·exact fw hr (aR HR oQ (fun b hb e=>hnl b hb e)) aj hb e)
   refine⟨rfl,_,.slice a1 (k+1) c1,.slice a2 (k+2) c2,.slice a3 (k+3) c3,hF.blk,?_,tn _ _ M0,tn _ _ M1,tn _ _ M2,tn _ _ M3,?_,?_,?_⟩
   ·have h:=hF.row
    rw[tA.out,HG3.out,HG2.out,HG1.out,HG0.out]at h;simpa using h
   ·rintro u (rfl|rfl|rfl)
    ·exact bH
    ·exact bp
    ·exact cB
   ·exact hF.loc.mono oQ.size
   ·exact(oQ.mono (fun b _ e=>aA (aC e))).trans (hF.jS.mono (fun b _ e=>e.imp id aA))
end
end Go.Proofs.YtcphhbofjkenaaaGreatDoor
