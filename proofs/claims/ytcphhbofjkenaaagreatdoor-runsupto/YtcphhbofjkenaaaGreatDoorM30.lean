import Derived.Deep.OwnRows
import Derived.Test.YtcphhbofjkenaaaGreatDoorM29
namespace Go.Proofs.YtcphhbofjkenaaaGreatDoor
open Go Go.RowKit
set_option linter.unusedVariables false
set_option linter.unusedSimpArgs false
set_option maxRecDepth 100000
set_option maxHeartbeats 16000000
section
def qf(c n:Int):Int:=if c<0 then -((c+1).tmod n)else c % n
theorem Vh(c n:Int)(hn:0<n):0≤qf c n∧qf c n<n:=by
 unfold qf
 split
 ·rename_i h
  have e: -((c+1).tmod n)=(-(c+1)) % n:=by
   rw[←Int.neg_tmod,Int.tmod_eq_emod_of_nonneg (by omega)]
  rw[e];exact⟨Int.emod_nonneg _ (by omega),Int.emod_lt_of_pos _ hn⟩
 ·exact⟨Int.emod_nonneg _ (by omega),Int.emod_lt_of_pos _ hn⟩
theorem IK(c n:Int)(w:World)(hn:0<n)(hn2:n≤1000000000)(h0: -9223372036854775808≤c)(h1:c≤9223372036854775807):
  Calls Tryz.prog 63 #[.int .i64 c,.int .i64 n] w fun e w'=>e=.returned (.int .i64 (qf c n))∧w'=w:=by
 by_cases hc:c<0
 ·have e:qf c n= -((c+1).tmod n):=by unfold qf;rw[if_pos hc]
  rw[e];clear e;go_enter Tryz.func63,Tryz.ntmps63
  go_wp2
  go_ret
  exact⟨rfl,rfl⟩
 ·have e:qf c n=c % n:=by unfold qf;rw[if_neg hc]
  rw[e];clear e;have hc':0≤c:=by omega
  go_enter Tryz.func63,Tryz.ntmps63
  go_wp2
  go_ret
  exact⟨rfl,rfl⟩
def IL:Nat→Nat→ByteArray→ByteArray
 |0,_,s=>s
 |f+1,k,s=>if 0<k then IL f (k / 2) (s++strOfNums [48+(k:Int) % 2])else s
def Ox(q:Nat):ByteArray:=IL (q+1) q ⟨#[109]⟩
theorem IM(x:Int):(strOfNums [x]).size=1:=rfl
theorem Vj(n:Nat)(w:World)(hn:n≤1000000000):
  Calls Tryz.prog 70 #[.int .i64 n] w fun e w'=>e=.returned (.string (Ox (n / 4)))∧Below w.heap.size w w':=by
 obtain⟨R,hR⟩:=exq (Ox (n / 4));rw[←hR];have HR:=ast hR;clear hR;go_enter Tryz.func70,Tryz.ntmps70
 go_wp2
 go_loopw[3,4] (fun s k wr=>∃(x:ByteArray) (j f:Nat),s=.string x∧k=.int .i64 j∧Hid (R=IL f j x)∧Hid (j<f∧f≤1000000001∧x.size+f≤1000000005)∧Hid (Below w.heap.size w wr)) (fun _ k _=>(intOf k).toNat)
 case atStart=>exact⟨_,n / 4,n / 4+1,rfl,by go_num,HR,⟨by omega,by omega,by have:(ByteArray.mk #[109]).size=1:=rfl;omega⟩,brq⟩
 case round=>
  clear HR;obtain⟨x,j,f,rfl,rfl,HRR,HF,HB⟩:=hrel;obtain⟨f1,f2,f3⟩:=HF.out;obtain⟨f,rfl⟩:∃f',f=f'+1:=⟨f - 1,by omega⟩
  by_cases h0:0<j
  ·have hj0:(0:Int)<(j:Int):=by omega
   have Zc:(j:Int)≤1000000000:=by omega
   have hcv:=run_convert_bytes_arg (P:=Tryz.prog) (wr.alloc (Obj.cells #[Value.int .u8 (48+(j:Int) % 2)] 5)) 93 5 Tryz.underlying93 Tryz.underlying5 wr.heap.size 0 1 1 [48+(j:Int) % 2] rfl (fun i hi=>by
    obtain rfl:i=0:=by omega
    simp) 9 Tryz.underlying9
   have hz:¬9223372036854775807<x.size+(strOfNums [48+(j:Int) % 2]).size:=by rw[IM];omega
   have hsz:=ast (IM (48+(j:Int) % 2));have hrr:=HRR.out;rw[IL,if_pos h0]at hrr;have HR2:=ast hrr;clear hrr HRR f1 f2 f3;go_wp2
   go_roundw
   case rel=>
    obtain⟨f1,f2,f3⟩:=HF.out;refine⟨_,j / 2,f,rfl,by go_num,HR2,⟨by omega,by omega,?_⟩,HB.out.alloc HB.out.size _⟩;rw[ByteArray.size_append,hsz.out];omega
   case measure=>simp[intOf];omega
  ·obtain rfl:j=0:=by omega
   have hrr:=HRR.out;rw[IL,if_neg (by omega)]at hrr;have HR2:=ast hrr;clear hrr HRR f1 f2 f3;go_wp2
   rw[HR2.out];go_ret
   exact⟨rfl,HB.out⟩
theorem Ea(b:Nat)(cap:Nat)(l:List Int)(k:Int)(w:World)(hl:l.length≤100)(hcap:l.length≤cap)(hc:∀j (h:j<l.length),w.cell? ⟨b,j,none⟩=some (.int .i64 l[j])):
  Calls Tryz.prog 34 #[.slice (some ⟨b,0,none⟩) l.length cap,.int .i64 k] w fun e w'=>e=.returned (.bool (l.any (fun x=>x == k)))∧w'=w:=by
 obtain⟨r,hr⟩:=exq (l.any (fun x=>x == k));rw[←hr];have HC:Hid _:=hc;clear hc;go_enter Tryz.func34,Tryz.ntmps34
 go_wp2
 go_loop [5] (fun i=>∃j:Nat,j≤l.length∧i=.int .i64 j∧Hid (∀x (h:x<l.length),x<j→(l[x] == k)=false)) (fun i=>l.length - (intOf i).toNat)
 case atStart=>exact⟨0,Nat.zero_le _,rfl,fun x h h'=>by omega⟩
 case round=>
  obtain⟨j,hj,rfl,HJ⟩:=hrel
  by_cases hlt:j<l.length
  ·obtain⟨x,hx⟩:=exq (l[j])
   have NP:w.cell? ⟨b,j,none⟩=some (.int .i64 x):=by rw[hx];exact HC.out j hlt
   by_cases he:(x == k)=true
   ·have HR:Hid (r=true):=by
     show r=true
     rw[hr,List.any_eq_true];exact⟨l[j],List.getElem_mem hlt,by rw[←hx];exact he⟩
    clear hr hx;go_wp2
    go_ret
    exact⟨jK HR.out.symm,rfl⟩
   ·have he':(x == k)=false:=by simpa using he
    have HX:Hid (x=l[j]):=hx;clear hx he;go_wp2
    go_round
    case rel=>
     refine⟨j+1,by omega,by go_num,fun y hy hy'=>?_⟩
     by_cases e:y=j
     ·subst e;rw[←HX.out];exact he'
     ·exact HJ.out y hy (by omega)
    case measure=>simp[intOf];omega
  ·have HR:Hid (r=false):=by
    show r=false
    rw[hr,List.any_eq_false];intro y hy;obtain⟨k,hk,rfl⟩:=List.getElem_of_mem hy;have:=HJ.out k hk (by omega);simpa using this
   clear hr;go_wp2
   go_ret
   exact⟨jK HR.out.symm,rfl⟩
end
section
def Lt:Nat→TypeId
 |0=>71
 |1=>24
 |2=>57
 |_=>60
def bEt:Nat→TypeId
 |0=>9
 |1=>3
 |2=>133
 |_=>69
def FM:Nat→Nat
 |0=>1
 |1=>1
 |2=>3
 |_=>4
def Yp:Nat→Nat→List Value
 |0,q=>[.string (Ox q)]
 |1,q=>[.int .i64 (-1000 - (q:Int))]
 |2,q=>[.int .i64 (-1000 - (q:Int)),.int .i64 0,.int .i64 0]
 |_,q=>[.int .i64 (-1000 - (q:Int)),.int .i64 0,.int .i64 0,.int .i64 0]
def gV(j B:Nat)(w:World)(u:Value)(q:Nat):Prop:=∃k,k≤3000000∧w.ownsRow B (bEt j) (FM j) u k (gm (Yp j q) k)
theorem gV.aA{j B:Nat}{S:Nat→Prop}{w w':World}{u:Value}{q:Nat}(h:gV j B w u q)(hc:aj S w w')(hs:∀k,u.ownBlock=some k→¬S k):gV j B w' u q:=by
 obtain⟨k,hk,hr⟩:=h;exact⟨k,hk,af hr hc hs⟩
theorem gV.lt{j B:Nat}{w:World}{u:Value}{q:Nat}(h:gV j B w u q){b:Nat}(hb:u.ownBlock=some b):b<w.heap.size:=by
 obtain⟨k,hk,hr⟩:=h;exact bg hr hb
theorem gV.base{j B:Nat}{w:World}{u:Value}{q:Nat}(h:gV j B w u q){b:Nat}(hb:u.ownBlock=some b):B≤b:=by
 obtain⟨k,hk,hr⟩:=h;exact aF hr hb
structure B4 where
 n:Value
 i:Value
 p:Value
 e:Value
def B4.get(b:B4):Nat→Value
 |0=>b.n
 |1=>b.i
 |2=>b.p
 |_=>b.e
def B4.set(b:B4)(j:Nat)(v:Value):B4:=
 match j with
 |0=>{b with n:=v}
 |1=>{b with i:=v}
 |2=>{b with p:=v}
 |_=>{b with e:=v}
structure G4 where
 n:List Value
 i:List Value
 p:List Value
 e:List Value
def G4.get(b:G4):Nat→List Value
 |0=>b.n
 |1=>b.i
 |2=>b.p
 |_=>b.e
def G4.set(b:G4)(j:Nat)(v:List Value):G4:=
 match j with
 |0=>{b with n:=v}
 |1=>{b with i:=v}
 |2=>{b with p:=v}
 |_=>{b with e:=v}
def G4.none:G4:=⟨[],[],[],[]⟩
theorem aU{p:Nat→Prop}(h0:p 0)(h1:p 1)(h2:p 2)(h3:p 3):∀j,j<4→p j
 |0,_=>h0
 |1,_=>h1
 |2,_=>h2
 |3,_=>h3
 |n+4,h=>by omega
theorem B4.vS(b:B4)(v:Value):∀j,j<4→∀k,k<4→(b.set j v).get k=if k=j then v else b.get k:=
 aU (aU rfl rfl rfl rfl) (aU rfl rfl rfl rfl) (aU rfl rfl rfl rfl) (aU rfl rfl rfl rfl)
theorem G4.vS(b:G4)(v:List Value):∀j,j<4→∀k,k<4→(b.set j v).get k=if k=j then v else b.get k:=
 aU (aU rfl rfl rfl rfl) (aU rfl rfl rfl rfl) (aU rfl rfl rfl rfl) (aU rfl rfl rfl rfl)
theorem af2:∀j,j<4→∀k,k<4→Lt j≠bEt k:=
 aU (aU (by decide) (by decide) (by decide) (by decide)) (aU (by decide) (by decide) (by decide) (by decide)) (aU (by decide) (by decide) (by decide) (by decide)) (aU (by decide) (by decide) (by decide) (by decide))
theorem af4:∀j,j<4→∀k,k<4→j≠k→Lt j≠Lt k:=
 aU (aU (by decide) (by decide) (by decide) (by decide)) (aU (by decide) (by decide) (by decide) (by decide)) (aU (by decide) (by decide) (by decide) (by decide)) (aU (by decide) (by decide) (by decide) (by decide))
theorem vT:∀j,j<4→Lt j≠84∧bEt j≠84∧Lt j≠143∧bEt j≠143:=
 aU (by decide) (by decide) (by decide) (by decide)
def gB(bk:B4)(G:G4)(b:Nat):Prop:=∃j,j<4∧((bk.get j).ownBlock=some b∨∃(i:Nat) (u:Value),(G.get j)[i]?=some u∧u.ownBlock=some b)
structure jd (B:Nat) (w:World) (bk:B4) (G:G4):Prop where
 row:∀j,j<4→w.ownsRow B (Lt j) 1 (bk.get j) (G.get j).length (G.get j)
 Rx:∀j,j<4→∀(i:Nat) (u:Value),(G.get j)[i]?=some u→gV j B w u (i / 4)
 four:∀j,j<4→(G.get j).length % 4=0
theorem jd.aA{B:Nat}{S:Nat→Prop}{w w':World}{bk:B4}{G:G4}(h:jd B w bk G)(hc:aj S w w')(hs:∀k,gB bk G k→¬S k):jd B w' bk G:=
 ⟨fun j hj=>af (h.row j hj) hc (fun k hk=>hs k ⟨j,hj,Or.inl hk⟩),fun j hj i u hu=>(h.Rx j hj i u hu).aA hc (fun k hk=>hs k ⟨j,hj,Or.inr ⟨i,u,hu,hk⟩⟩),h.four⟩
theorem jd.below{B:Nat}{w w':World}{bk:B4}{G:G4}(h:jd B w bk G)(hb:Below w.heap.size w w'):jd B w' bk G:=
 h.aA (aj.au (S:=fun _=>False) hb) (fun _ _=>id)
theorem jd.lt{B:Nat}{w:World}{bk:B4}{G:G4}(h:jd B w bk G){b:Nat}(hb:gB bk G b):b<w.heap.size:=by
 obtain⟨j,hj,hb|⟨i,u,hu,hb⟩⟩:=hb
 ·exact bg (h.row j hj) hb
 ·exact(h.Rx j hj i u hu).lt hb
theorem jd.base{B:Nat}{w:World}{bk:B4}{G:G4}(h:jd B w bk G){b:Nat}(hb:gB bk G b):B≤b:=by
 obtain⟨j,hj,hb|⟨i,u,hu,hb⟩⟩:=hb
 ·exact aF (h.row j hj) hb
 ·exact(h.Rx j hj i u hu).base hb
def lwC(lv nv iv pv ev:Value):Array Value:= #[lv,nv,iv,pv,ev]
def Ry(lv:Value)(b:B4):Array Value:=lwC lv b.n b.i b.p b.e
def Bd(j B:Nat)(w:World)(wb:Nat)(lv:Value)(bk:B4)(gs:List Value)(u0:Value)(e:Ending)(w':World):Prop:=
 e=.returned (.tuple #[])∧∃qc u1 u2 u3,az w' wb (Ry lv (bk.set j qc)) 84∧w'.ownsRow B (Lt j) 1 qc (gs.length+4) (gs++[u0,u1,u2,u3])∧
  gV j B w' u0 (gs.length / 4)∧gV j B w' u1 (gs.length / 4)∧gV j B w' u2 (gs.length / 4)∧gV j B w' u3 (gs.length / 4)∧
  (∀u,(u=u1∨u=u2∨u=u3)→∀k,u.ownBlock=some k→u0.ownBlock=some k∨w.heap.size≤k)∧Lc w (bk.get j) qc∧aj (fun b=>b=wb∨u0.ownBlock=some b∨(bk.get j).ownBlock=some b) w w'
theorem ZX{gs:List Value}{a b c d:Value}{j:Nat}{u:Value}(hu:(gs++[a,b,c,d])[j]?=some u):(j<gs.length∧gs[j]?=some u)∨(gs.length≤j∧j<gs.length+4∧(u=a∨u=b∨u=c∨u=d)):=by
 by_cases hj:j<gs.length
 ·rw[List.getElem?_append_left hj]at hu;exact Or.inl ⟨hj,hu⟩
 ·rw[List.getElem?_append_right (by omega)]at hu
  refine Or.inr ⟨by omega,?_,?_⟩
  ·have:=(List.getElem?_eq_some_iff.1 hu).1;simp at this;omega
  ·have hm:=List.mem_of_getElem? hu
   simpa using hm
theorem jd.keeps{j B:Nat}{w w':World}{wb:Nat}{lv:Value}{bk:B4}{G:G4}{u0:Value}{e:Ending}(h:jd B w bk G)(hj:j<4)(hwb:az w wb (Ry lv bk) 84)
  (hu:∀b,u0.ownBlock=some b→¬gB bk G b∧b<w.heap.size) (hp:Bd j B w wb lv bk (G.get j) u0 e w'):
  ∃Be G',Be=bk.set j (Be.get j)∧jd B w' Be G'∧az w' wb (Ry lv Be) 84∧G'=G.set j (G'.get j)∧(G'.get j).length=(G.get j).length+4∧(∀b,gB Be G' b→gB bk G b∨u0.ownBlock=some b∨w.heap.size≤b):=by
 obtain⟨_,qc,u1,u2,u3,hb,hr,m0,m1,m2,m3,hown,hlc,hc⟩:=hp;have hget:(bk.set j qc).get j=qc:=by rw[B4.vS bk qc j hj j hj,if_pos rfl]
 have Eb:(G.set j (G.get j++[u0,u1,u2,u3])).get j=G.get j++[u0,u1,u2,u3]:=by rw[G4.vS G _ j hj j hj,if_pos rfl]
 have ht:=vT j hj
 have EX:∀k,k<4→k≠j→((bk.set j qc).get k=bk.get k∧(G.set j (G.get j++[u0,u1,u2,u3])).get k=G.get k):=fun k hk hne=>by
  rw[B4.vS bk qc j hj k hk,G4.vS G _ j hj k hk,if_neg hne,if_neg hne];exact⟨rfl,rfl⟩
 have akz:∀k,k<4→k≠j→∀b,(bk.get k).ownBlock=some b→¬(b=wb∨u0.ownBlock=some b∨(bk.get j).ownBlock=some b):=fun k hk hne b hb' e=>by
  rcases e with e|e|e
  ·subst e;exact ah (h.row k hk) hwb (Ne.symm (vT k hk).1) hb'
  ·exact(hu b e).1 ⟨k,hk,Or.inl hb'⟩
  ·exact bQ (h.row k hk) (h.row j hj) (af4 k hk j hj hne) hb' e
 have af6:∀k,k<4→∀(i:Nat) (u:Value),(G.get k)[i]?=some u→∀b,u.ownBlock=some b→¬(b=wb∨u0.ownBlock=some b∨(bk.get j).ownBlock=some b):=fun k hk i u JI b hb' e=>by
  obtain⟨kk,_,hrr⟩:=h.Rx k hk i u JI;rcases e with e|e|e
  ·subst e;exact ah hrr hwb (Ne.symm (vT k hk).2.1) hb'
  ·exact(hu b e).1 ⟨k,hk,Or.inr ⟨i,u,JI,hb'⟩⟩
  ·exact bQ hrr (h.row j hj) (fun e'=>af2 j hj k hk e'.symm) hb' e
 refine⟨bk.set j qc,G.set j (G.get j++[u0,u1,u2,u3]),by rw[hget],⟨fun k hk=>?_,fun k hk i u JI=>?_,fun k hk=>?_⟩,hb,by rw[Eb],by rw[Eb];simp,?_⟩
 ·by_cases hne:k=j
  ·subst hne;rw[hget,Eb];have:=hr;simpa using this
  ·rw[(EX k hk hne).1,(EX k hk hne).2];exact af (h.row k hk) hc (akz k hk hne)
 ·by_cases hne:k=j
  ·subst hne
   rw[Eb]at JI;rcases ZX JI with ⟨_,hx⟩|⟨j1,j2,hx⟩
   ·exact(h.Rx k hk i u hx).aA hc (af6 k hk i u hx)
   ·have hq:i / 4=(G.get k).length / 4:=by have:=h.four k hk;omega
    rw[hq];rcases hx with rfl|rfl|rfl|rfl<;>assumption
  ·rw[(EX k hk hne).2]at JI;exact(h.Rx k hk i u JI).aA hc (af6 k hk i u JI)
 ·by_cases hne:k=j
  ·subst hne;rw[Eb];have:=h.four k hk;simp;omega
  ·rw[(EX k hk hne).2];exact h.four k hk
 ·rintro b ⟨k,hk,hb'|⟨i,u,JI,hb'⟩⟩
  ·by_cases hne:k=j
   ·subst hne;rw[hget]at hb'
    rcases hlc b hb' with e|e
    ·exact Or.inl ⟨k,hk,Or.inl e⟩
    ·exact Or.inr (Or.inr e)
   ·rw[(EX k hk hne).1]at hb';exact Or.inl ⟨k,hk,Or.inl hb'⟩
  ·by_cases hne:k=j
   ·subst hne
    rw[Eb]at JI;rcases ZX JI with ⟨_,hx⟩|⟨j1,j2,hx⟩
    ·exact Or.inl ⟨k,hk,Or.inr ⟨i,u,hx,hb'⟩⟩
    ·rcases hx with rfl|hx
     ·exact Or.inr (Or.inl hb')
     ·exact Or.inr (hown u hx b hb')
   ·rw[(EX k hk hne).2]at JI;exact Or.inl ⟨k,hk,Or.inr ⟨i,u,JI,hb'⟩⟩
end
section
def lH:Value:=.slice none 0 0
theorem pq{j B:Nat}{w:World}{ua:Option Addr}{n uc q:Nat}{k:Nat}(hr:w.ownsRow B (bEt j) (FM j) (.slice ua n uc) n (gm (Yp j q) n))(hp:(Yp j q).length=FM j)(h0:0<FM j)(hk:k<n):
  ∃g,ua=some ⟨g,0,none⟩∧g<w.heap.size∧∀m u,m<FM j→(Yp j q)[m]?=some u→w.cell? ⟨g,k*FM j+m,none⟩=some u:=by
 obtain⟨g,cap',hv,_,hg,_,_,hc⟩:=aB hr (by omega);obtain⟨rfl,rfl⟩:ua=some ⟨g,0,none⟩∧uc=cap':=by simpa using hv
 refine⟨g,rfl,hg,fun m u hm hu=>hc _ _ ?_⟩
 have hlt:k*FM j+m<n*FM j:=by
  have:(k+1)*FM j≤n*FM j:=Nat.mul_le_mul_right _ hk;rw[Nat.add_mul,Nat.one_mul]at this;omega
 rw[uJ _ (by omega) n _ (by rw[hp];exact hlt),hp,Nat.mul_comm,Nat.mul_add_mod,Nat.mod_eq_of_lt hm];exact hu
theorem Qk(B:Nat)(w:World)(wb:Nat)(lv:Value)(bk:B4)(G:G4)(hb:az w wb (Ry lv bk) 84)(hk:jd B w bk G)(hlen:∀j,j<4→(G.get j).length≤90000000):
  Calls Tryz.prog 36 #[.pointer (some ⟨wb,1,none⟩)] w fun e w'=>e=.returned (.bool true)∧Below w.heap.size w w':=by
 obtain⟨nv,iv,pv,ev⟩:=bk;obtain⟨g0,g1,g2,g3⟩:=G;have r0:=hk.row 0 (by omega);have r1:=hk.row 1 (by omega);have r2:=hk.row 2 (by omega);have r3:=hk.row 3 (by omega);have l0:=hlen 0 (by omega);have l1:=hlen 1 (by omega);have l2:=hlen 2 (by omega);have l3:=hlen 3 (by omega);simp only[B4.get,G4.get]at r0 r1 r2 r3 l0 l1 l2 l3;obtain⟨na,nc,hnv,af8,_⟩:=ag r0;obtain⟨ia,ic,WW,anC,_⟩:=ag r1;obtain⟨pa,pc,hpv,anD,_⟩:=ag r2;obtain⟨ea,ec,hev,TQ,_⟩:=ag r3;subst hnv;subst WW;subst hpv;subst hev
 have HC:=ast (fun (w':World) (h:Below w.heap.size w w')=>(show w'.cell? ⟨wb,1,none⟩=some (.slice na g0.length nc)∧w'.cell? ⟨wb,2,none⟩=some (.slice ia g1.length ic)∧w'.cell? ⟨wb,3,none⟩=some (.slice pa g2.length pc)∧w'.cell? ⟨wb,4,none⟩=some (.slice ea g3.length ec)from
  ⟨(hb.sub h hb.lt).cell 1 _ rfl,(hb.sub h hb.lt).cell 2 _ rfl,(hb.sub h hb.lt).cell 3 _ rfl,(hb.sub h hb.lt).cell 4 _ rfl⟩))
 have HK:=ast (fun (w':World) (h:Below w.heap.size w w')=>hk.below h);have hwb:=hb.lt;clear hb hk hlen r0 r1 r2 r3;go_enter Tryz.func36,Tryz.ntmps36
 go_wp2_with fail
 go_loopw[3] (fun i wr=>∃k:Nat,k≤g0.length∧i=.int .i64 k∧Hid (Below w.heap.size w wr)) (fun i _=>g0.length - (intOf i).toNat)
 case atStart=>exact⟨0,Nat.zero_le _,rfl,brq⟩
 case round=>
  obtain⟨k,hk,rfl,HB⟩:=hrel;obtain⟨c1,c2,c3,c4⟩:=HC.out wr HB.out
  by_cases hlt:k<g0.length
  ·have lD:(k:Int)<(g0.length:Int):=by omega
   have hl0:(0:Int)≤(k:Int):=by omega
   have hl9:(k:Int)≤90000000:=by omega
   obtain⟨u,hu⟩:∃u,g0[k]?=some u:=⟨_,List.getElem?_eq_getElem hlt⟩;have HU:=ast hu;clear hu;have HMK:=ast (Vj k wr (by omega));obtain⟨m,hm⟩:=exq (Ox (k / 4));rw[←hm]at HMK;have HM:=ast hm;clear hm;go_wp2_with fail
   refine HMK.out.mono ?_;rintro e w2 ⟨rfl,h2⟩;have hb2:Below w.heap.size w w2:=HB.out.trans (h2.mono HB.out.size);clear HMK h2;obtain⟨d1,d2,d3,d4⟩:=HC.out w2 hb2;have hK2:=HK.out w2 hb2;have hrow2:w2.ownsRow B (Lt 0) 1 (.slice na g0.length nc) g0.length g0:=hK2.row 0 (by omega);obtain⟨ng,nc',hv,_,hng,_,_,hcell⟩:=aB hrow2 (by omega);obtain⟨rfl,rfl⟩:na=some ⟨ng,0,none⟩∧nc=nc':=by simpa using hv
   obtain⟨n,hn,hrow⟩:=hK2.Rx 0 (by omega) k u HU.out;obtain⟨ua,uc,hus,huc,_⟩:=ag hrow;subst hus;have e1:w2.cell? ⟨ng,k,none⟩=some (.slice ua n uc):=hcell k _ HU.out;have gK:=ast hb2;have zy:=ast hrow;clear hb2 hcell hv hrow hrow2 hK2 c1 c2 c3 c4;go_wp2_with fail
   go_loop [5] (fun j=>∃q:Nat,q≤n∧j=.int .i64 q) (fun j=>n - (intOf j).toNat)
   case atStart=>exact⟨0,Nat.zero_le _,rfl⟩
   case round=>
    obtain⟨q,hq,rfl⟩:=hrel
    by_cases Rz:q<n
    ·have CZ:(q:Int)<(n:Int):=by omega
     have EJ:(0:Int)≤(q:Int):=by omega
     obtain⟨g,rfl,hg,hc⟩:=pq zy.out rfl (by decide) Rz
     have e2:w2.cell? ⟨g,q,none⟩=some (.string m):=by
      have:=hc 0 _ (by decide) rfl;rw[HM.out];simpa [FM]using this
     clear hc;go_wp2_with fail
     go_round
     case rel=>exact⟨q+1,by omega,by go_num⟩
     case measure=>simp[intOf];omega
    ·have CZ:¬(q:Int)<(n:Int):=by omega
     go_wp2_with fail
     go_roundw
     case rel=>exact⟨k+1,by omega,by go_num,gK⟩
     case measure=>simp[intOf];omega
  ·have lD:¬(k:Int)<(g0.length:Int):=by omega
   go_wp2_with fail
   go_loopw[6] (fun i wr=>∃k:Nat,k≤g1.length∧i=.int .i64 k∧Hid (Below w.heap.size w wr)) (fun i _=>g1.length - (intOf i).toNat)
   case atStart=>exact⟨0,Nat.zero_le _,rfl,HB⟩
   case round=>
    clear HB;obtain⟨k,hk,rfl,HB⟩:=hrel;obtain⟨c1,c2,c3,c4⟩:=HC.out wr HB.out
    by_cases hlt:k<g1.length
    ·have lD:(k:Int)<(g1.length:Int):=by omega
     have hl0:(0:Int)≤(k:Int):=by omega
     have hl9:(k:Int)≤90000000:=by omega
     obtain⟨u,hu⟩:∃u,g1[k]?=some u:=⟨_,List.getElem?_eq_getElem hlt⟩;have HU:=ast hu;clear hu;obtain⟨w2,hw2⟩:=exq (wr:World);have hb2:Below w.heap.size w w2:=by rw[hw2];exact HB.out
     rw[←hw2];clear hw2;obtain⟨d1,d2,d3,d4⟩:=HC.out w2 hb2;have hK2:=HK.out w2 hb2;have hrow2:w2.ownsRow B (Lt 1) 1 (.slice ia g1.length ic) g1.length g1:=hK2.row 1 (by omega);obtain⟨ng,nc',hv,_,hng,_,_,hcell⟩:=aB hrow2 (by omega);obtain⟨rfl,rfl⟩:ia=some ⟨ng,0,none⟩∧ic=nc':=by simpa using hv
     obtain⟨n,hn,hrow⟩:=hK2.Rx 1 (by omega) k u HU.out;obtain⟨ua,uc,hus,huc,_⟩:=ag hrow;subst hus;have e1:w2.cell? ⟨ng,k,none⟩=some (.slice ua n uc):=hcell k _ HU.out;have gK:=ast hb2;have zy:=ast hrow;clear hb2 hcell hv hrow hrow2 hK2 c1 c2 c3 c4;go_wp2_with fail
     go_loop [7] (fun j=>∃q:Nat,q≤n∧j=.int .i64 q) (fun j=>n - (intOf j).toNat)
     case atStart=>exact⟨0,Nat.zero_le _,rfl⟩
     case round=>
      obtain⟨q,hq,rfl⟩:=hrel
      by_cases Rz:q<n
      ·have CZ:(q:Int)<(n:Int):=by omega
       have EJ:(0:Int)≤(q:Int):=by omega
       obtain⟨g,rfl,hg,hc⟩:=pq zy.out rfl (by decide) Rz
       have e2:w2.cell? ⟨g,q,none⟩=some (.int .i64 (-1000 - (k:Int) / 4)):=by
        have:=hc 0 _ (by decide) rfl;simpa [FM]using this
       have e3:((-1000 - (k:Int) / 4) != (-1000 - (k:Int) / 4))=false:=by simp
       clear hc;go_wp2_with fail
       go_round
       case rel=>exact⟨q+1,by omega,by go_num⟩
       case measure=>simp[intOf];omega
      ·have CZ:¬(q:Int)<(n:Int):=by omega
       go_wp2_with fail
       go_roundw
       case rel=>exact⟨k+1,by omega,by go_num,gK⟩
       case measure=>simp[intOf];omega
    ·have lD:¬(k:Int)<(g1.length:Int):=by omega
     go_wp2_with fail
     go_loopw[8] (fun i wr=>∃k:Nat,k≤g2.length∧i=.int .i64 k∧Hid (Below w.heap.size w wr)) (fun i _=>g2.length - (intOf i).toNat)
     case atStart=>exact⟨0,Nat.zero_le _,rfl,HB⟩
     case round=>
      clear HB;obtain⟨k,hk,rfl,HB⟩:=hrel;obtain⟨c1,c2,c3,c4⟩:=HC.out wr HB.out
      by_cases hlt:k<g2.length
      ·have lD:(k:Int)<(g2.length:Int):=by omega
       have hl0:(0:Int)≤(k:Int):=by omega
       have hl9:(k:Int)≤90000000:=by omega
       obtain⟨u,hu⟩:∃u,g2[k]?=some u:=⟨_,List.getElem?_eq_getElem hlt⟩;have HU:=ast hu;clear hu;obtain⟨w2,hw2⟩:=exq (wr.alloc (.cells #[.int .i64 (-1000 - (k:Int) / 4),.int .i64 0,.int .i64 0] 133 (0,0)):World);obtain⟨mb,gX⟩:=exq (wr.heap.size);have hb2:Below w.heap.size w w2:=by rw[hw2];exact HB.out.alloc HB.out.size _
       have Tt:az w2 mb #[.int .i64 (-1000 - (k:Int) / 4),.int .i64 0,.int .i64 0] 133:=by rw[hw2,gX];exact ay wr _ _
       have HW2:=ast hw2;have Gu:=ast gX;have HKM:=ast Tt;clear hw2 gX Tt;go_upto_region 22 with fail
       rw[←HW2.out,←Gu.out];obtain⟨d1,d2,d3,d4⟩:=HC.out w2 hb2;have hK2:=HK.out w2 hb2;have hrow2:w2.ownsRow B (Lt 2) 1 (.slice pa g2.length pc) g2.length g2:=hK2.row 2 (by omega);obtain⟨ng,nc',hv,_,hng,_,_,hcell⟩:=aB hrow2 (by omega);obtain⟨rfl,rfl⟩:pa=some ⟨ng,0,none⟩∧pc=nc':=by simpa using hv
       obtain⟨n,hn,hrow⟩:=hK2.Rx 2 (by omega) k u HU.out;obtain⟨ua,uc,hus,huc,_⟩:=ag hrow;subst hus;have e1:w2.cell? ⟨ng,k,none⟩=some (.slice ua n uc):=hcell k _ HU.out;have gK:=ast hb2;have zy:=ast hrow;clear hb2 hcell hv hrow hrow2 hK2 c1 c2 c3 c4;go_wp2_with fail
       go_loopw[10] (fun j wr=>∃q:Nat,q≤n∧j=.int .i64 q∧Hid (Below w2.heap.size w2 wr)) (fun j _=>n - (intOf j).toNat)
       case atStart=>exact⟨0,Nat.zero_le _,rfl,brq⟩
       case round=>
        obtain⟨q,hq,rfl,HQ⟩:=hrel;have GZ:=ast (gK.out.trans (HQ.out.mono gK.out.size));clear d1 d2 d3 d4;obtain⟨d1,d2,d3,d4⟩:=HC.out wr GZ.out;have e1q:wr.cell? ⟨ng,k,none⟩=some (.slice ua n uc):=by rw[HQ.out.cell (p:=⟨ng,k,none⟩) hng];exact e1
        clear e1
        by_cases Rz:q<n
        ·have CZ:(q:Int)<(n:Int):=by omega
         have EJ:(0:Int)≤(q:Int):=by omega
         obtain⟨g,rfl,hg,hc⟩:=pq (af zy.out (aj.au (S:=fun _=>False) HQ.out) (fun _ _=>id)) rfl (by decide) Rz;have WX:=HKM.out.sub HQ.out HKM.out.lt
         have f0:wr.cell? ⟨g,q*3,none⟩=some (.int .i64 (-1000 - (k:Int) / 4)):=by
          have:=hc 0 _ (by decide) rfl;simpa [FM]using this
         have m0:wr.cell? ⟨mb,0,none⟩=some (.int .i64 (-1000 - (k:Int) / 4)):=WX.cell 0 _ rfl
         have f1:wr.cell? ⟨g,q*3+1,none⟩=some (.int .i64 0):=by
          have:=hc 1 _ (by decide) rfl;simpa [FM]using this
         have m1:wr.cell? ⟨mb,1,none⟩=some (.int .i64 0):=WX.cell 1 _ rfl
         have f2:wr.cell? ⟨g,q*3+2,none⟩=some (.int .i64 0):=by
          have:=hc 2 _ (by decide) rfl;simpa [FM]using this
         have m2:wr.cell? ⟨mb,2,none⟩=some (.int .i64 0):=WX.cell 2 _ rfl;clear hc WX;go_wp2_with fail
         go_quiet (fail)
         go_wp2_with fail
         go_roundw
         case rel=>exact⟨q+1,by omega,by go_num,ast (HQ.out.trans ⟨rfl,rfl,rfl,nrq,fun _ _=>rfl⟩)⟩
         case measure=>simp[intOf];omega
        ·have CZ:¬(q:Int)<(n:Int):=by omega
         go_wp2_with fail
         go_roundw
         case rel=>exact⟨k+1,by omega,by go_num,GZ⟩
         case measure=>simp[intOf];omega
      ·have lD:¬(k:Int)<(g2.length:Int):=by omega
       go_wp2_with fail
       go_loopw[11] (fun i wr=>∃k:Nat,k≤g3.length∧i=.int .i64 k∧Hid (Below w.heap.size w wr)) (fun i _=>g3.length - (intOf i).toNat)
       case atStart=>exact⟨0,Nat.zero_le _,rfl,HB⟩
       case round=>
        clear HB;obtain⟨k,hk,rfl,HB⟩:=hrel;obtain⟨c1,c2,c3,c4⟩:=HC.out wr HB.out
        by_cases hlt:k<g3.length
        ·have lD:(k:Int)<(g3.length:Int):=by omega
         have hl0:(0:Int)≤(k:Int):=by omega
         have hl9:(k:Int)≤90000000:=by omega
         obtain⟨u,hu⟩:∃u,g3[k]?=some u:=⟨_,List.getElem?_eq_getElem hlt⟩;have HU:=ast hu;clear hu;obtain⟨w2,hw2⟩:=exq (wr.alloc (.cells #[.int .i64 (-1000 - (k:Int) / 4),.int .i64 0,.int .i64 0,.int .i64 0] 69 (0,0)):World);obtain⟨mb,gX⟩:=exq (wr.heap.size);have hb2:Below w.heap.size w w2:=by rw[hw2];exact HB.out.alloc HB.out.size _
         have Tt:az w2 mb #[.int .i64 (-1000 - (k:Int) / 4),.int .i64 0,.int .i64 0,.int .i64 0] 69:=by rw[hw2,gX];exact ay wr _ _
         have HW2:=ast hw2;have Gu:=ast gX;have HKM:=ast Tt;clear hw2 gX Tt;go_upto_region 31 with fail
         rw[←HW2.out,←Gu.out];obtain⟨d1,d2,d3,d4⟩:=HC.out w2 hb2;have hK2:=HK.out w2 hb2;have hrow2:w2.ownsRow B (Lt 3) 1 (.slice ea g3.length ec) g3.length g3:=hK2.row 3 (by omega);obtain⟨ng,nc',hv,_,hng,_,_,hcell⟩:=aB hrow2 (by omega);obtain⟨rfl,rfl⟩:ea=some ⟨ng,0,none⟩∧ec=nc':=by simpa using hv
         obtain⟨n,hn,hrow⟩:=hK2.Rx 3 (by omega) k u HU.out;obtain⟨ua,uc,hus,huc,_⟩:=ag hrow;subst hus;have e1:w2.cell? ⟨ng,k,none⟩=some (.slice ua n uc):=hcell k _ HU.out;have gK:=ast hb2;have zy:=ast hrow;clear hb2 hcell hv hrow hrow2 hK2 c1 c2 c3 c4;go_wp2_with fail
         go_loopw[13] (fun j wr=>∃q:Nat,q≤n∧j=.int .i64 q∧Hid (Below w2.heap.size w2 wr)) (fun j _=>n - (intOf j).toNat)
         case atStart=>exact⟨0,Nat.zero_le _,rfl,brq⟩
         case round=>
          obtain⟨q,hq,rfl,HQ⟩:=hrel;have GZ:=ast (gK.out.trans (HQ.out.mono gK.out.size));clear d1 d2 d3 d4;obtain⟨d1,d2,d3,d4⟩:=HC.out wr GZ.out;have e1q:wr.cell? ⟨ng,k,none⟩=some (.slice ua n uc):=by rw[HQ.out.cell (p:=⟨ng,k,none⟩) hng];exact e1
          clear e1
          by_cases Rz:q<n
          ·have CZ:(q:Int)<(n:Int):=by omega
           have EJ:(0:Int)≤(q:Int):=by omega
           obtain⟨g,rfl,hg,hc⟩:=pq (af zy.out (aj.au (S:=fun _=>False) HQ.out) (fun _ _=>id)) rfl (by decide) Rz;have WX:=HKM.out.sub HQ.out HKM.out.lt
           have f0:wr.cell? ⟨g,q*4,none⟩=some (.int .i64 (-1000 - (k:Int) / 4)):=by
            have:=hc 0 _ (by decide) rfl;simpa [FM]using this
           have m0:wr.cell? ⟨mb,0,none⟩=some (.int .i64 (-1000 - (k:Int) / 4)):=WX.cell 0 _ rfl
           have f1:wr.cell? ⟨g,q*4+1,none⟩=some (.int .i64 0):=by
            have:=hc 1 _ (by decide) rfl;simpa [FM]using this
           have m1:wr.cell? ⟨mb,1,none⟩=some (.int .i64 0):=WX.cell 1 _ rfl
           have f2:wr.cell? ⟨g,q*4+2,none⟩=some (.int .i64 0):=by
            have:=hc 2 _ (by decide) rfl;simpa [FM]using this
           have m2:wr.cell? ⟨mb,2,none⟩=some (.int .i64 0):=WX.cell 2 _ rfl
           have f3:wr.cell? ⟨g,q*4+3,none⟩=some (.int .i64 0):=by
            have:=hc 3 _ (by decide) rfl;simpa [FM]using this
           have m3:wr.cell? ⟨mb,3,none⟩=some (.int .i64 0):=WX.cell 3 _ rfl;clear hc WX;go_wp2_with fail
           go_quiet (fail)
           go_wp2_with fail
           go_roundw
           case rel=>exact⟨q+1,by omega,by go_num,ast (HQ.out.trans ⟨rfl,rfl,rfl,nrq,fun _ _=>rfl⟩)⟩
           case measure=>simp[intOf];omega
          ·have CZ:¬(q:Int)<(n:Int):=by omega
           go_wp2_with fail
           go_roundw
           case rel=>exact⟨k+1,by omega,by go_num,GZ⟩
           case measure=>simp[intOf];omega
        ·have lD:¬(k:Int)<(g3.length:Int):=by omega
         go_wp2_with fail
         go_ret
         exact⟨rfl,HB.out⟩
end
section
theorem Yq(lv:Value)(bk:B4)(v v':Value):∀j,j<4→(Ry lv (bk.set j v)).setIfInBounds (1+j) v'=Ry lv (bk.set j v'):=aU rfl rfl rfl rfl
structure NSJ (j B:Nat) (w0 w:World) (wb:Nat) (lv:Value) (bk:B4) (WY:Value) (gs:List Value):Prop where
 blk:az w wb (Ry lv (bk.set j WY)) 84
 row:w.ownsRow B (Lt j) 1 WY gs.length gs
 Cf:aj (fun b=>b=wb∨(bk.get j).ownBlock=some b) w0 w
 loc:Lc w0 (bk.get j) WY
 le:w0.heap.size≤w.heap.size
 Ec:B≤w0.heap.size
theorem NSJ.step{j B:Nat}{w0 w w2:World}{wb:Nat}{lv WY u:Value}{bk:B4}{gs:List Value}{o:Obj}{g n cap:Nat}(hj:j<4)(h:NSJ j B w0 w wb lv bk WY gs)(hn:n=gs.length)
  (hr:w2.ownsRow B (Lt j) 1 (.slice (some ⟨g,0,none⟩) (n+1) cap) (n+1) (gs++[u])) (hg:(w.alloc o).grownBy w2 WY.ownBlock) (hat:WY.ownBlock=some g∨g=w.heap.size+1):
  NSJ j B w0 (w2.setCell ⟨wb,1+j,none⟩ (.slice (some ⟨g,0,none⟩) (n+1) cap)) wb lv bk (.slice (some ⟨g,0,none⟩) (n+1) cap) (gs++[u]):=by
 subst hn;have jh:aj (fun k=>WY.ownBlock=some k) w w2:=((aj.refl _ w).alloc o).trans ((aj.bD hg).mono (fun k _ e=>e.symm));have Yr:WY.ownBlock≠some wb:=ah h.row h.blk (Ne.symm (vT j hj).1);have hb2:az w2 wb (Ry lv (bk.set j WY)) 84:=h.blk.aA jh Yr;have hne:(Value.slice (some ⟨g,0,none⟩) (gs.length+1) cap).ownBlock≠some wb:=ah hr hb2 (Ne.symm (vT j hj).1);have iL:aj (fun b=>b=wb) w2 (w2.setCell ⟨wb,1+j,none⟩ (.slice (some ⟨g,0,none⟩) (gs.length+1) cap)):=(aj.refl (fun b=>b=wb) w2).setCell (p:=⟨wb,1+j,none⟩) rfl _;refine⟨?_,?_,?_,?_,?_,h.Ec⟩
 ·have:=hb2.set (o:=1+j) (.slice (some ⟨g,0,none⟩) (gs.length+1) cap)
  rw[Yq lv bk _ _ j hj]at this;exact this
 ·rw[List.length_append,List.length_singleton]
  exact af hr iL (fun k hk e=>hne (by rw[hk,e]))
 ·exact(h.Cf.jG jh (fun k hk e=>Or.inr ((h.loc k e).elim id (fun e=>by omega)))).trans (iL.mono (fun k _ e=>Or.inl e))
 ·intro k hk
  simp only[Value.ownBlock,Option.some.injEq]at hk;subst hk;rcases hat with e|e
  ·exact h.loc _ e
  ·right;have:=h.le;omega
 ·exact Nat.le_trans h.le (Nat.le_trans jh.size iL.size)
theorem Ql(pat:List Value)(n:Nat)(ys:List Value)(h0:0<pat.length)(hl:ys.length=n*pat.length)(h:∀j,j<n*pat.length→ys[j]?=pat[j % pat.length]?):ys=gm pat n:=by
 apply List.ext_getElem?;intro j
 by_cases hj:j<n*pat.length
 ·rw[h j hj,uJ pat h0 n j hj]
 ·rw[List.getElem?_eq_none (by omega),List.getElem?_eq_none (by rw[uI];omega)]
theorem tX(W:World)(pat:List Value)(t:TypeId)(m:Nat)(cs:Array Value)(h:cs.toList=gm pat m):∀j u,(gm pat m)[j]?=some u→(W.alloc (.cells cs t (0,0))).cell? ((Addr.mk W.heap.size 0 none).add j)=some u:=by
 rw[←h];exact World.news_of_block (fr:=(0,0)) (heap_alloc_new W _)
theorem Qm(pat:List Value)(h:∀u∈pat,u.oneCell'=true)(n:Nat):∀u∈gm pat n,u.oneCell'=true:=by
 intro u hu;unfold gm at hu;rw[List.mem_flatMap]at hu;obtain⟨_,_,hu⟩:=hu;exact h u hu
theorem Vk{w:World}{base:Nat}{e:TypeId}{size g n cap:Nat}{xs:List Value}(h:w.ownsRow base e size (.slice (some ⟨g,0,none⟩) n cap) n xs)(k:Nat):w.frozen? ⟨g,k,none⟩=false:=by
 rcases h.2 with ⟨h0,_⟩|⟨g',cap',cur,hv,_,hh,_⟩
 ·cases h0
 ·obtain⟨rfl,rfl⟩:g=g'∧cap=cap':=by simpa using hv
  simp[World.frozen?,hh]
end
section
structure PD where
 bb:Nat
 ev:Value
 cv:Value
 es:List PE
 nv:Int
 nt:Int
 code:List Int
 sb:Nat
 sv:Value
 ws:List RW
 F:Nat→Prop
def PD.foot(d:PD)(k:Nat):Prop:=k=d.bb∨d.ev.ownBlock=some k∨d.cv.ownBlock=some k∨k=d.sb∨d.sv.ownBlock=some k∨d.F k
structure iV (B:Nat) (w:World) (d:PD):Prop where
 ps:iC w d.bb d.ev d.cv d.es d.nv d.nt d.code
 li:mi d.es d.nv d.nt d.code
 rs:aK w d.sb d.sv d.ws d.nv d.nt
 al:ZU d.es d.code d.ws
 ok:FI d.ws
 fp:∀k,d.foot k→B≤k
 tr:bM d.F w d.ws
 fi:∀k,d.F k→∃cs,az w k cs 249
theorem iV.lt{B:Nat}{w:World}{d:PD}(h:iV B w d){k:Nat}(hk:d.foot k):k<w.heap.size:=by
 rcases hk with e|e|e|e|e|e
 ·rw[e];exact h.ps.blk.lt
 ·exact bg h.ps.row e
 ·exact bg h.ps.iO e
 ·rw[e];exact h.rs.blk.lt
 ·exact bg h.rs.row e
 ·obtain⟨cs,hb⟩:=h.fi k e;exact hb.lt
theorem iV.aA{B:Nat}{S:Nat→Prop}{w w':World}{d:PD}(h:iV B w d)(hc:aj S w w')(hs:∀k,d.foot k→¬S k):iV B w' d:=
 ⟨h.ps.aA hc (hs _ (Or.inl rfl)) (fun k hk=>hs k (Or.inr (Or.inl hk))) (fun k hk=>hs k (Or.inr (Or.inr (Or.inl hk)))),h.li,
  h.rs.aA hc (hs _ (Or.inr (Or.inr (Or.inr (Or.inl rfl))))) (fun k hk=>hs k (Or.inr (Or.inr (Or.inr (Or.inr (Or.inl hk)))))),h.al,h.ok,h.fp,h.tr.aA hc (fun k _ hk _=>hs k (Or.inr (Or.inr (Or.inr (Or.inr (Or.inr hk)))))),fun k hk=>(h.fi k hk).imp (fun cs hb=>hb.aA hc (hs k (Or.inr (Or.inr (Or.inr (Or.inr (Or.inr hk)))))))⟩
theorem iV.other{B:Nat}{w:World}{d:PD}(h:iV B w d){base:Nat}{e:TypeId}{size n:Nat}{v:Value}{xs:List Value}(hr:w.ownsRow base e size v n xs)
  (h1:122≠e) (h2:153≠e) (h3:3≠e) (h4:176≠e) (h5:186≠e) (h6:249≠e) {k:Nat} (hk:v.ownBlock=some k):¬d.foot k:=by
 rintro (e'|e'|e'|e'|e'|e')
 ·subst e';exact ah hr h.ps.blk h1 hk
 ·exact bQ h.ps.row hr h2 e' hk
 ·exact bQ h.ps.iO hr h3 e' hk
 ·subst e';exact ah hr h.rs.blk h4 hk
 ·exact bQ h.rs.row hr h5 e' hk
 ·obtain⟨cs,hb⟩:=h.fi k e';exact ah hr hb h6 hk
theorem iV.Bf{B:Nat}{w:World}{d:PD}(h:iV B w d){b:Nat}{cs:Array Value}{e:TypeId}(hb:az w b cs e)
  (h1:122≠e) (h2:153≠e) (h3:3≠e) (h4:176≠e) (h5:186≠e) (h6:249≠e):¬d.foot b:=by
 rintro (e'|e'|e'|e'|e'|e')
 ·subst e';exact h1 (bH h.ps.blk hb)
 ·exact ah h.ps.row hb h2.symm e'
 ·exact ah h.ps.iO hb h3.symm e'
 ·subst e';exact h4 (bH h.rs.blk hb)
 ·exact ah h.rs.row hb h5.symm e'
 ·obtain⟨cs,hb'⟩:=h.fi b e';exact h6 (bH hb' hb)
def PD.cells(d:PD):List Value:=[.pointer (some ⟨d.bb,0,none⟩),.pointer (some ⟨d.sb,0,none⟩)]
def PD.fresh(bb sb:Nat):PD:=⟨bb,.slice none 0 0,.slice none 0 0,[],0,0,[],sb,.slice none 0 0,[],fun _=>False⟩
structure dP (B:Nat) (w:World) (wb:Nat) (lv:Value) (bk:B4) (G:G4) (ds:List PD):Prop where
 blk:az w wb (Ry lv bk) 84
 Gv:w.ownsRow B 143 2 lv ds.length (ds.flatMap PD.cells)
 at_:∀(i:Nat) (d:PD),ds[i]?=some d→iV B w d
 dis:∀(i j:Nat) (d d':PD),ds[i]?=some d→ds[j]?=some d'→i≠j→∀k,d.foot k→¬d'.foot k
 sep:∀(i:Nat) (d:PD),ds[i]?=some d→∀k,d.foot k→¬gB bk G k
 JL:jd B w bk G
 tab:lh w
 Ec:3≤B∧B≤wb
section
variable{B:Nat}{w w':World}{wb:Nat}{lv:Value}{bk:B4}{G:G4}{ds:List PD}
theorem dP.le(h:dP B w wb lv bk G ds):B≤w.heap.size:=by
 have:=h.blk.lt;have:=h.Ec.2;omega
theorem jd.Vl{b:Nat}{cs:Array Value}{t:TypeId}(h:jd B w bk G)(hb:az w b cs t)(ht:∀j,j<4→t≠Lt j∧t≠bEt j):¬gB bk G b:=by
 rintro ⟨j,hj,e|⟨i,u,hu,e⟩⟩
 ·exact ah (h.row j hj) hb (ht j hj).1 e
 ·obtain⟨k,_,hr⟩:=h.Rx j hj i u hu
  exact ah hr hb (ht j hj).2 e
theorem jd.abO{b base size n:Nat}{v:Value}{xs:List Value}{t:TypeId}(h:jd B w bk G)(hb:w.ownsRow base t size v n xs)(ht:∀j,j<4→t≠Lt j∧t≠bEt j)(hv:v.ownBlock=some b):¬gB bk G b:=by
 rintro ⟨j,hj,e|⟨i,u,hu,e⟩⟩
 ·exact bQ hb (h.row j hj) (ht j hj).1 hv e
 ·obtain⟨k,_,hr⟩:=h.Rx j hj i u hu
  exact bQ hb hr (ht j hj).2 hv e
theorem dP.nof(h:dP B w wb lv bk G ds):¬gB bk G wb∧∀k,lv.ownBlock=some k→¬gB bk G k:=
 ⟨h.JL.Vl h.blk (fun j hj=>⟨Ne.symm (vT j hj).1,Ne.symm (vT j hj).2.1⟩),fun k hk=>h.JL.abO h.Gv (fun j hj=>⟨Ne.symm (vT j hj).2.2.1,Ne.symm (vT j hj).2.2.2⟩) hk⟩
theorem dP.aA{S:Nat→Prop}(h:dP B w wb lv bk G ds)(hc:aj S w w')(h1:¬S wb)(h2:∀k,lv.ownBlock=some k→¬S k)
  (h3:∀(i:Nat) (d:PD),ds[i]?=some d→∀k,d.foot k→¬S k) (h4:∀k,S k→3≤k) (h5:∀k,gB bk G k→¬S k):dP B w' wb lv bk G ds:=
 ⟨h.blk.aA hc h1,af h.Gv hc h2,fun i d hd=>(h.at_ i d hd).aA hc (h3 i d hd),h.dis,h.sep,h.JL.aA hc h5,h.tab.aA hc h4,h.Ec⟩
theorem dP.below(h:dP B w wb lv bk G ds)(hb:Below w.heap.size w w'):dP B w' wb lv bk G ds:=
 h.aA (aj.au (S:=fun _=>False) hb) id (fun _ _=>id) (fun _ _ _ _ _=>id) (fun _ e=>e.elim) (fun _ _=>id)
theorem dP.turn(h:dP B w wb lv bk G ds){i:Nat}{d d':PD}(hi:ds[i]?=some d)(hb:d'.bb=d.bb)(Zb:d'.sb=d.sb)
  (hc:aj d.foot w w') (hp:iV B w' d') (hf:∀k,d'.foot k→d.foot k∨w.heap.size≤k):dP B w' wb lv bk G (ds.set i d'):=by
 have JD:i<ds.length:=(List.getElem?_eq_some_iff.1 hi).1;have hd:=h.at_ i d hi
 have other:∀(j:Nat) (x:PD),(ds.set i d')[j]?=some x→(j=i∧x=d')∨(j≠i∧ds[j]?=some x):=fun j x hx=>by
  by_cases e:j=i
  ·subst e;rw[List.getElem?_set_self JD]at hx;exact Or.inl ⟨rfl,(Option.some.inj hx).symm⟩
  ·rw[List.getElem?_set_ne (Ne.symm e)]at hx;exact Or.inr ⟨e,hx⟩
 have hwb:¬d.foot wb:=hd.Bf h.blk (by decide) (by decide) (by decide) (by decide) (by decide) (by decide);have hlv:∀k,lv.ownBlock=some k→¬d.foot k:=fun k hk=>hd.other h.Gv (by decide) (by decide) (by decide) (by decide) (by decide) (by decide) hk
 have hcells:(ds.set i d').flatMap PD.cells=ds.flatMap PD.cells:=by
  rw[List.flatMap_def,List.flatMap_def,List.map_set];have e:d'.cells=d.cells:=by unfold PD.cells;rw[hb,Zb]
  rw[e]
  congr 1
  apply List.ext_getElem?;intro j
  by_cases hj:j=i
  ·subst hj;rw[List.getElem?_set_self (by simpa using JD),List.getElem?_map,hi];rfl
  ·rw[List.getElem?_set_ne (Ne.symm hj)]
 refine⟨h.blk.aA hc hwb,?_,?_,?_,?_,h.JL.aA hc (fun k hk e=>h.sep i d hi k e hk),?_,h.Ec⟩
 ·rw[hcells,List.length_set];exact af h.Gv hc hlv
 ·intro j x hx
  rcases other j x hx with ⟨_,rfl⟩|⟨hne,hx⟩
  ·exact hp
  ·exact(h.at_ j x hx).aA hc (h.dis j i x d hx hi hne)
 ·intro j l x y hx hy hne k h1 h2
  rcases other j x hx with ⟨e1,rfl⟩|⟨e1,hx'⟩<;>rcases other l y hy with ⟨e2,e3⟩|⟨e2,hy'⟩
  ·omega
  ·rcases hf k h1 with h3|h3
   ·exact h.dis i l d y hi hy' (Ne.symm e2) k h3 h2
   ·have:=(h.at_ l y hy').lt h2;omega
  ·subst e3
   rcases hf k h2 with h3|h3
   ·exact h.dis i j d x hi hx' (Ne.symm e1) k h3 h1
   ·have:=(h.at_ j x hx').lt h1;omega
  ·exact h.dis j l x y hx' hy' hne k h1 h2
 ·intro j x hx k hk hF
  rcases other j x hx with ⟨_,rfl⟩|⟨hne,hx⟩
  ·rcases hf k hk with h3|h3
   ·exact h.sep i d hi k h3 hF
   ·have:=h.JL.lt hF;omega
  ·exact h.sep j x hx k hk hF
 ·exact h.tab.aA hc (fun k hk=>Nat.le_trans h.Ec.1 (hd.fp k hk))
theorem dP.push{w2:World}{v2:Value}{d:PD}(h:dP B w wb lv bk G ds)(hd:iV B w d)
  (h1:∀(i:Nat) (x:PD),ds[i]?=some x→∀k,x.foot k→¬d.foot k) (h2:∀k,d.foot k→¬gB bk G k)
  (hr:w2.ownsRow B 143 2 v2 (ds.length+1) (ds.flatMap PD.cells++d.cells)) (hc:aj (fun b=>lv.ownBlock=some b) w w2) (hv:∀k,v2.ownBlock=some k→lv.ownBlock=some k∨w.heap.size≤k):
  dP B (w2.setCell ⟨wb,0,none⟩ v2) wb v2 bk G (ds++[d]):=by
 have nl:∀(x:PD),iV B w x→∀k,x.foot k→¬lv.ownBlock=some k:=fun x hx k hk e=>hx.other h.Gv (by decide) (by decide) (by decide) (by decide) (by decide) (by decide) e hk
 have nw:∀(x:PD),iV B w x→¬x.foot wb:=fun x hx=>hx.Bf h.blk (by decide) (by decide) (by decide) (by decide) (by decide) (by decide)
 have hb2:az w2 wb (Ry lv bk) 84:=h.blk.aA hc (ah h.Gv h.blk (by decide));have hv2:v2.ownBlock≠some wb:=ah hr hb2 (by decide);have iL:aj (fun b=>b=wb) w2 (w2.setCell ⟨wb,0,none⟩ v2):=(aj.refl (fun b=>b=wb) w2).setCell (p:=⟨wb,0,none⟩) rfl _;have pair:∀(x:PD),iV B w x→iV B (w2.setCell ⟨wb,0,none⟩ v2) x:=fun x hx=>(hx.aA hc (nl x hx)).aA iL (fun k hk e=>nw x hx (by rw[←e];exact hk))
 have last:∀(j:Nat) (x:PD),(ds++[d])[j]?=some x→(j<ds.length∧ds[j]?=some x)∨(j=ds.length∧x=d):=fun j x hx=>by
  by_cases hj:j<ds.length
  ·rw[List.getElem?_append_left hj]at hx;exact Or.inl ⟨hj,hx⟩
  ·rw[List.getElem?_append_right (by omega)]at hx
   by_cases e:j - ds.length=0
   ·rw[e]at hx;simp at hx;exact Or.inr ⟨by omega,hx.symm⟩
   ·rw[List.getElem?_eq_none (by simp;omega)]at hx;cases hx
 refine⟨?_,?_,?_,?_,?_,(h.JL.aA hc (fun k hk e=>h.nof.2 k e hk)).aA iL (fun k hk e=>h.nof.1 (by rw[←e];exact hk)),?_,h.Ec⟩
 ·have:=hb2.set (o:=0) v2
  simpa [Ry,lwC]using this
 ·rw[List.length_append,List.length_singleton,List.flatMap_append]
  have:=af hr iL (fun k hk e=>hv2 (by rw[hk,e]));simpa using this
 ·intro j x hx
  rcases last j x hx with ⟨_,hx⟩|⟨_,rfl⟩
  ·exact pair x (h.at_ j x hx)
  ·exact pair _ hd
 ·intro i j x y hx hy hne k a1 a2
  rcases last i x hx with ⟨_,hx'⟩|⟨e1,e4⟩<;>rcases last j y hy with ⟨_,hy'⟩|⟨e2,e3⟩
  ·exact h.dis i j x y hx' hy' hne k a1 a2
  ·rw[e3]at a2;exact h1 i x hx' k a1 a2
  ·rw[e4]at a1;exact h1 j y hy' k a2 a1
  ·omega
 ·intro j x hx k hk
  rcases last j x hx with ⟨_,hx⟩|⟨_,rfl⟩
  ·exact h.sep j x hx k hk
  ·exact h2 k hk
 ·refine(h.tab.aA hc (fun k hk=>Nat.le_trans h.Ec.1 (aF h.Gv hk))).aA iL (fun k e=>?_)
  rw[e];exact Nat.le_trans h.Ec.1 h.Ec.2
theorem dP.keeps{j:Nat}{u0:Value}{e:Ending}(h:dP B w wb lv bk G ds)(hj:j<4)
  (hu:∀b,u0.ownBlock=some b→B≤b∧b<w.heap.size∧b≠wb∧lv.ownBlock≠some b∧¬gB bk G b∧∀(i:Nat) (d:PD),ds[i]?=some d→¬d.foot b) (hp:Bd j B w wb lv bk (G.get j) u0 e w'):
  ∃Be G',dP B w' wb lv Be G' ds∧G'=G.set j (G'.get j)∧(G'.get j).length=(G.get j).length+4∧(∀b,gB Be G' b→gB bk G b∨u0.ownBlock=some b∨w.heap.size≤b)∧aj (fun b=>b=wb∨u0.ownBlock=some b∨gB bk G b) w w':=by
 obtain⟨Be,G',_,hk,hb,hG,hl,hF⟩:=h.JL.keeps hj h.blk (fun b hb=>⟨(hu b hb).2.2.2.2.1,(hu b hb).2.1⟩) hp;obtain⟨_,qc,u1,u2,u3,_,_,_,_,_,_,_,_,hc⟩:=hp;have hc':aj (fun b=>b=wb∨u0.ownBlock=some b∨gB bk G b) w w':=hc.mono (fun b _ e=>e.imp id (fun e=>e.imp id (fun e=>⟨j,hj,Or.inl e⟩)));have hwB:=h.Ec.2
 have agb:∀(i:Nat) (d:PD),ds[i]?=some d→∀k,d.foot k→¬(k=wb∨u0.ownBlock=some k∨gB bk G k):=fun i d hd k hk e=>by
  rcases e with e|e|e
  ·subst e;exact(h.at_ i d hd).Bf h.blk (by decide) (by decide) (by decide) (by decide) (by decide) (by decide) hk
  ·exact(hu k e).2.2.2.2.2 i d hd hk
  ·exact h.sep i d hd k hk e
 refine⟨Be,G',⟨hb,af h.Gv hc' ?_,fun i d hd=>(h.at_ i d hd).aA hc' (agb i d hd),h.dis,?_,hk,h.tab.aA hc' ?_,h.Ec⟩,hG,hl,hF,hc'⟩
 ·rintro k hk (e|e|e)
  ·subst e;exact ah h.Gv h.blk (by decide) hk
  ·exact(hu k e).2.2.2.1 hk
  ·exact h.nof.2 k hk e
 ·intro i d hd k hk hf
  rcases hF k hf with e|e|e
  ·exact h.sep i d hd k hk e
  ·exact(hu k e).2.2.2.2.2 i d hd hk
  ·have:=(h.at_ i d hd).lt hk;omega
 ·rintro k (e|e|e)
  ·rw[e];exact Nat.le_trans h.Ec.1 hwB
  ·exact Nat.le_trans h.Ec.1 (hu k e).1
  ·exact Nat.le_trans h.Ec.1 (h.JL.base e)
end
def prz:Value:=.agg #[.pointer none,.pointer none]
theorem Tryz.abP:(Tryz.prog.info? 143).map (fun i=>(i.zero,i.size,i.bytes))=some (some prz,2,16):=by kernel_rfl
theorem Vm{B:Nat}{w:World}{wb:Nat}{lv:Value}{bk:B4}{G:G4}{ds:List PD}(h:dP B w wb lv bk G ds)(hl:ds.length≤10000000):
  Calls Tryz.prog 62 #[.pointer (some ⟨wb,0,none⟩)] w fun e w'=>e=.returned (.bool true)∧∃qx d,dP B w' wb qx bk G (ds++[d])∧aj (fun b=>b=wb∨lv.ownBlock=some b) w w':=by
 obtain⟨Qn,tY,hlv,_,_⟩:=ag h.Gv;subst hlv;have JH:=ast (Qb w h.tab);have HL:=ast h;have hB:=h.le;have nX:=h.blk.lt;clear h;go_enter Tryz.func62,Tryz.ntmps62
 go_wp2_with fail
 refine JH.out.mono ?_;rintro e w1 ⟨bb,hbb,rfl,EZ,bT⟩;have WZ:=HL.out.below bT;have c0:w1.cell? ⟨wb,0,none⟩=some (.slice Qn ds.length tY):=WZ.blk.cell 0 _ rfl;have HPS:=ast EZ;have DU:=ast WZ;have Rq:=ast bT;have hs1:=bT.size;obtain⟨i0,hi,hz0,hz1,hz2⟩:=info_parts Tryz.abP;have HI:=ast (And.intro hi (And.intro hz0 (And.intro hz1 hz2)));clear JH EZ WZ bT hi hz0 hz1 hz2;obtain⟨sb,Zb⟩:=exq (w1.heap.size);obtain⟨X,hX⟩:=exq (w1.alloc (.cells #[.slice none 0 0,.int .i64 0,.int .i64 0] 176 (0,0)):World);have hbX:Below w1.heap.size w1 X:=by rw[hX];exact brq.alloc nrq _
 have ZY:X.heap.size=sb+1:=by rw[hX,Zb];simp
 have bU:az X sb #[.slice none 0 0,.int .i64 0,.int .i64 0] 176:=by rw[hX,Zb];exact ay w1 _ _
 obtain⟨Y,hY⟩:=exq (X.alloc (.cells #[.pointer (some ⟨bb,0,none⟩),.pointer (some ⟨sb,0,none⟩)] 143 (0,0)):World);have Am:Below X.heap.size X Y:=by rw[hY];exact brq.alloc nrq _
 have hYs:Y.heap.size=sb+1+1:=by rw[hY];simp[ZY]
 have hLY:dP B Y wb (.slice Qn ds.length tY) bk G ds:=(DU.out.below hbX).below Am;have hpY:iC Y bb (.slice none 0 0) (.slice none 0 0) [] 0 0 []:=(HPS.out.below hbX).below Am;have hrY:aK Y sb (.slice none 0 0) [] 0 0:=⟨bU.sub Am (by omega),⟨rfl,Or.inl ⟨rfl,rfl⟩⟩,by simp[Value.ownBlock]⟩
 have hft:∀k,(PD.fresh bb sb).foot k→k=bb∨k=sb:=fun k hk=>by
  rcases hk with e|e|e|e|e|e
  ·exact Or.inl e
  ·cases e
  ·cases e
  ·exact Or.inr e
  ·cases e
  ·exact e.elim
 have Lu:iV B Y (PD.fresh bb sb):=⟨hpY,mi.zero,hrY,⟨Alike.nil,kE.nil⟩,(fun x hx=>by cases hx),(fun k hk=>by rcases hft k hk with e|e<;>omega),bM.nil _ _,fun k hk=>hk.elim⟩;have hnew:∀k,(PD.fresh bb sb).foot k→w.heap.size≤k:=fun k hk=>by rcases hft k hk with e|e<;>omega
 have hn1:∀(i:Nat) (x:PD),ds[i]?=some x→∀k,x.foot k→¬(PD.fresh bb sb).foot k:=fun i x hx k hk e=>by
  have:=(HL.out.at_ i x hx).lt hk;have:=hnew k e;omega
 have hn2:∀k,(PD.fresh bb sb).foot k→¬gB bk G k:=fun k hk e=>by have:=HL.out.JL.lt e;have:=hnew k hk;omega
 have Ci:aj (fun b=>b=wb∨(Value.slice Qn ds.length tY).ownBlock=some b) w Y:=((aj.au Rq.out).trans (aj.au hbX)).trans (aj.au Am);have HLY:=ast hLY;have HDY:=ast Lu;have oC:=ast hn1;have vU:=ast hn2;have EO:=ast Ci;have HNE:=ast (show ∀j u,([.pointer (some ⟨bb,0,none⟩),.pointer (some ⟨sb,0,none⟩)]:List Value)[j]?=some u→Y.cell? ((Addr.mk (sb+1) 0 none).add j)=some u by rw[hY,←ZY];exact World.news_of_block (fr:=(0,0)) (heap_alloc_new X _));have Ed:=ast (show ∀u∈([.pointer (some ⟨bb,0,none⟩),.pointer (some ⟨sb,0,none⟩)]:List Value),u.oneCell'=true by intro u hu;simp at hu;rcases hu with rfl|rfl<;>rfl);have HQ:=ast (And.intro (show ds.length+1≤maxLen by unfold maxLen;omega) (show(ds.length+1)*16≤140737488355328 by omega));have nO:=ast (show B≤Y.heap.size by omega);have ZH:=ast hYs;clear hbX ZY bU Am hYs hLY hpY hrY hft Lu hnew hn1 hn2 Ci;subst hY;subst hX;subst Zb;go_wp2_with (at_builtin;refine wpList_append_lies _ rfl _ _ 76 rfl B 143 i0 prz 2 16 Tryz.underlying76 HI.out.1 HI.out.2.1 HI.out.2.2.1 HI.out.2.2.2 rfl (by decide) (.slice Qn ds.length tY) ds.length (ds.flatMap PD.cells) rfl HLY.out.Gv (Addr.mk (w1.heap.size+1) 0 none) 1 1 [.pointer (some ⟨bb,0,none⟩),.pointer (some ⟨w1.heap.size,0,none⟩)] rfl rfl HNE.out Ed.out (by decide) HQ.out.1 HQ.out.2 nO.out (w1.heap.size+1+1) ZH.out ?_)
 intro g2 bf w2 hr2 hg2 rV hlt2;have jh:aj (fun b=>(Value.slice Qn ds.length tY).ownBlock=some b) _ w2:=(aj.bD hg2).mono (fun k _ e=>e.symm)
 have hfin:=HLY.out.push HDY.out oC.out vU.out hr2 jh (fun k hk=>by
  simp only[Value.ownBlock,Option.some.injEq]at hk;subst hk;exact rV.imp id (fun e=>by rw[e,ZH.out];exact nrq))
 have hcw:aj (fun b=>b=wb∨(Value.slice Qn ds.length tY).ownBlock=some b) w w2:=EO.out.trans (jh.mono (fun k _ e=>Or.inr e));have hb2:=HLY.out.blk.aA jh (ah HLY.out.Gv HLY.out.blk (by decide));have d0:w2.cell? ⟨wb,0,none⟩=some (.slice Qn ds.length tY):=hb2.cell 0 _ rfl;have d1:=hb2.frozen 0;have Ls:=ast hfin;have Dz:=ast (hcw.setCell (p:=⟨wb,0,none⟩) (Or.inl rfl) (.slice (some ⟨g2,0,none⟩) (ds.length+1) bf));clear hr2 hg2 rV hlt2 jh hfin hcw hb2 c0;go_wp2_with fail
 go_ret
 exact⟨rfl,_,_,Ls.out,Dz.out⟩
end
end Go.Proofs.YtcphhbofjkenaaaGreatDoor
