import Derived.Test.YtcphhbofjkenaaaGreatDoorMy
import Derived.Test.YtcphhbofjkenaaaGreatDoorM00
import Derived.Test.YtcphhbofjkenaaaGreatDoorM05
namespace Go.Proofs.YtcphhbofjkenaaaGreatDoor
open Go Go.RowKit Proofs.Tryz
set_option linter.unusedVariables false
set_option linter.unusedSimpArgs false
set_option maxRecDepth 100000
set_option maxHeartbeats 16000000
theorem Qd{p:Prop}(h:p:=by
  go_roundw
  case rel=>
   refine⟨x,acc,hx2,ag,bO,hown,bL,?_⟩;have:=dv.out;rw[HQ.out]at this;exact this
  case measure=>have:=ub s j hlt HN;have:=HS.out;simp[intOf];omega):p:=h
theorem FN{p:Prop}(h:p:=by
  intro v' w1 hown' hgrow _;have hsz:=bL.size;have XU:Below w.heap.size w w1:=(bL.alloc hsz _).grown hgrow aK (fun k hk=>cR hown hk);clear hgrow hown;go_wp2_with fail;go_roundw
  case rel=>
   refine⟨m,acc++[(s.extract j m,j)],hm2,aK,bO,?_,XU,dv⟩;rw[Us];simpa using hown'
  case measure=>simp[intOf];omega):p:=h
theorem Nl{p:Prop}(h:p:=by
  show T=_
  have e:=Ij s j hlt HN Hu;rw[HS.out]at e;rw[vZ,List.singleton_append,←e];exact HT):p:=h
theorem QD{p:Prop}(h:p:=by
  have HQ:Hid (scan dY s m=x):=tL hx1 hx2 HX (aC ag);go_wp2_with fail;exact Qd):p:=h
section
open Go.RowKit
theorem Cs(s:ByteArray)(j:Nat)(b:Bool)(h:blk (aJ s j)=b)(c:Int)(hc:c=aJ s j)(w:World):
  Calls prog 127 #[.int .u8 c] w fun e w'=>e=.returned (.bool b)∧w'=w:=by
 subst hc;have hlt:=lh s j;refine(aaV _ w ag ag).mono ?_;rintro e w' ⟨rfl,rfl⟩;refine⟨?_,rfl⟩;rw[←h]
 have:((aJ s j:Int) == 32||(aJ s j:Int) == 9||(aJ s j:Int) == 10)=blk (aJ s j):=by
  unfold blk;rw[Bool.eq_iff_iff];simp;omega
 rw[this]
theorem NP:(note.toList == [92])=true:=by simp[note,Go.Lib.toList_data]
theorem Qu{a:ByteArray}(h:a.toList=[92]):a=note:=by
 have:a.data.toList=[92]:=by rw[←Go.Lib.toList_data];exact h
 have e:a.data= #[92]:=by rw[←Array.toArray_toList (xs:=a.data),this]
 cases a;simp_all[note]
theorem cR{w:World}{base:Nat}{e:TypeId}{size:Nat}{v:Value}{n:Nat}{xs:List Value}(h:w.ownsRow base e size v n xs){k:Nat}(hk:v.ownBlock=some k):base≤k:=by
 rcases h.2 with ⟨rfl,_⟩|⟨g,cap,cur,rfl,hg,_⟩
 ·cases hk
 ·simp[Value.ownBlock]at hk;omega
theorem MB(w:World)(a b:Value)(t:TypeId):∀j u,[a,b][j]?=some u→(w.alloc (.cells #[a,b] t)).cell? (((ai w.heap.size 0):Addr).add j)=some u:=by
 intro k u hu
 match k,hu with
 |0,hu=>simp at hu;subst hu;simp[Addr.add]
 |1,hu=>simp at hu;subst hu;simp[Addr.add]
theorem Py(a:ByteArray)(k:IntKind)(b:Int):∀u∈[Value.string a,Value.int k b],u.oneCell'=true:=by
 intro u hu;simp at hu;rcases hu with rfl|rfl<;>rfl
theorem Tryz.Tl:(prog.info? 213).map (fun i=>(i.zero,i.size,i.bytes))=some (some (.agg #[.string ⟨#[]⟩,ae 0]),2,24):=aP
theorem X8(s:ByteArray)(w:World)(hs:s.size≤1000000000):
  Calls prog 87 #[.string s] w fun e w'=>∃v,e=.returned v∧w'.ownsRow w.heap.size 213 2 v (cU s 0).length (vS (cU s 0))∧Below w.heap.size w w':=by
 obtain⟨i0,hi,hz0,hz1,hz2⟩:=info_parts Tryz.Tl;obtain⟨T,hT⟩:=ak (cU s 0);rw[←hT];go_enter func87,ntmps87;go_wp2;go_loopw[3,4] (fun v i wr=>∃(j:Nat) (acc:List Tk),j≤s.size∧acc.length≤j∧i=ae j∧wr.ownsRow w.heap.size 213 2 v acc.length (vS acc)∧Below w.heap.size w wr∧Hid (T=acc++cU s j)) (fun _ i _=>s.size - (intOf i).toNat)
 case atStart=>exact⟨0,[],bU _,aH,rfl,qQ _ _ _ _,aQ,hT⟩
 case round=>
  clear hT;obtain⟨j,acc,hj,Hx,rfl,hown,bL,HT⟩:=hrel
  by_cases hlt:j<s.size
  ·obtain⟨c,dK⟩:=ak (aJ s j:Int)
   have hck:((s[j]'hlt).toNat:Int)=c:=pW
   by_cases hb:blk (aJ s j)=true
   ·have hbl:=Cs s j true hb c dK
    have dv:Hid (T=acc++cU s (j+1)):=by show T=_;rw[←RZ s j hlt hb];exact HT
    have HB:Hid _:=hbl;clear hbl dK hb;go_wp2_with (go_at_call 127;refine(HB _).mono ?_;rintro e w' ⟨rfl,rfl⟩);go_roundw
    case rel=>exact⟨j+1,acc,ag,ag,bO,hown,bL,dv⟩
    case measure=>simp[intOf];omega
   ·have hb':blk (aJ s j)=false:=by simpa using hb
    have hbl:=Cs s j false hb' c dK;have HB:Hid _:=hbl;have HN:Hid (blk (aJ s j)=false):=hb';clear hbl dK hb hb';go_wp2_with (go_at_call 127;refine(HB _).mono ?_;rintro e w' ⟨rfl,rfl⟩);go_loop [5] (fun k=>∃m:Nat,j≤m∧m≤s.size∧k=ae m∧Hid (∀x,j≤x→x<m→blk (aJ s x)=false)) (fun k=>s.size - (intOf k).toNat)
    case atStart=>exact⟨j,aH,ag,rfl,fun x a b=>ag⟩
    case round=>
     obtain⟨m,hm1,hm2,rfl,HM⟩:=hrel;have out:∀(_:m=s.size∨blk (aJ s m)=true),scan blk s j=m:=fun h=>tL hm1 hm2 HM h
     have HO:Hid _:=out;clear out
     by_cases hms:m<s.size
     ·obtain⟨d,hdd⟩:=ak (aJ s m:Int)
      have nN:((s[m]'hms).toNat:Int)=d:=vQ
      by_cases hbm:blk (aJ s m)=true
      ·have aW:Hid _:=Cs s m true hbm d hdd
       have HS:Hid (scan blk s j=m):=HO.out (aA hbm);clear hbm hdd
       by_cases hn:s.extract j m=note
       ·have ht:((s.extract j m).toList == [92])=true:=by rw[hn];exact NP
        have dv:Hid (T=acc++cU s (scan dY s m)):=by
         show T=_
         have e:=De s j hlt HN Hu;rw[HS.out]at e;rw[←e];exact HT
        clear hn;go_wp2_with (go_at_call 127;refine(aW _).mono ?_;rintro e w' ⟨rfl,rfl⟩;clear nN hck);go_loop [5] (fun k=>∃x:Nat,m≤x∧x≤s.size∧k=ae x∧Hid (∀y,m≤y→y<x→dY (aJ s y)=false)) (fun k=>s.size - (intOf k).toNat)
        case atStart=>exact⟨m,aH,hm2,rfl,fun y a b=>ag⟩
        case round=>
         obtain⟨x,hx1,hx2,rfl,HX⟩:=hrel
         by_cases hxs:x<s.size
         ·obtain⟨d2,Hn⟩:=ak (aJ s x:Int)
          have aez:((s[x]'hxs).toNat:Int)=d2:=by rw[tB,Hn]
          by_cases gm:aJ s x=10
          ·have HQ:Hid (scan dY s m=x):=tL hx1 hx2 HX (aA (by simp[dY,gm]))
           have XH:(d2 == 10)=true:=aK;clear gm Hn;go_wp2_with fail;exact Qd
          ·have HE:Hid (dY (aJ s x)=false):=by show dY _=_;simp[dY,gm]
           have XH:(d2 == 10)=false:=aK;clear gm Hn;go_wp2_with fail;go_round
           case rel=>
            refine⟨x+1,ag,ag,bO,fun y a b=>?_⟩
            by_cases e:y=x
            ·subst e;exact HE
            ·exact HX y a ag
           case measure=>simp[intOf];omega
         ·exact QD
       ·have ht:((s.extract j m).toList == [92])=false:=by
         rw[beq_eq_false_iff_ne];intro e;apply hn;exact Qu e
        have dv:Hid (T=(acc++[(s.extract j m,j)])++cU s m):=by
         exact Nl
        have hjm:j<m:=by have:=ub s j hlt HN;have:=HS.out;omega
        clear hn;go_wp2_with (first|(at_builtin;refine wpList_append_own _ rfl _ _ 179 rfl w.heap.size 213 i0 (.agg #[.string ⟨#[]⟩,ae 0]) 2 24 underlying179 hi hz0 hz1 hz2 rfl aj _ _ _ rfl (hown.alloc _) (ai w'.heap.size 0) 1 1 [.string (s.extract j m),ae j] rfl rfl (MB _ _ _ _) (Py _ _ _) lu ag (by have:=bL.size;simp;omega) ?_)|(go_at_call 127;refine(aW _).mono ?_;rintro e w' ⟨rfl,rfl⟩;clear nN hck))
        ·exact FN
      ·have aW:Hid _:=Cs s m false (by simpa using hbm) d hdd
       have HX:Hid (blk (aJ s m)=false):=by show _=_;simpa using hbm
       clear hbm hdd;go_wp2_with (go_at_call 127;refine(aW _).mono ?_;rintro e w' ⟨rfl,rfl⟩);go_round
       case rel=>
        refine⟨m+1,ag,ag,bO,fun x a b=>?_⟩
        by_cases e:x=m
        ·subst e;exact HX
        ·exact HM x a ag
       case measure=>simp[intOf];omega
     ·have HS:Hid (scan blk s j=m):=HO.out (aC ag)
      clear hck
      by_cases hn:s.extract j m=note
      ·have ht:((s.extract j m).toList == [92])=true:=by rw[hn];exact NP
       have dv:Hid (T=acc++cU s (scan dY s m)):=by
        show T=_
        have e:=De s j hlt HN Hu;rw[HS.out]at e;rw[←e];exact HT
       clear hn;go_wp2_with fail;go_loop [5] (fun k=>∃x:Nat,m≤x∧x≤s.size∧k=ae x∧Hid (∀y,m≤y→y<x→dY (aJ s y)=false)) (fun k=>s.size - (intOf k).toNat)
       case atStart=>exact⟨m,aH,hm2,rfl,fun y a b=>ag⟩
       case round=>
        obtain⟨x,hx1,hx2,rfl,HX⟩:=hrel
        by_cases hxs:x<s.size
        ·exfalso;omega
        ·exact QD
      ·have ht:((s.extract j m).toList == [92])=false:=by
        rw[beq_eq_false_iff_ne];intro e;apply hn;exact Qu e
       have dv:Hid (T=(acc++[(s.extract j m,j)])++cU s m):=by
        exact Nl
       have hjm:j<m:=by have:=ub s j hlt HN;have:=HS.out;omega
       clear hn;go_wp2_with (at_builtin;refine wpList_append_own _ rfl _ _ 179 rfl w.heap.size 213 i0 (.agg #[.string ⟨#[]⟩,ae 0]) 2 24 underlying179 hi hz0 hz1 hz2 rfl aj _ _ _ rfl (hown.alloc _) (ai w'.heap.size 0) 1 1 [.string (s.extract j m),ae j] rfl rfl (MB _ _ _ _) (Py _ _ _) lu ag (by have:=bL.size;simp;omega) ?_)
       ·exact FN
  ·go_wp2_with fail
   go_ret
   have e:j=s.size:=ag;have:=HT.out;rw[FW s j ag,List.append_nil]at this;subst this;exact⟨_,rfl,hown,bL⟩
end
end Go.Proofs.YtcphhbofjkenaaaGreatDoor
