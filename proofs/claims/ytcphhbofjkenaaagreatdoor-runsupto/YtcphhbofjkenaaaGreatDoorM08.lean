import Derived.Test.YtcphhbofjkenaaaGreatDoorM00
import Derived.Test.YtcphhbofjkenaaaGreatDoorM07
namespace Go.Proofs.YtcphhbofjkenaaaGreatDoor
open Go Go.RowKit
set_option linter.unusedVariables false
set_option linter.unusedSimpArgs false
set_option maxRecDepth 100000
set_option maxHeartbeats 16000000
section
open Go.RowKit
theorem uS(s:ByteArray)(j:Nat)(b:Bool)(h:blk (aI s j)=b)(c:Int)(hc:c=aI s j)(w:World):
  Calls Tryz.prog 127 #[.int .u8 c] w fun e w'=>e=.returned (.bool b)∧w'=w:=by
 subst hc;have hlt:=dS s j;refine(OM _ w (by omega) (by omega)).mono ?_;rintro e w' ⟨rfl,rfl⟩;refine⟨?_,rfl⟩;rw[←h]
 have:((aI s j:Int) == 32||(aI s j:Int) == 9||(aI s j:Int) == 10)=blk (aI s j):=by
  unfold blk;rw[Bool.eq_iff_iff];simp;omega
 rw[this]
theorem Dx:(note.toList == [92])=true:=by simp[note,Go.Lib.toList_data]
theorem xX{a:ByteArray}(h:a.toList=[92]):a=note:=by
 have:a.data.toList=[92]:=by rw[←Go.Lib.toList_data];exact h
 have e:a.data= #[92]:=by rw[←Array.toArray_toList (xs:=a.data),this]
 cases a;simp_all[note]
theorem aF{w:World}{base:Nat}{e:TypeId}{size:Nat}{v:Value}{n:Nat}{xs:List Value}(h:w.ownsRow base e size v n xs){k:Nat}(hk:v.ownBlock=some k):base≤k:=by
 rcases h.2 with ⟨rfl,_⟩|⟨g,cap,cur,rfl,hg,_⟩
 ·cases hk
 ·simp[Value.ownBlock]at hk;omega
theorem Zd(w:World)(a b:Value)(t:TypeId):∀j u,[a,b][j]?=some u→(w.alloc (.cells #[a,b] t)).cell? ((⟨w.heap.size,0,none⟩:Addr).add j)=some u:=by
 intro k u hu
 match k,hu with
 |0,hu=>simp at hu;subst hu;simp[Addr.add]
 |1,hu=>simp at hu;subst hu;simp[Addr.add]
theorem aef(a:ByteArray)(k:IntKind)(b:Int):∀u∈[Value.string a,Value.int k b],u.oneCell'=true:=by
 intro u hu;simp at hu;rcases hu with rfl|rfl<;>rfl
theorem Tryz.aaz:(Tryz.prog.info? 213).map (fun i=>(i.zero,i.size,i.bytes))=some (some (.agg #[.string ⟨#[]⟩,.int .i64 0]),2,24):=by kernel_rfl
theorem JZ(s:ByteArray)(w:World)(hs:s.size≤1000000000):
  Calls Tryz.prog 87 #[.string s] w fun e w'=>∃v,e=.returned v∧w'.ownsRow w.heap.size 213 2 v (aZ s 0).length (mD (aZ s 0))∧Below w.heap.size w w':=by
 obtain⟨i0,hi,hz0,hz1,hz2⟩:=info_parts Tryz.aaz;obtain⟨T,hT⟩:=exq (aZ s 0);rw[←hT];go_enter Tryz.func87,Tryz.ntmps87
 go_wp2
 go_loopw[3,4] (fun v i wr=>∃(j:Nat) (acc:List Tk),j≤s.size∧acc.length≤j∧i=.int .i64 j∧wr.ownsRow w.heap.size 213 2 v acc.length (mD acc)∧Below w.heap.size w wr∧Hid (T=acc++aZ s j)) (fun _ i _=>s.size - (intOf i).toNat)
 case atStart=>exact⟨0,[],Nat.zero_le _,nrq,rfl,World.ownsRow_nil _ _ _ _,brq,hT⟩
 case round=>
  clear hT;obtain⟨j,acc,hj,aaA,rfl,hown,bT,HT⟩:=hrel
  by_cases hlt:j<s.size
  ·obtain⟨c,jB⟩:=exq (aI s j:Int)
   have hck:((s[j]'hlt).toNat:Int)=c:=by rw[dC,jB]
   by_cases hb:blk (aI s j)=true
   ·have hbl:=uS s j true hb c jB
    have rQ:Hid (T=acc++aZ s (j+1)):=by show T=_;rw[←uG s j hlt hb];exact HT.out
    have HB:Hid _:=hbl;clear hbl jB hb;go_wp2_with (go_at_call 127;refine(HB.out _).mono ?_;rintro e w' ⟨rfl,rfl⟩)
    go_roundw
    case rel=>exact⟨j+1,acc,by omega,by omega,by go_num,hown,bT,rQ⟩
    case measure=>simp[intOf];omega
   ·have hb':blk (aI s j)=false:=by simpa using hb
    have hbl:=uS s j false hb' c jB;have HB:Hid _:=hbl;have HN:Hid (blk (aI s j)=false):=hb';clear hbl jB hb hb';go_wp2_with (go_at_call 127;refine(HB.out _).mono ?_;rintro e w' ⟨rfl,rfl⟩)
    go_loop [5] (fun k=>∃m:Nat,j≤m∧m≤s.size∧k=.int .i64 m∧Hid (∀x,j≤x→x<m→blk (aI s x)=false)) (fun k=>s.size - (intOf k).toNat)
    case atStart=>exact⟨j,nrq,by omega,rfl,fun x a b=>by omega⟩
    case round=>
     obtain⟨m,hm1,hm2,rfl,HM⟩:=hrel;have out:∀(_:m=s.size∨blk (aI s m)=true),scan blk s j=m:=fun h=>jJ hm1 hm2 HM.out h
     have HO:Hid _:=out;clear out
     by_cases hms:m<s.size
     ·obtain⟨d,hdd⟩:=exq (aI s m:Int)
      have JA:((s[m]'hms).toNat:Int)=d:=by rw[dC,hdd]
      by_cases hbm:blk (aI s m)=true
      ·have gK:Hid _:=uS s m true hbm d hdd
       have HS:Hid (scan blk s j=m):=HO.out (Or.inr hbm);clear hbm hdd
       by_cases hn:s.extract j m=note
       ·have ht:((s.extract j m).toList == [92])=true:=by rw[hn];exact Dx
        have rQ:Hid (T=acc++aZ s (scan oD s m)):=by
         show T=_
         have e:=mr s j hlt HN.out (by rw[HS.out];exact hn);rw[HS.out]at e;rw[←e];exact HT.out
        clear hn;go_wp2_with (go_at_call 127;refine(gK.out _).mono ?_;rintro e w' ⟨rfl,rfl⟩;clear JA hck)
        go_loop [5] (fun k=>∃x:Nat,m≤x∧x≤s.size∧k=.int .i64 x∧Hid (∀y,m≤y→y<x→oD (aI s y)=false)) (fun k=>s.size - (intOf k).toNat)
        case atStart=>exact⟨m,nrq,hm2,rfl,fun y a b=>by omega⟩
        case round=>
         obtain⟨x,hx1,hx2,rfl,HX⟩:=hrel
         by_cases hxs:x<s.size
         ·obtain⟨d2,aaB⟩:=exq (aI s x:Int)
          have aoU:((s[x]'hxs).toNat:Int)=d2:=by rw[dC,aaB]
          by_cases uT:aI s x=10
          ·have HQ:Hid (scan oD s m=x):=jJ hx1 hx2 HX.out (Or.inr (by simp[oD,uT]))
           have ajn:(d2 == 10)=true:=by simp;omega
           clear uT aaB;go_wp2_with fail
           go_roundw
           case rel=>
            refine⟨x,acc,hx2,by omega,by go_num,hown,bT,?_⟩;have:=rQ.out;rw[HQ.out]at this;exact this
           case measure=>have:=dU s j hlt HN.out;have:=HS.out;simp[intOf];omega
          ·have HE:Hid (oD (aI s x)=false):=by show oD _=_;simp[oD,uT]
           have ajn:(d2 == 10)=false:=by simp;omega
           clear uT aaB;go_wp2_with fail
           go_round
           case rel=>
            refine⟨x+1,by omega,by omega,by go_num,fun y a b=>?_⟩
            by_cases e:y=x
            ·subst e;exact HE.out
            ·exact HX.out y a (by omega)
           case measure=>simp[intOf];omega
         ·have HQ:Hid (scan oD s m=x):=jJ hx1 hx2 HX.out (Or.inl (by omega))
          go_wp2_with fail
          go_roundw
          case rel=>
           refine⟨x,acc,hx2,by omega,by go_num,hown,bT,?_⟩;have:=rQ.out;rw[HQ.out]at this;exact this
          case measure=>have:=dU s j hlt HN.out;have:=HS.out;simp[intOf];omega
       ·have ht:((s.extract j m).toList == [92])=false:=by
         rw[beq_eq_false_iff_ne];intro e;apply hn;exact xX e
        have rQ:Hid (T=(acc++[(s.extract j m,j)])++aZ s m):=by
         show T=_
         have e:=oG s j hlt HN.out (by rw[HS.out];exact hn);rw[HS.out]at e;rw[List.append_assoc,List.singleton_append,←e];exact HT.out
        have Ze:j<m:=by have:=dU s j hlt HN.out;have:=HS.out;omega
        clear hn;go_wp2_with (first|(at_builtin;refine wpList_append_own _ rfl _ _ 179 rfl w.heap.size 213 i0 (.agg #[.string ⟨#[]⟩,.int .i64 0]) 2 24 Tryz.underlying179 hi hz0 hz1 hz2 rfl (by decide) _ _ _ rfl (hown.alloc _) ⟨w'.heap.size,0,none⟩ 1 1 [.string (s.extract j m),.int .i64 j] rfl rfl (Zd _ _ _ _) (aef _ _ _) (by unfold maxLen;omega) (by omega) (by have:=bT.size;simp;omega) ?_)|(go_at_call 127;refine(gK.out _).mono ?_;rintro e w' ⟨rfl,rfl⟩;clear JA hck))
        ·intro v' w1 hown' hgrow _
         have hsz:=bT.size;have Td:Below w.heap.size w w1:=(bT.alloc hsz _).grown hgrow (by simp;omega) (fun k hk=>aF hown hk);clear hgrow hown;go_wp2_with fail
         go_roundw
         case rel=>
          refine⟨m,acc++[(s.extract j m,j)],hm2,by simp;omega,by go_num,?_,Td,rQ⟩;rw[uH];simpa using hown'
         case measure=>simp[intOf];omega
      ·have gK:Hid _:=uS s m false (by simpa using hbm) d hdd
       have HX:Hid (blk (aI s m)=false):=by show _=_;simpa using hbm
       clear hbm hdd;go_wp2_with (go_at_call 127;refine(gK.out _).mono ?_;rintro e w' ⟨rfl,rfl⟩)
       go_round
       case rel=>
        refine⟨m+1,by omega,by omega,by go_num,fun x a b=>?_⟩
        by_cases e:x=m
        ·subst e;exact HX.out
        ·exact HM.out x a (by omega)
       case measure=>simp[intOf];omega
     ·have HS:Hid (scan blk s j=m):=HO.out (Or.inl (by omega))
      clear hck
      by_cases hn:s.extract j m=note
      ·have ht:((s.extract j m).toList == [92])=true:=by rw[hn];exact Dx
       have rQ:Hid (T=acc++aZ s (scan oD s m)):=by
        show T=_
        have e:=mr s j hlt HN.out (by rw[HS.out];exact hn);rw[HS.out]at e;rw[←e];exact HT.out
       clear hn;go_wp2_with fail
       go_loop [5] (fun k=>∃x:Nat,m≤x∧x≤s.size∧k=.int .i64 x∧Hid (∀y,m≤y→y<x→oD (aI s y)=false)) (fun k=>s.size - (intOf k).toNat)
       case atStart=>exact⟨m,nrq,hm2,rfl,fun y a b=>by omega⟩
       case round=>
        obtain⟨x,hx1,hx2,rfl,HX⟩:=hrel
        by_cases hxs:x<s.size
        ·exfalso;omega
        ·have HQ:Hid (scan oD s m=x):=jJ hx1 hx2 HX.out (Or.inl (by omega))
         go_wp2_with fail
         go_roundw
         case rel=>
          refine⟨x,acc,hx2,by omega,by go_num,hown,bT,?_⟩;have:=rQ.out;rw[HQ.out]at this;exact this
         case measure=>have:=dU s j hlt HN.out;have:=HS.out;simp[intOf];omega
      ·have ht:((s.extract j m).toList == [92])=false:=by
        rw[beq_eq_false_iff_ne];intro e;apply hn;exact xX e
       have rQ:Hid (T=(acc++[(s.extract j m,j)])++aZ s m):=by
        show T=_
        have e:=oG s j hlt HN.out (by rw[HS.out];exact hn);rw[HS.out]at e;rw[List.append_assoc,List.singleton_append,←e];exact HT.out
       have Ze:j<m:=by have:=dU s j hlt HN.out;have:=HS.out;omega
       clear hn;go_wp2_with (at_builtin;refine wpList_append_own _ rfl _ _ 179 rfl w.heap.size 213 i0 (.agg #[.string ⟨#[]⟩,.int .i64 0]) 2 24 Tryz.underlying179 hi hz0 hz1 hz2 rfl (by decide) _ _ _ rfl (hown.alloc _) ⟨w'.heap.size,0,none⟩ 1 1 [.string (s.extract j m),.int .i64 j] rfl rfl (Zd _ _ _ _) (aef _ _ _) (by unfold maxLen;omega) (by omega) (by have:=bT.size;simp;omega) ?_)
       ·intro v' w1 hown' hgrow _
        have hsz:=bT.size;have Td:Below w.heap.size w w1:=(bT.alloc hsz _).grown hgrow (by simp;omega) (fun k hk=>aF hown hk);clear hgrow hown;go_wp2_with fail
        go_roundw
        case rel=>
         refine⟨m,acc++[(s.extract j m,j)],hm2,by simp;omega,by go_num,?_,Td,rQ⟩;rw[uH];simpa using hown'
        case measure=>simp[intOf];omega
  ·go_wp2_with fail
   go_ret
   have e:j=s.size:=by omega
   have:=HT.out;rw[sO s j (by omega),List.append_nil]at this;subst this;exact⟨_,rfl,hown,bT⟩
end
end Go.Proofs.YtcphhbofjkenaaaGreatDoor
