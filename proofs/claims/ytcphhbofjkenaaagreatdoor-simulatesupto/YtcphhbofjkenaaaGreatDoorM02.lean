import Derived.BigQuiet
import Derived.StillTail
import Derived.Test.YtcphhbofjkenaaaGreatDoorMz
namespace Go.Proofs.YtcphhbofjkenaaaGreatDoor
open Go Go.RowKit
set_option linter.unusedVariables false
set_option linter.unusedSimpArgs false
set_option maxRecDepth 100000
set_option maxHeartbeats 16000000
variable{v:Value}{id B:Nat}{Q:Exit→Act→World→Prop}{a:Act}{w w0 w1:World}{l:List Oper}{P:Program}{f:FuncId}{args:Array Value}{b:Obj}
theorem LF{p:Prop}(h:p:=by
  rcases kh j n with h|h
  ·exact h
  ·exact absurd hj (tail_waits hs hc hn inv _ i rfl hin jB j h)):p:=h
section
section
variable{P:Program}{ops:Array Oper}{md:Region.Mode}{C:World→Prop}
def yx(P:Program)(md:Region.Mode)(ops:Array Oper)(C:World→Prop)(n:Nat)(L:Array Bool→Act→Prop):Nat→Array Bool→Act→Prop
 |0,listed,a=>L listed a
 |f+1,listed,a=>
  Region.ready md ops listed≠[]∧∀i∈Region.ready md ops listed,i<n∧qOp P ops C i (yx P md ops C n L f (listed.setIfInBounds i true)) a
theorem EJ{n g:Nat}{L:Array Bool→Act→Prop}{Q':Exit→Act→World→Prop}(hL:∀listed a w,C w→L listed a→wpAny P md ops Q' g listed a w):
  ∀(f:Nat) (listed:Array Bool) (a:Act) (w:World),C w→yx P md ops C n L f listed a→wpAny P md ops Q' (f+g) listed a w
 |0,listed,a,w,hw,h=>by rw[Nat.zero_add];exact hL _ _ _ hw h
 |f+1,listed,a,w,hw,h=>by
  rw[show f+1+g=(f+g)+1 by omega];exact⟨fun h0=>absurd h0 h.1,fun i hi=>wpOp_of_qOp hw (fun a' w' hw' h'=>EJ hL f _ a' w' hw' h') (h.2 i hi).2⟩
theorem ER{n i:Nat}{oi:Oper}{L:Array Bool→Act→Prop}(hi:ops[i]?=some oi)(dN:∀(j:Nat) (o:Oper) cs b,ops[j]?=some o→o.op≠.select cs b)
  (hs:Region.sinkB md ops n=true) (hc:Region.chainB md ops n=true) (hn:n<ops.size) (hin:i<n)
  (hdone:∀listed a,L listed a→∀j∈Region.ready md ops listed,n≤j):
  ∀(f:Nat) (listed:Array Bool) (a:Act),HeadInv md ops n listed→
   (∀j oj,ops[j]?=some oj→j≠i→listed.getD j true=false→(∀e∈oj.after,Region.binds md e=true→e.on≠i)→oi.apart ops oj=true)→
   i∈Region.ready md ops listed→YieldsIn P ops C oi v a→
   yx P md ops C n L f (listed.setIfInBounds i true) (a.put oi.dst v)→yx P md ops C n L (f+1) listed a:=by
 intro f
 induction f with
 |zero=>
  intro listed a inv _ hr hy H;have jB:=(mem_ready.1 hr).1;refine⟨fun h=>vT,fun j hj=>?_⟩
  have hjn:j<n:=by
   exact LF
  refine⟨hjn,?_⟩
  by_cases hji:j=i
  ·subst hji;exact hy.qOp hi H
  ·have:=hdone _ _ H j (ready_mono hj hji)
   omega
 |succ f ih=>
  intro listed a inv nu hr hy H;have jB:=(mem_ready.1 hr).1;refine⟨fun h=>vT,fun j hj=>?_⟩
  have hjn:j<n:=by
   exact LF
  refine⟨hjn,?_⟩
  by_cases hji:j=i
  ·subst hji;exact hy.qOp hi H
  ·have h1:=(H.2 j (ready_mono hj hji)).2
   obtain⟨uy,oj,gZ,hall⟩:=mem_ready.1 hj
   have tS:∀e∈oj.after,Region.binds md e=true→e.on≠i:=fun e he hb heq=>by
    have h1:=hall e he hb;rw[heq,getD_both jB]at h1
    cases h1
   have h2:=qOp_put gZ (nu j oj gZ hji uy tS) (fun cs b=>dN i oi cs b hi) (fun cs b=>dN j oj cs b gZ) hy h1
   have uC:∀k ok,ops[k]?=some ok→k≠i→(listed.setIfInBounds j true).getD k true=false→
     (∀e∈ok.after,Region.binds md e=true→e.on≠i)→oi.apart ops ok=true:=fun k ok hk fD jB hno=>by
    refine nu k ok hk fD ?_ hno
    by_cases hjk:j=k
    ·subst hjk;exact uy
    ·rw[getD_set_ne true hjk]at jB;exact jB
   refine qOp_mono (fun a' h3=>ih (listed.setIfInBounds j true) a' (inv.set hj hjn) uC (ready_mono hr (Ne.symm hji)) h3.1 ?_) h2;rw[vW _ _ hji];exact h3.2
theorem OW{n g:Nat}{Lq:Act→Prop}(dN:Region.noSelect ops=true)(hs:Region.sinkB md ops n=true)(hc:Region.chainB md ops n=true)(hn:n<ops.size):
  ∀(l:List Oper) (k:Nat) (listed:Array Bool) (a:Act),(∀j,j<l.length→l[j]?=ops[k+j]?)→k+l.length=n→HeadInv md ops n listed→
  Region.lexHead md ops g l.length k listed=true→wpQuiet P ops C Lq l a→
  yx P md ops C n (fun listed' a'=>Region.seqB md ops g n listed'=true∧Lq a') l.length listed a
 |[],k,listed,a,_,hk,_,hB,h=>by
  have:k=n:=by simpa using hk
  subst this;exact⟨by simpa [Region.lexHead]using hB,h⟩
 |o :: l,k,listed,a,hl,hk,inv,hB,h=>by
  have h0:ops[k]?=some o:=by simpa using(hl 0 aF).symm
  simp only[fA,Region.lexHead,Bool.and_eq_true]at hB;obtain⟨⟨hr,hf⟩,hB'⟩:=hB;have hkn:k<n:=Cn;have hr':k∈Region.ready md ops listed:=vD;have hst:qOp P ops C k (wpQuiet P ops C Lq l) a:=by unfold qOp;simp only[h0];exact h
  obtain⟨v,hy,hK⟩:=yieldsIn_of_qOp h0 hst
  exact ER h0 (Region.noSelect_spec dN) hs hc hn hkn (fun listed' a' hL=>seqB_ready hL.1) l.length listed a inv (Region.free_spec h0 hf) hr' hy
   (OW dN hs hc hn l (k+1) _ _ (fun j hj=>Ql) Cn (inv.set hr' hkn) hB' hK)
theorem U4(n:Nat)(hm:P.follows .mixedOrders=true)(hB:Region.lexTailB .any l.toArray n=true)
  (hC:C {w with drawn:=w.drawn+1})
  (h:wpQuiet P l.toArray C (fun a'=>∀w',C w'→wpList P l.toArray Q (l.drop n) a' w') (l.take n) a):(Code.region id l.toArray true).wp P Q a w:=by
 simp only[Region.lexTailB,Bool.and_eq_true,decide_eq_true_eq]at hB;obtain⟨⟨⟨⟨dN,hn⟩,hs⟩,hc⟩,Ez⟩:=hB;have hn':n<l.length:=by simpa using hn
 have htl:(l.take n).length=n:=aK;have hdl:(l.drop n).length=l.toArray.size - n:=aF
 have ux:HeadInv .any l.toArray n (Array.replicate l.toArray.size false):=
  ⟨aF,fun j oj _ hl=>AK,fun t _ ht=>getD_in zY (getD_replicate_false _ _)⟩
 have H:=OW (md:=.any) (g:=l.toArray.size - n) dN hs hc hn (l.take n) 0 _ a (fun j hj=>by
  have hj':j<n:=by rw[htl]at hj;exact hj
  simp[hj']) (by simpa using htl) ux (by rw[htl];exact Ez) h
 refine wp_region_any hm ?_
 have:=EJ (Q':=Q) (g:=l.toArray.size - n) (fun listed a' w' hw' hL=>by
  have:=wpAny_of_seq (md:=.any) (Q':=Q) (l.drop n) n listed a' w' (fun j=>by simp[List.getElem?_drop]) Ah (hL.2 w' hw')
  rwa [hdl]at this) _ _ _ _ hC H
 rw[htl,show n+(l.toArray.size - n)=l.toArray.size by omega]at this;exact this
end
structure bN (B:Nat) (w0:World) where
 val:World
 below:Below B w0 val
theorem bN.ne(B:Nat)(w0:World):Nonempty (bN B w0):=⟨⟨w0,Below.refl B w0⟩⟩
theorem bN.cell(u:bN B w0)(b o:Nat)(h:b<B):u.val.cell? (ai b o)=w0.cell? (ai b o):=u.below.cell (p:=ai b o) h
theorem bN.calls(hB:B≤w0.heap.size)(u:bN B w0)
  (h:Calls P f args u.val fun e w'=>e=.returned v∧Below u.val.heap.size u.val w'):Calls P f args u.val fun e w'=>e=.returned v∧∃u':bN B w0,w'=u'.val:=
 h.mono fun _ w' ⟨he,hb⟩=>⟨he,⟨⟨w',u.below.trans (hb.mono (bB hB u.below.size))⟩,rfl⟩⟩
theorem bN.Mw(u:bN B w0)
  (h:Calls P f args u.val fun e w'=>e=.returned v∧w'=u.val):Calls P f args u.val fun e w'=>e=.returned v∧∃u':bN B w0,w'=u'.val:=
 h.mono fun _ _ ⟨he,hb⟩=>⟨he,u,hb⟩
theorem vU(B:Nat)(n:Nat)(hm:P.follows .mixedOrders=true)(hB:Region.lexTailB .any l.toArray n=true)
  (h:wpQuiet P l.toArray (fun w'=>∃u:bN B w,w'=u.val) (fun a'=>∀u:bN B w,wpList P l.toArray Q (l.drop n) a' u.val) (l.take n) a):(Code.region id l.toArray true).wp P Q a w:=
 U4 (C:=fun w'=>∃u:bN B w,w'=u.val) n hm hB ⟨⟨w.drew,(Below.refl B w).drew⟩,rfl⟩ (by
  have e:(fun a'=>∀w',(∃u:bN B w,w'=u.val)→wpList P l.toArray Q (l.drop n) a' w')=(fun a'=>∀u:bN B w,wpList P l.toArray Q (l.drop n) a' u.val):=by
   funext a'
   exact propext ⟨fun k u=>k _ ⟨u,rfl⟩,fun k w' ⟨u,hu⟩=>hu ▸ k u⟩
  rw[e];exact h)
theorem Fb(B:Nat)(hm:P.follows .mixedOrders=true)(hB:Region.lexB .any l.toArray=true)
  (h:wpQuiet P l.toArray (fun w'=>∃u:bN B w,w'=u.val) (fun a'=>∀u:bN B w,Q .normal a' u.val) l a):(Code.region id l.toArray true).wp P Q a w:=
 wp_region_quiet (C:=fun w'=>∃u:bN B w,w'=u.val) hm hB ⟨⟨w.drew,(Below.refl B w).drew⟩,rfl⟩ (by
  have e:(fun a'=>∀w',(∃u:bN B w,w'=u.val)→Q .normal a' w')=(fun a'=>∀u:bN B w,Q .normal a' u.val):=by
   funext a'
   exact propext ⟨fun k u=>k _ ⟨u,rfl⟩,fun k w' ⟨u,hu⟩=>hu ▸ k u⟩
  rw[e];simpa using h)
theorem zE{a:Obj}(hb:Below (w.heap.size+1) (w.alloc a) w1):Below w.heap.size w w1:=
 (aQ.alloc aH _).trans (hb.mono ag)
theorem tz{a:Obj}(hb:Below (w.heap.size+1+1) ((w.alloc a).alloc b) w1):Below w.heap.size w w1:=
 zE (zE (w:=w.alloc a) xy |>.mono aF)
theorem Iu{a c:Obj}(hb:Below (w.heap.size+1+1+1) (((w.alloc a).alloc b).alloc c) w1):Below w.heap.size w w1:=
 tz (zE (w:=(w.alloc a).alloc b) xy |>.mono aF)
end
end Go.Proofs.YtcphhbofjkenaaaGreatDoor
