import Derived.Deep.AppendLies
import Derived.Test.YtcphhbofjkenaaaGreatDoorM00
import Derived.Test.YtcphhbofjkenaaaGreatDoorM02
namespace Go.Proofs.YtcphhbofjkenaaaGreatDoor
open Go Go.RowKit
set_option linter.unusedVariables false
set_option linter.unusedSimpArgs false
set_option maxRecDepth 100000
set_option maxHeartbeats 16000000
variable{a a':Act}{o oi oj om ok:Oper}{v:Value}{i j n m k id B:Nat}{K:Act→Prop}{K':Act→World→Prop}{Q':Exit→Act→World→Prop}{w W:World}{G:Nat→Prop}{z:Obj}{l:List Oper}{cs:Array Value}{T:TypeId}{S:Option Nat}{P:Program}{R:Value→World→Prop}{τ ds:List Nat}{ops:Array Oper}{C:World→Prop}
theorem JL{p:Prop}(h:p:=by
  split
  ·exact h _ (by simpa [*]using hh)
  ·rename_i o ho
   simp only[ho]at hh
   split
   ·rename_i hw;simp only[hw,if_true]at hh;obtain⟨v,h1,h2⟩:=hh;exact⟨v,h1,h _ h2⟩
   ·rename_i hw;simp only[hw]at hh;exact h _ hh):p:=h
theorem NY{p:Prop}(h:p:=by
  by_cases hw:Region.wanted o (yielded ops a.tmps)=true
  ·simp only[hw,if_true]at h
   obtain⟨v,h1,h2⟩:=h;exact⟨v,.inl ⟨hw,h1⟩,h2⟩
  ·simp only[hw]at h
   exact⟨undef,.inr ⟨by simpa using hw,rfl⟩,h⟩):p:=h
theorem G9{p:Prop}(h:p:=by
  refine nu i oi hi hik ?_ hno
  by_cases hji:j=i
  ·subst hji;exact uy
  ·rw[getD_set_ne true hji]at wC;exact wC):p:=h
theorem Pe{p:Prop}(h:p:=by
  exact hy.of_same (execOp_put ok (fun cs b=>dN k ok cs b hk) a oj.dst u p3) (wanted_put ok a oj.dst u p3)):p:=h
theorem Rh{p:Prop}(h:p:=by
  refine nu i oi hi hik ?_ hno
  by_cases hij:j=i
  ·subst hij;exact hml
  ·rw[getD_set_ne true hij]at wC;exact wC):p:=h
theorem MT{p:Prop}(h:p:=by
  rcases kh j n with h|h
  ·exact h
  ·exact absurd hj (tail_waits hs hc hn inv _ k rfl hkn jB j h)):p:=h
theorem NN{p:Prop}(h:p:=by
  exact⟨h2,aC (BG (fun s' a' h'=>yT dN hs hc hn f t2 s' _ a' (inv.set hi' h2) c2 h') g2)⟩):p:=h
theorem Kk{p:Prop}(h:p:=by
  exact⟨h1,aC (BG (fun s' a' h'=>yT dN hs hc hn f t s' _ a' (inv.set hi' h1) c1 h') g1)⟩):p:=h
section
section
variable{P:Program}{ops:Array Oper}{md:Region.Mode}{C:Option Nat→World→Prop}
def ui(P:Program)(o:Oper)(a:Act)(C:Option Nat→World→Prop)(next:Act→Prop):Prop:=∃v,(∀S w,C S w→o.quietAt P a (C S) w v)∧next (a.put o.dst v)
def uP(P:Program)(ops:Array Oper)(C:Option Nat→World→Prop)(Q:Act→Prop):List Oper→Act→Prop
 |[],a=>Q a
 |o :: rest,a=>if Region.wanted o (yielded ops a.tmps)then ui P o a C (uP P ops C Q rest)else uP P ops C Q rest (a.put o.dst undef)
theorem uU{Q:Act→Prop}(h:Q a):uP P ops C Q [] a:=h
theorem uB{Q:Act→Prop}{rest:List Oper}
  (h:∀K:Act→Prop,(∀a,uP P ops C Q rest a→K a)→if Region.wanted o (yielded ops a.tmps)then ui P o a C K else K (a.put o.dst undef)):uP P ops C Q (o :: rest) a:=
 h _ (fun _ h=>h)
def nh(P:Program)(ops:Array Oper)(C:Option Nat→World→Prop)(o:Oper)(v:Value)(a:Act):Prop:=
 (Region.wanted o (yielded ops a.tmps)=true∧∀S w,C S w→o.quietAt P a (C S) w v)∨
 (Region.wanted o (yielded ops a.tmps)=false∧v=undef)
theorem nh.one(h:nh P ops C o v a)(S:Option Nat):YieldsIn P ops (C S) o v a:=by
 rcases h with ⟨h1,h2⟩|h
 ·exact aC ⟨h1,h2 S⟩
 ·exact aA h
theorem nh.of_same(hy:nh P ops C o v a)(he:execOp a'.eval o=execOp a.eval o)
  (hw:Region.wanted o (yielded ops a'.tmps)=Region.wanted o (yielded ops a.tmps)):nh P ops C o v a':=by
 unfold nh Oper.quietAt at *;rw[he,hw];exact hy
def fOp(P:Program)(ops:Array Oper)(C:Option Nat→World→Prop)(i:Nat)(K:Act→Prop)(a:Act):Prop:=
 match ops[i]? with
 |none=>K a
 |some o=>if Region.wanted o (yielded ops a.tmps)then ui P o a C K else K (a.put o.dst undef)
theorem ZZ{K':Act→Prop}(h:∀a,K a→K' a)(hh:fOp P ops C i K a):fOp P ops C i K' a:=by
 unfold fOp at *;exact JL
theorem nh.fOp{i:Nat}{o:Oper}{v:Value}{a:Act}(hi:ops[i]?=some o)(hy:nh P ops C o v a){K:Act→Prop}(h:K (a.put o.dst v)):fOp P ops C i K a:=by
 unfold Go.Proofs.YtcphhbofjkenaaaGreatDoor.fOp;simp only[hi];rcases hy with ⟨hw,hv⟩|⟨hw,rfl⟩
 ·simp only[hw,if_true];exact⟨v,hv,h⟩
 ·simp only[hw,Bool.false_eq_true,if_false];exact h
theorem Zd(hi:ops[i]?=some o)(h:fOp P ops C i K a):∃v,nh P ops C o v a∧K (a.put o.dst v):=by
 unfold fOp at h;simp only[hi]at h;exact NY
theorem Yv(hj:ops[j]?=some oj)(hap:oi.apart ops oj=true)
  (hsi:∀cs b,oi.op≠.select cs b) (hsj:∀cs b,oj.op≠.select cs b)
  (hy:nh P ops C oi v a) (h:fOp P ops C j K (a.put oi.dst v)):
  fOp P ops C j (fun a'=>nh P ops C oi v a'∧K (a'.put oi.dst v)) a:=by
 obtain⟨h1,h2,h3⟩:=Oper.apart_spec hap
 have keep:∀(a:Act),nh P ops C oi v a→∀u,nh P ops C oi v (a.put oj.dst u):=fun a hy u=>
  hy.of_same (execOp_put oi hsi a oj.dst u h3) (wanted_put oi a oj.dst u h3)
 unfold fOp at *;simp only[hj]at *;rw[wanted_put oj a oi.dst v h1]at h
 split
 ·rename_i hw
  simp only[hw,if_true]at h;obtain⟨u,hu,hn⟩:=h;refine⟨u,fun S w hw'=>?_,keep a hy u,by rw[←Act.put_comm a v u h2];exact hn⟩;have:=hu S w hw';unfold Oper.quietAt at *
  rwa [execOp_put oj hsj a oi.dst v h1]at this
 ·rename_i hw
  simp only[hw]at h;exact⟨keep a hy _,NQ⟩
theorem SC(S:Option Nat)(hC:C S w)(h:∀a w',C S w'→K a→K' a w')(hh:fOp P ops C i K a):wpOp P ops Q' i K' a w:=by
 refine wpOp_of_qOp (C:=C S) (K:=K) hC h ?_;unfold fOp at hh;unfold qOp
 split
 ·simpa [*]using hh
 ·rename_i o ho
  simp only[ho]at hh
  split
  ·rename_i hw;simp only[hw,if_true]at hh;obtain⟨v,h1,h2⟩:=hh;exact⟨v,h1 S,h2⟩
  ·rename_i hw;simp only[hw]at hh;exact hh
def ptrTo(b:Nat):Value:=ax b
def Bf(P:Program)(md:Region.Mode)(ops:Array Oper)(C:Option Nat→World→Prop)(G:Nat→Prop)(n m:Nat)(d:Option Nat)(L:Nat→Array Bool→Act→Prop):Nat→Array Bool→Act→Prop
 |0,listed,a=>Region.ready md ops listed=[m]∧∀b,G b→L b (listed.setIfInBounds m true) (a.put d (ptrTo b))
 |f+1,listed,a=>
  Region.ready md ops listed≠[]∧∀i∈Region.ready md ops listed,i<n∧
   (i=m→∀b,G b→yx P md ops (C (some b)) n (L b) (f+1) (listed.setIfInBounds m true) (a.put d (ptrTo b)))∧
   (i≠m→fOp P ops C i (Bf P md ops C G n m d L f (listed.setIfInBounds i true)) a)
theorem SA{g:Nat}{L:Nat→Array Bool→Act→Prop}
  (hm:ops[m]?=some om) (hwant:∀a,Region.wanted om (yielded ops a)=true)
  (hrun:∀a w,(execOp (Act.eval a) om).run P w=.ok (.value (ptrTo w.heap.size)) (w.alloc z))
  (hal:∀w,C none w→G w.heap.size∧C (some w.heap.size) (w.alloc z))
  (hL:∀b listed a w,C (some b) w→L b listed a→wpAny P md ops Q' g listed a w):
  ∀(f:Nat) (listed:Array Bool) (a:Act) (w:World),C none w→Bf P md ops C G n m om.dst L f listed a→wpAny P md ops Q' (f+1+g) listed a w:=by
 have alloc:∀(a:Act) (w:World) (K':Act→World→Prop),C none w→(∀w',G w.heap.size→C (some w.heap.size) w'→K' (a.put om.dst (ptrTo w.heap.size)) w')→wpOp P ops Q' m K' a w:=by
  intro a w K' hw hk;unfold wpOp;simp only[hm];rw[hwant a.tmps];simp only[if_true];refine .inl ?_;unfold Oper.wp;rw[hrun a w];exact hk _ (hal w hw).1 (hal w hw).2
 intro f
 induction f with
 |zero=>
  intro listed a w hw h;rw[show 0+1+g=g+1 by omega];refine⟨fun h0=>(by rw[h.1]at h0;cases h0),fun i hi=>?_⟩;rw[h.1]at hi;have:i=m:=by simpa using hi
  subst this;exact alloc a w _ hw fun w' hg hw'=>hL _ _ _ _ hw' (h.2 _ hg)
 |succ f ih=>
  intro listed a w hw h;rw[show f+1+1+g=(f+1+g)+1 by omega];refine⟨fun h0=>absurd h0 h.1,fun i hi=>?_⟩;obtain⟨hin,hA,hB⟩:=h.2 i hi
  by_cases him:i=m
  ·subst him
   exact alloc a w _ hw fun w' hg hw'=>EJ (fun listed a w hw hl=>hL _ listed a w hw hl) (f+1) _ _ _ hw' (hA rfl _ hg)
  ·exact SC none hw (fun a' w' hw' h'=>ih _ a' w' hw' h') (hB him)
theorem X7{L:Nat→Array Bool→Act→Prop}(hk:ops[k]?=some ok)(hm:ops[m]?=some om)(sP:k≠m)
  (dN:∀(j:Nat) (o:Oper) cs b,ops[j]?=some o→o.op≠.select cs b)
  (hs:Region.sinkB md ops n=true) (hc:Region.chainB md ops n=true) (hn:n<ops.size) (hkn:k<n) (hmn:m<n)
  (hdone:∀b listed a,L b listed a→∀j∈Region.ready md ops listed,n≤j):
  ∀(f:Nat) (listed:Array Bool) (a:Act),HeadInv md ops n listed→listed.getD m true=false→
   (∀j oj,ops[j]?=some oj→j≠k→listed.getD j true=false→(∀e∈oj.after,Region.binds md e=true→e.on≠k)→ok.apart ops oj=true)→
   k∈Region.ready md ops listed→nh P ops C ok v a→
   Bf P md ops C G n m om.dst L f (listed.setIfInBounds k true) (a.put ok.dst v)→Bf P md ops C G n m om.dst L (f+1) listed a:=by
 intro f
 induction f with
 |zero=>
  intro listed a inv hml nu hr hy H;have jB:=(mem_ready.1 hr).1;refine⟨fun h=>vT,fun j hj=>?_⟩
  by_cases hjk:j=k
  ·subst hjk
   exact⟨hkn,fun e=>absurd e sP,fun _=>hy.fOp hk H⟩
  ·have rq:=ready_mono hj hjk
   rw[H.1]at rq;have hjm:j=m:=by simpa using rq
   subst hjm;refine⟨hmn,fun _ b hg=>?_,fun e=>absurd rfl e⟩;obtain⟨_,oj,gZ,hall⟩:=mem_ready.1 hj;have Js:oj=om:=fy (gZ.symm.trans hm);subst Js
   have tS:∀e∈oj.after,Region.binds md e=true→e.on≠k:=fun e he hb heq=>by
    have h1:=hall e he hb;rw[heq,getD_both jB]at h1
    cases h1
   have hap:=nu j oj gZ (Ne.symm sP) hml tS;obtain⟨p1,p2,p3⟩:=Oper.apart_spec hap;have hy2:nh P ops C ok v (a.put oj.dst (ptrTo b)):=hy.of_same (execOp_put ok (fun cs b=>dN k ok cs b hk) a oj.dst _ p3) (wanted_put ok a oj.dst _ p3);refine ER hk dN hs hc hn hkn (hdone b) 0 _ _ (inv.set hj hmn) (fun i oi hi hik wC hno=>?_) (ready_mono hr (Ne.symm hjk)) (hy2.one _) ?_
   ·exact Rh
   ·have:=H.2 b hg
    rw[vW _ _ hjk];rw[←Act.put_comm a v _ p2];exact this
 |succ f ih=>
  intro listed a inv hml nu hr hy H;have jB:=(mem_ready.1 hr).1;refine⟨fun h=>vT,fun j hj=>?_⟩
  by_cases hjk:j=k
  ·subst hjk
   exact⟨hkn,fun e=>absurd e sP,fun _=>hy.fOp hk H⟩
  ·obtain⟨hjn,hA,hB⟩:=H.2 j (ready_mono hj hjk)
   obtain⟨uy,oj,gZ,hall⟩:=mem_ready.1 hj
   have tS:∀e∈oj.after,Region.binds md e=true→e.on≠k:=fun e he hb heq=>by
    have h1:=hall e he hb;rw[heq,getD_both jB]at h1
    cases h1
   refine⟨hjn,fun hjm b hg=>?_,fun hjm=>?_⟩
   ·subst hjm
    have Js:oj=om:=fy (gZ.symm.trans hm);subst Js;have hap:=nu j oj gZ (Ne.symm sP) hml tS;obtain⟨p1,p2,p3⟩:=Oper.apart_spec hap;have hy2:nh P ops C ok v (a.put oj.dst (ptrTo b)):=hy.of_same (execOp_put ok (fun cs b=>dN k ok cs b hk) a oj.dst _ p3) (wanted_put ok a oj.dst _ p3);refine ER hk dN hs hc hn hkn (hdone b) (f+1) _ _ (inv.set hj hmn) (fun i oi hi hik wC hno=>?_) (ready_mono hr (Ne.symm hjk)) (hy2.one _) ?_
    ·exact Rh
    ·have:=hA rfl b hg
     rw[vW _ _ hjk];rw[←Act.put_comm a v _ p2];exact this
   ·have h1:=hB hjm
    have h2:=Yv gZ (nu j oj gZ hjk uy tS) (fun cs b=>dN k ok cs b hk) (fun cs b=>dN j oj cs b gZ) hy h1
    have uC:∀i oi,ops[i]?=some oi→i≠k→(listed.setIfInBounds j true).getD i true=false→
      (∀e∈oi.after,Region.binds md e=true→e.on≠k)→ok.apart ops oi=true:=fun i oi hi hik wC hno=>by
     exact G9
    refine ZZ (fun a' h3=>ih (listed.setIfInBounds j true) a' (inv.set hj hjn) (by rw[getD_set_ne true hjm];exact hml) uC (ready_mono hr (Ne.symm hjk)) h3.1 ?_) h2;rw[vW _ _ hjk];exact h3.2
def lexHeadA(md:Region.Mode)(ops:Array Oper)(g m:Nat):Nat→Nat→Array Bool→Bool
 |0,_,listed=>decide (Region.ready md ops listed=[m])&&Region.seqB md ops g (m+1) (listed.setIfInBounds m true)
 |f+1,k,listed=>(Region.ready md ops listed).contains k&&Region.free md ops listed k&&lexHeadA md ops g m f (k+1) (listed.setIfInBounds k true)
def Ix(md:Region.Mode)(ops:Array Oper)(m:Nat):Bool:=
 Region.noSelect ops&&decide (m+1<ops.size)&&Region.sinkB md ops (m+1)&&Region.chainB md ops (m+1)&&lexHeadA md ops (ops.size - (m+1)) m m 0 (Array.replicate ops.size false)
theorem KP{G:Nat→Prop}{m g:Nat}{om:Oper}{Lq:Nat→Act→Prop}(hm:ops[m]?=some om)(dN:Region.noSelect ops=true)(hs:Region.sinkB md ops (m+1)=true)(hc:Region.chainB md ops (m+1)=true)(hn:m+1<ops.size):
  ∀(l:List Oper) (k:Nat) (listed:Array Bool) (a:Act),(∀j,j<l.length→l[j]?=ops[k+j]?)→k+l.length=m→HeadInv md ops (m+1) listed→listed.getD m true=false→
  lexHeadA md ops g m l.length k listed=true→uP P ops C (fun a'=>∀b,G b→Lq b (a'.put om.dst (ptrTo b))) l a→
  Bf P md ops C G (m+1) m om.dst (fun b listed' a'=>Region.seqB md ops g (m+1) listed'=true∧Lq b a') l.length listed a
 |[],k,listed,a,_,hk,_,_,hB,h=>by
  simp only[List.length_nil,lexHeadA,Bool.and_eq_true,decide_eq_true_eq]at hB;exact⟨hB.1,fun b hg=>⟨hB.2,h b hg⟩⟩
 |o :: l,k,listed,a,hl,hk,inv,hml,hB,h=>by
  have h0:ops[k]?=some o:=by simpa using(hl 0 aF).symm
  simp only[fA,lexHeadA,Bool.and_eq_true]at hB;obtain⟨⟨hr,hf⟩,hB'⟩:=hB;have sP:k<m:=Cn;have hr':k∈Region.ready md ops listed:=vD;have hst:fOp P ops C k (uP P ops C (fun a'=>∀b,G b→Lq b (a'.put om.dst (ptrTo b))) l) a:=by unfold fOp;simp only[h0];exact h
  obtain⟨v,hy,hK⟩:=Zd h0 hst
  exact X7 h0 hm ag (Region.noSelect_spec dN) hs hc hn ag ag (fun b listed' a' hL=>seqB_ready hL.1) l.length listed a inv hml (Region.free_spec h0 hf) hr' hy
   (KP hm dN hs hc hn l (k+1) _ _ (fun j hj=>Ql) Cn (inv.set hr' ag) (by rw[getD_set_ne true ag];exact hml) hB' hK)
theorem aav{Q:Exit→Act→World→Prop}(m:Nat)(hmx:P.follows .mixedOrders=true)(hB:Ix .any l.toArray m=true)
  (hom:l[m]?=some om) (hwant:∀t,Region.wanted om (yielded l.toArray t)=true)
  (hrun:∀a w,(execOp (Act.eval a) om).run P w=.ok (.value (ptrTo w.heap.size)) (w.alloc z))
  (hal:∀w,C none w→G w.heap.size∧C (some w.heap.size) (w.alloc z)) (hC:C none {w with drawn:=w.drawn+1})
  (h:uP P l.toArray C (fun a'=>∀b,G b→∀w',C (some b) w'→wpList P l.toArray Q (l.drop (m+1)) (a'.put om.dst (ptrTo b)) w') (l.take m) a):(Code.region id l.toArray true).wp P Q a w:=by
 simp only[Ix,Bool.and_eq_true,decide_eq_true_eq]at hB;obtain⟨⟨⟨⟨dN,hn⟩,hs⟩,hc⟩,Ez⟩:=hB;have hn':m+1<l.length:=by simpa using hn
 have htl:(l.take m).length=m:=aK;have hdl:(l.drop (m+1)).length=l.toArray.size - (m+1):=aF
 have ux:HeadInv .any l.toArray (m+1) (Array.replicate l.toArray.size false):=
  ⟨aF,fun j oj _ hl=>AK,fun t _ ht=>getD_in zY (getD_replicate_false _ _)⟩
 have hm0:(Array.replicate l.toArray.size false).getD m true=false:=getD_in aK (getD_replicate_false _ _)
 have H:=KP (md:=.any) (C:=C) (P:=P) (Lq:=fun b a'=>∀w',C (some b) w'→wpList P l.toArray Q (l.drop (m+1)) a' w') (g:=l.toArray.size - (m+1)) (om:=om) (by simpa using hom) dN hs hc hn (l.take m) 0 _ a (fun j hj=>by
  have hj':j<m:=by rw[htl]at hj;exact hj
  simp[hj']) (by simpa using htl) ux hm0 (by rw[htl];exact Ez) h
 refine wp_region_any hmx ?_
 have:=SA (md:=.any) (Q':=Q) (g:=l.toArray.size - (m+1)) (m:=m) (by simpa using hom) hwant hrun hal (fun b listed a' w' hw' hL=>by
  have:=wpAny_of_seq (md:=.any) (Q':=Q) (l.drop (m+1)) (m+1) listed a' w' (fun j=>by simp[List.getElem?_drop]) Ah (hL.2 w' hw')
  rwa [hdl]at this) _ _ _ _ hC H
 rw[htl,show m+1+(l.toArray.size - (m+1))=l.toArray.size by omega]at this;exact this
end
structure cz (B:Nat) (W:World) (cs:Array Value) (T:TypeId) (S:Option Nat) where
 val:World
 below:Below B W val
 blk:∀b,S=some b→B≤b→ay val b cs T
theorem cz.ne(B:Nat)(W:World)(cs:Array Value)(T:TypeId)(hB:B≤W.heap.size)(S:Option Nat):Nonempty (cz B W cs T S):=by
 cases S with
 |none=>exact⟨⟨W,Below.refl B W,fun b h=>kK⟩⟩
 |some b=>
  by_cases hb:B≤b
  ·refine⟨⟨{W with heap:=(W.heap++Array.replicate (b+1) (Obj.cells cs T (0,0))).setIfInBounds b (Obj.cells cs T (0,0))},⟨rfl,rfl,rfl,aF,fun k hk=>?_⟩,fun b' h _=>?_⟩⟩
   ·show((W.heap++Array.replicate (b+1) (Obj.cells cs T (0,0))).setIfInBounds b (Obj.cells cs T (0,0)))[k]?=_
    rw[jy ag,Array.getElem?_append_left ag]
   ·obtain rfl:b=b':=by simpa using h
    show((W.heap++Array.replicate (b+1) (Obj.cells cs T (0,0))).setIfInBounds b (Obj.cells cs T (0,0)))[b]?=_
    rw[sV aK]
  ·exact⟨⟨W,Below.refl B W,fun b' h h2=>by cases h;exact absurd h2 hb⟩⟩
theorem cz.cell(u:cz B W cs T S){p:Addr}(h:W.cell? p=some v)(hp:p.block<B):u.val.cell? p=some v:=(u.below.cell hp).trans h
theorem cz.calls{f:FuncId}{args:Array Value}(hB:B≤W.heap.size)(u:cz B W cs T S)
  (h:Calls P f args u.val fun e w'=>e=.returned v∧Below u.val.heap.size u.val w'):Calls P f args u.val fun e w'=>e=.returned v∧∃u':cz B W cs T S,w'=u'.val:=
 h.mono fun _ w' ⟨he,hb⟩=>⟨he,⟨⟨w',u.below.trans (hb.mono (bB hB u.below.size)),fun b hs hb'=>(hb.block b (u.blk b hs hb').lt).trans (u.blk b hs hb')⟩,rfl⟩⟩
theorem ur{Q:Exit→Act→World→Prop}(cs:Array Value)(T:TypeId)(m:Nat)(hmx:P.follows .mixedOrders=true)(hB:Ix .any l.toArray m=true)
  (hom:l[m]?=some om) (hwant:∀t,Region.wanted om (yielded l.toArray t)=true)
  (hrun:∀a w,(execOp (Act.eval a) om).run P w=.ok (.value (ax w.heap.size)) (w.alloc (.cells cs T (0,0))))
  (h:uP P l.toArray (fun S w'=>∃u:cz w.heap.size w cs T S,w'=u.val) (fun a'=>∀b w',w.heap.size≤b→Below w.heap.size w w'→ay w' b cs T→wpList P l.toArray Q (l.drop (m+1)) (a'.put om.dst (ax b)) w') (l.take m) a):(Code.region id l.toArray true).wp P Q a w:=by
 refine aav (C:=fun S w'=>∃u:cz w.heap.size w cs T S,w'=u.val) (G:=fun b=>w.heap.size≤b) m hmx hB hom hwant hrun ?_ ⟨⟨w.drew,(Below.refl _ w).drew,fun b h=>kK⟩,rfl⟩ ?_
 ·rintro w' ⟨u,rfl⟩
  refine⟨u.below.size,⟨⟨u.val.alloc (.cells cs T (0,0)),u.below.alloc u.below.size _,fun b hs _=>?_⟩,rfl⟩⟩;obtain rfl:u.val.heap.size=b:=tP
  show(u.val.heap.push _)[u.val.heap.size]?=_
  simp
 ·have e:(fun a':Act=>∀b,w.heap.size≤b→∀w',(∃u:cz w.heap.size w cs T (some b),w'=u.val)→wpList P l.toArray Q (l.drop (m+1)) (a'.put om.dst (ptrTo b)) w')=(fun a':Act=>∀b w',w.heap.size≤b→Below w.heap.size w w'→ay w' b cs T→wpList P l.toArray Q (l.drop (m+1)) (a'.put om.dst (ax b)) w'):=by
   funext a'
   refine propext ⟨fun k b w' hb h1 h2=>k b hb w' ⟨⟨w',h1,fun b' hs _=>by cases hs;exact h2⟩,rfl⟩,fun k b hb w' ⟨u,hu⟩=>?_⟩;rw[hu];exact k b u.val hb u.below (u.blk b rfl hb)
  rw[e];exact h
end
section
section
variable{P:Program}{ops:Array Oper}{md:Region.Mode}{σ:Type}{C:σ→World→Prop}{Q:Exit→Act→World→Prop}
def fH(P:Program)(o:Oper)(a:Act)(C:σ→World→Prop)(next:Act→Prop):Prop:=∃v,(∀s w,C s w→o.quietAt P a (C s) w v)∧next (a.put o.dst v)
def pD(P:Program)(ops:Array Oper)(C:σ→World→Prop)(o:Oper)(v:Value)(a:Act):Prop:=
 (Region.wanted o (yielded ops a.tmps)=true∧∀s w,C s w→o.quietAt P a (C s) w v)∨
 (Region.wanted o (yielded ops a.tmps)=false∧v=undef)
theorem pD.of_same(hy:pD P ops C o v a)(he:execOp a'.eval o=execOp a.eval o)
  (hw:Region.wanted o (yielded ops a'.tmps)=Region.wanted o (yielded ops a.tmps)):pD P ops C o v a':=by
 unfold pD Oper.quietAt at *;rw[he,hw];exact hy
def gOp(P:Program)(ops:Array Oper)(C:σ→World→Prop)(i:Nat)(K:Act→Prop)(a:Act):Prop:=
 match ops[i]? with
 |none=>K a
 |some o=>if Region.wanted o (yielded ops a.tmps)then fH P o a C K else K (a.put o.dst undef)
theorem OG{K':Act→Prop}(h:∀a,K a→K' a)(hh:gOp P ops C i K a):gOp P ops C i K' a:=by
 unfold gOp at *;exact JL
theorem pD.gOp{i:Nat}{o:Oper}{v:Value}{a:Act}(hi:ops[i]?=some o)(hy:pD P ops C o v a){K:Act→Prop}(h:K (a.put o.dst v)):gOp P ops C i K a:=by
 unfold Go.Proofs.YtcphhbofjkenaaaGreatDoor.gOp;simp only[hi];rcases hy with ⟨hw,hv⟩|⟨hw,rfl⟩
 ·simp only[hw,if_true];exact⟨v,hv,h⟩
 ·simp only[hw,Bool.false_eq_true,if_false];exact h
theorem KO(hi:ops[i]?=some o)(h:gOp P ops C i K a):∃v,pD P ops C o v a∧K (a.put o.dst v):=by
 unfold gOp at h;simp only[hi]at h;exact NY
theorem PN(hj:ops[j]?=some oj)(hap:oi.apart ops oj=true)
  (hsi:∀cs b,oi.op≠.select cs b) (hsj:∀cs b,oj.op≠.select cs b)
  (hy:pD P ops C oi v a) (h:gOp P ops C j K (a.put oi.dst v)):
  gOp P ops C j (fun a'=>pD P ops C oi v a'∧K (a'.put oi.dst v)) a:=by
 obtain⟨h1,h2,h3⟩:=Oper.apart_spec hap
 have keep:∀(a:Act),pD P ops C oi v a→∀u,pD P ops C oi v (a.put oj.dst u):=fun a hy u=>
  hy.of_same (execOp_put oi hsi a oj.dst u h3) (wanted_put oi a oj.dst u h3)
 unfold gOp at *;simp only[hj]at *;rw[wanted_put oj a oi.dst v h1]at h
 split
 ·rename_i hw
  simp only[hw,if_true]at h;obtain⟨u,hu,hn⟩:=h;refine⟨u,fun s w hw'=>?_,keep a hy u,by rw[←Act.put_comm a v u h2];exact hn⟩;have:=hu s w hw';unfold Oper.quietAt at *
  rwa [execOp_put oj hsj a oi.dst v h1]at this
 ·rename_i hw
  simp only[hw]at h;exact⟨keep a hy _,NQ⟩
theorem Ow(s:σ)(hC:C s w)(h:∀a w',C s w'→K a→K' a w')(hh:gOp P ops C i K a):wpOp P ops Q i K' a w:=by
 refine wpOp_of_qOp (C:=C s) (K:=K) hC h ?_;unfold gOp at hh;unfold qOp
 split
 ·simpa [*]using hh
 ·rename_i o ho
  simp only[ho]at hh
  split
  ·rename_i hw;simp only[hw,if_true]at hh;obtain⟨v,h1,h2⟩:=hh;exact⟨v,h1 s,h2⟩
  ·rename_i hw;simp only[hw]at hh;exact hh
def zI(P:Program)(o:Oper)(a:Act)(w:World)(u:Value)(w':World):Prop:=
 (execOp a.eval o).run P w=.ok (.value u) w'∨((execOp a.eval o).run P w=.ok .skip w'∧u=undef)
def vJ(P:Program)(o:Oper)(a:Act)(w:World)(R:Value→World→Prop):Prop:=
 (∃u w',zI P o a w u w'∧R u w')∨∃f args w0,(execOp a.eval o).run P w=.ok (.enter f args) w0∧Calls P f args w0 fun e w'=>∃u,e=.returned u∧R u w'
theorem vJ.mono{R':Value→World→Prop}(h:vJ P o a w R)(hr:∀u w',R u w'→R' u w'):vJ P o a w R':=by
 rcases h with ⟨u,w',h1,h2⟩|⟨f,args,w0,h1,h2⟩
 ·exact aC ⟨u,w',h1,hr _ _ h2⟩
 ·exact aA ⟨f,args,w0,h1,h2.mono (fun e w' ⟨u,he,hu⟩=>⟨u,he,hr _ _ hu⟩)⟩
theorem vJ.congr(h:vJ P o a w R)(he:execOp a.eval o=execOp a'.eval o):vJ P o a' w R:=by
 unfold vJ zI at *
 rwa [←he]
def j8(P:Program)(ops:Array Oper)(C:σ→World→Prop)(i:Nat)(s:σ)(K:σ→Act→Prop)(a:Act):Prop:=
 ∃o,ops[i]?=some o∧Region.wanted o (yielded ops a.tmps)=true∧∀w,C s w→vJ P o a w fun u w'=>∃s',C s' w'∧K s' (a.put o.dst u)
theorem BG{s:σ}{K K':σ→Act→Prop}(h:∀s a,K s a→K' s a)(hh:j8 P ops C i s K a):j8 P ops C i s K' a:=by
 obtain⟨o,h1,h2,h3⟩:=hh;exact⟨o,h1,h2,fun w hw=>(h3 w hw).mono (fun u w' ⟨s',h5,h6⟩=>⟨s',h5,h _ _ h6⟩)⟩
theorem Ny{s:σ}{K:σ→Act→Prop}(hC:C s w)(h:∀s' a w',C s' w'→K s' a→K' a w')(hh:j8 P ops C i s K a):wpOp P ops Q i K' a w:=by
 obtain⟨o,h1,h2,h3⟩:=hh;unfold wpOp;simp only[h1,h2,if_true];refine .inl ?_;unfold Oper.wp;rcases h3 w hC with ⟨u,w',h4,s',h5,h6⟩|⟨f,args,w0,h4,h5⟩
 ·rcases h4 with h4|⟨h4,rfl⟩
  ·rw[h4];exact h _ _ _ h5 h6
  ·rw[h4];exact h _ _ _ h5 h6
 ·rw[h4,Oper.upon_enter]
  refine h5.mono ?_;rintro e w' ⟨u,rfl,s',h7,h8⟩;exact h _ _ _ h7 h8
def wpG(P:Program)(md:Region.Mode)(ops:Array Oper)(C:σ→World→Prop)(n:Nat)(L:σ→Array Bool→Act→Prop):Nat→List Nat→σ→Array Bool→Act→Prop
 |0,ds,s,listed,a=>L s listed a
 |f+1,ds,s,listed,a=>Region.ready md ops listed≠[]∧∀i∈Region.ready md ops listed,i<n∧
   ((ds.head?=some i∧j8 P ops C i s (fun s' a'=>wpG P md ops C n L f ds.tail s' (listed.setIfInBounds i true) a') a)∨
   (ds.head?≠some i∧gOp P ops C i (wpG P md ops C n L f ds s (listed.setIfInBounds i true)) a))
theorem CQ{n g:Nat}{L:σ→Array Bool→Act→Prop}(hL:∀s listed a w,C s w→L s listed a→wpAny P md ops Q g listed a w):∀(f:Nat) (ds:List Nat) (s:σ) (listed:Array Bool) (a:Act) (w:World),C s w→wpG P md ops C n L f ds s listed a→wpAny P md ops Q (f+g) listed a w
 |0,ds,s,listed,a,w,hw,h=>QZ
 |f+1,ds,s,listed,a,w,hw,h=>by
  rw[show f+1+g=(f+g)+1 by omega];refine⟨fun h0=>absurd h0 h.1,fun i hi=>?_⟩;rcases(h.2 i hi).2 with ⟨_,hd⟩|⟨_,hg⟩
  ·exact Ny hw (fun s' a' w' hw' h'=>CQ hL f _ s' _ a' w' hw' h') hd
  ·exact Ow s hw (fun a' w' hw' h'=>CQ hL f ds s _ a' w' hw' h') hg
theorem YX{L:σ→Array Bool→Act→Prop}(hk:ops[k]?=some ok)(dN:∀(j:Nat) (o:Oper) cs b,ops[j]?=some o→o.op≠.select cs b)
  (hs:Region.sinkB md ops n=true) (hc:Region.chainB md ops n=true) (hn:n<ops.size) (hkn:k<n) (hdone:∀s listed a,L s listed a→∀j∈Region.ready md ops listed,n≤j):
  ∀(f:Nat) (ds:List Nat) (s:σ) (listed:Array Bool) (a:Act),HeadInv md ops n listed→k ∉ ds→
   (∀j oj,ops[j]?=some oj→j≠k→listed.getD j true=false→(∀e∈oj.after,Region.binds md e=true→e.on≠k)→ok.apart ops oj=true)→
   k∈Region.ready md ops listed→pD P ops C ok v a→
   wpG P md ops C n L f ds s (listed.setIfInBounds k true) (a.put ok.dst v)→wpG P md ops C n L (f+1) ds s listed a:=by
 have below:∀(listed:Array Bool),HeadInv md ops n listed→listed.getD k true=false→∀j∈Region.ready md ops listed,j<n:=fun listed inv jB j hj=>by
  exact MT
 intro f
 induction f with
 |zero=>
  intro ds s listed a inv hkd nu hr hy H;refine⟨fun h=>vT,fun j hj=>?_⟩;have hjn:=below listed inv (mem_ready.1 hr).1 j hj;refine⟨hjn,?_⟩
  by_cases hjk:j=k
  ·subst hjk
   exact aA ⟨fun e=>hkd (List.mem_of_mem_head? e),hy.gOp hk H⟩
  ·have:=hdone _ _ _ H j (ready_mono hj hjk)
   omega
 |succ f ih=>
  intro ds s listed a inv hkd nu hr hy H;have jB:=(mem_ready.1 hr).1;refine⟨fun h=>vT,fun j hj=>?_⟩;have hjn:=below listed inv jB j hj;refine⟨hjn,?_⟩
  by_cases hjk:j=k
  ·subst hjk
   exact aA ⟨fun e=>hkd (List.mem_of_mem_head? e),hy.gOp hk H⟩
  ·obtain⟨uy,oj,gZ,hall⟩:=mem_ready.1 hj
   have tS:∀e∈oj.after,Region.binds md e=true→e.on≠k:=fun e he hb heq=>by
    have h1:=hall e he hb;rw[heq,getD_both jB]at h1
    cases h1
   have hap:=nu j oj gZ hjk uy tS
   have uC:∀i oi,ops[i]?=some oi→i≠k→(listed.setIfInBounds j true).getD i true=false→
     (∀e∈oi.after,Region.binds md e=true→e.on≠k)→ok.apart ops oi=true:=fun i oi hi hik wC hno=>by
    exact G9
   rcases(H.2 j (ready_mono hj hjk)).2 with ⟨hh,hd⟩|⟨hh,hg⟩
   ·refine aC ⟨hh,?_⟩
    obtain⟨p1,p2,p3⟩:=Oper.apart_spec hap;obtain⟨o,h1,h2,h3⟩:=hd;obtain rfl:oj=o:=fy (gZ.symm.trans h1);refine⟨oj,gZ,RR,fun w hw=>?_⟩;refine((h3 w hw).congr (execOp_put oj (fun cs b=>dN j oj cs b gZ) a ok.dst v p1)).mono (fun u w' ⟨s',h5,h6⟩=>⟨s',h5,ih ds.tail s' (listed.setIfInBounds j true) (a.put oj.dst u) (inv.set hj hjn) (fun e=>hkd (List.mem_of_mem_tail e)) uC (ready_mono hr (Ne.symm hjk)) ?_ ?_⟩)
    ·exact Pe
    ·rw[vW _ _ hjk,←Act.put_comm a v u p2]
     exact h6
   ·refine aA ⟨hh,?_⟩
    have h2:=PN gZ hap (fun cs b=>dN k ok cs b hk) (fun cs b=>dN j oj cs b gZ) hy hg;refine OG (fun a' h3=>ih ds s (listed.setIfInBounds j true) a' (inv.set hj hjn) hkd uC (ready_mono hr (Ne.symm hjk)) h3.1 ?_) h2;rw[vW _ _ hjk];exact h3.2
def wpT(P:Program)(ops:Array Oper)(C:σ→World→Prop)(L:σ→Act→Prop):List Nat→List Nat→σ→Act→Prop
 |[],ds,s,a=>L s a
 |k :: τ,ds,s,a=>if ds.head?=some k then j8 P ops C k s (fun s' a'=>wpT P ops C L τ ds.tail s' a') a else gOp P ops C k (wpT P ops C L τ ds s) a
def chkT(md:Region.Mode)(ops:Array Oper)(n:Nat):List Nat→List Nat→Array Bool→Bool
 |[],ds,listed=>Region.seqB md ops (ops.size - n) n listed
 |k :: τ,ds,listed=>
  decide (k<n)&&(if ds.head?=some k then decide (Region.ready md ops listed=[k])else !ds.contains k&&(Region.ready md ops listed).contains k&&Region.free md ops listed k&&(ops[k]?).isSome)&&
   chkT md ops n τ (if ds.head?=some k then ds.tail else ds) (listed.setIfInBounds k true)
theorem Cy{n:Nat}{L:σ→Act→Prop}(dN:Region.noSelect ops=true)(hs:Region.sinkB md ops n=true)(hc:Region.chainB md ops n=true)(hn:n<ops.size):∀(τ ds:List Nat) (s:σ) (listed:Array Bool) (a:Act),HeadInv md ops n listed→chkT md ops n τ ds listed=true→wpT P ops C L τ ds s a→
  wpG P md ops C n (fun s' listed' a'=>Region.seqB md ops (ops.size - n) n listed'=true∧L s' a') τ.length ds s listed a
 |[],ds,s,listed,a,_,hB,h=>⟨hB,h⟩
 |k :: τ,ds,s,listed,a,inv,hB,h=>by
  unfold chkT at hB;unfold wpT at h;rw[Bool.and_eq_true,Bool.and_eq_true]at hB;obtain⟨⟨hB0,hB1⟩,hB2⟩:=hB;have hkn:k<n:=by simpa using hB0
  by_cases hd:ds.head?=some k
  ·rw[aG hd]at hB1 hB2 h
   have hr:Region.ready md ops listed=[k]:=by simpa using hB1
   refine⟨fun h0=>B7,fun i hi=>?_⟩;have hi':=hi;rw[hr]at hi;obtain rfl:i=k:=by simpa using hi
   exact⟨hkn,aC ⟨hd,BG (fun s' a' h'=>Cy dN hs hc hn τ ds.tail s' _ a' (inv.set hi' hkn) hB2 h') h⟩⟩
  ·rw[az hd]at hB1 hB2 h
   simp only[Bool.and_eq_true,Bool.not_eq_true']at hB1;obtain⟨⟨⟨b1,b2⟩,b3⟩,b4⟩:=hB1;have hr:k∈Region.ready md ops listed:=by simpa using b2
   obtain⟨o,ho⟩:=Option.isSome_iff_exists.1 b4;obtain⟨v,hy,hK⟩:=KO ho h;exact YX ho (Region.noSelect_spec dN) hs hc hn hkn (fun s' listed' a' hL=>seqB_ready hL.1) τ.length ds s listed a inv (by simpa using b1) (Region.free_spec ho b3) hr hy (Cy dN hs hc hn τ ds s _ _ (inv.set hr hkn) hB2 hK)
theorem ly(n:Nat)(ds:List Nat)(s:σ)(hmx:P.follows .mixedOrders=true)
  (hB:(chkT .any l.toArray n (List.range n) ds (Array.replicate l.toArray.size false)&&decide (n<l.toArray.size)&&Region.noSelect l.toArray&&Region.sinkB .any l.toArray n&&Region.chainB .any l.toArray n)=true)
  (hC:C s {w with drawn:=w.drawn+1}) (h:wpT P l.toArray C (fun s' a'=>∀w',C s' w'→wpList P l.toArray Q (l.drop n) a' w') (List.range n) ds s a):(Code.region id l.toArray true).wp P Q a w:=by
 simp only[Bool.and_eq_true,decide_eq_true_eq]at hB;obtain⟨⟨⟨⟨h1,hn⟩,h3⟩,hs⟩,hc⟩:=hB
 have ux:HeadInv .any l.toArray n (Array.replicate l.toArray.size false):=
  ⟨aF,fun j oj _ hl=>AK,fun t _ ht=>getD_in zY (getD_replicate_false _ _)⟩
 have hdl:(l.drop n).length=l.toArray.size - n:=aF;refine wp_region_any hmx ?_
 have:=CQ (md:=.any) (Q:=Q) (g:=l.toArray.size - n) (fun s' listed a' w' hw' hL=>by
  have:=wpAny_of_seq (md:=.any) (Q':=Q) (l.drop n) n listed a' w' (fun j=>by simp[List.getElem?_drop]) Ah (hL.2 w' hw')
  rwa [hdl]at this) _ ds s _ a _ hC (Cy h3 hs hc hn (List.range n) ds s _ a ux h1 h)
 rw[List.length_range,show n+(l.toArray.size - n)=l.toArray.size by omega]at this;exact this
theorem eV{s:σ}{L:σ→Act→Prop}(hd:(ds.head? == some k)=false)(hk:ops[k]?=some o)
  (h:∀K:Act→Prop,(∀a,wpT P ops C L τ ds s a→K a)→if Region.wanted o (yielded ops a.tmps)then fH P o a C K else K (a.put o.dst undef)):wpT P ops C L (k :: τ) ds s a:=by
 unfold wpT;rw[az DT];unfold gOp;simp only[hk];exact h _ (fun _ h=>h)
theorem UI{s:σ}{L:σ→Act→Prop}(hk:ops[k]?=some o)(hw:Region.wanted o (yielded ops a.tmps)=true)
  (h:∀w,C s w→∃u s' w',zI P o a w u w'∧C s' w'∧wpT P ops C L τ ds s' (a.put o.dst u)):wpT P ops C L (k :: τ) (k :: ds) s a:=by
 unfold wpT;rw[aG (show(k :: ds).head?=some k from rfl)];refine⟨o,hk,hw,fun w hw=>?_⟩;obtain⟨u,s',w',h1,h2,h3⟩:=h w hw;exact aC ⟨u,w',h1,s',h2,h3⟩
theorem SY{s:σ}{L:σ→Act→Prop}(hk:ops[k]?=some o)(hw:Region.wanted o (yielded ops a.tmps)=true)(f:FuncId)(args:Array Value)
  (h:∀w,C s w→(execOp a.eval o).run P w=.ok (.enter f args) w∧Calls P f args w fun e w'=>∃u,e=.returned u∧∃s',C s' w'∧wpT P ops C L τ ds s' (a.put o.dst u)):wpT P ops C L (k :: τ) (k :: ds) s a:=by
 unfold wpT;rw[aG (show(k :: ds).head?=some k from rfl)];refine⟨o,hk,hw,fun w hw=>?_⟩;obtain⟨h1,h2⟩:=h w hw;exact aA ⟨f,args,w,h1,h2⟩
theorem iV{s:σ}{L:σ→Act→Prop}(h:L s a):wpT P ops C L [] ds s a:=h
end
abbrev eM(C:World→Prop)(s:{w:World // C w})(w:World):Prop:=w=s.val
theorem oG{Q:{w:World // C w}→Act→Prop}{s:{w:World // C w}}(hk:ops[k]?=some o)(hw:Region.wanted o (yielded ops a.tmps)=true)
  (u:Value) (w':World) (hC:C w') (ht:zI P o a s.val u w') (h:wpT P ops (eM C) Q τ ds ⟨w',hC⟩ (a.put o.dst u)):wpT P ops (eM C) Q (k :: τ) (k :: ds) s a:=
 UI hk hw fun w hw'=>by
  obtain rfl:w=s.val:=hw';exact⟨u,⟨w',hC⟩,w',ht,rfl,h⟩
theorem ja{Q:{w:World // C w}→Act→Prop}{s:{w:World // C w}}(hk:ops[k]?=some o)(hw:Region.wanted o (yielded ops a.tmps)=true)
  (f:FuncId) (args:Array Value) (hrun:(execOp a.eval o).run P s.val=.ok (.enter f args) s.val) (h:Calls P f args s.val fun e w'=>∃u,e=.returned u∧∃hC:C w',wpT P ops (eM C) Q τ ds ⟨w',hC⟩ (a.put o.dst u)):wpT P ops (eM C) Q (k :: τ) (k :: ds) s a:=
 SY hk hw f args fun w hw'=>by
  obtain rfl:w=s.val:=hw';refine⟨hrun,h.mono ?_⟩;rintro e w' ⟨u,he,hC,hT⟩;exact⟨u,he,⟨w',hC⟩,rfl,hT⟩
theorem Yq(w:World)(s x:Operand)(t:TypeId)
  (ho:o.op=.call {callee:=.builtin .append,args:= #[s,x],argTypes:= #[t,t]})
  (base:Nat) (e:TypeId) (i:TypeInfo) (z:Value) (size bytes:Nat) (ht:P.underlying t=some (.slice e)) (hi:P.info? e=some i) (hz:i.zero=some z)
  (hsize:i.size=size) (hby:i.bytes=bytes) (hzs:z.cells.size=size) (hsz:0<size)
  (v:Value) (n:Nat) (xs:List Value) (hs:a.eval s=v) (hown:w.ownsRow base e size v n xs)
  (ad:Addr) (m c:Nat) (news:List Value) (hx:a.eval x=.slice (some ad) m c) (hl:news.length=m*size) (hnews:∀j u,news[j]?=some u→w.cell? (ad.add j)=some u) (h1:∀u∈news,u.oneCell'=true)
  (hm:0<m) (h63:n+m≤maxLen) (hbytes:(n+m)*bytes≤140737488355328) (hbase:base≤w.heap.size) (H:Nat) (hH:w.heap.size=H):
  ∃g cap w',zI P o a w (aD g (n+m) cap) w'∧w'.ownsRow base e size (aD g (n+m) cap) (n+m) (xs++news)∧w.grownBy w' v.ownBlock∧(v.ownBlock=some g∨g=H)∧g<w'.heap.size:=by
 obtain⟨g,cap,w',hr,h2,h3,h4,h5⟩:=run_append_lies (P:=P) w t o.type base e i z size bytes ht hi hz hsize hby hzs hsz v n xs hown ad m c news hl hnews h1 hm h63 hbytes hbase H hH;refine⟨g,cap,w',aC ?_,h2,h3,h4,h5⟩;unfold execOp;simp only[ho,resolve,invoke,builtin,Sem.run_bind,Sem.run_pure,Result.andThen_ok,List.map_toArray,List.map_cons,List.map_nil,hs,hx,hr]
theorem CG{Q:{w:World // C w}→Act→Prop}{st:{w:World // C w}}(hk:ops[k]?=some o)(hw:Region.wanted o (yielded ops a.tmps)=true)
  (w:World) (hst:st.val=w) (s x:Operand) (t:TypeId)
  (ho:o.op=.call {callee:=.builtin .append,args:= #[s,x],argTypes:= #[t,t]})
  (base:Nat) (e:TypeId) (i:TypeInfo) (z:Value) (size bytes:Nat) (ht:P.underlying t=some (.slice e)) (hi:P.info? e=some i) (hz:i.zero=some z)
  (hsize:i.size=size) (hby:i.bytes=bytes) (hzs:z.cells.size=size) (hsz:0<size)
  (v:Value) (n:Nat) (xs:List Value) (hs:a.eval s=v) (hown:w.ownsRow base e size v n xs)
  (ad:Addr) (m c:Nat) (news:List Value) (hx:a.eval x=.slice (some ad) m c) (hl:news.length=m*size) (hnews:∀j u,news[j]?=some u→w.cell? (ad.add j)=some u) (h1:∀u∈news,u.oneCell'=true)
  (hm:0<m) (h63:n+m≤maxLen) (hbytes:(n+m)*bytes≤140737488355328) (hbase:base≤w.heap.size) (H:Nat) (hH:w.heap.size=H)
  (Rg:∀w',w.grownBy w' v.ownBlock→C w')
  (h:∀g cap w' (hC:C w'),w'.ownsRow base e size (aD g (n+m) cap) (n+m) (xs++news)→w.grownBy w' v.ownBlock→(v.ownBlock=some g∨g=H)→g<w'.heap.size→wpT P ops (eM C) Q τ ds ⟨w',hC⟩ (a.put o.dst (aD g (n+m) cap))):
  wpT P ops (eM C) Q (k :: τ) (k :: ds) st a:=by
 obtain⟨g,cap,w',hr,h2,h3,h4,h5⟩:=Yq (P:=P) w s x t ho base e i z size bytes ht hi hz hsize hby hzs hsz v n xs hs hown ad m c news hx hl hnews h1 hm h63 hbytes hbase H hH;subst hst;exact oG hk hw _ w' (Rg w' h3) hr (h g cap w' (Rg w' h3) h2 h3 h4 h5)
end
section
section
variable{P:Program}{ops:Array Oper}{σ:Type}{C:σ→World→Prop}{Q:Exit→Act→World→Prop}
theorem A7(n:Nat)(τ:List Nat)(ds:List Nat)(s:σ)(hmx:P.follows .mixedOrders=true)
  (hB:(chkT .any l.toArray n τ ds (Array.replicate l.toArray.size false)&&decide (n<l.toArray.size)&&Region.noSelect l.toArray&&Region.sinkB .any l.toArray n&&Region.chainB .any l.toArray n&&decide (τ.length=n))=true)
  (hC:C s {w with drawn:=w.drawn+1}) (h:wpT P l.toArray C (fun s' a'=>∀w',C s' w'→wpList P l.toArray Q (l.drop n) a' w') τ ds s a):(Code.region id l.toArray true).wp P Q a w:=by
 simp only[Bool.and_eq_true,decide_eq_true_eq]at hB;obtain⟨⟨⟨⟨⟨h1,hn⟩,h3⟩,hs⟩,hc⟩,hτ⟩:=hB
 have ux:HeadInv .any l.toArray n (Array.replicate l.toArray.size false):=
  ⟨aF,fun j oj _ hl=>AK,fun t _ ht=>getD_in zY (getD_replicate_false _ _)⟩
 have hdl:(l.drop n).length=l.toArray.size - n:=aF;refine wp_region_any hmx ?_
 have:=CQ (md:=.any) (Q:=Q) (g:=l.toArray.size - n) (fun s' listed a' w' hw' hL=>by
  have:=wpAny_of_seq (md:=.any) (Q':=Q) (l.drop n) n listed a' w' (fun j=>by simp[List.getElem?_drop]) Ah (hL.2 w' hw')
  rwa [hdl]at this) _ ds s _ a _ hC (Cy h3 hs hc hn τ ds s _ a ux h1 h)
 rw[hτ,show n+(l.toArray.size - n)=l.toArray.size by omega]at this;exact this
end
end
section
section
variable{P:Program}{ops:Array Oper}{md:Region.Mode}{σ:Type}{C:σ→World→Prop}{Q:Exit→Act→World→Prop}
def wpH(P:Program)(md:Region.Mode)(ops:Array Oper)(C:σ→World→Prop)(n:Nat)(L:σ→Array Bool→Act→Prop):Nat→σ→Array Bool→Act→Prop
 |0,s,listed,a=>L s listed a
 |f+1,s,listed,a=>Region.ready md ops listed≠[]∧∀i∈Region.ready md ops listed,i<n∧
   (j8 P ops C i s (fun s' a'=>wpH P md ops C n L f s' (listed.setIfInBounds i true) a') a∨
    gOp P ops C i (wpH P md ops C n L f s (listed.setIfInBounds i true)) a)
theorem Fl{n g:Nat}{L:σ→Array Bool→Act→Prop}(hL:∀s listed a w,C s w→L s listed a→wpAny P md ops Q g listed a w):∀(f:Nat) (s:σ) (listed:Array Bool) (a:Act) (w:World),C s w→wpH P md ops C n L f s listed a→wpAny P md ops Q (f+g) listed a w
 |0,s,listed,a,w,hw,h=>QZ
 |f+1,s,listed,a,w,hw,h=>by
  rw[show f+1+g=(f+g)+1 by omega];refine⟨fun h0=>absurd h0 h.1,fun i hi=>?_⟩;rcases(h.2 i hi).2 with hd|hg
  ·exact Ny hw (fun s' a' w' hw' h'=>Fl hL f s' _ a' w' hw' h') hd
  ·exact Ow s hw (fun a' w' hw' h'=>Fl hL f s _ a' w' hw' h') hg
theorem aaZ{L:σ→Array Bool→Act→Prop}(hk:ops[k]?=some ok)(dN:∀(j:Nat) (o:Oper) cs b,ops[j]?=some o→o.op≠.select cs b)
  (hs:Region.sinkB md ops n=true) (hc:Region.chainB md ops n=true) (hn:n<ops.size) (hkn:k<n) (hdone:∀s listed a,L s listed a→∀j∈Region.ready md ops listed,n≤j):
  ∀(f:Nat) (s:σ) (listed:Array Bool) (a:Act),HeadInv md ops n listed→
   (∀j oj,ops[j]?=some oj→j≠k→listed.getD j true=false→(∀e∈oj.after,Region.binds md e=true→e.on≠k)→ok.apart ops oj=true)→
   k∈Region.ready md ops listed→pD P ops C ok v a→
   wpH P md ops C n L f s (listed.setIfInBounds k true) (a.put ok.dst v)→wpH P md ops C n L (f+1) s listed a:=by
 have below:∀(listed:Array Bool),HeadInv md ops n listed→listed.getD k true=false→∀j∈Region.ready md ops listed,j<n:=fun listed inv jB j hj=>by
  exact MT
 intro f
 induction f with
 |zero=>
  intro s listed a inv nu hr hy H;refine⟨fun h=>vT,fun j hj=>?_⟩;have hjn:=below listed inv (mem_ready.1 hr).1 j hj;refine⟨hjn,?_⟩
  by_cases hjk:j=k
  ·subst hjk
   exact aA (hy.gOp hk H)
  ·have:=hdone _ _ _ H j (ready_mono hj hjk)
   omega
 |succ f ih=>
  intro s listed a inv nu hr hy H;have jB:=(mem_ready.1 hr).1;refine⟨fun h=>vT,fun j hj=>?_⟩;have hjn:=below listed inv jB j hj;refine⟨hjn,?_⟩
  by_cases hjk:j=k
  ·subst hjk
   exact aA (hy.gOp hk H)
  ·obtain⟨uy,oj,gZ,hall⟩:=mem_ready.1 hj
   have tS:∀e∈oj.after,Region.binds md e=true→e.on≠k:=fun e he hb heq=>by
    have h1:=hall e he hb;rw[heq,getD_both jB]at h1
    cases h1
   have hap:=nu j oj gZ hjk uy tS
   have uC:∀i oi,ops[i]?=some oi→i≠k→(listed.setIfInBounds j true).getD i true=false→
     (∀e∈oi.after,Region.binds md e=true→e.on≠k)→ok.apart ops oi=true:=fun i oi hi hik wC hno=>by
    exact G9
   rcases(H.2 j (ready_mono hj hjk)).2 with hd|hg
   ·refine aC ?_
    obtain⟨p1,p2,p3⟩:=Oper.apart_spec hap;obtain⟨o,h1,h2,h3⟩:=hd;obtain rfl:oj=o:=fy (gZ.symm.trans h1);refine⟨oj,gZ,RR,fun w hw=>?_⟩;refine((h3 w hw).congr (execOp_put oj (fun cs b=>dN j oj cs b gZ) a ok.dst v p1)).mono (fun u w' ⟨s',h5,h6⟩=>⟨s',h5,ih s' (listed.setIfInBounds j true) (a.put oj.dst u) (inv.set hj hjn) uC (ready_mono hr (Ne.symm hjk)) ?_ ?_⟩)
    ·exact Pe
    ·rw[vW _ _ hjk,←Act.put_comm a v u p2]
     exact h6
   ·refine aA ?_
    have h2:=PN gZ hap (fun cs b=>dN k ok cs b hk) (fun cs b=>dN j oj cs b gZ) hy hg;refine OG (fun a' h3=>ih s (listed.setIfInBounds j true) a' (inv.set hj hjn) uC (ready_mono hr (Ne.symm hjk)) h3.1 ?_) h2;rw[vW _ _ hjk];exact h3.2
inductive Tr
 |fin
 |quiet (k:Nat) (t:Tr)
 |one (k:Nat) (t:Tr)
 |two (k:Nat) (t:Tr) (k2:Nat) (t2:Tr)
 |three (k:Nat) (t:Tr) (k2:Nat) (t2:Tr) (k3:Nat) (t3:Tr)
def wpB(P:Program)(ops:Array Oper)(C:σ→World→Prop)(L:σ→Act→Prop):Tr→σ→Act→Prop
 |.fin,s,a=>L s a
 |.quiet k t,s,a=>gOp P ops C k (wpB P ops C L t s) a
 |.one k t,s,a=>j8 P ops C k s (wpB P ops C L t) a
 |.two k t k2 t2,s,a=>j8 P ops C k s (wpB P ops C L t) a∧j8 P ops C k2 s (wpB P ops C L t2) a
 |.three k t k2 t2 k3 t3,s,a=>j8 P ops C k s (wpB P ops C L t) a∧j8 P ops C k2 s (wpB P ops C L t2) a∧j8 P ops C k3 s (wpB P ops C L t3) a
def chkB(md:Region.Mode)(ops:Array Oper)(n:Nat):Nat→Tr→Array Bool→Bool
 |f,.fin,listed=>Region.seqB md ops (ops.size - n) n listed&&f == 0
 |0,_,_=>false
 |f+1,.quiet k t,listed=>decide (k<n)&&(Region.ready md ops listed).contains k&&Region.free md ops listed k&&(ops[k]?).isSome&&chkB md ops n f t (listed.setIfInBounds k true)
 |f+1,.one k t,listed=>decide (k<n)&&decide (Region.ready md ops listed=[k])&&chkB md ops n f t (listed.setIfInBounds k true)
 |f+1,.two k t k2 t2,listed=>decide (k<n)&&decide (k2<n)&&decide (Region.ready md ops listed=[k,k2])&&chkB md ops n f t (listed.setIfInBounds k true)&&chkB md ops n f t2 (listed.setIfInBounds k2 true)
 |f+1,.three k t k2 t2 k3 t3,listed=>decide (k<n)&&decide (k2<n)&&decide (k3<n)&&decide (Region.ready md ops listed=[k,k2,k3])&&chkB md ops n f t (listed.setIfInBounds k true)&&chkB md ops n f t2 (listed.setIfInBounds k2 true)&&chkB md ops n f t3 (listed.setIfInBounds k3 true)
theorem yT{n:Nat}{L:σ→Act→Prop}(dN:Region.noSelect ops=true)(hs:Region.sinkB md ops n=true)(hc:Region.chainB md ops n=true)(hn:n<ops.size):∀(f:Nat) (t:Tr) (s:σ) (listed:Array Bool) (a:Act),HeadInv md ops n listed→chkB md ops n f t listed=true→wpB P ops C L t s a→
  wpH P md ops C n (fun s' listed' a'=>Region.seqB md ops (ops.size - n) n listed'=true∧L s' a') f s listed a
 |f,.fin,s,listed,a,_,hB,h=>by
  unfold chkB at hB;simp only[Bool.and_eq_true,beq_iff_eq]at hB;obtain⟨hB,rfl⟩:=hB;exact⟨hB,h⟩
 |0,.quiet _ _,_,_,_,_,hB,_=>CT
 |0,.one _ _,_,_,_,_,hB,_=>CT
 |0,.two _ _ _ _,_,_,_,_,hB,_=>CT
 |0,.three _ _ _ _ _ _,_,_,_,_,hB,_=>CT
 |f+1,.quiet k t,s,listed,a,inv,hB,h=>by
  unfold chkB at hB;simp only[Bool.and_eq_true,decide_eq_true_eq]at hB;obtain⟨⟨⟨⟨hkn,b2⟩,b3⟩,b4⟩,hB2⟩:=hB;have hr:k∈Region.ready md ops listed:=by simpa using b2
  obtain⟨o,ho⟩:=Option.isSome_iff_exists.1 b4;obtain⟨v,hy,hK⟩:=KO ho h;exact aaZ ho (Region.noSelect_spec dN) hs hc hn hkn (fun s' listed' a' hL=>seqB_ready hL.1) f s listed a inv (Region.free_spec ho b3) hr hy (yT dN hs hc hn f t s _ _ (inv.set hr hkn) hB2 hK)
 |f+1,.one k t,s,listed,a,inv,hB,h=>by
  unfold chkB at hB;simp only[Bool.and_eq_true,decide_eq_true_eq]at hB;obtain⟨⟨h1,hr⟩,c1⟩:=hB;refine⟨fun h0=>B7,fun i hi=>?_⟩;have hi':=hi;rw[hr]at hi;obtain rfl:i=k:=by simpa using hi
  exact⟨h1,aC (BG (fun s' a' h'=>yT dN hs hc hn f t s' _ a' (inv.set hi' h1) c1 h') h)⟩
 |f+1,.two k t k2 t2,s,listed,a,inv,hB,h=>by
  unfold chkB at hB;simp only[Bool.and_eq_true,decide_eq_true_eq]at hB;obtain⟨⟨⟨⟨h1,h2⟩,hr⟩,c1⟩,c2⟩:=hB;obtain⟨g1,g2⟩:=h;refine⟨fun h0=>B7,fun i hi=>?_⟩;have hi':=hi;rw[hr]at hi;rcases er.1 hi with rfl|hi
  ·exact Kk
  ·obtain rfl:i=k2:=by simpa using hi
   exact NN
 |f+1,.three k t k2 t2 k3 t3,s,listed,a,inv,hB,h=>by
  unfold chkB at hB;simp only[Bool.and_eq_true,decide_eq_true_eq]at hB;obtain⟨⟨⟨⟨⟨⟨h1,h2⟩,h3⟩,hr⟩,c1⟩,c2⟩,c3⟩:=hB;obtain⟨g1,g2,g3⟩:=h;refine⟨fun h0=>B7,fun i hi=>?_⟩;have hi':=hi;rw[hr]at hi;rcases er.1 hi with rfl|hi
  ·exact Kk
  ·rcases er.1 hi with rfl|hi
   ·exact NN
   ·obtain rfl:i=k3:=by simpa using hi
    exact⟨h3,aC (BG (fun s' a' h'=>yT dN hs hc hn f t3 s' _ a' (inv.set hi' h3) c3 h') g3)⟩
theorem TP(n:Nat)(t:Tr)(s:σ)(hmx:P.follows .mixedOrders=true)
  (hB:(chkB .any l.toArray n n t (Array.replicate l.toArray.size false)&&decide (n<l.toArray.size)&&Region.noSelect l.toArray&&Region.sinkB .any l.toArray n&&Region.chainB .any l.toArray n)=true)
  (hC:C s {w with drawn:=w.drawn+1}) (h:wpB P l.toArray C (fun s' a'=>∀w',C s' w'→wpList P l.toArray Q (l.drop n) a' w') t s a):(Code.region id l.toArray true).wp P Q a w:=by
 simp only[Bool.and_eq_true,decide_eq_true_eq]at hB;obtain⟨⟨⟨⟨h1,hn⟩,h3⟩,hs⟩,hc⟩:=hB
 have ux:HeadInv .any l.toArray n (Array.replicate l.toArray.size false):=
  ⟨aF,fun j oj _ hl=>AK,fun t _ ht=>getD_in zY (getD_replicate_false _ _)⟩
 have hdl:(l.drop n).length=l.toArray.size - n:=aF;refine wp_region_any hmx ?_
 have:=Fl (md:=.any) (Q:=Q) (g:=l.toArray.size - n) (fun s' listed a' w' hw' hL=>by
  have:=wpAny_of_seq (md:=.any) (Q':=Q) (l.drop n) n listed a' w' (fun j=>by simp[List.getElem?_drop]) Ah (hL.2 w' hw')
  rwa [hdl]at this) n s _ a _ hC (yT h3 hs hc hn n t s _ a ux h1 h)
 rw[show n+(l.toArray.size - n)=l.toArray.size by omega]at this;exact this
theorem abx{t:Tr}{s:σ}{L:σ→Act→Prop}(hk:ops[k]?=some o)
  (h:∀K:Act→Prop,(∀a,wpB P ops C L t s a→K a)→if Region.wanted o (yielded ops a.tmps)then fH P o a C K else K (a.put o.dst undef)):wpB P ops C L (.quiet k t) s a:=by
 unfold wpB gOp;simp only[hk];exact h _ (fun _ h=>h)
end
section
variable{P:Program}{ops:Array Oper}{σ:Type}{C:σ→World→Prop}{L:σ→Act→Prop}{s:σ}{a:Act}{k k2 k3:Nat}{t t2 t3:Tr}
theorem uq(h:j8 P ops C k s (wpB P ops C L t) a):wpB P ops C L (.one k t) s a:=h
theorem xz(h:j8 P ops C k s (wpB P ops C L t) a)(h2:j8 P ops C k2 s (wpB P ops C L t2) a):wpB P ops C L (.two k t k2 t2) s a:=⟨h,h2⟩
theorem LW(h:j8 P ops C k s (wpB P ops C L t) a)(h2:j8 P ops C k2 s (wpB P ops C L t2) a)(h3:j8 P ops C k3 s (wpB P ops C L t3) a):wpB P ops C L (.three k t k2 t2 k3 t3) s a:=⟨h,h2,h3⟩
theorem Jw(h:L s a):wpB P ops C L .fin s a:=h
end
section
variable{P:Program}{ops:Array Oper}{C:World→Prop}
theorem TN{K:{w:World // C w}→Act→Prop}{s:{w:World // C w}}(hk:ops[k]?=some o)(hw:Region.wanted o (yielded ops a.tmps)=true)
  (u:Value) (w':World) (hC:C w') (ht:zI P o a s.val u w') (h:K ⟨w',hC⟩ (a.put o.dst u)):j8 P ops (eM C) k s K a:=
 ⟨o,hk,hw,fun w hw'=>by
  obtain rfl:w=s.val:=hw';exact aC ⟨u,w',ht,⟨w',hC⟩,rfl,h⟩⟩
theorem wJ{K:{w:World // C w}→Act→Prop}{s:{w:World // C w}}(hk:ops[k]?=some o)(hw:Region.wanted o (yielded ops a.tmps)=true)
  (f:FuncId) (args:Array Value) (hrun:(execOp a.eval o).run P s.val=.ok (.enter f args) s.val) (h:Calls P f args s.val fun e w'=>∃u,e=.returned u∧∃hC:C w',K ⟨w',hC⟩ (a.put o.dst u)):j8 P ops (eM C) k s K a:=
 ⟨o,hk,hw,fun w hw'=>by
  obtain rfl:w=s.val:=hw';refine aA ⟨f,args,s.val,hrun,h.mono ?_⟩;rintro e w' ⟨u,he,hC,hT⟩;exact⟨u,he,⟨w',hC⟩,rfl,hT⟩⟩
end
end
end Go.Proofs.YtcphhbofjkenaaaGreatDoor
