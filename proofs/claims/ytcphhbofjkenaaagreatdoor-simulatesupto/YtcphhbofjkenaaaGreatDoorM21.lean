import Derived.Test.YtcphhbofjkenaaaGreatDoorMy
import Derived.Test.YtcphhbofjkenaaaGreatDoorM11
namespace Go.Proofs.YtcphhbofjkenaaaGreatDoor
open Go Go.RowKit Proofs.Tryz
set_option linter.unusedVariables false
set_option linter.unusedSimpArgs false
set_option maxRecDepth 100000
set_option maxHeartbeats 16000000
theorem Rt{p:Prop}(h:p:=by
  exact bodyPost_ret (v:=.tuple #[.string ⟨#[]⟩,.bool false]) Kq rfl ⟨rfl,H3,H4⟩):p:=h
section
def iG(ws:List RW)(t:ByteArray):Int:=if gK t=false then 4 else if 40≤ws.length then 8 else 0
theorem cG.cells{w:World}{sb:Nat}{v:Value}{ws:List RW}{c k:Int}(h:cG w sb v ws c k):w.cell? (ai sb 0)=some v∧w.cell? (ai sb 1)=some (ae c)∧w.cell? (ai sb 2)=some (ae k):=⟨h.blk.cell 0 _ rfl,h.blk.cell 1 _ rfl,h.blk.cell 2 _ rfl⟩
theorem Hf(rb sb:Nat)(tv sv:Value)(ar:List Tk)(ws:List RW)(c k:Int)(I:Nat)(fin A:Int)(w:World)
  (hR:Rd w rb sb tv sv ar ws c k) (hb:ay w rb (aO sb tv I fin 0 A) 181) (hI:I≤ar.length) (h0:iG ws (aS ar I)=0):
  Calls prog 128 #[ax rb] w fun e w'=>e=.returned (.tuple #[.string (aS ar I),.bool true])∧Below w.heap.size w w':=by
 have rM:=hR.few;have hwf:=hR.uD;have hnx:=Ca rb sb tv ar I fin 0 A w ag ag hb hR.tok;have hsz:=hR.tsz I;obtain⟨t,ht⟩:=ak (aS ar I);rw[←ht]at hnx h0 hsz ⊢
 have hnm:gK t=true∧¬40≤ws.length:=by
  unfold iG at h0
  cases hh:gK t with
  |false=>rw[hh]at h0;simp at h0
  |true=>
   rw[hh]at h0;refine⟨rfl,fun e=>?_⟩;simp[e]at h0
 have dQ:=af hnx;have HNA:=af (fun w'=>JQ t w' hsz);rw[hnm.1]at HNA;have hlen:¬(40:Int)≤(ws.length:Int):=by have:=hnm.2;omega
 obtain⟨ad,cap,hv,hcap,_⟩:=bo hR.sys.row;have HR:=af hR;have HB:=af hb;have HV:=af hv;clear hnx h0 hsz hnm hR hb ht;go_enter func128,ntmps128;go_wp2_with fail;refine dQ.mono ?_;rintro e w1 ⟨rfl,h1⟩;have H1:=af h1;clear h1 dQ;go_wp2_with fail;refine(HNA _).mono ?_;rintro e w2 ⟨rfl,h2⟩;have bL:Below w.heap.size w w2:=H1.trans (h2.mono H1.size);have hb2:ay w2 rb (aO sb tv I fin 0 A) 181:=(bL.block _ HB.lt).trans HB;have hR2:=HR.aB (aq.bf bL);obtain⟨r0,r1,r2,r3,r4,r5⟩:=hb2.aO;obtain⟨s0,s1,s2⟩:=hR2.sys.cells;rw[hv]at s0;have qR:=af bL;clear h2 H1 HNA bL hb2 hR2 hv;go_wp2_with fail;exact bodyPost_ret (v:=.tuple #[.string t,.bool true]) Kq rfl ⟨rfl,qR⟩
theorem Mq(rb sb:Nat)(tv sv:Value)(ar:List Tk)(ws:List RW)(c k:Int)(I:Nat)(fin A:Int)(w:World)
  (hR:Rd w rb sb tv sv ar ws c k) (hb:ay w rb (aO sb tv I fin 0 A) 181) (hI:I≤ar.length) (h0:iG ws (aS ar I)≠0):
  Calls prog 128 #[ax rb] w fun e w'=>e=.returned (.tuple #[.string ⟨#[]⟩,.bool false])∧ay w' rb (aO sb tv I fin (iG ws (aS ar I)) (cE ar fin I)) 181∧aq (fun b=>b=rb) w w':=by
 have rM:=hR.few;have hwf:=hR.uD;have hnx:=Ca rb sb tv ar I fin 0 A w ag ag hb hR.tok;have hsz:=hR.tsz I;have HX:=af (fun (w':World) (E:Int) (bL:Below w.heap.size w w')=>su rb sb tv ar I I fin A E w' ag ag ((bL.block _ hb.lt).trans hb) (hR.aB (aq.bf bL)).tok hR.tr);obtain⟨t,ht⟩:=ak (aS ar I);rw[←ht]at hnx h0 hsz ⊢;have dQ:=af hnx;have HNA:=af (fun w'=>JQ t w' hsz);obtain⟨ad,cap,hv,hcap,_⟩:=bo hR.sys.row;have HR:=af hR;have HB:=af hb;clear hnx hsz hR hb ht;obtain⟨bn,hbn⟩:=ak (gK t);rw[←hbn]at HNA
 cases bn with
 |false=>
  have hE:iG ws t=4:=by unfold iG;rw[aG hbn.symm]
  rw[hE];clear hbn h0 hE;go_enter func128,ntmps128;go_wp2_with fail;refine dQ.mono ?_;rintro e w1 ⟨rfl,h1⟩;have H1:=af h1;clear h1 dQ;go_wp2_with fail;refine(HNA _).mono ?_;rintro e w2 ⟨rfl,h2⟩;have bL:Below w.heap.size w w2:=H1.trans (h2.mono H1.size);have hb2:ay w2 rb (aO sb tv I fin 0 A) 181:=(bL.block _ HB.lt).trans HB;obtain⟨r0,r1,r2,r3,r4,r5⟩:=hb2.aO;have qR:=af bL;clear h2 H1 HNA bL hb2;go_wp2_with fail;refine(HX _ _ qR).mono ?_;rintro e w3 ⟨rfl,hb3,hc3⟩;have H3:=af hb3;have H4:=af ((aq.bf qR).trans hc3);clear hb3 hc3 HX r0 r1 r2 r3 r4 r5;go_wp2_with fail;exact Rt
 |true=>
  have abb:40≤ws.length:=by
   unfold iG at h0;rw[←hbn]at h0;simp only[Bool.true_eq_false,if_false]at h0;rcases kh ws.length 40 with h|h
   ·rw[az ag]at h0;exact absurd rfl h0
   ·exact h
  have hE:iG ws t=8:=by unfold iG;rw[←hbn];simp[abb]
  rw[hE];have hlen:(40:Int)≤(ws.length:Int):=ag;clear hbn h0 hE;go_enter func128,ntmps128;go_wp2_with fail;refine dQ.mono ?_;rintro e w1 ⟨rfl,h1⟩;have H1:=af h1;clear h1 dQ;go_wp2_with fail;refine(HNA _).mono ?_;rintro e w2 ⟨rfl,h2⟩;have bL:Below w.heap.size w w2:=H1.trans (h2.mono H1.size);have hb2:ay w2 rb (aO sb tv I fin 0 A) 181:=(bL.block _ HB.lt).trans HB;have hR2:=HR.aB (aq.bf bL);obtain⟨r0,r1,r2,r3,r4,r5⟩:=hb2.aO;obtain⟨s0,s1,s2⟩:=hR2.sys.cells;rw[hv]at s0;have qR:=af bL;have HV:=af hv;clear h2 H1 HNA bL hb2 hR2 hv;go_wp2_with fail;refine(HX _ _ qR).mono ?_;rintro e w3 ⟨rfl,hb3,hc3⟩;have H3:=af hb3;have H4:=af ((aq.bf qR).trans hc3);clear hb3 hc3 HX r0 r1 r2 r3 r4 r5 s0 s1 s2;go_wp2_with fail;exact Rt
end
end Go.Proofs.YtcphhbofjkenaaaGreatDoor
