import Derived.Test.YtcphhbofjkenaaaGreatDoorM12
namespace Go.Proofs.YtcphhbofjkenaaaGreatDoor
open Go Go.RowKit
set_option linter.unusedVariables false
set_option linter.unusedSimpArgs false
set_option maxRecDepth 100000
set_option maxHeartbeats 16000000
section
def yQ(ws:List RW)(t:ByteArray):Int:=if gy t=false then 4 else if 40≤ws.length then 8 else 0
theorem aK.cells{w:World}{sb:Nat}{v:Value}{ws:List RW}{c k:Int}(h:aK w sb v ws c k):w.cell? ⟨sb,0,none⟩=some v∧w.cell? ⟨sb,1,none⟩=some (.int .i64 c)∧w.cell? ⟨sb,2,none⟩=some (.int .i64 k):=⟨h.blk.cell 0 _ rfl,h.blk.cell 1 _ rfl,h.blk.cell 2 _ rfl⟩
theorem o9(rb sb:Nat)(tv sv:Value)(ae:List Tk)(ws:List RW)(c k:Int)(I:Nat)(fin A:Int)(w:World)
  (hR:Rd w rb sb tv sv ae ws c k) (hb:az w rb (bK sb tv I fin 0 A) 181) (hI:I≤ae.length) (h0:yQ ws (aC ae I)=0):
  Calls Tryz.prog 128 #[.pointer (some ⟨rb,0,none⟩)] w fun e w'=>e=.returned (.tuple #[.string (aC ae I),.bool true])∧Below w.heap.size w w':=by
 have Ad:=hR.few;have hwf:=hR.EG;have hnx:=uX rb sb tv ae I fin 0 A w (by omega) (by omega) hb hR.tok;have hsz:=hR.tsz I;obtain⟨t,ht⟩:=exq (aC ae I);rw[←ht]at hnx h0 hsz ⊢
 have hnm:gy t=true∧¬40≤ws.length:=by
  unfold yQ at h0
  cases hh:gy t with
  |false=>rw[hh]at h0;simp at h0
  |true=>
   rw[hh]at h0;refine⟨rfl,fun e=>?_⟩;simp[e]at h0
 have mg:=ast hnx;have X3:=ast (fun w'=>GX t w' hsz);rw[hnm.1]at X3;have hlen:¬(40:Int)≤(ws.length:Int):=by have:=hnm.2;omega
 obtain⟨ad,cap,hv,hcap,_⟩:=ag hR.sys.row;have HR:=ast hR;have HB:=ast hb;have HV:=ast hv;clear hnx h0 hsz hnm hR hb ht;go_enter Tryz.func128,Tryz.ntmps128
 go_wp2_with fail
 refine mg.out.mono ?_;rintro e w1 ⟨rfl,h1⟩;have H1:=ast h1;clear h1 mg;go_wp2_with fail
 refine(X3.out _).mono ?_;rintro e w2 ⟨rfl,h2⟩;have bT:Below w.heap.size w w2:=H1.out.trans (h2.mono H1.out.size);have hb2:az w2 rb (bK sb tv I fin 0 A) 181:=(bT.block _ HB.out.lt).trans HB.out;have hR2:=HR.out.aA (aj.au bT);obtain⟨r0,r1,r2,r3,r4,r5⟩:=hb2.bK;obtain⟨s0,s1,s2⟩:=hR2.sys.cells;rw[hv]at s0;have Rq:=ast bT;clear h2 H1 X3 bT hb2 hR2 hv;go_wp2_with fail
 exact bodyPost_ret (v:=.tuple #[.string t,.bool true]) (by simp[results,Tryz.results128,go_sem]) rfl ⟨rfl,Rq.out⟩
theorem sH(rb sb:Nat)(tv sv:Value)(ae:List Tk)(ws:List RW)(c k:Int)(I:Nat)(fin A:Int)(w:World)
  (hR:Rd w rb sb tv sv ae ws c k) (hb:az w rb (bK sb tv I fin 0 A) 181) (hI:I≤ae.length) (h0:yQ ws (aC ae I)≠0):
  Calls Tryz.prog 128 #[.pointer (some ⟨rb,0,none⟩)] w fun e w'=>e=.returned (.tuple #[.string ⟨#[]⟩,.bool false])∧az w' rb (bK sb tv I fin (yQ ws (aC ae I)) (kz ae fin I)) 181∧aj (fun b=>b=rb) w w':=by
 have Ad:=hR.few;have hwf:=hR.EG;have hnx:=uX rb sb tv ae I fin 0 A w (by omega) (by omega) hb hR.tok;have hsz:=hR.tsz I;have HX:=ast (fun (w':World) (E:Int) (bT:Below w.heap.size w w')=>gz rb sb tv ae I I fin A E w' (by omega) (by omega) ((bT.block _ hb.lt).trans hb) (hR.aA (aj.au bT)).tok hR.tr);obtain⟨t,ht⟩:=exq (aC ae I);rw[←ht]at hnx h0 hsz ⊢;have mg:=ast hnx;have X3:=ast (fun w'=>GX t w' hsz);obtain⟨ad,cap,hv,hcap,_⟩:=ag hR.sys.row;have HR:=ast hR;have HB:=ast hb;clear hnx hsz hR hb ht;obtain⟨bn,hbn⟩:=exq (gy t);rw[←hbn]at X3
 cases bn with
 |false=>
  have hE:yQ ws t=4:=by unfold yQ;rw[if_pos hbn.symm]
  rw[hE];clear hbn h0 hE;go_enter Tryz.func128,Tryz.ntmps128
  go_wp2_with fail
  refine mg.out.mono ?_;rintro e w1 ⟨rfl,h1⟩;have H1:=ast h1;clear h1 mg;go_wp2_with fail
  refine(X3.out _).mono ?_;rintro e w2 ⟨rfl,h2⟩;have bT:Below w.heap.size w w2:=H1.out.trans (h2.mono H1.out.size);have hb2:az w2 rb (bK sb tv I fin 0 A) 181:=(bT.block _ HB.out.lt).trans HB.out;obtain⟨r0,r1,r2,r3,r4,r5⟩:=hb2.bK;have Rq:=ast bT;clear h2 H1 X3 bT hb2;go_wp2_with fail
  refine(HX.out _ _ Rq.out).mono ?_;rintro e w3 ⟨rfl,hb3,hc3⟩;have H3:=ast hb3;have H4:=ast ((aj.au Rq.out).trans hc3);clear hb3 hc3 HX r0 r1 r2 r3 r4 r5;go_wp2_with fail
  exact bodyPost_ret (v:=.tuple #[.string ⟨#[]⟩,.bool false]) (by simp[results,Tryz.results128,go_sem]) rfl ⟨rfl,H3.out,H4.out⟩
 |true=>
  have akc:40≤ws.length:=by
   unfold yQ at h0;rw[←hbn]at h0;simp only[Bool.true_eq_false,if_false]at h0;rcases Nat.lt_or_ge ws.length 40 with h|h
   ·rw[if_neg (by omega)]at h0;exact absurd rfl h0
   ·exact h
  have hE:yQ ws t=8:=by unfold yQ;rw[←hbn];simp[akc]
  rw[hE];have hlen:(40:Int)≤(ws.length:Int):=by omega
  clear hbn h0 hE;go_enter Tryz.func128,Tryz.ntmps128
  go_wp2_with fail
  refine mg.out.mono ?_;rintro e w1 ⟨rfl,h1⟩;have H1:=ast h1;clear h1 mg;go_wp2_with fail
  refine(X3.out _).mono ?_;rintro e w2 ⟨rfl,h2⟩;have bT:Below w.heap.size w w2:=H1.out.trans (h2.mono H1.out.size);have hb2:az w2 rb (bK sb tv I fin 0 A) 181:=(bT.block _ HB.out.lt).trans HB.out;have hR2:=HR.out.aA (aj.au bT);obtain⟨r0,r1,r2,r3,r4,r5⟩:=hb2.bK;obtain⟨s0,s1,s2⟩:=hR2.sys.cells;rw[hv]at s0;have Rq:=ast bT;have HV:=ast hv;clear h2 H1 X3 bT hb2 hR2 hv;go_wp2_with fail
  refine(HX.out _ _ Rq.out).mono ?_;rintro e w3 ⟨rfl,hb3,hc3⟩;have H3:=ast hb3;have H4:=ast ((aj.au Rq.out).trans hc3);clear hb3 hc3 HX r0 r1 r2 r3 r4 r5 s0 s1 s2;go_wp2_with fail
  exact bodyPost_ret (v:=.tuple #[.string ⟨#[]⟩,.bool false]) (by simp[results,Tryz.results128,go_sem]) rfl ⟨rfl,H3.out,H4.out⟩
end
end Go.Proofs.YtcphhbofjkenaaaGreatDoor
