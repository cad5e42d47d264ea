import Derived.Test.YtcphhbofjkenaaaGreatDoorM31
import Derived.Test.YtcphhbofjkenaaaGreatDoorM37
namespace Go.Proofs.YtcphhbofjkenaaaGreatDoor
open Go Go.RowKit
set_option linter.unusedVariables false
set_option linter.unusedSimpArgs false
set_option maxRecDepth 100000
set_option maxHeartbeats 16000000
section
theorem Tryz.acD:(Tryz.prog.info? 24).map (fun i=>(i.zero,i.size,i.bytes))=some (some (.slice none 0 0),1,24):=by kernel_rfl
theorem Ny(B:Nat)(w:World)(wb:Nat)(lv:Value)(bk:B4)(gs:List Value)(ua:Option Addr)(n uc:Nat)(xs:List Value)(hb:az w wb (Ry lv bk) 84)(hrow:w.ownsRow B 24 1 bk.i gs.length gs)
  (hlen:gs.length≤90000000) (hn:n≤2000000) (hB:B≤w.heap.size) (hl:w.ownsRow B 3 1 (.slice ua n uc) n xs):
  Calls Tryz.prog 98 #[.pointer (some ⟨wb,1,none⟩),.slice ua n uc] w (Bd 1 B w wb lv bk gs (.slice ua n uc)):=by
 obtain⟨nv,iv,pv,ev⟩:=bk;simp only at hrow;obtain⟨nad,Jt,hnv,af8,_⟩:=ag hrow;subst hnv;have c1:w.cell? ⟨wb,2,none⟩=some (.slice nad gs.length Jt):=hb.cell 2 _ rfl;have hwl:(Value.slice ua n uc).ownBlock≠some wb:=ah hl hb (by decide);have hnl:∀b,(Value.slice nad gs.length Jt).ownBlock=some b→(Value.slice ua n uc).ownBlock≠some b:=fun b e=>bQ hrow hl (by decide) e
 have Yr:(Value.slice nad gs.length Jt).ownBlock≠some wb:=ah hrow hb (by decide);obtain⟨m,hm⟩:=exq (-1000 - ((gs.length / 4:Nat):Int):Int);have wL:(-1000 - (gs.length:Int) / 4)=m:=by rw[hm];omega
 have nX:=hb.lt;have hul:∀b,(Value.slice ua n uc).ownBlock=some b→b<w.heap.size:=fun b hb'=>bg hl hb'
 have HB:=ast hb;have HR:=ast hrow;have HL:=ast hl;have HM:=ast hm;have HM':=ast wL;clear hb hrow hl hm wL;go_enter Tryz.func98,Tryz.ntmps98
 go_upto_region 1 with fail
 rw[HM'.out];clear c1;go_wp2_with fail
 go_loopw[5] (fun i wr=>∃(k:Nat) (ys:List Value),k≤n∧i=.int .i64 k∧Hid (wr.ownsRow B 3 1 (.slice ua n uc) n ys∧∀j,j<k→ys[j]?=some (.int .i64 m))∧Hid (aj (fun b=>(Value.slice ua n uc).ownBlock=some b) w wr)) (fun i _=>n - (intOf i).toNat)
 case atStart=>exact⟨0,xs,Nat.zero_le _,rfl,ast ⟨HL.out,fun j h=>by omega⟩,ast (aj.refl _ _)⟩
 case round=>
  obtain⟨k,ys,hk,rfl,HY,HC⟩:=hrel
  by_cases hlt:k<n
  ·have lD:(k:Int)<(n:Int):=by omega
   have hl0:(0:Int)≤(k:Int):=by omega
   obtain⟨lg,cap,hv,_,hlg,_,_,hc⟩:=aB HY.out.1 (by omega);obtain⟨rfl,rfl⟩:ua=some ⟨lg,0,none⟩∧uc=cap:=by simpa using hv
   have hyl:ys.length=n*1:=HY.out.1.1;obtain⟨x0,hx0⟩:∃x,ys[k]?=some x:=⟨_,List.getElem?_eq_getElem (by omega)⟩;have e0:wr.cell? ⟨lg,k,none⟩=some x0:=hc _ _ hx0;have f0:=Vk HY.out.1 k;clear hx0 hc hv;go_wp2_with fail
   go_roundw
   case rel=>
    refine⟨k+1,ys.set k (.int .i64 m),by omega,by go_num,ast ⟨fO HY.out.1 k _,fun j hj=>?_⟩,ast (HC.out.setCell (p:=⟨lg,k,none⟩) rfl _)⟩
    by_cases e:j=k
    ·subst e;rw[List.getElem?_set_self (by omega)]
    ·rw[List.getElem?_set_ne (by omega)];exact HY.out.2 j (by omega)
   case measure=>simp[intOf];omega
  ·obtain rfl:k=n:=by omega
   have hys:=Ql [.int .i64 m] k ys (by simp) HY.out.1.1 (fun j hj=>by rw[HY.out.2 j (by simpa using hj)];simp[Nat.mod_one]);have hown:wr.ownsRow B 3 1 (.slice ua k uc) k (gm [.int .i64 m] k):=by rw[←hys];exact HY.out.1
   have HO:=ast hown;clear hys hown HY;have Zg:=HC;clear HC;have lD:¬(k:Int)<(k:Int):=by omega
   obtain⟨i0,hi,hz0,hz1,hz2⟩:=info_parts Tryz.lY;have HI:=ast (And.intro hi (And.intro hz0 (And.intro hz1 hz2)));have hBr:B≤wr.heap.size:=Nat.le_trans hB Zg.out.size;have HPO:=ast (fun q=>Qm [.int .i64 m] (by intro u hu;simp at hu;rw[hu];rfl) q);have XP:=ast (HO.out.alloc (.cells #[.int .i64 m] 3 (0,0)));have oC:=ast (tX wr [.int .i64 m] 3 1 #[.int .i64 m] rfl);have HB1:=ast (show B≤(wr.alloc (.cells #[.int .i64 m] 3 (0,0))).heap.size by simp;omega);have HQ1:=ast (And.intro (show k+1≤maxLen by unfold maxLen;omega) (And.intro (show k+2≤maxLen by unfold maxLen;omega) (show k+3≤maxLen by unfold maxLen;omega)));have HQ2:=ast (And.intro (show(k+1)*8≤140737488355328 by omega) (And.intro (show(k+2)*8≤140737488355328 by omega) (show(k+3)*8≤140737488355328 by omega)));clear hi hz0 hz1 hz2;go_wp2_with (at_builtin;refine jw _ rfl _ _ 24 rfl B 3 i0 (.int .i64 0) 1 8 Tryz.underlying24 HI.out.1 HI.out.2.1 HI.out.2.2.1 HI.out.2.2.2 rfl (by decide) [.int .i64 m] rfl (.slice ua k uc) k rfl XP.out ⟨wr.heap.size,0,none⟩ 1 1 rfl oC.out (HPO.out 1) HQ1.out.1 HQ2.out.1 HB1.out ?_)
   intro v1 w2 ho1 hg1 yR Wx;obtain⟨a1,c1,ZC,_,_⟩:=ag ho1;subst ZC;have hc1:aj (fun b=>(Value.slice ua k uc).ownBlock=some b) w w2:=(Zg.out.alloc _).trans ((aj.bD hg1).mono (fun b _ e=>e.symm));have hl1:=Wx _ _ _ XP.out
   have aam:∀b,(Value.slice a1 (k+1) c1).ownBlock=some b→(Value.slice ua k uc).ownBlock=some b∨w.heap.size≤b:=fun b hb=>by
    rcases yR with e|e
    ·rw[e]at hb;exact Or.inl hb
    ·rw[e]at hb;right;have:=Zg.out.size;simp at hb;omega
   have HO1:=ast ho1;have BI:=ast hc1;have DU:=ast hl1;have gY:=ast aam;have hB2:B≤w2.heap.size:=Nat.le_trans hB hc1.size;clear ho1 hg1 yR Wx hc1 hl1 aam XP oC HB1 HO;have HX2:=ast (DU.out.alloc (.cells #[.int .i64 m,.int .i64 m] 3 (0,0)));have HY2:=ast (HO1.out.alloc (.cells #[.int .i64 m,.int .i64 m] 3 (0,0)));have vU:=ast (tX w2 [.int .i64 m] 3 2 #[.int .i64 m,.int .i64 m] rfl);have gK:=ast (show B≤(w2.alloc (.cells #[.int .i64 m,.int .i64 m] 3 (0,0))).heap.size by simp;omega);go_wp2_with (at_builtin;refine jw _ rfl _ _ 24 rfl B 3 i0 (.int .i64 0) 1 8 Tryz.underlying24 HI.out.1 HI.out.2.1 HI.out.2.2.1 HI.out.2.2.2 rfl (by decide) [.int .i64 m] rfl (.slice ua k uc) k rfl HX2.out ⟨w2.heap.size,0,none⟩ 2 2 rfl vU.out (HPO.out 2) HQ1.out.2.1 HQ2.out.2.1 gK.out ?_)
   intro v2 w3 ho2 hg2 rV Nz;obtain⟨a2,c2,hv2,_,_⟩:=ag ho2;subst hv2;have hc2:aj (fun b=>(Value.slice ua k uc).ownBlock=some b) w w3:=(BI.out.alloc _).trans ((aj.bD hg2).mono (fun b _ e=>e.symm))
   have aan:∀b,(Value.slice a2 (k+2) c2).ownBlock=some b→(Value.slice ua k uc).ownBlock=some b∨w.heap.size≤b:=fun b hb=>by
    rcases rV with e|e
    ·rw[e]at hb;exact Or.inl hb
    ·rw[e]at hb;right;have:=BI.out.size;simp at hb;omega
   have hl2:=Nz _ _ _ HX2.out;have hm2:=Nz _ _ _ HY2.out;have HO2:=ast ho2;have Fb:=ast hc2;have HL2:=ast hl2;have HM2:=ast hm2;have dZ:=ast aan;have WR:B≤w3.heap.size:=Nat.le_trans hB hc2.size;clear ho2 hg2 rV Nz hc2 hl2 hm2 aan HX2 HY2 vU gK HO1 DU BI;have HX3:=ast (HL2.out.alloc (.cells #[.int .i64 m,.int .i64 m,.int .i64 m] 3 (0,0)));have HY3:=ast (HM2.out.alloc (.cells #[.int .i64 m,.int .i64 m,.int .i64 m] 3 (0,0)));have HZ3:=ast (HO2.out.alloc (.cells #[.int .i64 m,.int .i64 m,.int .i64 m] 3 (0,0)));have RG:=ast (tX w3 [.int .i64 m] 3 3 #[.int .i64 m,.int .i64 m,.int .i64 m] rfl);have GZ:=ast (show B≤(w3.alloc (.cells #[.int .i64 m,.int .i64 m,.int .i64 m] 3 (0,0))).heap.size by simp;omega);go_wp2_with (at_builtin;refine jw _ rfl _ _ 24 rfl B 3 i0 (.int .i64 0) 1 8 Tryz.underlying24 HI.out.1 HI.out.2.1 HI.out.2.2.1 HI.out.2.2.2 rfl (by decide) [.int .i64 m] rfl (.slice ua k uc) k rfl HX3.out ⟨w3.heap.size,0,none⟩ 3 3 rfl RG.out (HPO.out 3) HQ1.out.2.2 HQ2.out.2.2 GZ.out ?_)
   intro v3 w4 ho3 hg3 Wy NC;obtain⟨a3,c3,hv3,_,_⟩:=ag ho3;subst hv3;have hc3:aj (fun b=>(Value.slice ua k uc).ownBlock=some b) w w4:=(Fb.out.alloc _).trans ((aj.bD hg3).mono (fun b _ e=>e.symm))
   have aao:∀b,(Value.slice a3 (k+3) c3).ownBlock=some b→(Value.slice ua k uc).ownBlock=some b∨w.heap.size≤b:=fun b hb=>by
    rcases Wy with e|e
    ·rw[e]at hb;exact Or.inl hb
    ·rw[e]at hb;right;have:=Fb.out.size;simp at hb;omega
   have hq:=HM.out
   have mk:∀(v:Value) (q:Nat),q≤3000000→w4.ownsRow B 3 1 v q (gm [.int .i64 m] q)→gV 1 B w4 v (gs.length / 4):=fun v q h1 h2=>⟨q,h1,by
    show w4.ownsRow B 3 1 v q (gm [.int .i64 (-1000 - ((gs.length / 4:Nat):Int))] q)
    rw[←hq];exact h2⟩
   have M0:=mk _ k (by omega) (NC _ _ _ HX3.out);have M1:=mk _ (k+1) (by omega) (NC _ _ _ HY3.out);have M2:=mk _ (k+2) (by omega) (NC _ _ _ HZ3.out);have M3:=mk _ (k+3) (by omega) ho3;have HMM:=ast (And.intro M0 (And.intro M1 (And.intro M2 M3)));have NZ:=ast hc3;have jo:=ast aao;clear ho3 hg3 Wy NC hc3 aao HX3 HY3 HZ3 RG GZ HO2 HL2 HM2 Fb hq mk M0 M1 M2 M3;have hrow4:=af HR.out NZ.out (fun b hb e=>hnl b hb e);have qM:=HB.out.aA NZ.out hwl;have HR4:=ast hrow4;have DF:=ast qM;have c4:w4.cell? ⟨wb,2,none⟩=some (.slice nad gs.length Jt):=qM.cell 2 _ rfl;have f4:=qM.frozen 2;clear hrow4 qM;obtain⟨j0,hj,hy0,hy1,hy2⟩:=info_parts Tryz.acD;have HJ:=ast (And.intro hj (And.intro hy0 (And.intro hy1 hy2)));have hB4:B≤w4.heap.size:=Nat.le_trans hB NZ.out.size;have hN4:NSJ 1 B w4 w4 wb lv ⟨nv,.slice nad gs.length Jt,pv,ev⟩ (.slice nad gs.length Jt) gs:=⟨DF.out,HR4.out,aj.refl _ _,Lc.refl _ _,nrq,hB4⟩;have wM:=ast hN4;have HE1:=ast (fun (a:Option Addr) (x y:Nat)=>(show ∀u∈[Value.slice a x y],u.oneCell'=true by intro u hu;simp at hu;rw[hu];rfl));clear hj hy0 hy1 hy2 hN4 DF HR4;have HW0:=ast (wM.out.row.alloc (.cells #[Value.slice ua k uc] 24 (0,0)));have HV0:=ast (qH w4 #[Value.slice ua k uc] 24);have HU0:=ast (show gs.length+1≤maxLen by unfold maxLen;omega);have HT0:=ast (show(gs.length+1)*24≤140737488355328 by omega);have JM:=ast (show B≤(World.alloc w4 (.cells #[Value.slice ua k uc] 24 (0,0))).heap.size by have:=wM.out.le;simp;omega)
   have HH0:=ast (show(World.alloc w4 (.cells #[Value.slice ua k uc] 24 (0,0))).heap.size=w4.heap.size+1 by simp);go_wp2_with (at_builtin;refine wpList_append_lies _ rfl _ _ 78 rfl B 24 j0 (.slice none 0 0) 1 24 Tryz.underlying78 HJ.out.1 HJ.out.2.1 HJ.out.2.2.1 HJ.out.2.2.2 rfl (by decide) (Value.slice nad gs.length Jt) (gs.length) gs rfl HW0.out ⟨w4.heap.size,0,none⟩ 1 1 [Value.slice ua k uc] rfl rfl HV0.out (HE1.out _ _ _) (by decide) HU0.out HT0.out JM.out (w4.heap.size+1) HH0.out ?_)
   intro g0 WA y0 KT hg0 WC alQ;have ND:=wM.out.step (by omega) (u:=Value.slice ua k uc) (n:=gs.length) rfl KT hg0 WC;have Uc:=(wM.out.blk.alloc (.cells #[Value.slice ua k uc] 24 (0,0))).aA (aj.bD hg0) (fun e=>ah wM.out.row wM.out.blk (by decide) e.symm);have q0:y0.cell? ⟨wb,2,none⟩=some (Value.slice nad gs.length Jt):=Uc.cell 2 _ rfl;have r0:=Uc.frozen 2;obtain⟨z0,hz0⟩:∃z:World,z=y0.setCell ⟨wb,2,none⟩ (.slice (some ⟨g0,0,none⟩) (gs.length+1) WA):=⟨_,rfl⟩;obtain⟨G0,hG0⟩:∃G:List Value,G=gs++[Value.slice ua k uc]:=⟨_,rfl⟩;rw[←hG0]at ND;simp only[show 1+1=2 from rfl]at ND;rw[←hz0]at ND;have HL0:Hid (G0.length=gs.length+1):=by show G0.length=_;rw[hG0,List.length_append,List.length_singleton]
   have rW:=ast ND;have HG0:=ast hG0;have p0:z0.cell? ⟨wb,2,none⟩=some (.slice (some ⟨g0,0,none⟩) (gs.length+1) WA):=ND.blk.cell 2 _ rfl;have s0:=ND.blk.frozen 2;clear KT hg0 WC alQ ND Uc hG0 HW0 HV0 HU0 HT0 JM HH0 c4 f4;go_upto_region 9 with fail
   rw[←hz0];clear q0 r0 hz0;have HW1:=ast (show(World.alloc z0 (.cells #[Value.slice a1 (k+1) c1] 24 (0,0))).ownsRow B 24 1 (Value.slice (some ⟨g0,0,none⟩) (gs.length+1) WA) (gs.length+1) G0 by have h:=rW.out.row;rw[HL0.out]at h;exact h.alloc _);have HV1:=ast (qH z0 #[Value.slice a1 (k+1) c1] 24);have HU1:=ast (show gs.length+1+1≤maxLen by unfold maxLen;omega);have HT1:=ast (show(gs.length+1+1)*24≤140737488355328 by omega);have HS1:=ast (show B≤(World.alloc z0 (.cells #[Value.slice a1 (k+1) c1] 24 (0,0))).heap.size by have:=rW.out.le;simp;omega);have HH1:=ast (show(World.alloc z0 (.cells #[Value.slice a1 (k+1) c1] 24 (0,0))).heap.size=z0.heap.size+1 by simp);go_wp2_with (at_builtin;refine wpList_append_lies _ rfl _ _ 78 rfl B 24 j0 (.slice none 0 0) 1 24 Tryz.underlying78 HJ.out.1 HJ.out.2.1 HJ.out.2.2.1 HJ.out.2.2.2 rfl (by decide) (Value.slice (some ⟨g0,0,none⟩) (gs.length+1) WA) (gs.length+1) G0 rfl HW1.out ⟨z0.heap.size,0,none⟩ 1 1 [Value.slice a1 (k+1) c1] rfl rfl HV1.out (HE1.out _ _ _) (by decide) HU1.out HT1.out HS1.out (z0.heap.size+1) HH1.out ?_)
   intro g1 oO y1 hr1 hg1 yR iD;have NF:=rW.out.step (by omega) (u:=Value.slice a1 (k+1) c1) (n:=gs.length+1) HL0.out.symm hr1 hg1 yR;have Ud:=(rW.out.blk.alloc (.cells #[Value.slice a1 (k+1) c1] 24 (0,0))).aA (aj.bD hg1) (fun e=>ah rW.out.row rW.out.blk (by decide) e.symm);have q1:y1.cell? ⟨wb,2,none⟩=some (Value.slice (some ⟨g0,0,none⟩) (gs.length+1) WA):=Ud.cell 2 _ rfl;have r1:=Ud.frozen 2;obtain⟨z1,hz1⟩:∃z:World,z=y1.setCell ⟨wb,2,none⟩ (.slice (some ⟨g1,0,none⟩) (gs.length+1+1) oO):=⟨_,rfl⟩;obtain⟨G1,hG1⟩:∃G:List Value,G=G0++[Value.slice a1 (k+1) c1]:=⟨_,rfl⟩;rw[←hG1]at NF;simp only[show 1+1=2 from rfl]at NF;rw[←hz1]at NF;have DU:Hid (G1.length=gs.length+1+1):=by show G1.length=_;rw[hG1,List.length_append,List.length_singleton,HL0.out]
   have oC:=ast NF;have X6:=ast hG1;have p1:z1.cell? ⟨wb,2,none⟩=some (.slice (some ⟨g1,0,none⟩) (gs.length+1+1) oO):=NF.blk.cell 2 _ rfl;have s1:=NF.blk.frozen 2;clear hr1 hg1 yR iD NF Ud hG1 HW1 HV1 HU1 HT1 HS1 HH1 p0 s0;go_upto_region 10 with fail
   rw[←hz1];clear q1 r1 hz1;have HW2:=ast (show(World.alloc z1 (.cells #[Value.slice a2 (k+2) c2] 24 (0,0))).ownsRow B 24 1 (Value.slice (some ⟨g1,0,none⟩) (gs.length+1+1) oO) (gs.length+1+1) G1 by have h:=oC.out.row;rw[DU.out]at h;exact h.alloc _);have Zh:=ast (qH z1 #[Value.slice a2 (k+2) c2] 24);have HU2:=ast (show gs.length+1+1+1≤maxLen by unfold maxLen;omega);have rQ:=ast (show(gs.length+1+1+1)*24≤140737488355328 by omega);have HS2:=ast (show B≤(World.alloc z1 (.cells #[Value.slice a2 (k+2) c2] 24 (0,0))).heap.size by have:=oC.out.le;simp;omega);have HH2:=ast (show(World.alloc z1 (.cells #[Value.slice a2 (k+2) c2] 24 (0,0))).heap.size=z1.heap.size+1 by simp);go_wp2_with (at_builtin;refine wpList_append_lies _ rfl _ _ 78 rfl B 24 j0 (.slice none 0 0) 1 24 Tryz.underlying78 HJ.out.1 HJ.out.2.1 HJ.out.2.2.1 HJ.out.2.2.2 rfl (by decide) (Value.slice (some ⟨g1,0,none⟩) (gs.length+1+1) oO) (gs.length+1+1) G1 rfl HW2.out ⟨z1.heap.size,0,none⟩ 1 1 [Value.slice a2 (k+2) c2] rfl rfl Zh.out (HE1.out _ _ _) (by decide) HU2.out rQ.out HS2.out (z1.heap.size+1) HH2.out ?_)
   intro g2 bf y2 hr2 hg2 rV hlt2;have NG:=oC.out.step (by omega) (u:=Value.slice a2 (k+2) c2) (n:=gs.length+1+1) DU.out.symm hr2 hg2 rV;have acE:=(oC.out.blk.alloc (.cells #[Value.slice a2 (k+2) c2] 24 (0,0))).aA (aj.bD hg2) (fun e=>ah oC.out.row oC.out.blk (by decide) e.symm);have q2:y2.cell? ⟨wb,2,none⟩=some (Value.slice (some ⟨g1,0,none⟩) (gs.length+1+1) oO):=acE.cell 2 _ rfl;have r2:=acE.frozen 2;obtain⟨z2,hz2⟩:∃z:World,z=y2.setCell ⟨wb,2,none⟩ (.slice (some ⟨g2,0,none⟩) (gs.length+1+1+1) bf):=⟨_,rfl⟩;obtain⟨G2,hG2⟩:∃G:List Value,G=G1++[Value.slice a2 (k+2) c2]:=⟨_,rfl⟩;rw[←hG2]at NG;simp only[show 1+1=2 from rfl]at NG;rw[←hz2]at NG;have HL2:Hid (G2.length=gs.length+1+1+1):=by show G2.length=_;rw[hG2,List.length_append,List.length_singleton,DU.out]
   have vU:=ast NG;have HG2:=ast hG2;have p2:z2.cell? ⟨wb,2,none⟩=some (.slice (some ⟨g2,0,none⟩) (gs.length+1+1+1) bf):=NG.blk.cell 2 _ rfl;have s2:=NG.blk.frozen 2;clear hr2 hg2 rV hlt2 NG acE hG2 HW2 Zh HU2 rQ HS2 HH2 p1 s1;go_upto_region 11 with fail
   rw[←hz2];clear q2 r2 hz2;have HW3:=ast (show(World.alloc z2 (.cells #[Value.slice a3 (k+3) c3] 24 (0,0))).ownsRow B 24 1 (Value.slice (some ⟨g2,0,none⟩) (gs.length+1+1+1) bf) (gs.length+1+1+1) G2 by have h:=vU.out.row;rw[HL2.out]at h;exact h.alloc _);have HV3:=ast (qH z2 #[Value.slice a3 (k+3) c3] 24);have HU3:=ast (show gs.length+1+1+1+1≤maxLen by unfold maxLen;omega);have CY:=ast (show(gs.length+1+1+1+1)*24≤140737488355328 by omega);have HS3:=ast (show B≤(World.alloc z2 (.cells #[Value.slice a3 (k+3) c3] 24 (0,0))).heap.size by have:=vU.out.le;simp;omega);have HH3:=ast (show(World.alloc z2 (.cells #[Value.slice a3 (k+3) c3] 24 (0,0))).heap.size=z2.heap.size+1 by simp);go_wp2_with (at_builtin;refine wpList_append_lies _ rfl _ _ 78 rfl B 24 j0 (.slice none 0 0) 1 24 Tryz.underlying78 HJ.out.1 HJ.out.2.1 HJ.out.2.2.1 HJ.out.2.2.2 rfl (by decide) (Value.slice (some ⟨g2,0,none⟩) (gs.length+1+1+1) bf) (gs.length+1+1+1) G2 rfl HW3.out ⟨z2.heap.size,0,none⟩ 1 1 [Value.slice a3 (k+3) c3] rfl rfl HV3.out (HE1.out _ _ _) (by decide) HU3.out CY.out HS3.out (z2.heap.size+1) HH3.out ?_)
   intro g3 qj y3 hr3 hg3 Wy hlt3;have NH:=vU.out.step (by omega) (u:=Value.slice a3 (k+3) c3) (n:=gs.length+1+1+1) HL2.out.symm hr3 hg3 Wy;have acF:=(vU.out.blk.alloc (.cells #[Value.slice a3 (k+3) c3] 24 (0,0))).aA (aj.bD hg3) (fun e=>ah vU.out.row vU.out.blk (by decide) e.symm);have q3:y3.cell? ⟨wb,2,none⟩=some (Value.slice (some ⟨g2,0,none⟩) (gs.length+1+1+1) bf):=acF.cell 2 _ rfl;have r3:=acF.frozen 2;obtain⟨z3,hz3⟩:∃z:World,z=y3.setCell ⟨wb,2,none⟩ (.slice (some ⟨g3,0,none⟩) (gs.length+1+1+1+1) qj):=⟨_,rfl⟩;obtain⟨G3,hG3⟩:∃G:List Value,G=G2++[Value.slice a3 (k+3) c3]:=⟨_,rfl⟩;rw[←hG3]at NH;simp only[show 1+1=2 from rfl]at NH;rw[←hz3]at NH;have ZI:Hid (G3.length=gs.length+1+1+1+1):=by show G3.length=_;rw[hG3,List.length_append,List.length_singleton,HL2.out]
   have RG:=ast NH;have HG3:=ast hG3;have p3:z3.cell? ⟨wb,2,none⟩=some (.slice (some ⟨g3,0,none⟩) (gs.length+1+1+1+1) qj):=NH.blk.cell 2 _ rfl;have s3:=NH.blk.frozen 2;clear hr3 hg3 Wy hlt3 NH acF hG3 HW3 HV3 HU3 CY HS3 HH3 p2 s2;go_wp2_with fail
   rw[←hz3];clear q3 r3 hz3 p3 s3;go_end0
   have hF:=RG.out;obtain⟨M0,M1,M2,M3⟩:=HMM.out
   have tn:∀(u:Value) (q:Nat),gV 1 B w4 u q→gV 1 B z3 u q:=fun u q hM=>hM.aA hF.Cf (fun b hb e=>by
    obtain⟨kk,_,hr⟩:=hM;rcases e with e|e
    ·subst e;exact ah hr (HB.out.aA NZ.out hwl) (by decide) hb
    ·exact bQ hr (af HR.out NZ.out (fun b hb e=>hnl b hb e)) (by decide) hb e)
   refine⟨rfl,_,.slice a1 (k+1) c1,.slice a2 (k+2) c2,.slice a3 (k+3) c3,hF.blk,?_,tn _ _ M0,tn _ _ M1,tn _ _ M2,tn _ _ M3,?_,?_,?_⟩
   ·have h:=hF.row
    rw[ZI.out,HG3.out,HG2.out,X6.out,HG0.out]at h;simpa using h
   ·rintro u (rfl|rfl|rfl)
    ·exact gY.out
    ·exact dZ.out
    ·exact jo.out
   ·exact hF.loc.mono NZ.out.size
   ·exact(NZ.out.mono (fun b _ e=>Or.inr (Or.inl e))).trans (hF.Cf.mono (fun b _ e=>e.imp id Or.inr))
end
section
attribute [local go_sem] dK
def ou(l:List Int):List Value:=ints (l++List.replicate 8 77)
theorem Q3(l:List Int):(ou l).length=l.length+8:=by simp[ou,ints]
theorem En(l:List Int)(j:Nat)(h:j<l.length):(ou l)[j]?=(ints l)[j]?:=by
 unfold ou ints;rw[List.map_append,List.getElem?_append_left (by simpa using h)]
theorem Ju(l:List Int)(k:Nat)(hk:k<l.length+8):(ou l)[k]?=some (.int .i64 (if h:k<l.length then l[k]else 77)):=by
 unfold ou ints;rw[List.getElem?_map]
 by_cases h:k<l.length
 ·rw[List.getElem?_append_left h,List.getElem?_eq_getElem h,dif_pos h];rfl
 ·rw[List.getElem?_append_right (by omega),List.getElem?_replicate,if_pos (by omega),dif_neg h];rfl
theorem Dj{ys xs:List Value}{n:Nat}(h1:ys.length=n)(h2:xs.length=n)(h:∀j,j<n→ys[j]?=xs[j]?):ys=xs:=by
 apply List.ext_getElem?;intro j
 by_cases hj:j<n
 ·exact h j hj
 ·rw[List.getElem?_eq_none (by omega),List.getElem?_eq_none (by omega)]
theorem wI{w:World}{base:Nat}{e:TypeId}{size g n cap:Nat}{xs:List Value}(h:w.ownsRow base e size (.slice (some ⟨g,0,none⟩) n cap) n xs)(k:Nat):w.frozen? ⟨g,k,none⟩=false:=by
 rcases h.2 with ⟨h0,_⟩|⟨g',cap',cur,hv,_,hh,_⟩
 ·cases h0
 ·obtain⟨rfl,rfl⟩:g=g'∧cap=cap':=by simpa using hv
  simp[World.frozen?,hh]
theorem Q4(n:Nat)(hn:n≤1100000)(w:World):
  (Instr.makeSlice 24 (.int .i64 ((n:Int)+8)) (.int .i64 ((n:Int)+8))).run Tryz.prog w=.ok (.slice (some ⟨w.heap.size,0,none⟩) (n+8) (n+8)) (w.alloc (.cells (madeCells #[.int .i64 0] (n+8)) 3 (0,0))):=by
 obtain⟨i,hi,hz,hs,hb⟩:=info_parts Tryz.lY;have:=run_make (P:=Tryz.prog) w 24 3 i (.int .i64 0) Tryz.underlying24 hi hz .i64 .i64 ((n:Int)+8) ((n:Int)+8) (by omega) (Int.le_refl _) (by rw[hb];omega) (by omega);rw[hs]at this;have e:((n:Int)+8).toNat=n+8:=by omega
 rw[e,Nat.mul_one]at this;exact this
theorem Gl(w:World)(p:Addr)(n cap:Nat)(l:List Int)(hn:n=l.length)(hb:n≤1100000)(BH:n≤cap)(hs:∀(j:Nat) (u:Value),(ints l)[j]?=some u→p.block<w.heap.size∧w.cell? (p.add j)=some u):
  Calls Tryz.prog 94 #[.slice (some p) n cap] w fun e w'=>∃tg,e=.returned (.slice (some ⟨tg,0,none⟩) n (n+8))∧w.heap.size≤tg∧w'.ownsRow w.heap.size 3 1 (.slice (some ⟨tg,0,none⟩) (n+8) (n+8)) (n+8) (ou l)∧Below w.heap.size w w':=by
 have hmk:=Q4 n hb;obtain⟨tg,htg⟩:=exq (w.heap.size);obtain⟨zs,hzs⟩:=exq (madeCells #[.int .i64 0] (n+8));have hzl:zs.size=n+8:=by rw[hzs,size_madeCells]
 obtain⟨X,hX⟩:=exq (w.alloc (.cells zs 3 (0,0)):World);have hbX:Below w.heap.size w X:=by rw[hX];exact brq.alloc nrq _
 have hgX:X.heap[tg]?=some (.cells zs 3 (0,0)):=by rw[hX,htg];exact heap_alloc_new w _
 have Rh:∀(j:Nat) (u:Value),(ints l)[j]?=some u→X.cell? (p.add j)=some u:=fun j u hu=>by
  rw[hbX.cell (by rw[uf];exact(hs j u hu).1)];exact(hs j u hu).2
 rw[←hzs]at hmk;have HTG:=ast htg;have HX:=ast hX;have lV:=ast hbX;have HGX:=ast hgX;have Kw:=ast Rh;have HN:=ast hn;have HL4:=ast (show(ints l).length=n by simp[ints,hn]);have ZO:=ast hzl;have Ed:=ast (show ∀u∈ints l,u.oneCell'=true from fun u hu=>by obtain⟨z,_,rfl⟩:=List.mem_map.1 hu;rfl);obtain⟨lc,hlc⟩:=exq (ints l);rw[←hlc]at Kw HL4 Ed;have BP:=ast hlc;clear htg hX hbX hgX Rh hs hn hlc hzs hzl;have hnl:=fun w=>Lib.run_eql_slice_nil (P:=Tryz.prog) w 24 3 (some p) n cap 0 0 Tryz.underlying24
 simp only[Option.isNone_some]at hnl;go_enter Tryz.func94,Tryz.ntmps94
 go_upto_region 5 with fail
 rw[←HX.out,←HTG.out];clear hmk hnl;obtain⟨w2,hw2⟩:=exq (X.setRow tg (zs.toList.take 0++lc++zs.toList.drop (0+lc.length)).toArray:World);have Qy:=run_copy_row (P:=Tryz.prog) X 24 24 3 3 tg 0 (n+8) (n+8) p n cap zs 3 lc Tryz.underlying24 FW HGX.out (by rw[HL4.out];exact(Nat.min_eq_left (by omega)).symm) Kw.out (by rw[HL4.out,ZO.out];omega) Ed.out;rw[←hw2,HL4.out]at Qy;have hg2:w2.heap[tg]?=some (.cells (zs.toList.take 0++lc++zs.toList.drop (0+lc.length)).toArray 3 (0,0)):=by rw[hw2];exact setRow_heap X tg _ _ _ _ HGX.out
 have hc2:aj (fun b=>b=tg) X w2:=by rw[hw2];exact⟨rfl,rfl,rfl,by simp[World.setRow],fun k hk hne=>setRow_other X tg k _ (fun e=>hne e)⟩
 clear hw2;have hb2:Below w.heap.size w w2:=lV.out.trans (hc2.toBelow (by rw[←HTG.out];exact Nat.le_of_lt (Array.getElem?_eq_some_iff.1 HGX.out).1) (fun b hb e=>by have:=HTG.out;omega))
 have J5:(zs.toList.take 0++lc++zs.toList.drop (0+lc.length)).length=n+8:=by
  rw[List.length_append,List.length_append,List.length_take,List.length_drop,Array.length_toList,ZO.out,HL4.out];omega
 obtain⟨y0,hy0⟩:=exq (zs.toList.take 0++lc++zs.toList.drop (0+lc.length));rw[←hy0]at hg2 J5
 have hrow2:w2.ownsRow w.heap.size 3 1 (.slice (some ⟨tg,0,none⟩) (n+8) (n+8)) (n+8) y0:=by
  refine⟨by omega,Or.inr ⟨tg,n+8,_,rfl,by have:=HTG.out;omega,hg2,nrq,by unfold maxLen;omega,by rw[List.size_toArray];omega,?_⟩⟩;rw[List.toList_toArray];exact List.take_of_length_le (by omega)
 have hpre:∀j,j<n→y0[j]?=(ou l)[j]?:=fun j hj=>by
  rw[hy0,List.take_zero,List.nil_append,List.getElem?_append_left (by rw[HL4.out];exact hj),BP.out,En l j (by rw[←HN.out];exact hj)]
 have gK:=ast hb2;have HR2:=ast hrow2;have HP2:=ast hpre;clear hg2 hc2 hb2 hrow2 hpre HGX Kw hy0 J5;go_wp2_with fail
 clear Qy;go_loopw[5] (fun i wr=>∃(k:Nat) (ys:List Value),n≤k∧k≤n+8∧i=.int .i64 k∧Hid (wr.ownsRow w.heap.size 3 1 (.slice (some ⟨tg,0,none⟩) (n+8) (n+8)) (n+8) ys∧∀j,j<k→ys[j]?=(ou l)[j]?)∧Hid (Below w.heap.size w wr)) (fun i _=>n+8 - (intOf i).toNat)
 case atStart=>exact⟨n,_,nrq,by omega,rfl,ast ⟨HR2.out,HP2.out⟩,gK⟩
 case round=>
  clear HR2 HP2 gK;obtain⟨k,ys,dM,hk2,rfl,HY,HB⟩:=hrel
  by_cases hlt:k<n+8
  ·have lD:(k:Int)<(n:Int)+8:=by omega
   have hl0:(0:Int)≤(k:Int):=by omega
   have hkn:(k:Int)≤2000000:=by omega
   obtain⟨tg',cap',hv,_,alU,_,_,hcc⟩:=aB HY.out.1 (by omega);obtain⟨rfl,rfl⟩:tg=tg'∧n+8=cap':=by simpa using hv
   have hyl:ys.length=(n+8)*1:=HY.out.1.1;obtain⟨y0,hy0⟩:∃x,ys[k]?=some x:=⟨_,List.getElem?_eq_getElem (by omega)⟩;have e0:wr.cell? ⟨tg,k,none⟩=some y0:=hcc _ _ hy0;have f0:=wI HY.out.1 k;have HYL:=ast hyl;clear hv hcc hy0 hyl;go_wp2_with fail
   go_roundw
   case rel=>
    have hwt:w.heap.size≤tg:=by have:=HTG.out;omega
    refine⟨k+1,ys.set k (.int .i64 77),by omega,by omega,by go_num,ast ⟨fO HY.out.1 k _,fun j hj=>?_⟩,ast (HB.out.setCell hwt _)⟩
    by_cases hjk:j=k
    ·subst hjk
     rw[List.getElem?_set_self (by have:=HYL.out;omega),Ju l j (by rw[←HN.out];exact hlt),dif_neg (by rw[←HN.out];omega)]
    ·rw[List.getElem?_set_ne (by omega)];exact HY.out.2 j (by omega)
   case measure=>simp[intOf];omega
  ·obtain rfl:k=n+8:=by omega
   have hys:ys=ou l:=Dj (n:=n+8) (by have:=HY.out.1.1;omega) (by rw[Q3,←HN.out]) HY.out.2;have hrow:=HY.out.1;rw[hys]at hrow;have zy:=ast hrow;clear hys hrow HY;have lD:¬((n:Int)+8<(n:Int)+8):=by omega
   go_wp2_with fail
   go_ret
   exact⟨tg,rfl,by have:=HTG.out;omega,zy.out,HB.out⟩
theorem Dk(w:World):Calls Tryz.prog 94 #[.slice none 0 0] w fun e w'=>e=.returned (.slice none 0 0)∧Below w.heap.size w w':=by
 have hnl:=fun w=>Lib.run_eql_slice_nil (P:=Tryz.prog) w 24 3 none 0 0 0 0 Tryz.underlying24
 simp only[Option.isNone_none]at hnl;go_enter Tryz.func94,Tryz.ntmps94
 go_wp2_with fail
 go_ret
 exact⟨rfl,brq⟩
theorem BD(w:World)(o:Value):Calls Tryz.prog 96 #[o,.slice none 0 0] w fun e w'=>e=.returned (.bool true)∧Below w.heap.size w w':=by
 have hnl:=fun w=>Lib.run_eql_slice_nil (P:=Tryz.prog) w 24 3 none 0 0 0 0 Tryz.underlying24
 simp only[Option.isNone_none]at hnl;go_enter Tryz.func96,Tryz.ntmps96
 go_wp2_with fail
 go_ret
 exact⟨rfl,brq⟩
theorem Dl(w:World)(base tg B:Nat)(p:Addr)(n cap:Nat)(l:List Int)(hn:n=l.length)(hb:n≤1100000)(BH:n≤cap)(hBt:B≤tg)(RI:B≤w.heap.size)(hs:∀(j:Nat) (u:Value),(ints l)[j]?=some u→p.block<B∧w.cell? (p.add j)=some u)
  (hr:w.ownsRow base 3 1 (.slice (some ⟨tg,0,none⟩) (n+8) (n+8)) (n+8) (ou l)):
  Calls Tryz.prog 96 #[.slice (some ⟨tg,0,none⟩) n (n+8),.slice (some p) n cap] w fun e w'=>e=.returned (.bool true)∧aj (fun b=>b=tg) w w':=by
 have hnl:=fun w=>Lib.run_eql_slice_nil (P:=Tryz.prog) w 24 3 (some p) n cap 0 0 Tryz.underlying24
 simp only[Option.isNone_some]at hnl
 have hsp:0<n→p.spot=none∧p.block<B:=fun h0=>by
  obtain⟨u,hu⟩:∃u,(ints l)[0]?=some u:=⟨_,List.getElem?_eq_getElem (by simp[ints];omega)⟩;obtain⟨hpB,this⟩:=hs 0 u hu;have h0:p.add 0=p:=by simp[Addr.add]
  rw[h0]at this;refine⟨?_,hpB⟩;unfold World.cell? at this
  split at this
  ·split at this
   ·cases this
   ·rename_i h;simpa using h
  ·cases this
 obtain⟨pb,po,ps⟩:=p;simp only at hsp
 have U9:0<n→∀(w':World),aj (fun b=>b=tg) w w'→∀k (hk:k<l.length),w'.cell? ⟨pb,po+k,none⟩=some (.int .i64 l[k]):=fun h0 w' hc k hk=>by
  obtain⟨e,hpB⟩:=hsp h0;subst e;have hp:pb<w.heap.size:=by omega
  have hpt:pb≠tg:=by omega
  have:=(hs k (.int .i64 l[k]) (by simp[ints,hk])).2;rw[Addr.add_lit]at this;exact(hc.cell (p:=⟨pb,po+k,none⟩) hp hpt).trans this
 have htl:tg<w.heap.size:=bg hr (k:=tg) rfl;have HTA:=ast U9;have HSP:=ast hsp;have HN:=ast hn;have HR:=ast hr;clear U9 hsp hn hr hs;go_enter Tryz.func96,Tryz.ntmps96
 go_wp2_with fail
 go_loopw[7,8] (fun o i wr=>o=.bool true∧∃(k:Nat) (ys:List Value),k≤n+8∧i=.int .i64 k∧Hid (wr.ownsRow base 3 1 (.slice (some ⟨tg,0,none⟩) (n+8) (n+8)) (n+8) ys∧∀j,k≤j→ys[j]?=(ou l)[j]?)∧Hid (aj (fun b=>b=tg) w wr)) (fun _ i _=>n+8 - (intOf i).toNat)
 case atStart=>exact⟨rfl,0,_,by omega,rfl,ast ⟨HR.out,fun j _=>rfl⟩,ast (aj.refl _ _)⟩
 case round=>
  clear HR hnl;obtain⟨rfl,k,ys,hk,rfl,HY,HC⟩:=hrel
  by_cases hlt:k<n+8
  ·have lD:(k:Int)<(n:Int)+8:=by omega
   have hl0:(0:Int)≤(k:Int):=by omega
   have hkn:(k:Int)≤2000000:=by omega
   obtain⟨t,ht⟩:=exq (if h:k<l.length then l[k]else 77:Int);have hcell:ys[k]?=some (.int .i64 t):=by rw[HY.out.2 _ (by omega),Ju l k (by rw[←HN.out];exact hlt),ht]
   obtain⟨tg',cap',hv,_,alU,_,_,hcc⟩:=aB HY.out.1 (by omega);obtain⟨rfl,rfl⟩:tg=tg'∧n+8=cap':=by simpa using hv
   have c0:wr.cell? ⟨tg,k,none⟩=some (.int .i64 t):=hcc _ _ hcell;have f0:=wI HY.out.1 k;have hee:(t == t)=true:=by simp
   clear hcell hv hcc
   by_cases AQ:k<n
   ·have alV:(k:Int)<(n:Int):=by omega
    have ahj:k<l.length:=by rw[←HN.out];exact AQ
    obtain⟨EZ,hpB⟩:=HSP.out (by omega);subst EZ;have hp:pb<wr.heap.size:=by have:=HC.out.size;omega
    have q:=HTA.out (by omega) wr HC.out k ahj;have htk:t=l[k]:=by rw[ht,dif_pos ahj]
    rw[←htk]at q;clear ht htk;go_wp2_with fail
    go_roundw
    case rel=>
     refine⟨rfl,k+1,ys.set k (.int .i64 1),by omega,by go_num,ast ⟨fO HY.out.1 k _,fun j hj=>?_⟩,ast (HC.out.setCell (p:=⟨tg,k,none⟩) rfl _)⟩;rw[List.getElem?_set_ne (by omega)];exact HY.out.2 j (by omega)
    case measure=>simp[intOf];omega
   ·have alV:¬(k:Int)<(n:Int):=by omega
    have htk:t=77:=by rw[ht,dif_neg (by rw[←HN.out];exact AQ)]
    rw[htk]at c0;clear ht htk hee;go_wp2_with fail
    go_roundw
    case rel=>
     refine⟨rfl,k+1,ys.set k (.int .i64 1),by omega,by go_num,ast ⟨fO HY.out.1 k _,fun j hj=>?_⟩,ast (HC.out.setCell (p:=⟨tg,k,none⟩) rfl _)⟩;rw[List.getElem?_set_ne (by omega)];exact HY.out.2 j (by omega)
    case measure=>simp[intOf];omega
  ·obtain rfl:k=n+8:=by omega
   have lD:¬((n:Int)+8<(n:Int)+8):=by omega
   go_wp2_with fail
   go_ret
   exact⟨rfl,HC.out⟩
theorem pJ{w:World}{b1 b2:Nat}{v1 v2:Value}{l:List Int}(h1:bP b1 w v1 l)(h2:bP b2 w v2 l)(hl:l.length≤2000000):
  Calls Tryz.prog 97 #[v1,v2] w fun e w'=>e=.returned (.bool true)∧Below w.heap.size w w':=by
 obtain⟨a1,c1,rfl,hc1,_⟩:=ag h1;obtain⟨a2,c2,rfl,hc2,_⟩:=ag h2
 have k1:∀(j:Nat) (hj:j<l.length),∃g,a1=some ⟨g,0,none⟩∧g<w.heap.size∧w.cell? ⟨g,j,none⟩=some (.int .i64 l[j]):=fun j hj=>by
  obtain⟨g,cap,hv,_,hg,_,_,hcc⟩:=aB h1 (by omega);exact⟨g,by simpa using(by injection hv:a1=some ⟨g,0,none⟩),hg,hcc j _ (by simp[ints,hj])⟩
 have k2:∀(j:Nat) (hj:j<l.length),∃g,a2=some ⟨g,0,none⟩∧g<w.heap.size∧w.cell? ⟨g,j,none⟩=some (.int .i64 l[j]):=fun j hj=>by
  obtain⟨g,cap,hv,_,hg,_,_,hcc⟩:=aB h2 (by omega);exact⟨g,by simpa using(by injection hv:a2=some ⟨g,0,none⟩),hg,hcc j _ (by simp[ints,hj])⟩
 have K1:=ast k1;have K2:=ast k2;clear h1 h2 k1 k2;obtain⟨n,hn⟩:=exq (l.length);rw[←hn]at hc1 hc2 hl ⊢;have HN:=ast hn;clear hn;have hee:((n:Int) != (n:Int))=false:=by simp
 go_enter Tryz.func97,Tryz.ntmps97
 go_wp2_with fail
 go_loopw[5] (fun i wr=>∃j:Nat,j≤n∧i=.int .i64 j∧Hid (Below w.heap.size w wr)) (fun i _=>n - (intOf i).toNat)
 case atStart=>exact⟨0,Nat.zero_le _,rfl,ast brq⟩
 case round=>
  obtain⟨j,hj,rfl,HW⟩:=hrel
  by_cases hlt:j<n
  ·have hji:(j:Int)<(n:Int):=by omega
   have hj0:(0:Int)≤(j:Int):=by omega
   have hjl:j<l.length:=by rw[←HN.out];exact hlt
   obtain⟨g1,rfl,hg1,x1⟩:=K1.out j hjl;obtain⟨g2,rfl,hg2,x2⟩:=K2.out j hjl;obtain⟨z,hz⟩:=exq (l[j]);rw[←hz]at x1 x2;have y1:wr.cell? ⟨g1,j,none⟩=some (.int .i64 z):=(HW.out.cell (p:=⟨g1,j,none⟩) hg1).trans x1;have y2:wr.cell? ⟨g2,j,none⟩=some (.int .i64 z):=(HW.out.cell (p:=⟨g2,j,none⟩) hg2).trans x2;have hzz:(z != z)=false:=by simp
   clear hz x1 x2;go_wp2_with fail
   go_quiet (fail)
   go_wp2_with fail
   go_roundw
   case rel=>exact⟨j+1,by omega,by go_num,ast (HW.out.trans ⟨rfl,rfl,rfl,nrq,fun _ _=>rfl⟩)⟩
   case measure=>simp[intOf];omega
  ·obtain rfl:j=n:=by omega
   have hji:¬(j:Int)<(j:Int):=by omega
   go_wp2_with fail
   go_ret
   exact⟨rfl,HW.out⟩
def qh(base:Nat)(w:World)(a:Option Addr)(n:Nat)(ta:Option Addr)(cap:Nat)(l:List Int):Prop:=
 (a=none∧ta=none∧cap=0)∨((∃p,a=some p)∧∃tg,ta=some ⟨tg,0,none⟩∧cap=n+8∧base≤tg∧w.ownsRow base 3 1 (.slice (some ⟨tg,0,none⟩) (n+8) (n+8)) (n+8) (ou l))
theorem qh.below{base:Nat}{w w':World}{a:Option Addr}{n:Nat}{ta:Option Addr}{cap:Nat}{l:List Int}(h:qh base w a n ta cap l)(hb:Below w.heap.size w w'):qh base w' a n ta cap l:=by
 rcases h with h|⟨h1,tg,h2,h3,h4,h5⟩
 ·exact Or.inl h
 ·exact Or.inr ⟨h1,tg,h2,h3,h4,af h5 (aj.au (S:=fun _=>False) hb) (fun _ _=>id)⟩
theorem qh.aA{base:Nat}{S:Nat→Prop}{w w':World}{a:Option Addr}{n:Nat}{ta:Option Addr}{cap:Nat}{l:List Int}(h:qh base w a n ta cap l)(hc:aj S w w')(hs:∀b,ta=some ⟨b,0,none⟩→¬S b):qh base w' a n ta cap l:=by
 rcases h with h|⟨h1,tg,h2,h3,h4,h5⟩
 ·exact Or.inl h
 ·exact Or.inr ⟨h1,tg,h2,h3,h4,af h5 hc (fun b hb=>hs b (by rw[h2];simpa [Value.ownBlock]using hb))⟩
theorem kT{B:Nat}{w:World}{a:Option Addr}{n c:Nat}{l:List Int}(h:fD B w a n c 1 (ints l)):n=l.length:=by
 have:=h.1;simp[ints]at this;omega
theorem Eo{B:Nat}{w:World}{a:Option Addr}{n c:Nat}{l:List Int}(h:fD B w a n c 1 (ints l))(hn:n≤1100000)(hB:B≤w.heap.size):
  Calls Tryz.prog 94 #[.slice a n c] w fun e w'=>∃ta cap,e=.returned (.slice ta n cap)∧qh w.heap.size w' a n ta cap l∧Below w.heap.size w w':=by
 have hl:=kT h;obtain⟨_,hc,h|⟨p,rfl,h⟩⟩:=h
 ·obtain⟨rfl,rfl,rfl⟩:=h
  refine(Dk w).mono ?_;rintro e w' ⟨he,hb⟩;exact⟨none,0,he,Or.inl ⟨rfl,rfl,rfl⟩,hb⟩
 ·refine(Gl w p n c l hl hn hc (fun j u hu=>⟨Nat.lt_of_lt_of_le (h j u hu).1 hB,(h j u hu).2⟩)).mono ?_
  rintro e w' ⟨tg,he,h1,h2,h3⟩;exact⟨_,_,he,Or.inr ⟨⟨p,rfl⟩,tg,rfl,rfl,h1,h2⟩,h3⟩
theorem BF{B base:Nat}{w:World}{a:Option Addr}{n c:Nat}{ta:Option Addr}{cap:Nat}{l:List Int}(h:fD B w a n c 1 (ints l))(hn:n≤1100000)(hB:B≤base)(wU:base≤w.heap.size)(hl:qh base w a n ta cap l):
  Calls Tryz.prog 96 #[.slice ta n cap,.slice a n c] w fun e w'=>e=.returned (.bool true)∧aj (fun b=>ta=some ⟨b,0,none⟩) w w':=by
 have hlen:=kT h;obtain⟨_,hc,h|⟨p,rfl,h⟩⟩:=h
 ·obtain⟨rfl,rfl,rfl⟩:=h
  refine(BD w _).mono ?_;rintro e w' ⟨he,hb⟩;exact⟨he,aj.au hb⟩
 ·rcases hl with ⟨e,_⟩|⟨_,tg,rfl,rfl,h4,h5⟩
  ·cases e
  ·refine(Dl w base tg B p n c l hlen hn hc (Nat.le_trans hB h4) (Nat.le_trans hB wU) h h5).mono ?_
   rintro e w' ⟨he,jh⟩;exact⟨he,jh.mono (fun b _ e=>by rw[e])⟩
theorem qh.ins{base:Nat}{w:World}{a:Option Addr}{n c:Nat}{ta:Option Addr}{cap:Nat}{l:List Int}{B:Nat}{w0:World}(h:fD B w0 a n c 1 (ints l))(hl:qh base w a n ta cap l):bz w.heap.size w (.slice ta n cap) l:=by
 have hlen:=kT h;obtain⟨_,hc,h0⟩:=h;rcases hl with ⟨e1,e2,e3⟩|⟨⟨p,hp⟩,tg,rfl,rfl,h4,h5⟩
 ·rcases h0 with ⟨_,h0,_⟩|⟨p,h0,_⟩
  ·subst h0;exact Or.inl ⟨List.eq_nil_of_length_eq_zero hlen.symm,ta,cap,rfl⟩
  ·rw[e1]at h0;cases h0
 ·refine Or.inr ⟨tg,0,n+8,by rw[hlen],by omega,bg h5 (k:=tg) rfl,fun j y hy=>?_⟩
  have hj:=(List.getElem?_eq_some_iff.1 hy).1;obtain⟨g',cap',hv,_,_,_,_,hcc⟩:=aB h5 (by omega);obtain⟨rfl,rfl⟩:tg=g'∧n+8=cap':=by simpa using hv
  rw[Nat.zero_add];exact hcc _ _ (by rw[En l j hj];simp[ints,hy])
theorem fD.ins{B:Nat}{w:World}{a:Option Addr}{n c:Nat}{l:List Int}(h:fD B w a n c 1 (ints l)):bz B w (.slice a n c) l:=by
 have hlen:=kT h;obtain⟨_,hc,⟨_,h0,_⟩|⟨p,rfl,h⟩⟩:=h
 ·subst h0;exact Or.inl ⟨List.eq_nil_of_length_eq_zero hlen.symm,a,c,rfl⟩
 ·rcases Nat.eq_zero_or_pos n with h0|h0
  ·subst h0;exact Or.inl ⟨List.eq_nil_of_length_eq_zero hlen.symm,_,c,rfl⟩
  ·right
   obtain⟨u,hu⟩:∃u,(ints l)[0]?=some u:=⟨_,List.getElem?_eq_getElem (by simp[ints];omega)⟩;obtain⟨hpB,h1⟩:=h 0 u hu
   have hsp:p.spot=none:=by
    have h0:p.add 0=p:=by simp[Addr.add]
    rw[h0]at h1;unfold World.cell? at h1
    split at h1
    ·split at h1
     ·cases h1
     ·rename_i h;simpa using h
    ·cases h1
   obtain⟨pb,po,ps⟩:=p;simp only at hsp hpB;subst hsp;exact⟨pb,po,c,by rw[hlen],by omega,hpB,fun j y hy=>by have:=(h j (.int .i64 y) (by simp[ints,hy])).2;rwa [Addr.add_lit]at this⟩
end
section
def uk(C:Int)(D:Nat×Int×List Int×MW):Int×Int×List Int×List Int×List Int:=if C=0 then((D.1:Int),D.2.1,D.2.2.1.reverse,D.2.2.2.outs,D.2.2.2.vars)else(0,0,[],[],[])
structure NI (w w':World) (C:Int) (V:Int×Int×List Int×List Int×List Int) (xa:Option Addr) (xn xc:Nat) (oa:Option Addr) (on oc:Nat) (va:Option Addr) (vn vc:Nat):Prop where
 nil:C≠0→xa=none∧oa=none∧va=none
 s:bP w.heap.size w' (.slice xa xn xc) V.2.2.1
 o:bP w.heap.size w' (.slice oa on oc) V.2.2.2.1
 v:bP w.heap.size w' (.slice va vn vc) V.2.2.2.2
 so:∀k,(Value.slice xa xn xc).ownBlock=some k→(Value.slice oa on oc).ownBlock≠some k∧(Value.slice va vn vc).ownBlock≠some k
 ov:∀k,(Value.slice oa on oc).ownBlock=some k→(Value.slice va vn vc).ownBlock≠some k
theorem NI.aA{S:Nat→Prop}{w w' w2:World}{C:Int}{V:Int×Int×List Int×List Int×List Int}{xa oa va:Option Addr}{xn xc on oc vn vc:Nat}(h:NI w w' C V xa xn xc oa on oc va vn vc)(hc:aj S w' w2)(hs:∀b,S b→b<w.heap.size):NI w w2 C V xa xn xc oa on oc va vn vc:=
 have hr:∀{v:Value} {l:List Int},bP w.heap.size w' v l→bP w.heap.size w2 v l:=fun h=>af h hc (fun b hb e=>by have:=aF h hb;have:=hs b e;omega)
 ⟨h.nil,hr h.s,hr h.o,hr h.v,h.so,h.ov⟩
theorem NI.below{w w' w2:World}{C:Int}{V:Int×Int×List Int×List Int×List Int}{xa oa va:Option Addr}{xn xc on oc vn vc:Nat}(h:NI w w' C V xa xn xc oa on oc va vn vc)(hb:Below w'.heap.size w' w2):NI w w2 C V xa xn xc oa on oc va vn vc:=h.aA (aj.au (S:=fun _=>False) hb) (fun _ e=>e.elim)
theorem zD.open{w w':World}{C:Int}{D:Nat×Int×List Int×MW}{e:Ending}(h:zD w C D e w'):
  ∃xa xn xc oa on oc va vn vc,e=.returned (.tuple #[.agg #[.slice xa xn xc,.slice oa on oc,.slice va vn vc,.int .i64 (uk C D).1,.int .i64 (uk C D).2.1],.int .i64 C])∧NI w w' C (uk C D) xa xn xc oa on oc va vn vc∧Below w.heap.size w w':=by
 obtain⟨h|⟨rfl,xv,ov,vv,rfl,hr⟩,hb⟩:=h
 ·obtain⟨hc,rfl⟩:=h
  have hv:uk C D=(0,0,[],[],[]):=by unfold uk;rw[if_neg hc]
  rw[hv];exact⟨none,0,0,none,0,0,none,0,0,rfl,⟨fun _=>⟨rfl,rfl,rfl⟩,World.ownsRow_nil _ _ _ _,World.ownsRow_nil _ _ _ _,World.ownsRow_nil _ _ _ _,fun k hk=>by simp[Value.ownBlock]at hk,fun k hk=>by simp[Value.ownBlock]at hk⟩,hb⟩
 ·have hv:uk 0 D=((D.1:Int),D.2.1,D.2.2.1.reverse,D.2.2.2.outs,D.2.2.2.vars):=by unfold uk;rw[if_pos rfl]
  rw[hv];obtain⟨h1,h2,h3,h4,h5⟩:=hr;obtain⟨xa,xn,xc,rfl⟩:=eG h1;obtain⟨oa,on,oc,rfl⟩:=eG h2;obtain⟨va,vn,vc,rfl⟩:=eG h3;exact⟨xa,xn,xc,oa,on,oc,va,vn,vc,rfl,⟨fun e=>absurd rfl e,h1,h2,h3,h4,h5⟩,hb⟩
theorem WE{es:List PE}{code:List Int}{ws:List RW}(hc:kE es code ws)(ha:Alike es ws)(nv:Nat)(hnv:nv≤1000)(s:ByteArray)(st ins:List Int)(f:Int):
  (uk (nI ws s st ins f) (y9 ws nv s st ins f.toNat)).2.2.1.length≤32∧(uk (nI ws s st ins f) (y9 ws nv s st ins f.toNat)).2.2.2.1.length≤1000000∧(uk (nI ws s st ins f) (y9 ws nv s st ins f.toNat)).2.2.2.2.length≤1000:=by
 by_cases hC:nI ws s st ins f=0
 ·rw[hC]
  have hv:∀D,uk 0 D=((D.1:Int),D.2.1,D.2.2.1.reverse,D.2.2.2.outs,D.2.2.2.vars):=fun D=>by unfold uk;rw[if_pos rfl]
  rw[hv];simp only;unfold nI at hC;rcases uj hc ha s with ⟨_,e2⟩|⟨k,p,q,y,e1,e2,e3,e4,e5,e6,e7,e8⟩
  ·rw[if_pos (by omega)]at hC;exact absurd hC (by decide)
  ·rw[if_neg (by omega)]at hC
   by_cases hm:nC st ins f=true
   ·have Nu:=xQ (nv:=nv) e7 (by omega) e8 hm
    obtain⟨a,b,c⟩:=OG hc ha f.toNat 0 _ _ _ Nu
    have hD:y9 ws nv s st ins f.toNat=nH ws f.toNat 0 [⟨y.its,0,3,0,0⟩] st.reverse ⟨List.replicate nv 0,[],ins⟩:=by
     unfold y9;rw[e1];simp only[Int.toNat_natCast,e2,Option.map_some,Option.getD_some]
    rw[hD];simp only[nC,Bool.and_eq_true,decide_eq_true_eq]at hm;obtain⟨_,_,_,f0,f1⟩:=hm;refine⟨by rw[List.length_reverse];exact b,Nat.le_trans a (by omega),?_⟩;rw[c];simp;exact hnv
   ·rw[if_neg hm]at hC;exact absurd hC (by decide)
 ·have hv:∀D,uk (nI ws s st ins f) D=(0,0,[],[],[]):=fun D=>by unfold uk;rw[if_neg hC]
  rw[hv];simp
theorem xR{B:Nat}{w:World}{wb:Nat}{lv:Value}{bk:B4}{G:G4}{ds:List PD}{pa:Option Addr}{pn pc base:Nat}{l:List Int}(h:dP B w wb lv bk G ds)(hg:G.i.length≤90000000)(hr:bP base w (.slice pa pn pc) l)(hl:l.length≤1000000)(hB:B≤base)
  (hu:∀b,(Value.slice pa pn pc).ownBlock=some b→b≠wb∧lv.ownBlock≠some b∧¬gB bk G b∧∀(i:Nat) (d:PD),ds[i]?=some d→¬d.foot b):
  Calls Tryz.prog 98 #[.pointer (some ⟨wb,1,none⟩),.slice pa pn pc] w fun e w'=>e=.returned (.tuple #[])∧∃Be G',dP B w' wb lv Be G' ds∧(G'.i.length=G.i.length+4∧∀j,j<4→(G'.get j).length≤(G.get j).length+4)∧(∀b,gB Be G' b→gB bk G b∨(Value.slice pa pn pc).ownBlock=some b∨w.heap.size≤b)∧aj (fun b=>b=wb∨(Value.slice pa pn pc).ownBlock=some b∨gB bk G b) w w':=by
 obtain⟨a',c',e',_,_⟩:=ag hr;obtain⟨rfl,rfl,rfl⟩:pa=a'∧pn=l.length∧pc=c':=by simpa using e'
 refine(Ny B w wb lv bk G.i pa l.length pc (ints l) h.blk (h.JL.row 1 (by omega)) hg (by omega) h.le (ownsRow_base hr (fun b hb=>Nat.le_trans hB (aF hr hb)))).mono ?_;intro e w' hp;obtain⟨Be,G',hL',hG',hl',hF',hc'⟩:=h.keeps (j:=1) (by omega) (fun b hb=>⟨Nat.le_trans hB (aF hr hb),bg hr hb,(hu b hb).1,(hu b hb).2.1,(hu b hb).2.2.1,(hu b hb).2.2.2⟩) hp;refine⟨hp.1,Be,G',hL',⟨hl',fun j hj=>?_⟩,hF',hc'⟩;have e:G'.get j=(G.set 1 (G'.get 1)).get j:=by rw[←hG']
 have ari:(G'.get 1).length=(G.get 1).length+4:=hl'
 match j,hj with
 |0,_=>rw[e];show G.n.length≤_;exact Nat.le_add_right _ _
 |1,_=>omega
 |2,_=>rw[e];show G.p.length≤_;exact Nat.le_add_right _ _
 |3,_=>rw[e];show G.e.length≤_;exact Nat.le_add_right _ _
theorem qh.lies{base:Nat}{w:World}{a:Option Addr}{n:Nat}{ta:Option Addr}{cap:Nat}{l:List Int}(h:qh base w a n ta cap l):∀b,ta=some ⟨b,0,none⟩→base≤b∧b<w.heap.size:=by
 intro b hb;rcases h with ⟨_,e,_⟩|⟨_,tg,e,_,h4,h5⟩
 ·rw[e]at hb;cases hb
 ·rw[e]at hb
  obtain rfl:tg=b:=by simpa using hb
  exact⟨h4,bg h5 (k:=tg) rfl⟩
theorem dP.fresh{B:Nat}{w:World}{wb:Nat}{lv:Value}{bk:B4}{G:G4}{ds:List PD}(h:dP B w wb lv bk G ds){b:Nat}(hb:w.heap.size≤b):b≠wb∧lv.ownBlock≠some b∧¬gB bk G b∧∀(i:Nat) (d:PD),ds[i]?=some d→¬d.foot b:=by
 have hw:=h.blk.lt;refine⟨by omega,fun e=>?_,fun e=>?_,fun i d hd e=>?_⟩
 ·have:=bg h.Gv e;omega
 ·have:=h.JL.lt e;omega
 ·have:=(h.at_ i d hd).lt e;omega
theorem Y2{B:Nat}{w:World}{wb:Nat}{lv:Value}{bk:B4}{G:G4}{ds:List PD}{i:Nat}{d:PD}(h:dP B w wb lv bk G ds)(hi:ds[i]?=some d)(hg:G.i.length≤80000000)
  (k A C:Int) (S:ByteArray) (a1 a2 a3:Option Addr) (n1 c1 n2 c2 n3 c3:Nat) (ls ms:List Int) (uQ:fD B w a1 n1 c1 1 (ints ls)) (Aw:fD B w a2 n2 c2 1 (ints ms)) (hn1:n1≤1100000) (hn2:n2≤1100000):
  Calls Tryz.prog 67 #[.pointer (some ⟨wb,0,none⟩),.agg #[.pointer (some ⟨d.bb,0,none⟩),.pointer (some ⟨d.sb,0,none⟩)],.agg #[.int .i64 k,.int .i64 A,.int .i64 C,.string S,.slice a1 n1 c1,.slice a2 n2 c2,.slice a3 n3 c3]] w fun e w'=>e=.returned (.bool true)∧∃Be G',dP B w' wb lv Be G' ds∧GLe G G'∧Below B w w':=by
 obtain⟨pb,hpb⟩:=exq (w.heap.size);obtain⟨ob,AA⟩:=exq (w.heap.size+1);obtain⟨X,hX⟩:=exq ((w.alloc (.cells #[.pointer (some ⟨d.bb,0,none⟩),.pointer (some ⟨d.sb,0,none⟩)] 143 (0,0))).alloc (.cells #[.int .i64 k,.int .i64 A,.int .i64 C,.string S,.slice a1 n1 c1,.slice a2 n2 c2,.slice a3 n3 c3] 86 (0,0)):World);have hb0:Below w.heap.size w X:=by rw[hX];exact(brq.alloc nrq _).alloc (by simp) _
 have hkp:az X pb #[.pointer (some ⟨d.bb,0,none⟩),.pointer (some ⟨d.sb,0,none⟩)] 143:=by rw[hX,hpb];exact(ay w _ _).alloc _
 have hko:az X ob #[.int .i64 k,.int .i64 A,.int .i64 C,.string S,.slice a1 n1 c1,.slice a2 n2 c2,.slice a3 n3 c3] 86:=by
  rw[hX,AA];have:=ay (w.alloc (.cells #[.pointer (some ⟨d.bb,0,none⟩),.pointer (some ⟨d.sb,0,none⟩)] 143 (0,0))) #[.int .i64 k,.int .i64 A,.int .i64 C,.string S,.slice a1 n1 c1,.slice a2 n2 c2,.slice a3 n3 c3] 86;simpa using this
 have hdX:=uQ.below (hb0.mono h.le);have o4:X.cell? ⟨ob,4,none⟩=some (.slice a1 n1 c1):=hko.cell 4 _ rfl;have HLN:=ast (Eo hdX hn1 (Nat.le_trans h.le hb0.size));have hle:=h.le;have HL:=ast h;have HX:=ast hX;have XB:=ast hpb;have Yu:=ast AA;have HB0:=ast hb0;have HKP:=ast hkp;have HKO:=ast hko;have HI:=ast hi;have Au:=ast uQ;have oz:=ast Aw;clear h hX hpb AA hb0 hkp hko hdX hi uQ Aw;go_enter Tryz.func67,Tryz.ntmps67
 go_upto_region 1 with fail
 rw[←HX.out,←Yu.out,←XB.out];go_wp2_with fail
 refine HLN.out.mono ?_;rintro e w1 ⟨ta,tc,rfl,hlt,hb1⟩;have hB1:=HB0.out.trans (hb1.mono HB0.out.size);have Wx:=HKP.out.sub hb1 HKP.out.lt;have acG:=HKO.out.sub hb1 HKO.out.lt;have o5:w1.cell? ⟨ob,5,none⟩=some (.slice a2 n2 c2):=acG.cell 5 _ rfl;have ahk:=ast (Eo (oz.out.below (hB1.mono HL.out.le)) hn2 (Nat.le_trans HL.out.le hB1.size));have HLT:=ast hlt;have HB1:=ast hB1;have acH:=ast Wx;have acI:=ast acG;have HTB:=ast hlt.lies;have arj:=HKO.out.lt;have hs1:=hb1.size;clear hlt hb1 hB1 Wx acG HLN HKP HKO o4;go_wp2_with fail
 refine ahk.out.mono ?_;rintro e w2 ⟨ia,ic,rfl,hlt2,hb2⟩;have hB2:=HB1.out.trans (hb2.mono HB1.out.size);have Nz:=acH.out.sub hb2 acH.out.lt;have Y5:=acI.out.sub hb2 acI.out.lt;have hL2:=HL.out.below hB2;have NJ:=hL2.at_ i d HI.out;have p0:w2.cell? ⟨pb,0,none⟩=some (.pointer (some ⟨d.bb,0,none⟩)):=Nz.cell 0 _ rfl;have o2:w2.cell? ⟨ob,2,none⟩=some (.int .i64 C):=Y5.cell 2 _ rfl;have o3:w2.cell? ⟨ob,3,none⟩=some (.string S):=Y5.cell 3 _ rfl;have iD:=HLT.out.below hb2;have HRU:=ast (Ns S C NJ.ps NJ.li hL2.tab NJ.al (iD.ins Au.out) (hlt2.ins oz.out) nrq (by rw[←kT Au.out];exact hn1) (by rw[←kT oz.out];exact hn2));have HLEN:=ast (WE NJ.al.vP NJ.al.toAlike d.nv.toNat (by have:=NJ.li.v1;omega) S ls ms C);have ahl:=ast iD;have ahm:=ast hlt2;have gK:=ast hB2;have WG:=ast Nz;have WH:=ast Y5;have rZ:=ast hlt2.lies;have hs2:=hb2.size;obtain⟨CC,hCC⟩:=exq (nI d.ws S ls ms C);obtain⟨DD,hDD⟩:=exq (y9 d.ws d.nv.toNat S ls ms C.toNat);rw[←hCC,←hDD]at HRU HLEN;have Dz:=ast hCC;have vH:=ast hDD;clear hlt2 hb2 hB2 Nz Y5 hL2 NJ iD ahk acH acI HLT o5 hCC hDD;go_wp2_with fail
 refine HRU.out.mono ?_;intro e w3 Jv;obtain⟨xa,xn,xc,oa,on,oc,va,vn,vc,rfl,hR1,hb3⟩:=Jv.open;have WR:=gK.out.trans (hb3.mono gK.out.size);obtain⟨VV,hVV⟩:=exq (uk CC DD);rw[←hVV]at hR1 HLEN;rw[←hVV];have HVV:=ast hVV;obtain⟨N,E,l1,l2,l3⟩:=VV;simp only at HLEN hR1;simp only;obtain⟨ab,hab⟩:=exq (w3.heap.size);obtain⟨Y3,hY3⟩:∃Y:World,Y=w3.alloc (.cells #[.slice xa xn xc,.slice oa on oc,.slice va vn vc,.int .i64 N,.int .i64 E] 43 (0,0)):=⟨_,rfl⟩;have Jw:Below w3.heap.size w3 Y3:=by rw[hY3];exact brq.alloc nrq _
 have hkA:az Y3 ab #[.slice xa xn xc,.slice oa on oc,.slice va vn vc,.int .i64 N,.int .i64 E] 43:=by rw[hY3,hab];exact ay w3 _ _
 have Yi:=WR.trans (Jw.mono WR.size);have NC:=(WG.out.sub hb3 WG.out.lt).sub Jw (WG.out.sub hb3 WG.out.lt).lt;have Q5:=(WH.out.sub hb3 WH.out.lt).sub Jw (WH.out.sub hb3 WH.out.lt).lt;have hLY:=HL.out.below Yi;have Lu:=hLY.at_ i d HI.out;have acJ:=Au.out.below (Yi.mono HL.out.le);have ahn:=oz.out.below (Yi.mono HL.out.le);have alY:B≤Y3.heap.size:=Nat.le_trans HL.out.le Yi.size
 have HRR:=ast (Wv S C Lu.rs (FK Lu.li Lu.al.toAlike) (by have:=Lu.li.v0;omega) (by have:=Lu.li.v1;omega) Lu.tr (fun q hq=>by obtain⟨cs,hb⟩:=Lu.fi q hq;exact hb.lt) Lu.ok Lu.al (by have:=Lu.li.c;have:=Lu.li.t1;omega) acJ.ins ahn.ins (fun e=>by
  rcases acJ.2.2 with ⟨_,_,e2⟩|⟨q,e2,_⟩
  ·exact e2
  ·rw[e2]at e;cases e) alY (by rw[←kT Au.out];exact hn1) (by rw[←kT oz.out];exact hn2))
 rw[←Dz.out,←vH.out]at HRR;have q1:Y3.cell? ⟨pb,1,none⟩=some (.pointer (some ⟨d.sb,0,none⟩)):=NC.cell 1 _ rfl;have q2:Y3.cell? ⟨ob,2,none⟩=some (.int .i64 C):=Q5.cell 2 _ rfl;have q3:Y3.cell? ⟨ob,3,none⟩=some (.string S):=Q5.cell 3 _ rfl;have q4:Y3.cell? ⟨ob,4,none⟩=some (.slice a1 n1 c1):=Q5.cell 4 _ rfl;have q5:Y3.cell? ⟨ob,5,none⟩=some (.slice a2 n2 c2):=Q5.cell 5 _ rfl;have HY3:=ast hY3;have HAB:=ast hab;have HKA:=ast hkA;have nO:=ast Yi;have acK:=ast Q5;have JG:=ast (hR1.below Jw);have aho:=ast (ahl.out.below hb3 |>.below Jw);have ahp:=ast (ahm.out.below hb3 |>.below Jw);have hs3:w2.heap.size≤Y3.heap.size:=Nat.le_trans hb3.size Jw.size;have ahq:w2.heap.size≤ab:=by rw[hab];exact hb3.size
 clear Jv hR1 hb3 WR hVV hY3 hab Jw hkA Yi NC Q5 hLY Lu acJ ahn HRU WG WH ahl ahm p0 o2 o3;go_upto_region 4 with fail
 rw[←HY3.out,←HAB.out];go_wp2_with fail
 refine HRR.out.mono ?_;intro e w4 Jv;obtain⟨xa',xn',xc',oa',on',oc',va',vn',vc',rfl,hR2,hb4⟩:=Jv.open;rw[←HVV.out]at hR2 ⊢;simp only at hR2 ⊢;obtain⟨bb,hbb⟩:=exq (w4.heap.size);obtain⟨Y4,hY4⟩:∃Y:World,Y=w4.alloc (.cells #[.slice xa' xn' xc',.slice oa' on' oc',.slice va' vn' vc',.int .i64 N,.int .i64 E] 43 (0,0)):=⟨_,rfl⟩;have acL:Below w4.heap.size w4 Y4:=by rw[hY4];exact brq.alloc nrq _
 have hkB:az Y4 bb #[.slice xa' xn' xc',.slice oa' on' oc',.slice va' vn' vc',.int .i64 N,.int .i64 E] 43:=by rw[hY4,hbb];exact ay w4 _ _
 have Jy:Below Y3.heap.size Y3 Y4:=hb4.trans (acL.mono hb4.size);have hB4:=nO.out.trans (Jy.mono nO.out.size);have ahr:=HKA.out.sub Jy HKA.out.lt;have acM:=acK.out.sub Jy acK.out.lt;have r4:Y4.cell? ⟨ob,4,none⟩=some (.slice a1 n1 c1):=acM.cell 4 _ rfl;have ahs:=JG.out.below Jy;have aht:=hR2.below acL;have ahu:=aho.out.below Jy;have ahv:=ahp.out.below Jy;have hXw:=HB0.out.size;have Rw:=Jy.size;have HWH:=ast (BF (Au.out.below (hB4.mono HL.out.le)) hn1 (Nat.le_trans HL.out.le hXw) (Nat.le_trans hs1 (Nat.le_trans hs2 (Nat.le_trans hs3 Rw))) ahu);have HY4:=ast hY4;have yJ:=ast hbb;have HKB:=ast hkB;have ahw:=ast ahr;have ahx:=ast acM;have DF:=ast hB4;have ahy:=ast ahs;have ahz:=ast aht;have ahA:=ast ahv;have ark:ab<Y3.heap.size:=HKA.out.lt;have arl:Y3.heap.size≤bb:=by rw[hbb];exact hb4.size
 clear Jv hR2 hb4 hbb hY4 acL hkB Jy hB4 ahr acM ahs aht ahu ahv HRR JG aho ahp HKA acK q1 q2 q3 q4 q5;go_upto_region 5 with fail
 rw[←HY4.out,←yJ.out];go_wp2_with fail
 refine HWH.out.mono ?_;rintro e w5 ⟨rfl,hc5⟩;have hlo:∀b,ta=some ⟨b,0,none⟩→X.heap.size≤b∧b<w1.heap.size:=HTB.out;have mf:Below w.heap.size w w5:=DF.out.trans (hc5.toBelow DF.out.size (fun b hb e=>by have:=(hlo b e).1;omega));have ahB:=ahx.out.aA hc5 (fun e=>by have:=(hlo _ e).1;omega);have ahC:=ahw.out.aA hc5 (fun e=>by have:=(hlo _ e).2;omega);have ahD:=HKB.out.aA hc5 (fun e=>by have:=(hlo _ e).2;omega);have ahE:=ahy.out.aA hc5 (fun b e=>by have:=(hlo _ e).2;omega);have ahF:=ahz.out.aA hc5 (fun b e=>by have:=(hlo _ e).2;omega);have ahG:=ahA.out.aA hc5 (fun b hb e=>by have:=(hlo _ e).2;have:=(rZ.out b hb).1;omega);have r5:w5.cell? ⟨ob,5,none⟩=some (.slice a2 n2 c2):=ahB.cell 5 _ rfl;have hs5:=hc5.size;have ahH:=ast (BF (oz.out.below (mf.mono HL.out.le)) hn2 (Nat.le_trans HL.out.le (Nat.le_trans hXw hs1)) (Nat.le_trans hs2 (Nat.le_trans hs3 (Nat.le_trans Rw hs5))) ahG);have nJ:=ast mf;have ahI:=ast ahC;have ahJ:=ast ahD;have ahK:=ast ahE;have ahL:=ast ahF;clear hc5 hlo mf ahB ahC ahD ahE ahF ahG HWH ahx ahw HKB DF ahy ahz ahA r4;go_wp2_with fail
 refine ahH.out.mono ?_;rintro e w6 ⟨rfl,Fp⟩;have hlo:∀b,ia=some ⟨b,0,none⟩→w1.heap.size≤b∧b<w2.heap.size:=rZ.out;have Gs:Below w.heap.size w w6:=nJ.out.trans (Fp.toBelow nJ.out.size (fun b hb e=>by have:=(hlo b e).1;omega));have acN:=ahI.out.aA Fp (fun e=>by have:=(hlo _ e).2;omega);have acO:=ahJ.out.aA Fp (fun e=>by have:=(hlo _ e).2;omega);have acP:=ahK.out.aA Fp (fun b e=>(hlo _ e).2);have acQ:=ahL.out.aA Fp (fun b e=>by have:=(hlo _ e).2;omega);have x0:w6.cell? ⟨ab,0,none⟩=some (.slice xa xn xc):=acN.cell 0 _ rfl;have y0:w6.cell? ⟨bb,0,none⟩=some (.slice xa' xn' xc'):=acO.cell 0 _ rfl;have HS1:=ast (pJ acP.s acQ.s (by have:=HLEN.out.1;simp only at this ⊢;omega));have tq:=ast Gs;have acR:=ast acN;have acS:=ast acO;have ahM:=ast acP;have ahN:=ast acQ;clear Fp hlo Gs acN acO acP acQ ahH ahI ahJ nJ ahK ahL r5;go_wp2_with fail
 refine HS1.out.mono ?_;rintro e w7 ⟨rfl,zk⟩;have acT:=ahM.out.below zk;have acU:=ahN.out.below zk;have acV:=acR.out.sub zk acR.out.lt;have acW:=acS.out.sub zk acS.out.lt;have x1:w7.cell? ⟨ab,1,none⟩=some (.slice oa on oc):=acV.cell 1 _ rfl;have y1:w7.cell? ⟨bb,1,none⟩=some (.slice oa' on' oc'):=acW.cell 1 _ rfl;have HS2:=ast (pJ acT.o acU.o (by have:=HLEN.out.2.1;simp only at this ⊢;omega));have Rk:=ast (tq.out.trans (zk.mono tq.out.size));have acX:=ast acV;have acY:=ast acW;have ahO:=ast acT;have ahP:=ast acU;clear zk acT acU acV acW HS1 acR acS ahM ahN tq x0 y0;go_wp2_with fail
 refine HS2.out.mono ?_;rintro e w8 ⟨rfl,Hr⟩;have acZ:=ahO.out.below Hr;have ahQ:=ahP.out.below Hr;have ac0:=acX.out.sub Hr acX.out.lt;have ac1:=acY.out.sub Hr acY.out.lt;have x2:w8.cell? ⟨ab,2,none⟩=some (.slice va vn vc):=ac0.cell 2 _ rfl;have y2:w8.cell? ⟨bb,2,none⟩=some (.slice va' vn' vc'):=ac1.cell 2 _ rfl;have HS3:=ast (pJ acZ.v ahQ.v (by have:=HLEN.out.2.2;simp only at this ⊢;omega));have HB8:=ast (Rk.out.trans (Hr.mono Rk.out.size));have ac2:=ast ac0;have ac3:=ast ac1;have ahR:=ast acZ;clear Hr acZ ahQ ac0 ac1 HS2 acX acY ahO ahP Rk x1 y1;go_wp2_with fail
 refine HS3.out.mono ?_;rintro e w9 ⟨rfl,hb9⟩;have ac4:=ahR.out.below hb9;have Jz:=ac2.out.sub hb9 ac2.out.lt;have Y6:=ac3.out.sub hb9 ac3.out.lt;have x0:w9.cell? ⟨ab,0,none⟩=some (.slice xa xn xc):=Jz.cell 0 _ rfl;have x1:w9.cell? ⟨ab,1,none⟩=some (.slice oa on oc):=Jz.cell 1 _ rfl;have x2:w9.cell? ⟨ab,2,none⟩=some (.slice va vn vc):=Jz.cell 2 _ rfl;have x3:w9.cell? ⟨ab,3,none⟩=some (.int .i64 N):=Jz.cell 3 _ rfl;have x4:w9.cell? ⟨ab,4,none⟩=some (.int .i64 E):=Jz.cell 4 _ rfl;have y3:w9.cell? ⟨bb,3,none⟩=some (.int .i64 N):=Y6.cell 3 _ rfl;have y4:w9.cell? ⟨bb,4,none⟩=some (.int .i64 E):=Y6.cell 4 _ rfl;have hzz:CC=0∨(xa=none∧oa=none∧va=none):=(Classical.em (CC=0)).imp id ac4.nil;have HB9:=ast (HB8.out.trans (hb9.mono HB8.out.size));have Q7:=ast Jz;have ahT:=ast ac4;have arn:=Jz.lt;have aro:=Y6.lt;clear hb9 ac4 Jz Y6 HS3 ac2 ac3 ahR HB8 y2 Dz vH HVV HY3 HY4 HAB yJ HTB rZ;clear x0 x1 x2;have x0:w9.cell? ⟨ab,0,none⟩=some (.slice xa xn xc):=Q7.out.cell 0 _ rfl;have x1:w9.cell? ⟨ab,1,none⟩=some (.slice oa on oc):=Q7.out.cell 1 _ rfl;have x2:w9.cell? ⟨ab,2,none⟩=some (.slice va vn vc):=Q7.out.cell 2 _ rfl;have hee:(CC == CC)=true:=by simp
 have hnN:(N == N)=true:=by simp
 have hnE:(E == E)=true:=by simp
 have ars:=HL.out.blk.lt;go_upto_region 10 with fail
 have nx:=fun w=>Lib.run_eql_slice_nil (P:=Tryz.prog) w 24 3 xa xn xc 0 0 Tryz.underlying24
 have no:=fun w=>Lib.run_eql_slice_nil (P:=Tryz.prog) w 24 3 oa on oc 0 0 Tryz.underlying24
 have nv:=fun w=>Lib.run_eql_slice_nil (P:=Tryz.prog) w 24 3 va vn vc 0 0 Tryz.underlying24
 have hall:∃b1 b2 b3:Bool,xa.isNone=b1∧oa.isNone=b2∧va.isNone=b3∧((CC == 0)=true∨(b1=true∧b2=true∧b3=true)):=⟨_,_,_,rfl,rfl,rfl,hzz.imp (fun e=>by simp[e]) (fun ⟨e1,e2,e3⟩=>⟨by rw[e1];rfl,by rw[e2];rfl,by rw[e3];rfl⟩)⟩;obtain⟨b1,b2,b3,hx1,hx2,hx3,hz⟩:=hall;rw[hx1]at nx;rw[hx2]at no;rw[hx3]at nv;have HZ:=ast hz;clear hzz hx1 hx2 hx3 hz
 have hcs:(b1=true∧b2=true∧b3=true)∨((b1=true∧b2=true∧b3=false)∧(CC == 0)=true)∨((b1=true∧b2=false)∧(CC == 0)=true)∨(b1=false∧(CC == 0)=true):=by
  have:=HZ.out
  cases b1<;>cases b2<;>cases b3<;>simp_all
 clear HZ;rcases hcs with ⟨rfl,rfl,rfl⟩|⟨⟨rfl,rfl,rfl⟩,hC0⟩|⟨⟨rfl,rfl⟩,hC0⟩|⟨rfl,hC0⟩
 all_goals
  go_upto_region 12 with fail
  clear nx no nv x3 x4 y3 y4 hee hnN hnE x1 x2;have hc:=fun (B:Nat) (w0:World) (u:gW B w0) (b o:Nat) (h:b<B)=>u.cell b o h
  have hne:=gW.ne;refine aP w9.heap.size 5 (by kernel_rfl) (by kernel_rfl) ?_;simp only[List.take_succ_cons,List.take_zero,List.drop_succ_cons,List.drop_zero]
  repeat (go_big_quiet_step (fail))
  refine wpQuiet_nil ?_;intro uu;obtain⟨V1,ZC⟩:=uu;dsimp only;clear hc hne;have ac5:=HB9.out.trans (ZC.mono HB9.out.size);have ac6:=HL.out.below ac5;have Y7:=ahT.out.below ZC;have ahU:=Q7.out.sub ZC Q7.out.lt;have WI:=gK.out.size;have pU:=ast (xR ac6 (by omega) Y7.s (Nat.le_trans HLEN.out.1 (by omega)) (Nat.le_trans hle WI) (fun b hb=>HL.out.fresh (Nat.le_trans WI (aF Y7.s hb))));have ahV:=ast ac5;have ac7:=ast ac6;have um:=ast Y7;have ac8:=ast ahU;clear ZC ac5 ac6 Y7 ahU HB9 ahT Q7 x0;go_wp2_with fail
  refine pU.out.mono ?_;rintro e w10 ⟨rfl,bk1,G1,WZ,⟨hg1,ahW⟩,Yn,hc1⟩;have fr:∀b,w2.heap.size≤b→b≠wb∧lv.ownBlock≠some b∧¬gB bk G b∧∀(i:Nat) (d:PD),ds[i]?=some d→¬d.foot b:=fun b hb=>HL.out.fresh (Nat.le_trans WI hb)
  have ahX:=af um.out.o hc1 (fun b hb e=>by
   have hf:=fr b (aF um.out.o hb);rcases e with e|e|e
   ·exact hf.1 e
   ·exact(um.out.so b e).1 hb
   ·exact hf.2.2.1 e)
  have ahY:=af um.out.v hc1 (fun b hb e=>by
   have hf:=fr b (aF um.out.v hb);rcases e with e|e|e
   ·exact hf.1 e
   ·exact(um.out.so b e).2 hb
   ·exact hf.2.2.1 e)
  have Y8:=ac8.out.aA hc1 (fun e=>by
   have hf:=fr ab ahq;rcases e with e|e|e
   ·exact hf.1 e
   ·exact ah um.out.s ac8.out (by decide) e
   ·exact hf.2.2.1 e)
  have aap:Below B w w10:=(ahV.out.mono hle).trans (hc1.toBelow ac7.out.le (fun b hb e=>by
   rcases e with e|e|e
   ·have:=HL.out.Ec.2;omega
   ·have:=aF um.out.s e;omega
   ·have:=ac7.out.JL.base e;omega))
  have hx1:w10.cell? ⟨ab,1,none⟩=some _:=Y8.cell 1 _ rfl;simp only[List.getElem_toArray,List.getElem_cons_succ,List.getElem_cons_zero]at hx1;have ahZ:=Y8.lt;have ah0:=WZ.blk.lt;have hOl:∀b,_→b<V1.heap.size:=fun b hb=>bg um.out.o hb
  have hVl:∀b,_→b<V1.heap.size:=fun b hb=>bg um.out.v hb
  have ac9:=ast ahX;have ada:=ast ahY;have adb:=ast Y8;have DU:=ast WZ;have Yo:=ast Yn;have al8:=ast aap;have X6:=ast (And.intro hg1 ahW);have HFR:=ast fr;have HOL:=ast hOl;have HVL:=ast hVl;clear ahX ahY Y8 WZ Yn hc1 aap hg1 ahW fr hOl hVl pU ac8 ahV ac7;go_upto_region 13 with fail
  have hc:=fun (B:Nat) (w0:World) (u:gW B w0) (b o:Nat) (h:b<B)=>u.cell b o h
  have hne:=gW.ne;refine aP w10.heap.size 5 (by kernel_rfl) (by kernel_rfl) ?_;simp only[List.take_succ_cons,List.take_zero,List.drop_succ_cons,List.drop_zero]
  repeat (go_big_quiet_step (fail))
  refine wpQuiet_nil ?_;intro uu;obtain⟨V2,hv2⟩:=uu;dsimp only;clear hc hne;have ade:=DU.out.below hv2;have hO2:=af ac9.out (aj.au (S:=fun _=>False) hv2) (fun _ _=>id);have hV2:=af ada.out (aj.au (S:=fun _=>False) hv2) (fun _ _=>id);have hk2:=adb.out.sub hv2 adb.out.lt
  have sW:=ast (xR ade (by have:=X6.out.1;omega) hO2 (Nat.le_trans HLEN.out.2.1 (by omega)) (Nat.le_trans hle WI) (fun b hb=>by
   have hf:=HFR.out b (aF ac9.out hb);refine⟨hf.1,hf.2.1,fun e=>?_,hf.2.2.2⟩;rcases Yo.out b e with e|e|e
   ·exact hf.2.2.1 e
   ·exact(um.out.so b e).1 hb
   ·have:=HOL.out b hb;omega))
  have Y9:=ast ade;have Zh:=ast hV2;have HO2:=ast hO2;have Za:=ast hk2;have ah2:=ast (al8.out.trans (hv2.mono DU.out.le));have aru:w10.heap.size≤V2.heap.size:=hv2.size;clear hv2 ade hO2 hV2 hk2 hx1 adb;go_wp2_with fail
  refine sW.out.mono ?_;rintro e w11 ⟨rfl,bk2,G2,hL2,⟨hg2,ah3⟩,hF2,hc2⟩
  have nb1:∀b,w2.heap.size≤b→b<V1.heap.size→¬(Value.ownBlock _=some b)→¬gB bk1 G1 b:=fun b h1 h2 h3 e=>by
   rcases Yo.out b e with e|e|e
   ·exact(HFR.out b h1).2.2.1 e
   ·exact h3 e
   ·omega
  have ah4:=af Zh.out hc2 (fun b hb e=>by
   have hf:=HFR.out b (aF ada.out hb);rcases e with e|e|e
   ·exact hf.1 e
   ·exact um.out.ov b e hb
   ·exact nb1 b (aF ada.out hb) (HVL.out b hb) (fun e=>(um.out.so b e).2 hb) e)
  have adf:=Za.out.aA hc2 (fun e=>by
   have hf:=HFR.out ab ahq;rcases e with e|e|e
   ·exact hf.1 e
   ·exact ah HO2.out Za.out (by decide) e
   ·exact Y9.out.JL.Vl Za.out (fun j hj=>by
     match j,hj with
     |0,_=>exact⟨by decide,by decide⟩
     |1,_=>exact⟨by decide,by decide⟩
     |2,_=>exact⟨by decide,by decide⟩
     |3,_=>exact⟨by decide,by decide⟩) e)
  have aaq:Below B w w11:=ah2.out.trans (hc2.toBelow Y9.out.le (fun b hb e=>by
   rcases e with e|e|e
   ·have:=HL.out.Ec.2;omega
   ·have:=aF ac9.out e;omega
   ·have:=Y9.out.JL.base e;omega))
  have hx2:w11.cell? ⟨ab,2,none⟩=some _:=adf.cell 2 _ rfl;simp only[List.getElem_toArray,List.getElem_cons_succ,List.getElem_cons_zero]at hx2;have aoO:=adf.lt;have aoP:=hL2.blk.lt;have adg:=ast ah4;have HL2:=ast hL2;have HF2:=ast hF2;have amb:=ast aaq;have HG2:=ast (And.intro hg2 ah3);have HNB:=ast nb1;have amc:=ast (show ∀b,_→b<V2.heap.size from fun b hb=>bg Zh.out hb);clear ah4 adf hL2 hF2 hc2 aaq hg2 ah3 nb1 sW Za Y9 ah2 ahZ ah0;go_upto_region 14 with fail
  have hc:=fun (B:Nat) (w0:World) (u:gW B w0) (b o:Nat) (h:b<B)=>u.cell b o h
  have hne:=gW.ne;refine aP w11.heap.size 5 (by kernel_rfl) (by kernel_rfl) ?_;simp only[List.take_succ_cons,List.take_zero,List.drop_succ_cons,List.drop_zero]
  repeat (go_big_quiet_step (fail))
  refine wpQuiet_nil ?_;intro uu;obtain⟨V3,hv3⟩:=uu;dsimp only;clear hc hne;have adh:=HL2.out.below hv3;have F5:=af adg.out (aj.au (S:=fun _=>False) hv3) (fun _ _=>id)
  have HK3:=ast (xR adh (by have:=X6.out.1;have:=HG2.out.1;omega) F5 (Nat.le_trans HLEN.out.2.2 (by omega)) (Nat.le_trans hle WI) (fun b hb=>by
   have hf:=HFR.out b (aF adg.out hb);refine⟨hf.1,hf.2.1,fun e=>?_,hf.2.2.2⟩;rcases HF2.out b e with e|e|e
   ·exact HNB.out b (aF adg.out hb) (HVL.out b hb) (fun e=>(um.out.so b e).2 hb) e
   ·exact um.out.ov b e hb
   ·have:=amc.out b hb;omega))
  have ah5:=ast adh;have amd:=ast (amb.out.trans (hv3.mono HL2.out.le));have HV3:=ast F5;clear hv3 adh F5 hx2;go_wp2_with fail
  refine HK3.out.mono ?_;rintro e w12 ⟨rfl,bk3,G3,hL3,⟨hg3,hg3'⟩,hF3,hc3⟩
  have aar:Below B w w12:=amd.out.trans (hc3.toBelow ah5.out.le (fun b hb e=>by
   rcases e with e|e|e
   ·have:=HL.out.Ec.2;omega
   ·have:=aF HV3.out e;omega
   ·have:=ah5.out.JL.base e;omega))
  have HFN:=ast (And.intro hL3 (And.intro (show GLe G G3 from fun j hj=>by have:=X6.out.2 j hj;have:=HG2.out.2 j hj;have:=hg3' j hj;omega) aar));clear hL3 hg3 hg3' hF3 hc3 aar HK3;go_wp2_with fail
  go_ret
  exact⟨rfl,bk3,G3,HFN.out⟩
end
section
attribute [local go_sem] oK
theorem Gm{B:Nat}{w:World}{wb:Nat}{lv:Value}{bk:B4}{G:G4}{ds:List PD}(h:dP B w wb lv bk G ds)(hp:0<ds.length)(hl:ds.length≤9000000)(hg:G.i.length≤80000000)
  (A C:Int) (S:ByteArray) (a1 a2 a3:Option Addr) (n1 c1 n2 c2 n3 c3:Nat) (hA0: -9223372036854775808≤A) (hA1:A≤9223372036854775807) (hS:S.size≤1100000) (ls ms:List Int) (uQ:fD B w a1 n1 c1 1 (ints ls)) (Aw:fD B w a2 n2 c2 1 (ints ms)) (hn1:n1≤1100000) (hn2:n2≤1100000):
  Calls Tryz.prog 35 #[.pointer (some ⟨wb,0,none⟩),.agg #[.int .i64 5,.int .i64 A,.int .i64 C,.string S,.slice a1 n1 c1,.slice a2 n2 c2,.slice a3 n3 c3]] w (Oy B w wb ds G 0):=by
 obtain⟨Qn,tY,hlv,hlc,_⟩:=ag h.Gv;subst hlv;obtain⟨i,WU,JD⟩:=IP A ds.length hp;obtain⟨d,hd⟩:∃d,ds[i]?=some d:=⟨_,List.getElem?_eq_getElem JD⟩;obtain⟨X,hX⟩:=exq (w.alloc (.cells #[.int .i64 5,.int .i64 A,.int .i64 C,.string S,.slice a1 n1 c1,.slice a2 n2 c2,.slice a3 n3 c3] 86 (0,0)):World);obtain⟨ob,AA⟩:=exq (w.heap.size);have hbX:Below w.heap.size w X:=by rw[hX];exact brq.alloc nrq _
 have bU:az X ob #[.int .i64 5,.int .i64 A,.int .i64 C,.string S,.slice a1 n1 c1,.slice a2 n2 c2,.slice a3 n3 c3] 86:=by rw[hX,AA];exact ay w _ _
 have Yt:=h.below hbX;have o0:X.cell? ⟨ob,0,none⟩=some (.int .i64 5):=bU.cell 0 _ rfl;have o1:X.cell? ⟨ob,1,none⟩=some (.int .i64 A):=bU.cell 1 _ rfl;have o3:X.cell? ⟨ob,3,none⟩=some (.string S):=bU.cell 3 _ rfl;have w0:X.cell? ⟨wb,0,none⟩=some (.slice Qn ds.length tY):=Yt.blk.cell 0 _ rfl;obtain⟨lg,Vo,hv,_,akG,_,_,hcell⟩:=aB Yt.Gv hp;obtain⟨rfl,rfl⟩:Qn=some ⟨lg,0,none⟩∧tY=Vo:=by simpa using hv
 have g0:X.cell? ⟨lg,i*2,none⟩=some (.pointer (some ⟨d.bb,0,none⟩)):=by
  refine hcell _ _ ?_;have:=flat_get PD.cells 2 (fun _=>rfl) ds i 0 JD (by omega);rw[Nat.add_zero]at this;rw[this,(List.getElem?_eq_some_iff.1 hd).2];rfl
 have g1:X.cell? ⟨lg,i*2+1,none⟩=some (.pointer (some ⟨d.sb,0,none⟩)):=by
  refine hcell _ _ ?_;rw[flat_get PD.cells 2 (fun _=>rfl) ds i 1 JD (by omega),(List.getElem?_eq_some_iff.1 hd).2];rfl
 have HX:=ast hX;have Yu:=ast AA;have HL:=ast h;have HLX:=ast Yt;have jX:=ast bU;have lV:=ast hbX;have HD:=ast hd;have Au:=ast uQ;have oz:=ast Aw;have lD:(i:Int)<(ds.length:Int):=by omega
 have hl0:(0:Int)≤(i:Int):=by omega
 have hln:(ds.length:Int)≤9000000:=by omega
 have HPK:=ast (fun w'=>(IK A ds.length w' (by omega) (by omega) hA0 hA1).mono (fun e w2 (he:e=.returned (.int .i64 (qf A ds.length))∧w2=w')=>(show e=.returned (.int .i64 i)∧Below w'.heap.size w' w2 by rw[he.1,he.2,WU];exact⟨rfl,brq⟩)));clear h uQ Aw hX AA hbX bU Yt hd hv hcell WU;go_enter Tryz.func35,Tryz.ntmps35
 go_upto_region 1 with fail
 rw[←HX.out,←Yu.out];go_upto_region 3 with fail
 have hne:=dH.ne X.heap.size X #[.pointer none,.pointer none] 143 nrq;have k0:∀(S':Option Nat) (u:dH X.heap.size X #[.pointer none,.pointer none] 143 S'),u.val.cell? ⟨wb,0,none⟩=some (.slice (some ⟨lg,0,none⟩) ds.length tY):=fun S' u=>u.cell w0 (World.block_lt_of_cell? X _ w0)
 have k1:∀(S':Option Nat) (u:dH X.heap.size X #[.pointer none,.pointer none] 143 S'),u.val.cell? ⟨ob,1,none⟩=some (.int .i64 A):=fun S' u=>u.cell o1 (World.block_lt_of_cell? X _ o1)
 have k2:∀(S':Option Nat) (u:dH X.heap.size X #[.pointer none,.pointer none] 143 S'),u.val.cell? ⟨lg,i*2,none⟩=some (.pointer (some ⟨d.bb,0,none⟩)):=fun S' u=>u.cell g0 (World.block_lt_of_cell? X _ g0)
 have k3:∀(S':Option Nat) (u:dH X.heap.size X #[.pointer none,.pointer none] 143 S'),u.val.cell? ⟨lg,i*2+1,none⟩=some (.pointer (some ⟨d.sb,0,none⟩)):=fun S' u=>u.cell g1 (World.block_lt_of_cell? X _ g1)
 refine dR #[.pointer none,.pointer none] 143 14 (by kernel_rfl) (by kernel_rfl) rfl (fun _=>rfl) (fun a w=>by simp[go_sem]) ?_;simp only[List.take_succ_cons,List.take_zero,List.drop_succ_cons,List.drop_zero]
 repeat (refine dQ (fun K hK=>?_);go_simp;first|(refine hK _ ?_;clear hK K)|(apply Exists.intro;refine⟨fun S u=>?_,hK _ ?_⟩;(go_at_call 63;exact dH.calls nrq u (HPK.out _));clear hK K))
 refine eQ ?_;intro pb w6 hpb bT hblk;have z0:w6.cell? ⟨pb,0,none⟩=some (.pointer none):=hblk.cell 0 _ rfl;have z1:w6.cell? ⟨pb,1,none⟩=some (.pointer none):=hblk.cell 1 _ rfl;have y0:=hblk.frozen 0;have y1:=hblk.frozen 1;have ZZ:=hblk.lt;obtain⟨V,hV⟩:=exq ((w6.setCell ⟨pb,0,none⟩ (.pointer (some ⟨d.bb,0,none⟩))).setCell ⟨pb,1,none⟩ (.pointer (some ⟨d.sb,0,none⟩)):World)
 have BU:az V pb #[.pointer (some ⟨d.bb,0,none⟩),.pointer (some ⟨d.sb,0,none⟩)] 143:=by
  rw[hV];have:=(hblk.set (o:=0) (.pointer (some ⟨d.bb,0,none⟩))).set (o:=1) (.pointer (some ⟨d.sb,0,none⟩));simpa using this
 have Bc:Below X.heap.size X V:=by rw[hV];exact(bT.setCell hpb _).setCell hpb _
 have Oz:=ast BU;have rC:=ast Bc;have HV:=ast hV;clear k0 k1 k2 k3 hne hblk bT BU Bc o0 o1 o3 w0 g0 g1 hV;go_simp
 go_upto_region 4 with fail
 rw[←HV.out];clear z0 z1 y0 y1;have hLV:=HLX.out.below rC.out;have Qo:=jX.out.sub rC.out jX.out.lt;have o0:V.cell? ⟨ob,0,none⟩=some (.int .i64 5):=Qo.cell 0 _ rfl;have o1:V.cell? ⟨ob,1,none⟩=some (.int .i64 A):=Qo.cell 1 _ rfl;have o2:V.cell? ⟨ob,2,none⟩=some (.int .i64 C):=Qo.cell 2 _ rfl;have o3:V.cell? ⟨ob,3,none⟩=some (.string S):=Qo.cell 3 _ rfl;have o4:V.cell? ⟨ob,4,none⟩=some (.slice a1 n1 c1):=Qo.cell 4 _ rfl;have o5:V.cell? ⟨ob,5,none⟩=some (.slice a2 n2 c2):=Qo.cell 5 _ rfl;have o6:V.cell? ⟨ob,6,none⟩=some (.slice a3 n3 c3):=Qo.cell 6 _ rfl;have p0:V.cell? ⟨pb,0,none⟩=some (.pointer (some ⟨d.bb,0,none⟩)):=Oz.out.cell 0 _ rfl;have p1:V.cell? ⟨pb,1,none⟩=some (.pointer (some ⟨d.sb,0,none⟩)):=Oz.out.cell 1 _ rfl;have JC:=ast (Y2 hLV HD.out hg 5 A C S a1 a2 a3 n1 c1 n2 c2 n3 c3 ls ms (Au.out.below ((lV.out.mono HL.out.le).trans (rC.out.mono HLX.out.le))) (oz.out.below ((lV.out.mono HL.out.le).trans (rC.out.mono HLX.out.le))) hn1 hn2);clear hLV Qo;go_wp2_with fail
 refine JC.out.mono ?_;rintro e w8 ⟨rfl,Be,G',hL8,hn8,Hr⟩;have H8:=ast (And.intro hL8 (And.intro hn8 Hr));clear hL8 hn8 Hr JC o0 o1 o2 o3 o4 o5 o6 p0 p1;go_wp2_with fail
 go_ret
 obtain⟨hL8,hn8,Hr⟩:=H8.out;exact⟨rfl,_,Be,G',ds,hL8,by simp,by omega,hn8,((lV.out.mono HL.out.le).trans (rC.out.mono HLX.out.le)).trans Hr⟩
theorem NK(all:List uF)(gG:∀o∈all,o.Ok):Z7 [1,2,5] all IX:=by
 refine⟨?_,fun B wb w k m h hk=>h.looks hk,fun B wb w w' k m h hb=>h.below hb,IX.init,fun B wb w k m h=>h.size,rfl⟩;rintro B wb o ho hin w k m ⟨lv,bk,G,ds,hL,hm,hmk,hg⟩ hat aax hk;obtain⟨h1,h2,h3⟩:=gG o ho;have hg2:G.i.length≤12*k:=hg 1 (by omega)
 have hk4:o.k=1∨o.k=2∨o.k=5:=by
  simp only[List.any_cons,List.any_nil,Bool.or_false,Bool.or_eq_true,beq_iff_eq]at hin;omega
 rcases hk4 with e|e|e
 ·have:=FN hL (by omega) o.A o.C o.S o.a1 o.a2 o.a3 o.n1 o.c1 o.n2 o.c2 o.n3 o.c3
  rw[e];refine this.mono (fun e' w' h=>?_);have:=IX.next (o:=o) hm hmk hg (fun _=>rfl) h;rw[e]at this;exact this
 ·have:=C9 hL (by have:=aax (by omega);omega) (by omega) o.A o.C o.S o.a1 o.a2 o.a3 o.n1 o.c1 o.n2 o.c2 o.n3 o.c3 h1 h2 h3
  rw[e];refine this.mono (fun e' w' h=>?_);have:=IX.next (o:=o) hm hmk hg (fun h=>absurd h (by omega)) h;rw[e]at this;exact this
 ·obtain⟨ls,ms,ts,d4,d5,_,b4,b5,_⟩:=hat
  have:=Gm hL (by have:=aax (by omega);omega) (by omega) (by omega) o.A o.C o.S o.a1 o.a2 o.a3 o.n1 o.c1 o.n2 o.c2 o.n3 o.c3 h1 h2 h3 ls ms d4 d5 b4 b5;rw[e];refine this.mono (fun e' w' h=>?_);have:=IX.next (o:=o) hm hmk hg (fun h=>absurd h (by omega)) h;rw[e]at this;exact this
theorem ah6(w:World)(t:TypeId):∀j (h:j<[1,2,5].length),(w.alloc (.cells #[.int .i64 1,.int .i64 2,.int .i64 5] t)).cell? ⟨w.heap.size,j,none⟩=some (.int .i64 ([1,2,5]:List Int)[j]):=by
 intro j h;have h4:j<3:=h
 match j,h4 with
 |0,_=>simp
 |1,_=>simp
 |2,_=>simp
theorem WJ(w:World)(sv:Value)(ops:List uF)(hs:vV w sv ops)(hat:∀o∈ops,o.At w.heap.size w)(hn:ops.length≤1100000)(ht:lh w)(gG:∀o∈ops,o.Ok):
  Calls Tryz.prog 4 #[sv] w fun e w'=>e=.returned (.bool true)∧Below w.heap.size w w':=by
 obtain⟨sa,sn,sc,hsv⟩:∃a n c,sv=.slice a n c:=by
  rcases hs with ⟨e,_⟩|⟨a,c,e,_⟩
  ·exact⟨_,_,_,e⟩
  ·exact⟨_,_,_,e⟩
 subst hsv;have hb0:Below w.heap.size w (w.alloc (.cells #[.int .i64 1,.int .i64 2,.int .i64 5] 3 (0,0))):=brq.alloc nrq _
 have hs0:vV (w.alloc (.cells #[.int .i64 1,.int .i64 2,.int .i64 5] 3 (0,0))) (.slice sa sn sc) ops:=by
  rcases hs with h|⟨a,c,e,h⟩
  ·exact Or.inl h
  ·refine Or.inr ⟨a,c,e,fun j u hu=>?_⟩
   have h1:=h j u hu;rw[hb0.cell (World.block_lt_of_cell? w _ h1)];exact h1
 have WC:∀o∈ops,o.At (w.alloc (.cells #[.int .i64 1,.int .i64 2,.int .i64 5] 3 (0,0))).heap.size (w.alloc (.cells #[.int .i64 1,.int .i64 2,.int .i64 5] 3 (0,0))):=fun o ho=>((hat o ho).below hb0).mono hb0.size
 have HP:=ast (Qs (pl:=[1,2,5]) (ops:=ops) (St:=IX) (w.alloc (.cells #[.int .i64 1,.int .i64 2,.int .i64 5] 3 (0,0))) (.slice sa sn sc) w.heap.size 3 (fun tb ib=>NK _ (fun o ho=>(List.mem_append.1 ho).elim (Qv tb ib o) (gG o))) hs0 WC hn (ht.below hb0) (by decide) (by decide) (by simp) (ah6 w 3));have HB:=ast hb0;clear hs hn ht gG hs0 hb0 hat WC;go_enter Tryz.func4,Tryz.ntmps4
 go_wp2_with fail
 refine HP.out.mono ?_;rintro e w1 ⟨rfl,hb1⟩;have H1:=ast hb1;clear HP hb1;go_wp2_with fail
 go_ret
 exact⟨rfl,HB.out.trans (H1.out.mono (by simp))⟩
end
end Go.Proofs.YtcphhbofjkenaaaGreatDoor
