import Derived.Below
import Derived.Deep.Draws
namespace Go.Proofs.YtcphhbofjkenaaaGreatDoor
open Go Go.RowKit
theorem aq{α:Sort _}(a:α):∃ x,x=a:=⟨a,rfl⟩
theorem aC{n:Nat}:n<=n:=Nat.le_refl n
theorem aQ{B:Nat}{w:World}:Below B w w:=Below.refl B w
theorem eG{w:World}{n:Nat}:Below w.heap.size w (w.drewN n):=⟨rfl,rfl,rfl,Nat.le_refl _,λ_ _=>rfl⟩
theorem ag{p:Prop}(h:p:=by omega):p:=h
theorem aj{p:Prop}(h:p:=by decide):p:=h
theorem aJ{p:Prop}(h:p:=by simp;omega):p:=h
theorem aF{p:Prop}(h:p:=by simp):p:=h
theorem cG{p:Prop}(h:p:=by rw[hsl];rfl):p:=h
theorem jm{p:Prop}(h:p:=by rw[hX];exact aQ.alloc aC _):p:=h
theorem xV{p:Prop}(h:p:=by have:=HK.out;have:=gC.out;simp only[List.length_cons,List.length_nil];omega):p:=h
theorem rG{p:Prop}(h:p:=by simp only[List.length_cons,List.length_nil];omega):p:=h
theorem eV{p:Prop}(h:p:=by decide +kernel):p:=h
theorem Mv{p:Prop}(h:p:=by rw[Af,Nat.testBit_lt_two_pow (Nat.lt_of_lt_of_le uH (Nat.pow_le_pow_right (by decide) hi)),Nat.testBit_lt_two_pow (Nat.lt_of_lt_of_le zy (Nat.pow_le_pow_right (by decide) hi))];rfl):p:=h
theorem gP{p:Prop}(h:p:=by simpa using hv):p:=h
theorem lu{p:Prop}(h:p:=by unfold maxLen;omega):p:=h
theorem je{p:Prop}(h:p:=by simp only;omega):p:=h
theorem iU{p:Prop}(h:p:=by rw[bG,ow];rfl):p:=h
theorem Dl{p:Prop}(h:p:=by have:=gC.out;have:=HK.out;simp only[List.length_nil];omega):p:=h
theorem tQ{p:Prop}(h:p:=by rw[hX,hib];exact bF w _ _):p:=h
theorem iQ{p:Prop}(h:p:=by rw[hs];simp):p:=h
theorem rJ{p:Prop}(h:p:=by first|rfl|trivial|simp):p:=h
theorem GJ{p:Prop}(h:p:=by show G3.length=_;rw[hG3,List.length_append,List.length_singleton,HL2.out]):p:=h
theorem uE{p:Prop}(h:p:=by have:=ku.out;omega):p:=h
theorem Hr{p:Prop}(h:p:=by show G1.length=_;rw[hG1,List.length_append,List.length_singleton,mG.out]):p:=h
theorem Iu{p:Prop}(h:p:=by show G2.length=_;rw[hG2,List.length_append,List.length_singleton,dO.out]):p:=h
theorem Q2{p:Prop}(h:p:=by rw[hX];exact(ak.refl (λb=>b=mb) w).drew.trans ⟨rfl,rfl,rfl,by simp[World.setRow],λk hk hne=>setRow_other w.drew mb k _ (λe=>hne e)⟩):p:=h
theorem mm{p:Prop}(h:p:=by simpa using Gy):p:=h
theorem Ng{p:Prop}(h:p:=by have:=(((HB.sub kC HB.lt).alloc (.stringIter t p)).set (o:=1) u);simpa [World.iter]using this):p:=h
theorem M4{p:Prop}(h:p:=by rw[hP];exact Nat.le_trans (Nat.pow_le_pow_right (by decide) (show k<=31 by omega)) (by decide)):p:=h
theorem OX{p:Prop}(h:p:=by rw[pG.cell (p:=⟨w.heap.size,0,none⟩) (by simp;omega),((ak.refl (λ_=>False) w1).alloc _).cell (p:=⟨w.heap.size,0,none⟩) tq id];exact x0):p:=h
theorem sW{p:Prop}(h:p:=by rw[<-HN.out];exact hlt):p:=h
theorem Km{p:Prop}(h:p:=by simp only[List.mem_cons,List.not_mem_nil,or_false]at hy;rcases hy with rfl|rfl|rfl<;>omega):p:=h
theorem Gj{p:Prop}(h:p:=by show G0.length=_;rw[hG0,List.length_append,List.length_singleton]):p:=h
theorem y7{p:Prop}(h:p:=by simpa using hcell 0 _ rfl):p:=h
theorem A3{p:Prop}(h:p:=by show mK _ _ _ _;unfold mK;omega):p:=h
theorem tO{p:Prop}(h:p:=by have:=gC.out;omega):p:=h
theorem lj{p:Prop}(h:p:=by rw[hs];rfl):p:=h
theorem kg{p:Prop}(h:p:=by simp at h):p:=h
theorem vD{p:Prop}(h:p:=by have:=h.sU e;omega):p:=h
theorem BF{p:Prop}(h:p:=by rw[hRe];exact⟨rfl,rfl,rfl⟩):p:=h
theorem IE{p:Prop}(h:p:=by rw[<-Int.tmod_eq_emod_of_nonneg (by omega)];exact hmb):p:=h
theorem J1{p:Prop}(h:p:=by have:yq<=Y:=(by rw[hyq];exact Nat.div_le_self _ _);have:=HY.out;omega):p:=h
theorem JY{p:Prop}(h:p:=by have:xq<=X:=(by rw[um];exact Nat.div_le_self _ _);have:=HX.out;omega):p:=h
theorem Jm{p:Prop}(h:p:=by rintro rfl;exact absurd (l8 h.blk hrb) (by decide)):p:=h
theorem UM{p:Prop}(h:p:=by rw[hw2];exact⟨rfl,rfl,rfl,by simp[World.setRow],λk hk hne=>setRow_other X tg k _ (λe=>hne e)⟩):p:=h
theorem Cl{p:Prop}(h:p:=by first|exact aC|trivial|simp):p:=h
theorem ki{p:Prop}(h:p:=by rw[hk,e]):p:=h
theorem Mi{p:Prop}(h:p:=by rw[hs,mz ha,mz hb];rcases s with _|⟨_,_|_⟩<;>simp[bW,execM,arrP]):p:=h
theorem Ge{p:Prop}(h:p:=by rw[getD_replicate_false]at hl;cases hl):p:=h
theorem CV{p:Prop}(h:p:=by have:=HK.out;have:=gC.out;omega):p:=h
theorem M5{p:Prop}(h:p:=by have:=HK.out;simp only[List.length_cons,List.length_nil];omega):p:=h
theorem C9{p:Prop}(h:p:=by have:=gC.out;have:=HK.out;omega):p:=h
theorem yN{p:Prop}(h:p:=by rw[h.len];exact hi):p:=h
theorem Yr{p:Prop}(h:p:=by have:=o7.out;rw[if_neg (by rw[hE];decide)]at this;exact this):p:=h
theorem Gf{p:Prop}(h:p:=by rw[hV];exact(bO.setCell hpb _).setCell hpb _):p:=h
theorem UB{p:Prop}(h:p:=by have:=ku.out;obtain⟨hk,kY,hlt⟩:=Ex.out;omega):p:=h
theorem JQ{p:Prop}(h:p:=by rw[nP.cell (p:=⟨w.heap.size,0,none⟩) (by simp;omega)];simp):p:=h
theorem N4{p:Prop}(h:p:=by rw[nP.cell (p:=⟨w.heap.size,4,none⟩) (by simp;omega)];simp):p:=h
theorem LP{p:Prop}(h:p:=by have:=HK.out;have:=gC.out;simp only[List.length_nil];omega):p:=h
theorem T6{p:Prop}(h:p:=by simp only[List.mem_cons,List.not_mem_nil,or_false]at hy;rcases hy with rfl|rfl<;>omega):p:=h
theorem CQ{p:Prop}(h:p:=by rw[hW];exact aQ.alloc aC _):p:=h
theorem KS{p:Prop}(h:p:=by rintro rfl;exact absurd (l8 h.blk h.sys.blk) (by decide)):p:=h
theorem Db{p:Prop}(h:p:=by have:=h.new;have:=h.tl;omega):p:=h
theorem Oe{p:Prop}(h:p:=by rintro rfl;exact absurd (l8 h.sys.blk h.blk) (by decide)):p:=h
theorem Hm{p:Prop}(h:p:=by rw[pW];exact⟨rfl,rfl,rfl,aC,λ_ _=>rfl⟩):p:=h
theorem Tp{p:Prop}(h:p:=by have:=HX.out;rw[HE.out]at this;exact this):p:=h
theorem SH{p:Prop}(h:p:=by have hq:=BI.out b hb;rw[hback b (by omega) (by omega) (Or.inl hb)];exact EA b hb):p:=h
theorem SP{p:Prop}(h:p:=by have hq:=Gu.out b hb;rw[hback b (by omega) (by omega) (Or.inr hb)];exact EB b hb):p:=h
theorem IU{p:Prop}(h:p:=by rw[g i (by omega)];exact hcs.mc.any i hi):p:=h
theorem WJ{p:Prop}(h:p:=by have:=hl (j+1) (by simp;omega);simpa [Nat.add_assoc,Nat.add_comm 1 j]using this):p:=h
theorem Ep{p:Prop}(h:p:=by rw[List.length_take];omega):p:=h
theorem Jn{p:Prop}(h:p:=by rw[hs];match s with|[]=>rfl|_::_=>rfl):p:=h
theorem IA{p:Prop}(h:p:=by rw[hs];simp only[List.headD_cons];omega):p:=h
theorem Q8{p:Prop}(h:p:=by have:=A5.out;have:=HW.out;omega):p:=h
theorem C2{p:Prop}(h:p:=by have:=mX s (k+j);omega):p:=h
theorem Cs{p:Prop}(h:p:=by have:=(gj _ e).2;omega):p:=h
theorem Bb{p:Prop}(h:p:=by rw[h]at hr;cases hr):p:=h
theorem GU{p:Prop}(h:p:=by simp only[List.length_cons]at hk;omega):p:=h
theorem Vu{p:Prop}(h:p:=by simpa using(congrArg (λu:Value=>match u with|.slice a _ _=>a|_=>none) mR)):p:=h
theorem WA{p:Prop}(h:p:=by show R=true;rw[HC.out,List.drop_of_length_le (by rw[<-HN.out];exact aC)];rfl):p:=h
theorem Ns{p:Prop}(h:p:=by rintro rfl;exact absurd (l8 hrb h.blk) (by decide)):p:=h
theorem Kb{p:Prop}(h:p:=by rw[Int.tmod_eq_emod_of_nonneg (by omega),hX];omega):p:=h
theorem Ox{p:Prop}(h:p:=by rw[Int.tmod_eq_emod_of_nonneg (by omega),hY];omega):p:=h
theorem Nb{p:Prop}(h:p:=by rw[Int.tmod_eq_emod_of_nonneg (by omega)];exact ex):p:=h
theorem Ob{p:Prop}(h:p:=by rw[Int.tmod_eq_emod_of_nonneg (by omega)];exact ey):p:=h
theorem Fi{p:Prop}(h:p:=by simpa [Value.ownBlock]using hb):p:=h
theorem O6{p:Prop}(h:p:=by rw[hW];exact(ak.aY h1:ak (λb=>b=rb) w w1).setCell (p:=⟨rb,2,none⟩) rfl _):p:=h
theorem Ht{p:Prop}(h:p:=by have:=hul _ e.symm;have:=jZ.out;omega):p:=h
theorem OJ{p:Prop}(h:p:=by rw[hN,hP];exact Nat.mod_lt _ (Nat.two_pow_pos k)):p:=h
theorem JS{p:Prop}(h:p:=by rw[hx,hP];exact Nat.testBit_eq_decide_div_mod_eq):p:=h
theorem N1{p:Prop}(h:p:=by rw[hy,hP];exact Nat.testBit_eq_decide_div_mod_eq):p:=h
theorem AX{p:Prop}(h:p:=by have:=Dr.out;omega):p:=h
theorem L0{p:Prop}(h:p:=by rw[Nat.mod_pow_succ,<-Nat.toNat_testBit,<-hN,<-hP]):p:=h
theorem NC{p:Prop}(h:p:=by rw[hX];exact(aQ.alloc aC _).alloc (by simp) _):p:=h
theorem Bt{p:Prop}(h:p:=by simpa using hb):p:=h
theorem yy{p:Prop}(h:p:=by simpa using hs):p:=h
theorem XN{p:Prop}(h:p:=by rw[si];exact(ak.refl (λb=>b=xb) w5).setCell (p:=⟨xb,3,none⟩) rfl _):p:=h
theorem Et{p:Prop}(h:p:=by simp[PB.opened,PB.zero]):p:=h
theorem Df{p:Prop}(h:p:=by rw[<-hys];exact HY.out.1):p:=h
theorem Sr{p:Prop}(h:p:=by rw[hZ];exact(ak.refl (λb=>b=gn) Y).setCell (p:=⟨gn,q,none⟩) rfl _):p:=h
theorem nK{p:Prop}(h:p:=by cases h):p:=h
theorem abU{p:Prop}(h:p:=by have:=HP.out;have:=ni.out;have:=HS.out;omega):p:=h
theorem aeH{p:Prop}(h:p:=by show R=3;rw[HR4.out,if_pos ⟨by decide,of_decide_eq_false HB.symm⟩]):p:=h
theorem Ju{p:Prop}(h:p:=by rw[List.mem_singleton.1 hy];omega):p:=h
theorem Gr{p:Prop}(h:p:=by rw[List.mem_singleton.1 hz];omega):p:=h
theorem N3{p:Prop}(h:p:=by rw[show acc.length-2=m by omega];exact c0):p:=h
theorem QB{p:Prop}(h:p:=by have:=bF (w.alloc (.cells eW 249 (0,0))) wS 249;simpa using this):p:=h
theorem pT{p:Prop}(h:p:=by simp[DC]):p:=h
theorem tY{p:Prop}(h:p:=by rw[yo,eB]):p:=h
theorem Ln{p:Prop}(h:p:=by constructor<;>simp only[Inf.plain]<;>omega):p:=h
theorem CR{p:Prop}(h:p:=by have:=HN.out;omega):p:=h
theorem Un{p:Prop}(h:p:=by rw[HS.out,List.drop_eq_nil_of_le (by have:=ku.out;omega)];rfl):p:=h
theorem BA{p:Prop}(h:p:=by simpa using hv'):p:=h
theorem XT{p:Prop}(h:p:=by obtain⟨a1,a2⟩:=ha;obtain⟨b1,b2⟩:=hb;exact⟨by omega,by omega⟩):p:=h
theorem BQ{p:Prop}(h:p:=by rw[<-e];exact hb):p:=h
theorem Si{p:Prop}(h:p:=by simp only[List.length_append,List.length_singleton];exact hl):p:=h
theorem Ip{p:Prop}(h:p:=by rw[size_madeCells,Nat.mul_one]):p:=h
theorem afk{p:Prop}(h:p:=by rw[HC.out.2];exact Nat.mod_eq_of_lt HZL):p:=h
theorem Jw{p:Prop}(h:p:=by simpa [Value.ownBlock]using e):p:=h
theorem AY{p:Prop}(h:p:=by simpa using hr):p:=h
theorem AV{p:Prop}(h:p:=by simpa using hE):p:=h
theorem Zw{p:Prop}(h:p:=by rw[List.length_append,List.length_singleton];exact hown1):p:=h
theorem Bd{p:Prop}(h:p:=by simpa using cI):p:=h
theorem Es{p:Prop}(h:p:=by trivial):p:=h
theorem rB{p:Prop}(h:p:=by simp[Ke]):p:=h
theorem KB{p:Prop}(h:p:=by split at hd<;>simp only at hd<;>omega):p:=h
theorem Kz{p:Prop}(h:p:=by rw[hx];exact Nat.mod_lt _ (by decide)):p:=h
theorem Lg{p:Prop}(h:p:=by rw[hy];exact Nat.mod_lt _ (by decide)):p:=h
theorem yt{p:Prop}(h:p:=by rw[hcs];rfl):p:=h
theorem Dh{p:Prop}(h:p:=by rw[h.len];exact hj):p:=h
theorem aev{p:Prop}(h:p:=by rw[HX.out,ni.out];have:=HH.out;omega):p:=h
theorem D3{p:Prop}(h:p:=by have:=rO.out;omega):p:=h
theorem Tm{p:Prop}(h:p:=by rw[HVC.out];exact(by rw[uR.out]at hcell ⊢;exact hcell)):p:=h
theorem Eb{p:Prop}(h:p:=by have:=gV.out;omega):p:=h
theorem SA{p:Prop}(h:p:=by rw[hs];match s with|[]=>rfl|[_]=>rfl|_::_::_=>rfl):p:=h
theorem IP{p:Prop}(h:p:=by simp[Value.ownBlock];omega):p:=h
theorem Bn{p:Prop}(h:p:=by simp[ha0,hb0]):p:=h
theorem Z8{p:Prop}(h:p:=by show _=_;rw[vY.out,List.length_append,H7.out,HN.out]):p:=h
theorem DV{p:Prop}(h:p:=by have:=h.new;omega):p:=h
theorem L6{p:Prop}(h:p:=by rw[hX,hpb];exact(bF w _ _).alloc _):p:=h
theorem Hw{p:Prop}(h:p:=by simp[Value.ownBlock]at hk):p:=h
theorem Ty{p:Prop}(h:p:=by intro u hu;simp at hu;rcases hu with rfl|rfl<;>rfl):p:=h
theorem Gi{p:Prop}(h:p:=by simp[G4.get,G4.none]at hu):p:=h
theorem Pj{p:Prop}(h:p:=by rw[List.length_append,List.length_singleton];omega):p:=h
theorem Vo{p:Prop}(h:p:=by rw[Int.tmod_eq_emod_of_nonneg (by omega)];exact hr):p:=h
theorem akd{p:Prop}(h:p:=by rw[hyq];exact Nat.div_le_self _ _):p:=h
theorem Ml{p:Prop}(h:p:=by rw[hY];exact hb1.alloc hb1.size _):p:=h
theorem BN{p:Prop}(h:p:=by simpa using h0):p:=h
theorem S9{p:Prop}(h:p:=by have:=vw.out;have:=y9.out;have:=xR.out;simp;omega):p:=h
theorem WV{p:Prop}(h:p:=by have:=HRR.out;rw[if_neg np.out]at this;exact this):p:=h
theorem wR{p:Prop}(h:p:=by rw[hb,e]):p:=h
theorem Gk{p:Prop}(h:p:=by have:=nh rb e.symm;omega):p:=h
theorem RZ{p:Prop}(h:p:=by rw[AP.out,HX.out,HY.out];have:=rQ.out;simp;omega):p:=h
theorem LK{p:Prop}(h:p:=by rw[ByteArray.size_extract];omega):p:=h
theorem ajO{p:Prop}(h:p:=by rw[um];exact Nat.div_le_self _ _):p:=h
theorem K4{p:Prop}(h:p:=by rw[Nat.pow_succ,hP,Nat.mul_comm]):p:=h
theorem WQ{p:Prop}(h:p:=by rw[ht];unfold dJ;have:=Fy s (s.size-0) 0;omega):p:=h
theorem Jk{p:Prop}(h:p:=by rw[hX,eN];exact bF w _ _):p:=h
theorem Rv{p:Prop}(h:p:=by unfold jN;rw[if_pos ⟨by omega,by omega,nM.symm⟩]):p:=h
theorem JE{p:Prop}(h:p:=by rw[<-Ct eD.out];exact hn2):p:=h
theorem WW{p:Prop}(h:p:=by rw[hR,BK,List.drop_eq_nil_of_le (by omega)];rfl):p:=h
theorem OI{p:Prop}(h:p:=by have:=HJ.out;have:=HZ.out;omega):p:=h
theorem L3{p:Prop}(h:p:=by rw[hW];exact bj.alloc bj.size _):p:=h
theorem aid{p:Prop}(h:p:=by have:=HH.out;have:=HS.out;omega):p:=h
theorem Mx{p:Prop}(h:p:=by rw[hP];exact Nat.one_le_two_pow):p:=h
theorem Ku{p:Prop}(h:p:=by rw[hX];exact HB.alloc HB.size _):p:=h
theorem Bh{p:Prop}(h:p:=by rw[yo,hdd]):p:=h
theorem FJ{p:Prop}(h:p:=by rw[hdl];exact hL.1):p:=h
theorem O0{p:Prop}(h:p:=by rw[wanted_put oj a ok.dst v p1]at h2;exact h2):p:=h
theorem yA{p:Prop}(h:p:=by rw[e];rfl):p:=h
theorem Li{p:Prop}(h:p:=by have:=eK.size;simpa using this):p:=h
theorem Qq{p:Prop}(h:p:=by have:=bj.size;simpa [World.setCell]using this):p:=h
theorem CS{p:Prop}(h:p:=by simpa using hop):p:=h
theorem UI{p:Prop}(h:p:=by rw[hX];exact setRow_heap w.drew mb _ _ _ _ hb):p:=h
theorem aaT{p:Prop}(h:p:=by simp[World.setRow]):p:=h
theorem Lz{p:Prop}(h:p:=by have:=h.bN.lt;have:=h.bw;omega):p:=h
theorem Fo{p:Prop}(h:p:=by have:=jZ.out;omega):p:=h
theorem Hu{p:Prop}(h:p:=by have:=H1.out.2.1;omega):p:=h
theorem IG{p:Prop}(h:p:=by have:=HY.out.1.1;omega):p:=h
theorem Jg{p:Prop}(h:p:=by have:=(gj b e).1;omega):p:=h
theorem TR{p:Prop}(h:p:=by have:=this.1;simpa using this):p:=h
theorem KL{p:Prop}(h:p:=by rw[beq_eq_false_iff_ne];omega):p:=h
theorem K9{p:Prop}(h:p:=by rw[hX];exact HY.out.1.alloc _):p:=h
theorem Vh{p:Prop}(h:p:=by rw[Nat.zero_add];exact hL s listed a w hw h):p:=h
theorem Qd{p:Prop}(h:p:=by rw[show acc.length-2=m by omega];exact c1):p:=h
theorem Pv{p:Prop}(h:p:=by have:=q 0 _ (by omega) rfl;simpa using this):p:=h
theorem Xn{p:Prop}(h:p:=by rw[hV2];exact⟨rfl,rfl,rfl,aC,λ_ _=>rfl⟩):p:=h
theorem K0{p:Prop}(h:p:=by constructor<;>simp[Inf.zero]):p:=h
theorem Jz{p:Prop}(h:p:=by simp[PB.opened];omega):p:=h
theorem OC{p:Prop}(h:p:=by rw[Nat.pow_zero,Nat.mod_one]):p:=h
theorem LU{p:Prop}(h:p:=by rw[hh];simp[PB.opened];omega):p:=h
theorem Ii{p:Prop}(h:p:=by have:=hcs.mc.le;omega):p:=h
theorem Sd{p:Prop}(h:p:=by intro u hu;rw[List.mem_singleton.1 hu];rfl):p:=h
theorem MB{p:Prop}(h:p:=by rw[hY];exact aQ.alloc aC _):p:=h
theorem Hx{p:Prop}(h:p:=by rw[<-ku.out];exact hlt):p:=h
theorem SF{p:Prop}(h:p:=by rw[hw2];exact setRow_heap X tg _ _ _ _ HGX):p:=h
theorem Rj{p:Prop}(h:p:=by rw[<-HN.out];exact hkl):p:=h
theorem Vm{p:Prop}(h:p:=by show xs.getD j #[]=_;rw[List.getD,hx];rfl):p:=h
theorem Ps{p:Prop}(h:p:=by have:=hb.cell 32 _ h.dep;simpa using this):p:=h
theorem QP{p:Prop}(h:p:=by subst e;exact aT h.gB h.dR (by decide) hb):p:=h
theorem TE{p:Prop}(h:p:=by rw[HQ.cell (p:=⟨ng,k,none⟩) hng];exact e1):p:=h
theorem Vq{p:Prop}(h:p:=by unfold mi;rw[if_neg (by omega),if_neg hm]):p:=h
theorem Pp{p:Prop}(h:p:=by rw[ht,dif_neg (by rw[<-HN.out];exact hkl)]):p:=h
theorem JK{p:Prop}(h:p:=by rw[hWd];simp[World.setCell]):p:=h
theorem I7{p:Prop}(h:p:=by rw[hr]at h0;cases h0):p:=h
theorem XV{p:Prop}(h:p:=by simpa [PE.cells]using hcell 0 (by omega)):p:=h
theorem PA{p:Prop}(h:p:=by simpa [PE.cells]using hcell 1 (by omega)):p:=h
theorem XQ{p:Prop}(h:p:=by simpa [PE.cells]using hcell 2 (by omega)):p:=h
theorem Xz{p:Prop}(h:p:=by simpa [PE.cells]using hcell 3 (by omega)):p:=h
theorem P3{p:Prop}(h:p:=by simpa [PE.cells]using hcell 4 (by omega)):p:=h
theorem V6{p:Prop}(h:p:=by simpa [PE.cells]using hcell 5 (by omega)):p:=h
theorem S0{p:Prop}(h:p:=by simpa [PE.cells]using hcell 6 (by omega)):p:=h
theorem Tb{p:Prop}(h:p:=by simpa [PE.cells]using hcell 7 (by omega)):p:=h
theorem JB{p:Prop}(h:p:=by rw[HDX.out];exact he):p:=h
theorem aeg{p:Prop}(h:p:=by rw[ho,<-vY.out];exact List.getElem_mem G9):p:=h
theorem Jb{p:Prop}(h:p:=by rw[e];exact nZ hq.dR):p:=h
theorem Rt{p:Prop}(h:p:=by have:=(gj _ e).2;have:=(eM b hb).1;omega):p:=h
theorem Nt{p:Prop}(h:p:=by rw[si];simp[World.setCell]):p:=h
theorem Lj{p:Prop}(h:p:=by rw[hY,hib];exact bF w1 _ _):p:=h
theorem RI{p:Prop}(h:p:=by obtain⟨z,_,rfl⟩:=List.mem_map.1 hv';rfl):p:=h
theorem P7{p:Prop}(h:p:=by show w.heap.size<=lg;have:=HLG.out;omega):p:=h
theorem JI{p:Prop}(h:p:=by rw[HS.out];exact hn):p:=h
theorem V4{p:Prop}(h:p:=by rw[<-Act.put_comm a v undef h2];exact h):p:=h
theorem LF{p:Prop}(h:p:=by rw[hW,hE];exact bF w1 _ _):p:=h
theorem Fv{p:Prop}(h:p:=by rw[hV];exact mn):p:=h
theorem A7{p:Prop}(h:p:=by simp[ha0]):p:=h
theorem A4{p:Prop}(h:p:=by simp[hb0]):p:=h
theorem CX{p:Prop}(h:p:=by rw[hX];omega):p:=h
theorem C6{p:Prop}(h:p:=by rw[hY];omega):p:=h
theorem Ut{p:Prop}(h:p:=by have:=BM.out;omega):p:=h
theorem Oq{p:Prop}(h:p:=by simp[Value.ownBlock]at e):p:=h
theorem E5{p:Prop}(h:p:=by simpa using ht):p:=h
theorem FB{p:Prop}(h:p:=by simpa using hi):p:=h
theorem yh{p:Prop}(h:p:=by simp[h]):p:=h
theorem Ce{p:Prop}(h:p:=by rw[hV];rfl):p:=h
theorem Hg{p:Prop}(h:p:=by have:=hsp.1;omega):p:=h
theorem Gx{p:Prop}(h:p:=by rw[<-HN.out];omega):p:=h
theorem D5{p:Prop}(h:p:=by rw[hk];simp):p:=h
theorem FI{p:Prop}(h:p:=by simpa using h):p:=h
theorem ahA{p:Prop}(h:p:=by rw[h,oh.out];rfl):p:=h
theorem Bv{p:Prop}(h:p:=by cases hz):p:=h
theorem KQ{p:Prop}(h:p:=by rw[hY];exact bF _ _ _):p:=h
theorem AA{p:Prop}(h:p:=by rw[hRe]):p:=h
theorem ND{p:Prop}(h:p:=by rw[hV];exact aQ.drew):p:=h
theorem Ni{p:Prop}(h:p:=by simp[Rows.allUptoRow]):p:=h
theorem Hy{p:Prop}(h:p:=by simp[chkB]at hB):p:=h
theorem mN{p:Prop}(h:p:=by rfl):p:=h
theorem GG{p:Prop}(h:p:=by simpa using hd):p:=h
theorem Hn{p:Prop}(h:p:=by simpa using h1):p:=h
theorem J3{p:Prop}(h:p:=by simp[Addr.add]):p:=h
theorem FL{p:Prop}(h:p:=by rw[hx5];rfl):p:=h
theorem NU{p:Prop}(h:p:=by simp at hl ⊢;omega):p:=h
theorem DT{p:Prop}(h:p:=by simp at e):p:=h
theorem DG{p:Prop}(h:p:=by simp[h2]):p:=h
abbrev ae(n:Int):Value:=.int .i64 n
abbrev ar(b:Nat):Value:=.pointer (some ⟨b,0,none⟩)
abbrev aA(g n c:Nat):Value:=.slice (some ⟨g,0,none⟩) n c
abbrev aH:Value:=.slice none 0 0
abbrev ai(b o:Nat):Addr:=⟨b,o,none⟩
abbrev ay:=@if_neg
abbrev aG:=@if_pos
abbrev az:=@Or.inr
abbrev aD:=@Or.inl
abbrev bD:=@List.getElem?_eq_getElem
abbrev dm:=@List.getElem?_eq_some_iff
abbrev bH:=@Nat.lt_of_lt_of_le
abbrev cZ:=@List.length_append
abbrev eE:=@List.getElem?_append_left
abbrev gO:=@List.getElem?_append_right
abbrev aN:=@And.intro
abbrev dt:=@World.block_lt_of_cell?
abbrev aU:=@Nat.le_trans
abbrev dy:=@List.getElem?_set_ne
abbrev eT:=@List.getElem?_set_self
abbrev dG:=@List.length_reverse
abbrev kQ:=@Array.getElem?_setIfInBounds_ne
abbrev wI:=@Array.getElem?_setIfInBounds_self_of_lt
abbrev bR:=@Nat.zero_le
abbrev jL:=@List.length_singleton
abbrev gT:=@Option.some.inj
abbrev gU:=@Bool.eq_false_iff
abbrev jq:=@List.getElem?_eq_none
abbrev pX:=@Array.getElem?_eq_some_iff
abbrev oy:=@List.getD_eq_getElem?_getD
abbrev jo:=@List.getElem?_map
abbrev iC:=@decide_eq_false
abbrev kJ:=@decide_eq_true
abbrev nk:=@List.flatMap_append
abbrev mZ:=@Array.length_toList
abbrev vk:=@List.drop_eq_getElem_cons
abbrev nW:=@List.mem_of_getElem?
abbrev mD:=@List.length_set
abbrev lx:=@Nat.lt_or_ge
abbrev fh:=@List.mem_cons
abbrev tG:=@List.mem_singleton
abbrev yT:=@Classical.byContradiction
abbrev qu:=@List.getElem_mem
abbrev pY:=@World.ownsRow_nil
abbrev ra:=@Int.toNat_natCast
abbrev AO:=@Array.setIfInBounds_comm
abbrev GR:=@Int.emod_lt_of_pos
abbrev B6:=@Nat.eq_zero_or_pos
abbrev B3:=@List.getElem?_replicate
abbrev zO:=@Prod.mk.inj
abbrev gH:=@List.length_cons
abbrev BH:=@List.append_assoc
end Go.Proofs.YtcphhbofjkenaaaGreatDoor
