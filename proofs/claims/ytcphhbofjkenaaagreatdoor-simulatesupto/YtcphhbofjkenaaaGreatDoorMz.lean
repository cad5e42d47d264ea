import Derived.Below
import Derived.Deep.Draws
namespace Go.Proofs.YtcphhbofjkenaaaGreatDoor
open Go Go.RowKit
theorem ak{α:Sort _}(a:α):∃ x,x=a:=⟨a,rfl⟩
theorem aH{n:Nat}:n≤n:=Nat.le_refl n
theorem aQ{B:Nat}{w:World}:Below B w w:=Below.refl B w
theorem dz{w:World}{n:Nat}:Below w.heap.size w (w.drewN n):=⟨rfl,rfl,rfl,Nat.le_refl _,fun _ _=>rfl⟩
theorem ag{p:Prop}(h:p:=by omega):p:=h
theorem aj{p:Prop}(h:p:=by decide):p:=h
theorem aK{p:Prop}(h:p:=by simp;omega):p:=h
theorem aF{p:Prop}(h:p:=by simp):p:=h
theorem cn{p:Prop}(h:p:=by rw[hsl];rfl):p:=h
theorem rX{p:Prop}(h:p:=by have:=HK.out;have:=fL.out;simp only[List.length_cons,List.length_nil];omega):p:=h
theorem ow{p:Prop}(h:p:=by simp only[List.length_cons,List.length_nil];omega):p:=h
theorem jo{p:Prop}(h:p:=by rw[hX];exact aQ.alloc aH _):p:=h
theorem dJ{p:Prop}(h:p:=by decide +kernel):p:=h
theorem Gh{p:Prop}(h:p:=by rw[vk,Nat.testBit_lt_two_pow (Nat.lt_of_lt_of_le qC (Nat.pow_le_pow_right (by decide) hi)),Nat.testBit_lt_two_pow (Nat.lt_of_lt_of_le uN (Nat.pow_le_pow_right (by decide) hi))];rfl):p:=h
theorem gW{p:Prop}(h:p:=by simpa using hv):p:=h
theorem gG{p:Prop}(h:p:=by rw[bD,lZ];rfl):p:=h
theorem iO{p:Prop}(h:p:=by simp only;omega):p:=h
theorem ze{p:Prop}(h:p:=by have:=fL.out;have:=HK.out;simp only[List.length_nil];omega):p:=h
theorem lu{p:Prop}(h:p:=by unfold maxLen;omega):p:=h
theorem pU{p:Prop}(h:p:=by rw[hX,hib];exact bJ w _ _):p:=h
theorem gF{p:Prop}(h:p:=by rw[hs];simp):p:=h
theorem oN{p:Prop}(h:p:=by first|rfl|trivial|simp):p:=h
theorem qf{p:Prop}(h:p:=by have:=iE.out;omega):p:=h
theorem Qj{p:Prop}(h:p:=by rw[hX];exact(aq.refl (fun b=>b=mb) w).drew.trans ⟨rfl,rfl,rfl,by simp[World.setRow],fun k hk hne=>setRow_other w.drew mb k _ (fun e=>hne e)⟩):p:=h
theorem kJ{p:Prop}(h:p:=by simpa using Ds):p:=h
theorem I6{p:Prop}(h:p:=by have:=(((HB.sub iX HB.lt).alloc (.stringIter t p)).set (o:=1) u);simpa [World.iter]using this):p:=h
theorem Jr{p:Prop}(h:p:=by rw[hP];exact Nat.le_trans (Nat.pow_le_pow_right (by decide) (show k≤31 by omega)) (by decide)):p:=h
theorem Oy{p:Prop}(h:p:=by rw[mN.cell (p:=⟨w.heap.size,0,none⟩) (by simp;omega),((aq.refl (fun _=>False) w1).alloc _).cell (p:=⟨w.heap.size,0,none⟩) pP id];exact x0):p:=h
theorem IJ{p:Prop}(h:p:=by simp only[List.mem_cons,List.not_mem_nil,or_false]at hy;rcases hy with rfl|rfl|rfl<;>omega):p:=h
theorem tO{p:Prop}(h:p:=by simpa using hcell 0 _ rfl):p:=h
theorem wD{p:Prop}(h:p:=by show kp _ _ _ _;unfold kp;omega):p:=h
theorem aw{p:Prop}(h:p:=by have:=fL.out;omega):p:=h
theorem jD{p:Prop}(h:p:=by rw[hs];rfl):p:=h
theorem qJ{p:Prop}(h:p:=by have:=h.pI e;omega):p:=h
theorem wF{p:Prop}(h:p:=by rw[hRe];exact⟨rfl,rfl,rfl⟩):p:=h
theorem C8{p:Prop}(h:p:=by rw[←Int.tmod_eq_emod_of_nonneg (by omega)];exact hmb):p:=h
theorem jC{p:Prop}(h:p:=by simp at h):p:=h
theorem IG{p:Prop}(h:p:=by have:yq≤Y:=(by rw[hyq];exact Nat.div_le_self _ _);have:=HY.out;omega):p:=h
theorem Hb{p:Prop}(h:p:=by have:xq≤X:=(by rw[p7];exact Nat.div_le_self _ _);have:=HX.out;omega):p:=h
theorem Cm{p:Prop}(h:p:=by rintro rfl;exact absurd (kE h.blk hrb) (by decide)):p:=h
theorem KY{p:Prop}(h:p:=by rw[hw2];exact⟨rfl,rfl,rfl,by simp[World.setRow],fun k hk hne=>setRow_other X tg k _ (fun e=>hne e)⟩):p:=h
theorem xp{p:Prop}(h:p:=by first|exact aH|trivial|simp):p:=h
theorem Ju{p:Prop}(h:p:=by rw[hs,kF ha,kF hb];rcases s with _|⟨_,_|_⟩<;>simp[bM,execM,arrP]):p:=h
theorem AK{p:Prop}(h:p:=by rw[getD_replicate_false]at hl;cases hl):p:=h
theorem uj{p:Prop}(h:p:=by rw[←HN.out];exact hlt):p:=h
theorem yA{p:Prop}(h:p:=by have:=HK.out;have:=fL.out;omega):p:=h
theorem Jn{p:Prop}(h:p:=by have:=HK.out;simp only[List.length_cons,List.length_nil];omega):p:=h
theorem yD{p:Prop}(h:p:=by have:=fL.out;have:=HK.out;omega):p:=h
theorem jr{p:Prop}(h:p:=by rw[hk,e]):p:=h
theorem sZ{p:Prop}(h:p:=by rw[h.len];exact hi):p:=h
theorem Mk{p:Prop}(h:p:=by have:=nA.out;rw[if_neg (by rw[hE];decide)]at this;exact this):p:=h
theorem EN{p:Prop}(h:p:=by rw[lK.cell (p:=⟨w.heap.size,0,none⟩) (by simp;omega)];simp):p:=h
theorem Ey{p:Prop}(h:p:=by rw[lK.cell (p:=⟨w.heap.size,4,none⟩) (by simp;omega)];simp):p:=h
theorem JE{p:Prop}(h:p:=by have:=HK.out;have:=fL.out;simp only[List.length_nil];omega):p:=h
theorem Oc{p:Prop}(h:p:=by simp only[List.mem_cons,List.not_mem_nil,or_false]at hy;rcases hy with rfl|rfl<;>omega):p:=h
theorem Fu{p:Prop}(h:p:=by rintro rfl;exact absurd (kE h.blk h.sys.blk) (by decide)):p:=h
theorem zM{p:Prop}(h:p:=by have:=h.new;have:=h.tl;omega):p:=h
theorem E6{p:Prop}(h:p:=by rintro rfl;exact absurd (kE h.sys.blk h.blk) (by decide)):p:=h
theorem CH{p:Prop}(h:p:=by rw[qm];exact⟨rfl,rfl,rfl,aH,fun _ _=>rfl⟩):p:=h
theorem ab8{p:Prop}(h:p:=by have:=HX.out;rw[HE.out]at this;exact this):p:=h
theorem QB{p:Prop}(h:p:=by have:=iE.out;obtain⟨hk,hck,hlt⟩:=AV;omega):p:=h
theorem Q3{p:Prop}(h:p:=by have hq:=wu.out b hb;rw[hback b (by omega) (by omega) (Or.inl hb)];exact EA b hb):p:=h
theorem Ps{p:Prop}(h:p:=by have hq:=DD.out b hb;rw[hback b (by omega) (by omega) (Or.inr hb)];exact EB b hb):p:=h
theorem Ck{p:Prop}(h:p:=by rw[g i (by omega)];exact hcs.mc.any i hi):p:=h
theorem Ql{p:Prop}(h:p:=by have:=hl (j+1) (by simp;omega);simpa [Nat.add_assoc,Nat.add_comm 1 j]using this):p:=h
theorem yN{p:Prop}(h:p:=by rw[List.length_take];omega):p:=h
theorem Ch{p:Prop}(h:p:=by rw[hs];match s with|[]=>rfl|_ :: _=>rfl):p:=h
theorem CC{p:Prop}(h:p:=by rw[hs];simp only[List.headD_cons];omega):p:=h
theorem OT{p:Prop}(h:p:=by have:=wo.out;have:=HW.out;omega):p:=h
theorem zR{p:Prop}(h:p:=by have:=lh s (k+j);omega):p:=h
theorem vT{p:Prop}(h:p:=by rw[h]at hr;cases hr):p:=h
theorem Cn{p:Prop}(h:p:=by simp only[List.length_cons]at hk;omega):p:=h
theorem Lb{p:Prop}(h:p:=by simpa using(congrArg (fun u:Value=>match u with|.slice a _ _=>a|_=>none) nZ)):p:=h
theorem NH{p:Prop}(h:p:=by show R=true;rw[HC.out,List.drop_of_length_le (by rw[←HN.out];exact aH)];rfl):p:=h
theorem Ex{p:Prop}(h:p:=by rintro rfl;exact absurd (kE hrb h.blk) (by decide)):p:=h
theorem FO{p:Prop}(h:p:=by rw[Int.tmod_eq_emod_of_nonneg (by omega),hX];omega):p:=h
theorem Fj{p:Prop}(h:p:=by rw[Int.tmod_eq_emod_of_nonneg (by omega),hY];omega):p:=h
theorem Ha{p:Prop}(h:p:=by rw[Int.tmod_eq_emod_of_nonneg (by omega)];exact ex):p:=h
theorem E2{p:Prop}(h:p:=by rw[Int.tmod_eq_emod_of_nonneg (by omega)];exact ey):p:=h
theorem RM{p:Prop}(h:p:=by rw[hW];exact(aq.bf h1:aq (fun b=>b=rb) w w1).setCell (p:=⟨rb,2,none⟩) rfl _):p:=h
theorem kK{p:Prop}(h:p:=by cases h):p:=h
theorem GU{p:Prop}(h:p:=by rw[hN,hP];exact Nat.mod_lt _ (Nat.two_pow_pos k)):p:=h
theorem IC{p:Prop}(h:p:=by rw[hx,hP];exact Nat.testBit_eq_decide_div_mod_eq):p:=h
theorem F0{p:Prop}(h:p:=by rw[hy,hP];exact Nat.testBit_eq_decide_div_mod_eq):p:=h
theorem tC{p:Prop}(h:p:=by have:=vE.out;omega):p:=h
theorem I5{p:Prop}(h:p:=by rw[Nat.mod_pow_succ,←Nat.toNat_testBit,←hN,←hP]):p:=h
theorem tP{p:Prop}(h:p:=by simpa using hs):p:=h
theorem Aa{p:Prop}(h:p:=by rw[hW];exact aQ.alloc aH _):p:=h
theorem Lv{p:Prop}(h:p:=by rw[oA];exact(aq.refl (fun b=>b=xb) w5).setCell (p:=⟨xb,3,none⟩) rfl _):p:=h
theorem yl{p:Prop}(h:p:=by simp[PB.opened,PB.zero]):p:=h
theorem PA{p:Prop}(h:p:=by rw[hZ];exact(aq.refl (fun b=>b=gn) Y).setCell (p:=⟨gn,q,none⟩) rfl _):p:=h
theorem adf{p:Prop}(h:p:=by have:=HP.out;have:=kR.out;have:=HS.out;omega):p:=h
theorem UY{p:Prop}(h:p:=by show R=3;rw[HR4.out,if_pos ⟨by decide,of_decide_eq_false HB.symm⟩]):p:=h
theorem Ej{p:Prop}(h:p:=by rw[List.mem_singleton.1 hy];omega):p:=h
theorem Cg{p:Prop}(h:p:=by rw[List.mem_singleton.1 hz];omega):p:=h
theorem Fw{p:Prop}(h:p:=by rw[show acc.length - 2=m by omega];exact c0):p:=h
theorem Qr{p:Prop}(h:p:=by have:=bJ (w.alloc (.cells dR 249 (0,0))) sJ 249;simpa using this):p:=h
theorem mZ{p:Prop}(h:p:=by simp[zJ]):p:=h
theorem pW{p:Prop}(h:p:=by rw[tB,dK]):p:=h
theorem Hi{p:Prop}(h:p:=by constructor<;>simp only[Inf.plain]<;>omega):p:=h
theorem Gt{p:Prop}(h:p:=by have:=HN.out;omega):p:=h
theorem R3{p:Prop}(h:p:=by rw[HS.out,List.drop_eq_nil_of_le (by have:=iE.out;omega)];rfl):p:=h
theorem vA{p:Prop}(h:p:=by simpa using hv'):p:=h
theorem Pz{p:Prop}(h:p:=by obtain⟨a1,a2⟩:=ha;obtain⟨b1,b2⟩:=hb;exact⟨by omega,by omega⟩):p:=h
theorem DV{p:Prop}(h:p:=by simpa [Value.ownBlock]using hb):p:=h
theorem xC{p:Prop}(h:p:=by rw[←e];exact hb):p:=h
theorem Q8{p:Prop}(h:p:=by simp only[List.length_append,List.length_singleton];exact hl):p:=h
theorem Xq{p:Prop}(h:p:=by rw[HC.out.2];exact Nat.mod_eq_of_lt HZL):p:=h
theorem xy{p:Prop}(h:p:=by simpa using hb):p:=h
theorem vD{p:Prop}(h:p:=by simpa using hr):p:=h
theorem wG{p:Prop}(h:p:=by simpa using hE):p:=h
theorem ab5{p:Prop}(h:p:=by rw[List.length_append,List.length_singleton];exact hown1):p:=h
theorem vP{p:Prop}(h:p:=by simpa using cq):p:=h
theorem y8{p:Prop}(h:p:=by trivial):p:=h
theorem ox{p:Prop}(h:p:=by simp[Ib]):p:=h
theorem IB{p:Prop}(h:p:=by split at hd<;>simp only at hd<;>omega):p:=h
theorem Gc{p:Prop}(h:p:=by rw[hx];exact Nat.mod_lt _ (by decide)):p:=h
theorem Hs{p:Prop}(h:p:=by rw[hy];exact Nat.mod_lt _ (by decide)):p:=h
theorem sY{p:Prop}(h:p:=by rw[hcs];rfl):p:=h
theorem zk{p:Prop}(h:p:=by rw[h.len];exact hj):p:=h
theorem Wj{p:Prop}(h:p:=by rw[HX.out,kR.out];have:=HH.out;omega):p:=h
theorem yS{p:Prop}(h:p:=by have:=oM.out;omega):p:=h
theorem NM{p:Prop}(h:p:=by rw[HVC.out];exact(by rw[qF.out]at hcell ⊢;exact hcell)):p:=h
theorem zK{p:Prop}(h:p:=by have:=gI.out;omega):p:=h
theorem Mf{p:Prop}(h:p:=by rw[hs];match s with|[]=>rfl|[_]=>rfl|_ :: _ :: _=>rfl):p:=h
theorem Dl{p:Prop}(h:p:=by simp[Value.ownBlock];omega):p:=h
theorem wh{p:Prop}(h:p:=by simp[ha0,hb0]):p:=h
theorem acN{p:Prop}(h:p:=by show _=_;rw[sq.out,List.length_append,H7.out,HN.out]):p:=h
theorem zj{p:Prop}(h:p:=by have:=h.new;omega):p:=h
theorem MD{p:Prop}(h:p:=by have:=HRR.out;rw[if_neg HR0.out]at this;exact this):p:=h
theorem Co{p:Prop}(h:p:=by simp[G4.get,G4.none]at hu):p:=h
theorem PC{p:Prop}(h:p:=by rw[List.length_append,List.length_singleton];omega):p:=h
theorem Ml{p:Prop}(h:p:=by rw[Int.tmod_eq_emod_of_nonneg (by omega)];exact hr):p:=h
theorem adV{p:Prop}(h:p:=by rw[hyq];exact Nat.div_le_self _ _):p:=h
theorem E4{p:Prop}(h:p:=by rw[hY];exact hb1.alloc hb1.size _):p:=h
theorem xI{p:Prop}(h:p:=by simpa using h0):p:=h
theorem aeQ{p:Prop}(h:p:=by have:=py.out;have:=rZ.out;have:=rI.out;simp;omega):p:=h
theorem acU{p:Prop}(h:p:=by rw[HTT.out,HX.out,HY.out];have:=tA.out;simp;omega):p:=h
theorem Cw{p:Prop}(h:p:=by have:=kX rb e.symm;omega):p:=h
theorem IZ{p:Prop}(h:p:=by rw[ByteArray.size_extract];omega):p:=h
theorem ad6{p:Prop}(h:p:=by rw[p7];exact Nat.div_le_self _ _):p:=h
theorem FY{p:Prop}(h:p:=by rw[Nat.pow_succ,hP,Nat.mul_comm]):p:=h
theorem Oo{p:Prop}(h:p:=by rw[ht];unfold cU;have:=Aj s (s.size - 0) 0;omega):p:=h
theorem Ov{p:Prop}(h:p:=by unfold iu;rw[if_pos ⟨by omega,by omega,lC.symm⟩]):p:=h
theorem O7{p:Prop}(h:p:=by rw[hR,xM,List.drop_eq_nil_of_le (by omega)];rfl):p:=h
theorem E0{p:Prop}(h:p:=by have:=HJ.out;have:=HZ.out;omega):p:=h
theorem Io{p:Prop}(h:p:=by rw[hW];exact bu.alloc bu.size _):p:=h
theorem Zq{p:Prop}(h:p:=by have:=HH.out;have:=HS.out;omega):p:=h
theorem G6{p:Prop}(h:p:=by rw[hP];exact Nat.one_le_two_pow):p:=h
theorem EL{p:Prop}(h:p:=by rw[hX];exact HB.alloc HB.size _):p:=h
theorem Ah{p:Prop}(h:p:=by rw[hdl];exact hL.1):p:=h
theorem vQ{p:Prop}(h:p:=by rw[tB,hdd]):p:=h
theorem RR{p:Prop}(h:p:=by rw[wanted_put oj a ok.dst v p1]at h2;exact h2):p:=h
theorem Gp{p:Prop}(h:p:=by have:=dG.size;simpa using this):p:=h
theorem RP{p:Prop}(h:p:=by have:=bu.size;simpa [World.setCell]using this):p:=h
theorem zr{p:Prop}(h:p:=by simpa using hop):p:=h
theorem QY{p:Prop}(h:p:=by rw[hX];exact setRow_heap w.drew mb _ _ _ _ hb):p:=h
theorem Wa{p:Prop}(h:p:=by simp[World.setRow]):p:=h
theorem Fo{p:Prop}(h:p:=by have:=h.bK.lt;have:=h.bw;omega):p:=h
theorem Fp{p:Prop}(h:p:=by rw[size_madeCells,Nat.mul_one]):p:=h
theorem zQ{p:Prop}(h:p:=by have:=jH.out;omega):p:=h
theorem CA{p:Prop}(h:p:=by have:=H1.out.2.1;omega):p:=h
theorem Rz{p:Prop}(h:p:=by rw[hV];exact(bL.setCell hpb _).setCell hpb _):p:=h
theorem P5{p:Prop}(h:p:=by have:=this.1;simpa using this):p:=h
theorem Fy{p:Prop}(h:p:=by rw[beq_eq_false_iff_ne];omega):p:=h
theorem IL{p:Prop}(h:p:=by rw[hX];exact HY.out.1.alloc _):p:=h
theorem QZ{p:Prop}(h:p:=by rw[Nat.zero_add];exact hL s listed a w hw h):p:=h
theorem Po{p:Prop}(h:p:=by rw[show acc.length - 2=m by omega];exact c1):p:=h
theorem Lu{p:Prop}(h:p:=by have:=q 0 _ (by omega) rfl;simpa using this):p:=h
theorem PV{p:Prop}(h:p:=by rw[hV2];exact⟨rfl,rfl,rfl,aH,fun _ _=>rfl⟩):p:=h
theorem E1{p:Prop}(h:p:=by constructor<;>simp[Inf.zero]):p:=h
theorem Cb{p:Prop}(h:p:=by simp[PB.opened];omega):p:=h
theorem Fe{p:Prop}(h:p:=by rw[Nat.pow_zero,Nat.mod_one]):p:=h
theorem Jv{p:Prop}(h:p:=by rw[hh];simp[PB.opened];omega):p:=h
theorem CZ{p:Prop}(h:p:=by have:=hcs.mc.le;omega):p:=h
theorem Rm{p:Prop}(h:p:=by intro u hu;rw[List.mem_singleton.1 hu];rfl):p:=h
theorem Gj{p:Prop}(h:p:=by rw[hY];exact aQ.alloc aH _):p:=h
theorem LN{p:Prop}(h:p:=by rw[hw2];exact setRow_heap X tg _ _ _ _ HGX):p:=h
theorem Kr{p:Prop}(h:p:=by rw[←HN.out];exact hkl):p:=h
theorem Df{p:Prop}(h:p:=by rw[←iE.out];exact hlt):p:=h
theorem KV{p:Prop}(h:p:=by show xs.getD j #[]=_;rw[List.getD,hx];rfl):p:=h
theorem JN{p:Prop}(h:p:=by have:=hb.cell 32 _ h.dep;simpa using this):p:=h
theorem JI{p:Prop}(h:p:=by subst e;exact aZ h.fg h.dA (by decide) hb):p:=h
theorem NL{p:Prop}(h:p:=by rw[HQ.cell (p:=⟨ng,k,none⟩) hng];exact e1):p:=h
theorem LV{p:Prop}(h:p:=by rw[ht,dif_neg (by rw[←HN.out];exact hkl)]):p:=h
theorem Jf{p:Prop}(h:p:=by rw[hWd];simp[World.setCell]):p:=h
theorem B7{p:Prop}(h:p:=by rw[hr]at h0;cases h0):p:=h
theorem uH{p:Prop}(h:p:=by rw[hb,e]):p:=h
theorem Eh{p:Prop}(h:p:=by rw[HDX.out];exact he):p:=h
theorem Tq{p:Prop}(h:p:=by rw[ho,←sq.out];exact List.getElem_mem BP):p:=h
theorem D6{p:Prop}(h:p:=by rw[e];exact lD hq.dA):p:=h
theorem F6{p:Prop}(h:p:=by rw[oA];simp[World.setCell]):p:=h
theorem Gw{p:Prop}(h:p:=by rw[hY,hib];exact bJ w1 _ _):p:=h
theorem Qb{p:Prop}(h:p:=by obtain⟨z,_,rfl⟩:=List.mem_map.1 hv';rfl):p:=h
theorem Pr{p:Prop}(h:p:=by show w.heap.size≤lg;have:=HLG.out;omega):p:=h
theorem Hu{p:Prop}(h:p:=by rw[HS.out];exact hn):p:=h
theorem NQ{p:Prop}(h:p:=by rw[←Act.put_comm a v undef h2];exact h):p:=h
theorem Fx{p:Prop}(h:p:=by rw[hW,hE];exact bJ w1 _ _):p:=h
theorem Bo{p:Prop}(h:p:=by rw[hV];exact mG):p:=h
theorem vY{p:Prop}(h:p:=by simp[ha0]):p:=h
theorem vO{p:Prop}(h:p:=by simp[hb0]):p:=h
theorem zP{p:Prop}(h:p:=by rw[hX];omega):p:=h
theorem y9{p:Prop}(h:p:=by rw[hY];omega):p:=h
theorem aeP{p:Prop}(h:p:=by have:=xx.out;omega):p:=h
theorem zY{p:Prop}(h:p:=by simpa using ht):p:=h
theorem tV{p:Prop}(h:p:=by simp[h]):p:=h
theorem wM{p:Prop}(h:p:=by rw[hV];rfl):p:=h
theorem Fq{p:Prop}(h:p:=by rw[←hys];exact HY.out.1):p:=h
theorem CE{p:Prop}(h:p:=by have:=hsp.1;omega):p:=h
theorem xV{p:Prop}(h:p:=by rw[hk];simp):p:=h
theorem Bt{p:Prop}(h:p:=by simpa using h):p:=h
theorem abq{p:Prop}(h:p:=by rw[h,ou.out];rfl):p:=h
theorem vM{p:Prop}(h:p:=by cases hz):p:=h
theorem xA{p:Prop}(h:p:=by rw[e];rfl):p:=h
theorem EH{p:Prop}(h:p:=by rw[hY];exact bJ _ _ _):p:=h
theorem uw{p:Prop}(h:p:=by rw[hRe]):p:=h
theorem FP{p:Prop}(h:p:=by rw[hV];exact aQ.drew):p:=h
theorem CT{p:Prop}(h:p:=by simp[chkB]at hB):p:=h
theorem kt{p:Prop}(h:p:=by rfl):p:=h
theorem DT{p:Prop}(h:p:=by simpa using hd):p:=h
theorem DU{p:Prop}(h:p:=by simp[Addr.add]):p:=h
theorem Ak{p:Prop}(h:p:=by rw[hx5];rfl):p:=h
theorem GZ{p:Prop}(h:p:=by simp at hl ⊢;omega):p:=h
theorem yu{p:Prop}(h:p:=by simp at e):p:=h
theorem yt{p:Prop}(h:p:=by simp[h2]):p:=h
abbrev ae(n:Int):Value:=.int .i64 n
abbrev ax(b:Nat):Value:=.pointer (some ⟨b,0,none⟩)
abbrev aD(g n c:Nat):Value:=.slice (some ⟨g,0,none⟩) n c
abbrev aI:Value:=.slice none 0 0
abbrev ai(b o:Nat):Addr:=⟨b,o,none⟩
abbrev az:=@if_neg
abbrev aG:=@if_pos
abbrev aA:=@Or.inr
abbrev aC:=@Or.inl
abbrev bE:=@List.getElem?_eq_getElem
abbrev cI:=@List.getElem?_eq_some_iff
abbrev bF:=@Nat.lt_of_lt_of_le
abbrev cF:=@List.length_append
abbrev dH:=@List.getElem?_append_left
abbrev fP:=@List.getElem?_append_right
abbrev aY:=@And.intro
abbrev dD:=@World.block_lt_of_cell?
abbrev bB:=@Nat.le_trans
abbrev dr:=@List.getElem?_set_ne
abbrev eL:=@List.getElem?_set_self
abbrev dm:=@List.length_reverse
abbrev jy:=@Array.getElem?_setIfInBounds_ne
abbrev sV:=@Array.getElem?_setIfInBounds_self_of_lt
abbrev bU:=@Nat.zero_le
abbrev gJ:=@List.length_singleton
abbrev fy:=@Option.some.inj
abbrev fO:=@Bool.eq_false_iff
abbrev jh:=@List.getElem?_eq_none
abbrev mD:=@Array.getElem?_eq_some_iff
abbrev lM:=@List.getD_eq_getElem?_getD
abbrev iH:=@List.getElem?_map
abbrev gO:=@decide_eq_false
abbrev jW:=@decide_eq_true
abbrev kS:=@List.flatMap_append
abbrev kP:=@Array.length_toList
abbrev qh:=@List.drop_eq_getElem_cons
abbrev mF:=@List.mem_of_getElem?
abbrev km:=@List.length_set
abbrev kh:=@Nat.lt_or_ge
abbrev er:=@List.mem_cons
abbrev p6:=@List.mem_singleton
abbrev tq:=@Classical.byContradiction
abbrev nS:=@List.getElem_mem
abbrev qQ:=@World.ownsRow_nil
abbrev rL:=@Int.toNat_natCast
abbrev vW:=@Array.setIfInBounds_comm
abbrev Eb:=@Int.emod_lt_of_pos
abbrev wO:=@Nat.eq_zero_or_pos
abbrev xB:=@List.getElem?_replicate
abbrev u5:=@Prod.mk.inj
abbrev fA:=@List.length_cons
abbrev vZ:=@List.append_assoc
end Go.Proofs.YtcphhbofjkenaaaGreatDoor
