import Derived.Test.YtcphhbofjkenaaaGreatDoorM29
import Derived.Test.YtcphhbofjkenaaaGreatDoorM34
namespace Go.Proofs.YtcphhbofjkenaaaGreatDoor
open Go Go.RowKit
set_option linter.unusedVariables false
set_option linter.unusedSimpArgs false
set_option maxRecDepth 100000
set_option maxHeartbeats 16000000
section
theorem nZ.get{cs:Array Value}:∀{s:List Int},nZ cs s→∀(i:Nat) (y:Int),s.reverse[i]?=some y→cs[i]?=some (.int .i64 y)
 |[],_,i,y,h=>by simp at h
 |x :: r,h,i,y,hy=>by
  rw[List.reverse_cons]at hy
  by_cases hi:i<r.length
  ·rw[List.getElem?_append_left (by simpa using hi)]at hy
   exact h.2.get i y hy
  ·rw[List.getElem?_append_right (by simpa using hi),List.length_reverse]at hy
   have hi0:i - r.length=0:=by
    have:=(List.getElem?_eq_some_iff.1 hy).1;simp at this;omega
   rw[hi0]at hy;obtain rfl:x=y:=by simpa using hy
   rw[show i=r.length by omega];exact h.1
theorem MG{w:World}{g c:Nat}(l:List Int)(hl:l.length≤1100000)(hg:g<w.heap.size)(h:∀(i:Nat) (y:Int),l[i]?=some y→w.cell? ⟨g,i,none⟩=some (.int .i64 y)):
  Calls Tryz.prog 75 #[.slice (some ⟨g,0,none⟩) l.length c] w fun e w'=>∃v,e=.returned v∧bP w.heap.size w' v l∧Below w.heap.size w w':=by
 have hnl:=fun w=>Lib.run_eql_slice_nil (P:=Tryz.prog) w 24 3 (some ⟨g,0,none⟩) l.length c 0 0 Tryz.underlying24
 simp only[Option.isNone_some]at hnl;have H:=ast h;clear h;go_enter Tryz.func75,Tryz.ntmps75
 go_upto_region 3 with fail
 refine wp_region_list ?_
 iterate 2 (refine wpList_plain rfl (fun K hK=>?_);go_simp;refine hK _ _ ?_;clear hK K)
 have hb0:Below w.heap.size w (w.alloc (.cells #[] 3 (0,0))):=brq.alloc nrq _;have hown:(w.alloc (.cells #[] 3 (0,0))).ownsRow w.heap.size 3 1 (.slice (some ⟨w.heap.size,0,none⟩) 0 0) 0 []:=World.ownsRow_lit w #[] 0 nrq (by unfold maxLen;omega) rfl;obtain⟨i,hi,hz,hs,hb⟩:=info_parts Tryz.lY;refine wpList_append_own _ rfl _ _ 24 rfl w.heap.size 3 i (.int .i64 0) 1 8 Tryz.underlying24 hi hz hs hb rfl (by decide) _ 0 [] rfl hown ⟨g,0,none⟩ l.length c (ints l) rfl (by simp[ints]) (fun j u hu=>?_) (fun u hu=>?_) (by unfold maxLen;omega) (by omega) hb0.size ?_
 ·unfold ints at hu
  rw[List.getElem?_map]at hu;obtain⟨y,hy,rfl⟩:=Option.map_eq_some_iff.1 hu;rw[Addr.add_lit,Nat.zero_add,hb0.cell (p:=⟨g,j,none⟩) hg];exact H.out j y hy
 ·obtain⟨y,_,rfl⟩:=List.mem_map.1 hu;rfl
 intro v' w' hr hgr _
 have HF:Hid (bP w.heap.size w' v' l∧Below w.heap.size w w'):=by
  refine ast ⟨?_,?_⟩
  ·rw[Nat.zero_add,List.nil_append]at hr;exact hr
  ·exact hb0.trans ((aj.bD hgr).toBelow hb0.size (fun b hb e=>by have:b=w.heap.size:=Option.some.inj e;omega))
 obtain⟨va,vn,vc,rfl⟩:∃a n c,v'=.slice a n c:=by
  rcases hr.2 with ⟨h,_⟩|⟨g',c',_,h,_⟩
  ·exact⟨_,_,_,h⟩
  ·exact⟨_,_,_,h⟩
 clear hr hgr hown hb0 hnl H;go_wp2_with fail
 go_ret
 exact⟨_,rfl,HF.out⟩
section
attribute [local go_sem] dK
theorem MH{w:World}{mb:Nat}{cs:Array Value}{s:List Int}(hb:az w mb cs 116)(h:MC cs s):
  Calls Tryz.prog 50 #[.pointer (some ⟨mb,0,none⟩)] w fun e w'=>∃v,e=.returned v∧bP w.heap.size w' v s.reverse∧Below w.heap.size w w':=by
 have hl:=h.le;have hmw:=hb.lt;obtain⟨n,hn⟩:=exq (s.length);have FV:w.cell? ⟨mb,32,none⟩=some (.int .i64 n):=by rw[hn];exact hb.cell 32 _ h.dep
 have hs0:(0:Int)≤(n:Int):=by omega
 have hs1:(n:Int)≤32:=by omega
 have hcl:=MG (w:=w.drew) (g:=mb) (c:=32) s.reverse (by rw[List.length_reverse];omega) hmw (fun i y hy=>hb.cell i _ (h.ak.get i y hy));rw[List.length_reverse,←hn]at hcl;have HCL:=ast hcl;have k0:∀u:{w':World // w'.cell? ⟨mb,32,none⟩=some (.int .i64 n)},u.val.cell? ⟨mb,32,none⟩=some (.int .i64 n):=fun u=>u.property
 have hne:Nonempty {w':World // w'.cell? ⟨mb,32,none⟩=some (.int .i64 n)}:=⟨⟨w,FV⟩⟩;have HC:=ast (show w.drew.cell? ⟨mb,32,none⟩=some (.int .i64 n)from FV);clear hcl h hb FV hl hn;go_enter Tryz.func50,Tryz.ntmps50
 go_upto_region 1 with fail
 refine aH (C:=fJ fun w'=>w'.cell? ⟨mb,32,none⟩=some (.int .i64 n)) 9 [8] ⟨w.drew,HC.out⟩ (by kernel_rfl) (by kernel_rfl) rfl ?_;rw[show List.range 9=[0,1,2,3,4,5,6,7,8]from rfl]
 repeat (refine aO rfl rfl (fun K hK=>?_);go_simp;refine hK _ ?_;clear hK K)
 refine bG rfl rfl 75 #[.slice (some ⟨mb,0,none⟩) n 32] (by go_simp) (HCL.out.mono ?_);rintro e w2 ⟨v,rfl,hr,hb⟩;refine⟨_,rfl,(hb.cell (p:=⟨mb,32,none⟩) hmw).trans HC.out,?_⟩;have HF:Hid (bP w.heap.size w2 v s.reverse∧Below w.heap.size w w2):=ast ⟨hr,brq.drew.trans hb⟩
 obtain⟨va,vn,vc,rfl⟩:∃a n c,v=.slice a n c:=by
  rcases hr.2 with ⟨h,_⟩|⟨g',c',_,h,_⟩
  ·exact⟨_,_,_,h⟩
  ·exact⟨_,_,_,h⟩
 clear HCL;refine df ?_;intro w' hw';rw[show w'=w2 from hw'];clear hw' w' k0 hne hr hb;simp only[List.drop_succ_cons,List.drop_zero];go_wp2_with fail
 go_ret
 exact⟨_,rfl,HF.out⟩
end
def ku:Array Value:= #[.slice none 0 0,.slice none 0 0,.slice none 0 0,.int .i64 0,.int .i64 0]
theorem az.ku{w:World}{b:Nat}{t:TypeId}(h:az w b ku t):w.cell? ⟨b,0,none⟩=some (.slice none 0 0)∧w.cell? ⟨b,1,none⟩=some (.slice none 0 0)∧w.cell? ⟨b,2,none⟩=some (.slice none 0 0)∧w.cell? ⟨b,3,none⟩=some (.int .i64 0)∧w.cell? ⟨b,4,none⟩=some (.int .i64 0):=
 ⟨h.cell 0 _ rfl,h.cell 1 _ rfl,h.cell 2 _ rfl,h.cell 3 _ rfl,h.cell 4 _ rfl⟩
def oq:Value:=.agg #[.slice none 0 0,.slice none 0 0,.slice none 0 0,.int .i64 0,.int .i64 0]
def jW:Option PE→Option Int
 |some e=>if e.var=true then none else some e.place
 |none=>none
structure nD (B:Nat) (w':World) (sv ov vv:Value) (m:MS) (u:MW):Prop where
 s:bP B w' sv m.ak.reverse
 o:bP B w' ov u.outs
 v:bP B w' vv u.vars
 so:∀k,sv.ownBlock=some k→ov.ownBlock≠some k∧vv.ownBlock≠some k
 ov:∀k,ov.ownBlock=some k→vv.ownBlock≠some k
theorem wu{w:World}{bb:Nat}{ev cv:Value}{es:List PE}{nv nt:Int}{code:List Int}{B:Nat}{sv iv:Value}{st ins:List Int}(s:ByteArray)(f:Int)(h:iC w bb ev cv es nv nt code)(hi:mi es nv nt code)
  (hs:bz B w sv st) (hj:bz B w iv ins) (hB:B≤w.heap.size) (hl:st.length≤1100000) (hl2:ins.length≤1100000) (hno:jW (eH es s es.length)=none∨nC st ins f=false):
  Calls Tryz.prog 21 #[.pointer (some ⟨bb,0,none⟩),.string s,sv,iv,.int .i64 f] w fun e w'=>e=.returned (.tuple #[oq,.int .i64 (if jW (eH es s es.length)=none then 3 else 1)])∧Below w.heap.size w w':=by
 have hb:=h.blk.lt;have hS:=fun w' (hb:Below w.heap.size w w')=>Aq s (h.below (w':=w') hb) (by have:=hi.l;omega)
 have hM:=fun w' (hb:Below w.heap.size w w')=>wo (w:=w') f (hs.below (hb.mono hB)) (hj.below (hb.mono hB)) (Nat.le_trans hB hb.size) hl hl2
 obtain⟨R,hR⟩:=exq (iT (eH es s es.length));obtain⟨L,hL⟩:=exq (eH es s es.length);rw[←hL]at hno hS ⊢;obtain⟨a,c,rfl⟩:=iH hs;obtain⟨a2,c2,rfl⟩:=iH hj;have HS:=ast hS;have HM:=ast hM;clear h hi hs hj hR hL hS hM;generalize st.length=n1 at *;generalize ins.length=n2 at *
 cases hst:jW L with
 |none=>
  have hre:iT L=.tuple #[.int .i64 0,.int .i64 3]:=by
   cases L with
   |none=>rfl
   |some e=>
    unfold jW at hst
    by_cases hv:e.var=true
    ·simp[iT,hv]
    ·simp[hv]at hst
  rw[hre]at HS;rw[if_pos rfl];clear hre hno hst HM;go_enter Tryz.func21,Tryz.ntmps21
  go_wp2_with fail
  refine(pg bb _).mono ?_;rintro e w' ⟨rfl,rfl⟩;go_wp2_with fail
  have hb0:Below w.heap.size w (w.alloc (.cells ku 43 (0,0))):=brq.alloc nrq _;have hk0:=ay w ku 43;refine(HS.out _ hb0).mono ?_;rintro e w1 ⟨rfl,hb1⟩;have dM:=hk0.sub hb1 (by simp);have iD:=dM.lt;have dX:=ast (hb0.trans (hb1.mono (by simp)));obtain⟨g0,g1,g2,g3,g4⟩:=dM.free;obtain⟨z0,z1,z2,z3,z4⟩:=dM.ku;clear hb0 hk0 hb1 dM HS;go_wp2_with fail
  refine bodyPost_ret (v:=.tuple #[oq,.int .i64 3]) (by simp[results,Tryz.results21,go_sem,z0,z1,z2,z3,z4,oq,iD]) rfl ⟨rfl,?_⟩;exact(((((dX.out.setCell nrq _).setCell nrq _).setCell nrq _).setCell nrq _).setCell nrq _)
 |some p=>
  have hre:iT L=.tuple #[.int .i64 p,.int .i64 0]:=by
   cases L with
   |none=>cases hst
   |some e=>
    unfold jW at hst
    by_cases hv:e.var=true
    ·simp[hv]at hst
    ·simp[hv]at hst;simp[iT,hv,hst]
  rw[hst]at hno;have hmf:=hno.resolve_left (by simp);rw[hre]at HS;rw[hmf]at HM;rw[if_neg (by simp)];clear hre hno hst hmf;go_enter Tryz.func21,Tryz.ntmps21
  go_wp2_with fail
  refine(pg bb _).mono ?_;rintro e w' ⟨rfl,rfl⟩;go_wp2_with fail
  have hb0:Below w.heap.size w (w.alloc (.cells ku 43 (0,0))):=brq.alloc nrq _;have hk0:=ay w ku 43;refine(HS.out _ hb0).mono ?_;rintro e w1 ⟨rfl,hb1⟩;have dM:=hk0.sub hb1 (by simp);have iD:=dM.lt;have dX:=ast (hb0.trans (hb1.mono (by simp)));obtain⟨g0,g1,g2,g3,g4⟩:=dM.free;obtain⟨z0,z1,z2,z3,z4⟩:=dM.ku;clear hb0 hk0 hb1 dM HS;go_wp2_with fail
  refine(HM.out _ dX.out).mono ?_;rintro e w2 ⟨rfl,rfl⟩;go_wp2_with fail
  refine bodyPost_ret (v:=.tuple #[oq,.int .i64 1]) (by simp[results,Tryz.results21,go_sem,z0,z1,z2,z3,z4,oq,iD]) rfl ⟨rfl,?_⟩;exact(((((dX.out.setCell nrq _).setCell nrq _).setCell nrq _).setCell nrq _).setCell nrq _)
end
section
attribute [local go_sem] dK
def MI(sv ov vv:Value)(n:Int)(e:Int):Value:=.agg #[sv,ov,vv,.int .i64 n,.int .i64 e]
theorem eG{B:Nat}{w:World}{v:Value}{l:List Int}(h:bP B w v l):∃a n c,v=.slice a n c:=by
 rcases h.2 with ⟨h,_⟩|⟨g',c',_,h,_⟩
 ·exact⟨_,_,_,h⟩
 ·exact⟨_,_,_,h⟩
theorem QR{w:World}{bb:Nat}{ev cv:Value}{es:List PE}{nv nt:Int}{code:List Int}(h:iC w bb ev cv es nv nt code)(hc:0<code.length):xN w.heap.size w cv code:=by
 obtain⟨g,cap,hv,h1,h2,h3,h4,h5⟩:=aB h.iO hc;exact⟨g,cap,hv,by omega,by omega,fun i x hx=>h5 i _ (by rw[List.getElem?_map,hx];rfl)⟩
theorem nD.aA{B:Nat}{w w':World}{sv ov vv:Value}{m:MS}{u:MW}{b:Nat}{cs:Array Value}{t:TypeId}(h:nD B w sv ov vv m u)(hc:aj (fun k=>k=b) w w')(hb:az w b cs t)(ht:t≠3):nD B w' sv ov vv m u:=by
 have RH:∀{v:Value} {l:List Int},bP B w v l→bP B w' v l:=fun h=>af h hc (fun k hk e=>by subst e;exact ah h hb ht hk)
 exact⟨RH h.s,RH h.o,RH h.v,h.so,h.ov⟩
theorem bz.mono{B C:Nat}{w:World}{iv:Value}{l:List Int}(h:bz B w iv l)(hb:B≤C):bz C w iv l:=by
 rcases h with h|⟨pb,po,c,h1,h2,h3,h4⟩
 ·exact Or.inl h
 ·exact Or.inr ⟨pb,po,c,h1,h2,by omega,h4⟩
theorem lN{B C:Nat}{w:World}{v:Value}{l:List Int}(h:bP B w v l)(hb:C≤B):bP C w v l:=by
 refine⟨h.1,?_⟩;rcases h.2 with h|⟨g,cap,cur,h1,h2,h3⟩
 ·exact Or.inl h
 ·exact Or.inr ⟨g,cap,cur,h1,Nat.le_trans hb h2,h3⟩
theorem QS{w:World}{bb:Nat}{ev cv:Value}{es:List PE}{nv nt:Int}{code:List Int}{B:Nat}{sv iv:Value}{st ins:List Int}{p:Nat}(s:ByteArray)(f:Nat)(h:iC w bb ev cv es nv nt code)(hi:mi es nv nt code)(ht:lh w)
  (hs:bz B w sv st) (hj:bz B w iv ins) (hB:B≤w.heap.size) (hl:st.length≤1100000) (hl2:ins.length≤1100000) (hst:jW (eH es s es.length)=some (p:Int)) (hm:nC st ins f=true) (hp:p<code.length)
  (I:Nat→MS→MW→Prop) (hI:I 0 ⟨st.reverse,[],[],p⟩ ⟨List.replicate nv.toNat 0,[],ins⟩) (hstep:∀n m u,n<f→I n m u→FY code m u∧((dW code m u).1=4→I (n+1) (dW code m u).2.1 (dW code m u).2.2)):
  Calls Tryz.prog 21 #[.pointer (some ⟨bb,0,none⟩),.string s,sv,iv,.int .i64 f] w fun e w'=>∃xv ov vv,e=.returned (.tuple #[MI xv ov vv (runM code f 0 ⟨st.reverse,[],[],p⟩ ⟨List.replicate nv.toNat 0,[],ins⟩).1 (runM code f 0 ⟨st.reverse,[],[],p⟩ ⟨List.replicate nv.toNat 0,[],ins⟩).2.1,.int .i64 0])∧nD w.heap.size w' xv ov vv (runM code f 0 ⟨st.reverse,[],[],p⟩ ⟨List.replicate nv.toNat 0,[],ins⟩).2.2.1 (runM code f 0 ⟨st.reverse,[],[],p⟩ ⟨List.replicate nv.toNat 0,[],ins⟩).2.2.2∧Below w.heap.size w w':=by
 have hb:=h.blk.lt;have hgl:3≤w.heap.size:=ht.lt;have aqs:=hi.v1;have hi0:=hi.v0;have TE:=hi.c;have ht4:=hi.t1;have wL:=hm;simp only[nC,Bool.and_eq_true,decide_eq_true_eq]at wL;obtain⟨LQ,_,_,_,hf6⟩:=wL;obtain⟨nn,rfl⟩:∃nn:Nat,nv=nn:=⟨nv.toNat,by omega⟩;simp only[Int.toNat_natCast]at *;have hS:=fun w' (hb:Below w.heap.size w w')=>Aq s (h.below (w':=w') hb) (by have:=hi.l;omega)
 have hM:=fun w' (hb:Below w.heap.size w w')=>wo (w:=w') f (hs.below (hb.mono hB)) (hj.below (hb.mono hB)) (Nat.le_trans hB hb.size) hl hl2
 have hV:=fun w' (hb:Below w.heap.size w w')=>Ar (h.below (w':=w') hb)
 have hC:=fun w' (hb:Below w.heap.size w w')=>Py (h.below (w':=w') hb)
 have hca:=QR h (by omega);have hcS:∃g n c,cv=.slice (some ⟨g,0,none⟩) n c:=by obtain⟨g,c,h,_⟩:=hca;exact⟨_,_,_,h⟩
 obtain⟨L,hL⟩:=exq (eH es s es.length);rw[←hL]at hst hS
 have hre:iT L=.tuple #[.int .i64 p,.int .i64 0]:=by
  cases L with
  |none=>cases hst
  |some e=>
   unfold jW at hst
   by_cases hv:e.var=true
   ·simp[hv]at hst
   ·simp[hv]at hst;simp[iT,hv,hst]
 rw[hre]at hS;rw[hm]at hM;obtain⟨m0,hm0⟩:=exq (⟨st.reverse,[],[],p⟩:MS);obtain⟨u0,hu0⟩:=exq (⟨List.replicate nn 0,[],ins⟩:MW);rw[←hm0,←hu0]at hI ⊢
 have hN:∀(w':World) (wp vg:Nat),Below w.heap.size w w'→az w' wp #[.slice (some ⟨vg,0,none⟩) nn nn,.slice none 0 0,iv] 118→w.heap.size≤wp→bP w.heap.size w' (.slice (some ⟨vg,0,none⟩) nn nn) (List.replicate nn 0)→Calls Tryz.prog 47 #[cv,.int .i64 p,sv,.pointer (some ⟨wp,0,none⟩)] w' fun e w2=>∃mb,e=.returned (.pointer (some ⟨mb,0,none⟩))∧w'.heap.size≤mb∧dE w.heap.size w2 ⟨mb,wp,cv,p,.slice none 0 0,.slice none 0 0,.slice (some ⟨vg,0,none⟩) nn nn,.slice none 0 0,iv⟩ code m0 u0∧Below w'.heap.size w' w2:=fun w' wp vg hbl hwb YO hv=>by
  rw[hm0,hu0];exact VT (B:=w.heap.size) (st:=p) st (hca.below hbl) (by omega) (by omega) LQ ((hs.mono hB).below hbl) hbl.size hwb YO hv ((hj.mono hB).below hbl) (by rw[List.length_replicate];omega) (by omega)
 obtain⟨R,hRR⟩:=exq (runM code f 0 m0 u0)
 have hR:∀(w':World) (x:RX),dE w.heap.size w' x code m0 u0→lh w'→Calls Tryz.prog 49 #[.pointer (some ⟨x.mb,0,none⟩),.int .i64 f] w' fun e w2=>e=.returned (.tuple #[.int .i64 R.1,.int .i64 R.2.1])∧fK w.heap.size w' x code R.2.2.1 R.2.2.2 w2:=fun w' x hra htb=>by
  rw[hRR];exact VQ I f (by omega) hI hstep hra htb hgl
 rw[←hRR];obtain⟨a,c,rfl⟩:=iH hs;obtain⟨a2,c2,rfl⟩:=iH hj;have HS:=ast hS;have HM:=ast hM;have HV:=ast hV;have HC:=ast hC;have HN:=ast hN;have HR:=ast hR;have HT:=ast ht;obtain⟨rg,rn,rc,rfl⟩:=hcS;clear h hi hs hj hL hS hM hV hC hN hR hRR hm0 hu0 hI hstep hca hre hst hm ht;obtain⟨VU,agI,rm,ru⟩:=R;simp only at HR ⊢;generalize st.length=n1 at *;generalize ins.length=n2 at *;go_enter Tryz.func21,Tryz.ntmps21
 go_wp2_with fail
 refine(pg bb _).mono ?_;rintro e w' ⟨rfl,rfl⟩;go_wp2_with fail
 have hb0:Below w.heap.size w (w.alloc (.cells ku 43 (0,0))):=brq.alloc nrq _;have hk0:=ay w ku 43;refine(HS.out _ hb0).mono ?_;rintro e w1 ⟨rfl,hb1⟩;have dM:=hk0.sub hb1 (by simp);have dX:=ast (hb0.trans (hb1.mono (by simp)));have pU:=ast dM;clear hb0 hk0 hb1 dM HS;go_wp2_with fail
 refine(HM.out _ dX.out).mono ?_;rintro e w2 ⟨rfl,rfl⟩;clear HM;go_wp2_with fail
 refine(HV.out _ dX.out).mono ?_;rintro e w3 ⟨rfl,rfl⟩;clear HV;go_wp2_with fail
 refine(Df (w:=w3) nn (by omega) ⟨_,_,_,rfl⟩).mono ?_;rintro e w4 ⟨wp,vg,rfl,h1,h2,h3,h4,h5⟩;have DF:=ast (dX.out.trans (h5.mono dX.out.size));have HW4:=ast (And.intro h3 (And.intro (Nat.le_trans dX.out.size h1) (lN h4 dX.out.size)));have HK4:=ast (pU.out.sub h5 pU.out.lt);clear h1 h2 h3 h4 h5 dX pU;go_wp2_with fail
 refine(HC.out _ DF.out).mono ?_;rintro e w5 ⟨rfl,rfl⟩;clear HC;go_wp2_with fail
 refine(HN.out w5 wp vg DF.out HW4.out.1 HW4.out.2.1 HW4.out.2.2).mono ?_;rintro e w6 ⟨mb,rfl,h1,h2,h3⟩;have tq:=ast (DF.out.trans (h3.mono DF.out.size));have HK6:=ast (HK4.out.sub h3 HK4.out.lt);have gX:w.heap.size<mb:=Nat.lt_of_lt_of_le HK4.out.lt h1
 have YO:w.heap.size<wp:=by
  have:=HW4.out.2.1;rcases Nat.lt_or_ge w.heap.size wp with h|h
  ·exact h
  ·exfalso
   obtain rfl:wp=w.heap.size:=by omega
   exact absurd (bH HW4.out.1 HK4.out) (by decide)
 have HA6:=ast h2;have Gu:=ast (And.intro gX YO);clear h1 h2 h3 HN DF HW4 HK4 gX YO;go_wp2_with fail
 refine(HR.out w6 _ HA6.out (HT.out.below tq.out)).mono ?_;rintro e w7 ⟨rfl,y,hy⟩;obtain⟨cs7,hk7,sZ⟩:=hy.at_.Dc
 have lQ:¬RX.S ⟨mb,wp,.slice (some ⟨rg,0,none⟩) rn rc,p,.slice none 0 0,.slice none 0 0,.slice (some ⟨vg,0,none⟩) nn nn,.slice none 0 0,.slice a2 n2 c2⟩ w.heap.size:=by
  rintro (e|e|e|e|e|e)
  ·have:=Gu.out.1;simp only at e;omega
  ·have:=Gu.out.2;simp only at e;omega
  ·simp[Value.ownBlock]at e
  ·simp[Value.ownBlock]at e
  ·exact ah HA6.out.qV HK6.out (by decide) e
  ·simp[Value.ownBlock]at e
 have hk8:=HK6.out.aA hy.aA lQ;have iD:=hk8.lt;have q35:=hk7.cell 35 _ sZ.rJ;have q0:=hy.at_.dN.cell 0 _ rfl;have q1:=hy.at_.dN.cell 1 _ rfl;have hST:=MH (w:=w7.drew) hk7 sZ.mc;have YP:=hy.mb;have YQ:=hy.wp;simp only at YP YQ;rw[YP]at hST q35;rw[YQ]at q35 q0 q1;obtain⟨vv,hvv⟩:=exq (y.vv);obtain⟨ov,hov⟩:=exq (y.ov);rw[←hvv]at q0;rw[←hov]at q1;have hvr:bP w.heap.size w7 vv ru.vars:=by rw[hvv];exact hy.at_.qV
 have Rl:bP w.heap.size w7 ov ru.outs:=by rw[hov];exact hy.at_.jV
 have VW:∀k,vv.ownBlock=some k→ov.ownBlock≠some k:=by rw[hvv,hov];exact hy.at_.QD
 have hB7:Below w.heap.size w w7:=tq.out.trans (HA6.out.toBelow hy.aA (fun _ e=>e));have ak4:mb<w7.heap.size:=by rw[←YP];exact hk7.lt
 have agK:wp<w7.heap.size:=by rw[←YQ];exact hy.at_.dN.lt
 have HF:=ast (And.intro hvr (And.intro Rl (And.intro VW hB7)));have HK8:=ast hk8;have HST:=ast hST;obtain⟨va,vn,vc,rfl⟩:=eG hvr;obtain⟨oa,on,oc,rfl⟩:=eG Rl;have k35:∀u:{w':World // w'.cell? ⟨mb,35,none⟩=some (.pointer (some ⟨wp,0,none⟩))∧w'.cell? ⟨wp,0,none⟩=some (.slice va vn vc)∧w'.cell? ⟨wp,1,none⟩=some (.slice oa on oc)},u.val.cell? ⟨mb,35,none⟩=some (.pointer (some ⟨wp,0,none⟩)):=fun u=>u.property.1
 have k0:∀u:{w':World // w'.cell? ⟨mb,35,none⟩=some (.pointer (some ⟨wp,0,none⟩))∧w'.cell? ⟨wp,0,none⟩=some (.slice va vn vc)∧w'.cell? ⟨wp,1,none⟩=some (.slice oa on oc)},u.val.cell? ⟨wp,0,none⟩=some (.slice va vn vc):=fun u=>u.property.2.1
 have k1:∀u:{w':World // w'.cell? ⟨mb,35,none⟩=some (.pointer (some ⟨wp,0,none⟩))∧w'.cell? ⟨wp,0,none⟩=some (.slice va vn vc)∧w'.cell? ⟨wp,1,none⟩=some (.slice oa on oc)},u.val.cell? ⟨wp,1,none⟩=some (.slice oa on oc):=fun u=>u.property.2.2
 have hne:Nonempty {w':World // w'.cell? ⟨mb,35,none⟩=some (.pointer (some ⟨wp,0,none⟩))∧w'.cell? ⟨wp,0,none⟩=some (.slice va vn vc)∧w'.cell? ⟨wp,1,none⟩=some (.slice oa on oc)}:=⟨⟨w7,q35,q0,q1⟩⟩;have HQ:=ast (And.intro q35 (And.intro q0 q1));clear hk7 sZ lQ hk8 q35 q0 q1 hST hvv hov hvr Rl VW hB7 hy HR HA6 tq HK6 Gu HT YP YQ;go_upto_region 10 with fail
 refine iy (C:=fJ fun w'=>w'.cell? ⟨mb,35,none⟩=some (.pointer (some ⟨wp,0,none⟩))∧w'.cell? ⟨wp,0,none⟩=some (.slice va vn vc)∧w'.cell? ⟨wp,1,none⟩=some (.slice oa on oc)) 21 [0,1,2,4,5,6,7,8,9,10,11,12,13,14,15,16,17,18,19,3,20] [3] ⟨w7.drew,HQ.out⟩ (by kernel_rfl) (by kernel_rfl) rfl ?_
 repeat (refine aO rfl rfl (fun K hK=>?_);go_simp;refine hK _ ?_;clear hK K)
 refine bG rfl rfl 50 #[.pointer (some ⟨mb,0,none⟩)] (by go_simp) (HST.out.mono ?_);rintro e w8 ⟨v,rfl,hr8,Hr⟩;have MJ:Below w7.heap.size w7 w8:=brq.drew.trans Hr;refine⟨_,rfl,⟨(MJ.cell (p:=⟨mb,35,none⟩) ak4).trans HQ.out.1,(MJ.cell (p:=⟨wp,0,none⟩) agK).trans HQ.out.2.1,(MJ.cell (p:=⟨wp,1,none⟩) agK).trans HQ.out.2.2⟩,?_⟩;obtain⟨hvr,Rl,VW,hB7⟩:=HF.out
 have hfin:nD w.heap.size w8 v (.slice oa on oc) (.slice va vn vc) rm ru:=by
  have RH:∀{u:Value} {l:List Int},bP w.heap.size w7 u l→bP w.heap.size w8 u l:=fun h=>af h (aj.au MJ) (fun _ _ e=>e)
  have hge:∀k,v.ownBlock=some k→w7.heap.size≤k:=fun k hk=>aF hr8 hk
  exact⟨lN hr8 hB7.size,RH Rl,RH hvr,fun k hk=>⟨fun e=>by have:=bg Rl e;have:=hge k hk;omega,fun e=>by have:=bg hvr e;have:=hge k hk;omega⟩,fun k hk e=>VW k e hk⟩
 have Ce:Hid (nD w.heap.size w8 v (.slice oa on oc) (.slice va vn vc) rm ru∧Below w.heap.size w w8):=ast ⟨hfin,hB7.trans (MJ.mono hB7.size)⟩;have hk9:=HK8.out.sub MJ iD;have HK9:=ast hk9;obtain⟨xa,xn,xc,rfl⟩:=eG hr8;clear hfin hvr Rl VW hB7 HF HST HK8 hk9
 repeat (refine aO rfl rfl (fun K hK=>?_);go_simp;refine hK _ ?_;clear hK K)
 refine df ?_;intro w' hw';rw[show w'=w8 from hw'];clear hw' w' k0 k1 k35 hne hr8 Hr MJ HQ;simp only[List.drop_succ_cons,List.drop_zero];have ak5:=HK9.out.lt;obtain⟨g0,g1,g2,g3,g4⟩:=HK9.out.free;obtain⟨z0,z1,z2,z3,z4⟩:=HK9.out.ku;go_wp2_with fail
 refine bodyPost_ret (v:=.tuple #[MI (.slice xa xn xc) (.slice oa on oc) (.slice va vn vc) VU agI,.int .i64 0]) (by simp[results,Tryz.results21,go_sem,z0,z1,z2,z3,z4,MI,ak5]) rfl ⟨_,_,_,rfl,?_,?_⟩
 ·have hcc:=(((((aj.refl (fun b=>b=w.heap.size) w8).setCell (p:=⟨w.heap.size,0,none⟩) rfl (.slice xa xn xc)).setCell (p:=⟨w.heap.size,1,none⟩) rfl (.slice oa on oc)).setCell (p:=⟨w.heap.size,2,none⟩) rfl (.slice va vn vc)).setCell (p:=⟨w.heap.size,3,none⟩) rfl (.int .i64 VU)).setCell (p:=⟨w.heap.size,4,none⟩) rfl (.int .i64 agI)
  exact Ce.out.1.aA hcc HK9.out (by decide)
 ·exact(((((Ce.out.2.setCell nrq _).setCell nrq _).setCell nrq _).setCell nrq _).setCell nrq _)
end
section
structure Fr where
 its:List IT
 i:Nat
 qg:Nat
 n:Int
 e:Int
def Fr.cells(p:Value×Fr):List Value:=[p.1,.int .i64 p.2.i,.int .i64 p.2.qg,.int .i64 p.2.n,.int .i64 p.2.e]
structure DM where
 fs:List (Value×Fr)
 ak:List Int
 done:Bool
 ed:Int
structure DX where
 mb:Nat
 wp:Nat
 fv:Value
 tv:Value
 cv:Value
 iv:Value
 ov:Value
 full:List Int
 tk:Nat
def DX.S(x:DX)(b:Nat):Prop:=b=x.mb∨b=x.wp∨x.fv.ownBlock=some b∨x.cv.ownBlock=some b∨x.ov.ownBlock=some b
abbrev MK(B:Nat)(w:World)(v:Value)(fs:List (Value×Fr)):Prop:=w.ownsRow B 257 5 v fs.length (fs.reverse.flatMap Fr.cells)
def nG(sb:Nat)(x:DX)(m:DM):Array Value:= #[.pointer (some ⟨sb,0,none⟩),x.fv,x.tv,.bool m.done,.int .i64 m.ed]
def Bq(x:DX):Array Value:= #[x.cv,x.iv,.int .i64 x.tk,x.ov]
structure gI (B:Nat) (w:World) (sb:Nat) (F:Nat→Prop) (x:DX) (m:DM) (u:MW):Prop where
 iM:az w x.mb (nG sb x m) 226
 l7:MK B w x.fv m.fs
 eP:bP B w x.tv m.ak.reverse
 dN:az w x.wp (Bq x) 221
 fB:bP B w x.cv u.vars
 jV:bP B w x.ov u.outs
 ins:bz B w x.iv x.full
 rest:u.ins=x.full.drop x.tk
 ML:∀k,x.tv.ownBlock=some k→x.cv.ownBlock≠some k∧x.ov.ownBlock≠some k
 uh:∀k,x.cv.ownBlock=some k→x.ov.ownBlock≠some k
 bm:B≤x.mb
 bw:B≤x.wp
 Xb:∀p∈m.fs,bV F w p.1 p.2.its
 fb:∀k,F k→k<B
 len:m.fs.length≤2000000∧m.ak.length≤32∧u.outs.length≤2000000∧x.full.length≤2000000∧u.vars.length≤1000∧x.tk≤2000000
section
variable{B:Nat}{w w':World}{sb:Nat}{F:Nat→Prop}{x:DX}{m m':DM}{u u':MW}
theorem gI.le(h:gI B w sb F x m u):B≤w.heap.size:=by have:=h.dN.lt;have:=h.bw;omega
theorem gI.OB(h:gI B w sb F x m u){b:Nat}(hb:x.S b):B≤b:=by
 rcases hb with e|e|e|e|e
 ·rw[e];exact h.bm
 ·rw[e];exact h.bw
 ·exact aF h.l7 e
 ·exact aF h.fB e
 ·exact aF h.jV e
theorem gI.toBelow(h:gI B w sb F x m u){S:Nat→Prop}(hc:aj S w w')(hs:∀b,S b→x.S b):Below B w w':=hc.toBelow h.le (fun b hb e=>by have:=h.OB (hs b e);omega)
theorem bV.below{v:Value}{its:List IT}(h:bV F w v its)(fb:∀k,F k→k<B)(hb:Below B w w'):bV F w' v its:=h.mono (fun k cs hk _=>⟨hk,hb.block k (fb k hk)⟩)
structure DN (B:Nat) (w:World) (sb:Nat) (F:Nat→Prop) (x:DX) (m':DM) (u':MW) (w':World) (y:DX):Prop where
 at_:gI B w' sb F y m' u'
 mb:y.mb=x.mb
 wp:y.wp=x.wp
 cv:y.cv=x.cv
 full:y.full=x.full
 fv:Lc w x.fv y.fv
 ov:Lc w x.ov y.ov
 aA:aj x.S w w'
 tk:y.tk=x.tk
def di(B:Nat)(w:World)(sb:Nat)(F:Nat→Prop)(x:DX)(m':DM)(u':MW)(w':World):Prop:=∃y,DN B w sb F x m' u' w' y
theorem DN.sub{y:DX}(h:DN B w sb F x m' u' w' y):∀b,y.S b→x.S b∨w.heap.size≤b:=by
 rintro b (e|e|e|e|e)
 ·rw[h.mb]at e;exact Or.inl (Or.inl e)
 ·rw[h.wp]at e;exact Or.inl (Or.inr (Or.inl e))
 ·exact(h.fv b e).imp (fun e=>Or.inr (Or.inr (Or.inl e))) id
 ·rw[h.cv]at e;exact Or.inl (Or.inr (Or.inr (Or.inr (Or.inl e))))
 ·exact(h.ov b e).imp (fun e=>Or.inr (Or.inr (Or.inr (Or.inr e)))) id
theorem DN.trans{y z:DX}{w2:World}{m2:DM}{u2:MW}(h:DN B w sb F x m' u' w' y)(h2:DN B w' sb F y m2 u2 w2 z):DN B w sb F x m2 u2 w2 z:=
 ⟨h2.at_,h2.mb.trans h.mb,h2.wp.trans h.wp,h2.cv.trans h.cv,h2.full.trans h.full,
  fun k hk=>(h2.fv k hk).elim (h.fv k) (fun e=>Or.inr (Nat.le_trans h.aA.size e)),fun k hk=>(h2.ov k hk).elim (h.ov k) (fun e=>Or.inr (Nat.le_trans h.aA.size e)),
  h.aA.jG h2.aA (fun b hb e=>(h.sub b e).elim id (fun e=>by omega)),h2.tk.trans h.tk⟩
theorem DN.VX{y z:DX}{w2:World}{m2:DM}{u2:MW}(h:DN B w sb F x m' u' w' y)(h2:DN B w' sb F {y with tk:=y.tk+1} m2 u2 w2 z):DN B w sb F {x with tk:=x.tk+1} m2 u2 w2 z:=
 ⟨h2.at_,h2.mb.trans h.mb,h2.wp.trans h.wp,h2.cv.trans h.cv,h2.full.trans h.full,
  fun k hk=>(h2.fv k hk).elim (h.fv k) (fun e=>Or.inr (Nat.le_trans h.aA.size e)),fun k hk=>(h2.ov k hk).elim (h.ov k) (fun e=>Or.inr (Nat.le_trans h.aA.size e)),
  h.aA.jG h2.aA (fun b hb e=>(h.sub b e).elim id (fun e=>by omega)),by rw[h2.tk];simp only;rw[h.tk]⟩
theorem gI.machine{JO tv':Value}(h:gI B w sb F x m u)(hc:aj (fun b=>b=x.mb∨x.fv.ownBlock=some b) w w')(hb:az w' x.mb (nG sb {x with fv:=JO,tv:=tv'} m') 226)
  (hf:MK B w' JO m'.fs) (ht:bP B w' tv' m'.ak.reverse) (h1:Lc w x.fv JO) (h2:Lc w x.tv tv') (Yl:∀p∈m'.fs,bV F w' p.1 p.2.its) (hn:m'.fs.length≤2000000∧m'.ak.length≤32):DN B w sb F x m' u w' {x with fv:=JO,tv:=tv'}:=by
 have Bl:∀b,(b=x.mb∨x.fv.ownBlock=some b)→x.S b:=fun b e=>e.elim Or.inl (fun e=>Or.inr (Or.inr (Or.inl e)))
 have hB:=h.toBelow hc Bl
 have hw:¬(x.wp=x.mb∨x.fv.ownBlock=some x.wp):=by
  rintro (e|e)
  ·have:=h.iM;rw[←e]at this;exact absurd (bH this h.dN) (by decide)
  ·exact ah h.l7 h.dN (by decide) e
 have hv:∀{v:Value} {l:List Int},bP B w v l→bP B w' v l:=fun {v l} hr=>af hr hc (fun b hb e=>by
  rcases e with e|e
  ·subst e;exact ah hr h.iM (by decide) hb
  ·exact bQ h.l7 hr (by decide) e hb)
 obtain⟨_,_,n3,n4,n5,n6⟩:=h.len;refine⟨⟨hb,hf,ht,h.dN.aA hc hw,hv h.fB,hv h.jV,h.ins.below hB,h.rest,fun k hk=>?_,h.uh,h.bm,h.bw,Yl,h.fb,hn.1,hn.2,n3,n4,n5,n6⟩,rfl,rfl,rfl,rfl,h1,Lc.refl _ _,hc.mono (fun b _ e=>Bl b e),rfl⟩;rcases h2 k hk with e|e
 ·exact h.ML k e
 ·exact⟨fun e'=>by have:=bg h.fB e';omega,fun e'=>by have:=bg h.jV e';omega⟩
theorem gI.world{yE:Value}{BQ:Nat}(h:gI B w sb F x m u)(hc:aj (fun b=>b=x.wp∨x.cv.ownBlock=some b∨x.ov.ownBlock=some b) w w')(hb:az w' x.wp (Bq {x with ov:=yE,tk:=BQ}) 221)
  (hv:bP B w' x.cv u'.vars) (ho:bP B w' yE u'.outs) (h1:Lc w x.ov yE) (hi:u'.ins=x.full.drop BQ) (hn:u'.outs.length≤2000000∧u'.vars.length≤1000∧BQ≤2000000):DN B w sb F {x with tk:=BQ} m u' w' {x with ov:=yE,tk:=BQ}:=by
 have Bl:∀b,(b=x.wp∨x.cv.ownBlock=some b∨x.ov.ownBlock=some b)→x.S b:=fun b e=>by
  rcases e with e|e|e
  ·exact Or.inr (Or.inl e)
  ·exact Or.inr (Or.inr (Or.inr (Or.inl e)))
  ·exact Or.inr (Or.inr (Or.inr (Or.inr e)))
 have hB:=h.toBelow hc Bl
 have hm:¬(x.mb=x.wp∨x.cv.ownBlock=some x.mb∨x.ov.ownBlock=some x.mb):=by
  rintro (e|e|e)
  ·have:=h.iM;rw[e]at this;exact absurd (bH this h.dN) (by decide)
  ·exact ah h.fB h.iM (by decide) e
  ·exact ah h.jV h.iM (by decide) e
 have hl:MK B w' x.fv m.fs:=af h.l7 hc (fun b hb e=>by
  rcases e with e|e|e
  ·subst e;exact ah h.l7 h.dN (by decide) hb
  ·exact bQ h.l7 h.fB (by decide) hb e
  ·exact bQ h.l7 h.jV (by decide) hb e)
 have hr:bP B w' x.tv m.ak.reverse:=af h.eP hc (fun b hb e=>by
  rcases e with e|e|e
  ·subst e;exact ah h.eP h.dN (by decide) hb
  ·exact(h.ML b hb).1 e
  ·exact(h.ML b hb).2 e)
 obtain⟨n1,n2,n3⟩:=hn;obtain⟨m1,m2,_,m4,_,_⟩:=h.len;refine⟨⟨h.iM.aA hc hm,hl,hr,hb,hv,ho,h.ins.below hB,hi,fun k hk=>⟨(h.ML k hk).1,fun e=>?_⟩,fun k hk e=>?_,h.bm,h.bw,fun p hp=>(h.Xb p hp).below h.fb hB,h.fb,m1,m2,n1,m4,n2,n3⟩,rfl,rfl,rfl,rfl,Lc.refl _ _,h1,hc.mono (fun b _ e=>Bl b e),rfl⟩
 ·rcases h1 k e with e'|e'
  ·exact(h.ML k hk).2 e'
  ·have:=bg h.eP hk;omega
 ·rcases h1 k e with e'|e'
  ·exact h.uh k hk e'
  ·have:=bg h.fB hk;omega
theorem gI.below(h:gI B w sb F x m u)(hb:Below w.heap.size w w'):DN B w sb F x m u w' x:=by
 have hc:aj (fun _=>False) w w':=aj.au hb;have hB:=hb.mono h.le;exact⟨⟨h.iM.sub hb h.iM.lt,af h.l7 hc (fun _ _=>id),af h.eP hc (fun _ _=>id),h.dN.sub hb h.dN.lt,af h.fB hc (fun _ _=>id),af h.jV hc (fun _ _=>id),h.ins.below hB,h.rest,h.ML,h.uh,h.bm,h.bw,fun p hp=>(h.Xb p hp).below h.fb hB,h.fb,h.len⟩,rfl,rfl,rfl,rfl,Lc.refl _ _,Lc.refl _ _,hc.mono (fun b _ e=>e.elim),rfl⟩
theorem gI.cells(h:gI B w sb F x m u):w.cell? ⟨x.mb,0,none⟩=some (.pointer (some ⟨sb,0,none⟩))∧w.cell? ⟨x.mb,1,none⟩=some x.fv∧w.cell? ⟨x.mb,2,none⟩=some x.tv∧w.cell? ⟨x.mb,3,none⟩=some (.bool m.done)∧w.cell? ⟨x.mb,4,none⟩=some (.int .i64 m.ed)∧x.mb<w.heap.size:=
 ⟨h.iM.cell 0 _ rfl,h.iM.cell 1 _ rfl,h.iM.cell 2 _ rfl,h.iM.cell 3 _ rfl,h.iM.cell 4 _ rfl,h.iM.lt⟩
theorem gI.shared(h:gI B w sb F x m u):w.cell? ⟨x.wp,0,none⟩=some x.cv∧w.cell? ⟨x.wp,1,none⟩=some x.iv∧w.cell? ⟨x.wp,2,none⟩=some (.int .i64 x.tk)∧w.cell? ⟨x.wp,3,none⟩=some x.ov∧x.wp<w.heap.size:=
 ⟨h.dN.cell 0 _ rfl,h.dN.cell 1 _ rfl,h.dN.cell 2 _ rfl,h.dN.cell 3 _ rfl,h.dN.lt⟩
theorem gI.flags{done':Bool}{ed':Int}(h:gI B w sb F x m u)(hc:aj (fun b=>b=x.mb) w w')(hb:az w' x.mb (nG sb x {m with done:=done',ed:=ed'}) 226):DN B w sb F x {m with done:=done',ed:=ed'} u w' x:=by
 have hB:=h.toBelow hc (fun b e=>Or.inl e);exact h.machine (JO:=x.fv) (tv':=x.tv) (hc.mono (fun b _ e=>Or.inl e)) hb (af h.l7 hc (fun b hb e=>by subst e;exact ah h.l7 h.iM (by decide) hb)) (af h.eP hc (fun b hb e=>by subst e;exact ah h.eP h.iM (by decide) hb)) (Lc.refl _ _) (Lc.refl _ _) (fun p hp=>(h.Xb p hp).below h.fb hB) ⟨h.len.1,h.len.2.1⟩
theorem jE(e:Int)(h:gI B w sb F x m u):
  Calls Tryz.prog 175 #[.pointer (some ⟨x.mb,0,none⟩),.int .i64 e] w fun r w'=>r=.returned (.tuple #[])∧DN B w sb F x {m with done:=true,ed:=e} u w' x:=by
 obtain⟨c0,c1,c2,c3,c4,hlt⟩:=h.cells;have f3:=h.iM.frozen 3;have f4:=h.iM.frozen 4;have H:=ast h;clear h;go_enter Tryz.func175,Tryz.ntmps175
 go_wp2_with fail
 go_end0
 refine⟨rfl,H.out.flags (((aj.refl (fun b=>b=x.mb) w).setCell (p:=⟨x.mb,3,none⟩) rfl _).setCell (p:=⟨x.mb,4,none⟩) rfl _) ?_⟩;have:=(H.out.iM.set (o:=3) (.bool true)).set (o:=4) (.int .i64 e);simpa [nG]using this
theorem gI.OD(h:gI B w sb F x m u)(k:Nat){a:Int}(hk:m.ak[k]?=some a):∃g cap,x.tv=.slice (some ⟨g,0,none⟩) m.ak.length cap∧m.ak.length≤cap∧g<w.heap.size∧w.cell? ⟨g,m.ak.length - 1 - k,none⟩=some (.int .i64 a):=by
 have AQ:=(List.getElem?_eq_some_iff.1 hk).1;have hr:=h.eP;rw[show bP B w x.tv m.ak.reverse=w.ownsRow B 3 1 x.tv m.ak.reverse.length (ints m.ak.reverse)from rfl,List.length_reverse]at hr;obtain⟨g,cap,h1,_,h3,h4,_,h6⟩:=aB hr (by omega);refine⟨g,cap,h1,h4,h3,h6 _ _ ?_⟩;unfold ints;rw[List.getElem?_map,List.getElem?_reverse (by omega),show m.ak.length - 1 - (m.ak.length - 1 - k)=k by omega,hk];rfl
theorem aQ(k:Nat){a:Int}(h:gI B w sb F x m u)(hk:m.ak[k]?=some a)(hk3:k≤3):
  Calls Tryz.prog 201 #[.pointer (some ⟨x.mb,0,none⟩),.int .i64 k] w fun r w'=>r=.returned (.int .i64 a)∧Below w.heap.size w w':=by
 obtain⟨c0,c1,c2,c3,c4,hlt⟩:=h.cells;obtain⟨g,cap,h1,h2,h3,h4⟩:=h.OD k hk;have AQ:=(List.getElem?_eq_some_iff.1 hk).1;have hl:=h.len.2.1;rw[h1]at c2;clear h c0 c1 c3 c4 h1 hk;obtain⟨n,hn⟩:=exq (m.ak.length);rw[←hn]at c2 h2 h4 AQ hl;obtain⟨p,hp⟩:=exq (n - 1 - k:Nat);have WU:(n:Int) - 1 - (k:Int)=(p:Int):=by omega
 rw[←hp]at h4;have ZG:(0:Int)≤(p:Int):=by omega
 have O0:(p:Int)<(n:Int):=by omega
 clear hn hp;go_enter Tryz.func201,Tryz.ntmps201
 go_wp2_with fail
 go_quiet (fail)
 go_wp2_with fail
 go_ret
 exact⟨rfl,⟨rfl,rfl,rfl,nrq,fun _ _=>rfl⟩⟩
end
end
section
section
variable{B:Nat}{w w':World}{sb:Nat}{F:Nat→Prop}{x:DX}{m m':DM}{u u':MW}
theorem gI.stack{tv':Value}{s:List Int}(h:gI B w sb F x m u)(hc:aj (fun b=>b=x.mb) w w')(hb:az w' x.mb (nG sb {x with tv:=tv'} {m with ak:=s}) 226)(ht:bP B w' tv' s.reverse)(h2:Lc w x.tv tv')(hs:s.length≤32):DN B w sb F x {m with ak:=s} u w' {x with tv:=tv'}:=by
 have hB:=h.toBelow hc (fun b e=>Or.inl e);exact h.machine (JO:=x.fv) (tv':=tv') (hc.mono (fun b _ e=>Or.inl e)) hb (af h.l7 hc (fun b hb e=>by subst e;exact ah h.l7 h.iM (by decide) hb)) ht (Lc.refl _ _) h2 (fun p hp=>(h.Xb p hp).below h.fb hB) ⟨h.len.1,hs⟩
theorem QT(t:Nat){a:Option Addr}{n c:Nat}(h:gI B w sb F x m u)(ht:m.ak.length<t)(ht3:t≤3):
  Calls Tryz.prog 198 #[.pointer (some ⟨x.mb,0,none⟩),.int .i64 t,.slice a n c] w fun r w'=>r=.returned (.bool false)∧DN B w sb F x {m with done:=true,ed:=1} u w' x:=by
 obtain⟨c0,c1,c2,c3,c4,hlt⟩:=h.cells;obtain⟨ad,cap,dI,_,_⟩:=ag h.eP;rw[dI,List.length_reverse]at c2;have hl:=h.len.2.1;have HS:=ast (jE 1 h);clear h dI c0 c1 c3 c4;generalize m.ak.length=k at *;have RY:(k:Int) - (t:Int)<0:=by omega
 go_enter Tryz.func198,Tryz.ntmps198
 go_wp2_with fail
 refine HS.out.mono ?_;rintro e w' ⟨rfl,hd⟩;have HD:=ast hd;clear hd HS;go_wp2_with fail
 go_ret
 exact⟨rfl,HD.out⟩
theorem dJ(t:Nat){a:Option Addr}{n c:Nat}(h:gI B w sb F x m u)(ht:t≤m.ak.length)(ho:32<m.ak.length - t+n)(hn:n≤10):
  Calls Tryz.prog 198 #[.pointer (some ⟨x.mb,0,none⟩),.int .i64 t,.slice a n c] w fun r w'=>r=.returned (.bool false)∧DN B w sb F x {m with done:=true,ed:=2} u w' x:=by
 obtain⟨c0,c1,c2,c3,c4,hlt⟩:=h.cells;obtain⟨ad,cap,dI,_,_⟩:=ag h.eP;rw[dI,List.length_reverse]at c2;have hl:=h.len.2.1;have HS:=ast (jE 2 h);clear h dI c0 c1 c3 c4;generalize m.ak.length=k at *;have RY:¬(k:Int) - (t:Int)<0:=by omega
 have hko:32<(k:Int) - (t:Int)+(n:Int):=by omega
 go_enter Tryz.func198,Tryz.ntmps198
 go_wp2_with fail
 refine HS.out.mono ?_;rintro e w' ⟨rfl,hd⟩;have HD:=ast hd;clear hd HS;go_wp2_with fail
 go_ret
 exact⟨rfl,HD.out⟩
theorem Eg(l:List Int)(y:Int):ints (l++[y])=ints l++[.int .i64 y]:=by simp[ints]
theorem rY{W:World}{ops:Array Oper}{rest:List Oper}{o:Oper}{a:Act}{Q:Exit→Act→World→Prop}(hgd:o.guard=none)(s y:Operand)(ho:o.op=.call {callee:=.builtin .append,args:= #[s,y],argTypes:= #[24,24]})
  {ad:Option Addr} {k d cap:Nat} {l:List Int} (hs:a.eval s=.slice none 0 0) (hy:a.eval y=.slice ad d cap) (hr:W.ownsRow B 3 1 (.slice ad k cap) k (ints l)) (hd:d≤k) (hk:k≤1100000)
  (h:∀v' w',bP W.heap.size w' v' (l.take d)→Below W.heap.size W w'→wpList Tryz.prog ops Q rest (a.put o.dst v') w'):wpList Tryz.prog ops Q (o :: rest) a W:=by
 have hlen:l.length=k:=by have:=hr.1;simpa [ints]using this
 have htd:(l.take d).length=d:=by rw[List.length_take];omega
 obtain⟨i,hi,hz,hsz,hb⟩:=info_parts Tryz.lY;rcases hr.2 with ⟨hv,h0⟩|⟨g,cap',cur,hv,_,_,_,_,_,_⟩
 ·obtain⟨rfl,rfl,rfl⟩:ad=none∧k=0∧cap=0:=by simpa using hv
  obtain rfl:d=0:=by omega
  refine wpList_plain hgd fun K hK=>?_
  have hrun:=run_append_owned_none (P:=Tryz.prog) W W.heap.size 24 o.type 3 i 1 Tryz.underlying24 hi (.slice none 0 0) 0 [] (World.ownsRow_nil _ _ _ _);unfold Oper.wp execOp;simp only[ho,resolve,invoke,builtin,Sem.run_bind,Sem.run_pure,Result.andThen_ok,List.map_toArray,List.map_cons,List.map_nil,hs,hy,hrun];exact hK _ _ (h _ _ (by rw[List.take_zero];exact World.ownsRow_nil _ _ _ _) brq)
 ·obtain⟨rfl,rfl⟩:ad=some ⟨g,0,none⟩∧cap=cap':=by simpa using hv
  refine wpList_append_own W hgd s y 24 ho W.heap.size 3 i (.int .i64 0) 1 8 Tryz.underlying24 hi hz hsz hb rfl (by decide) (.slice none 0 0) 0 [] hs (World.ownsRow_nil _ _ _ _) ⟨g,0,none⟩ d cap (ints (l.take d)) hy (by unfold ints;rw[List.length_map,htd,Nat.mul_one]) (fun j v hv'=>?_) (fun v hv'=>by obtain⟨z,_,rfl⟩:=List.mem_map.1 hv';rfl) (by unfold maxLen;omega) (by omega) nrq (fun v' w' h1 h2 _=>?_)
  ·rw[Addr.add_lit,Nat.zero_add]
   have hj:(ints l)[j]?=some v:=by
    unfold ints at hv' ⊢;rw[List.map_take,List.getElem?_take]at hv'
    split at hv'
    ·exact hv'
    ·cases hv'
   exact hr.cells (g:=g) rfl j v hj |>.symm ▸ (by rw[Addr.add_lit,Nat.zero_add])
  ·refine h v' w' ?_ ((aj.bD h2).toBelow nrq (fun b hb e=>by cases e))
   rw[Nat.zero_add,List.nil_append]at h1
   show w'.ownsRow _ _ 1 v' (l.take d).length (ints (l.take d))
   rw[htd];exact h1
theorem aX(t:Nat)(ys:List Int){av:Value}(h:gI B w sb F x m u)(ht:t≤m.ak.length)(ho:m.ak.length - t+ys.length≤32)(hav:bz w.heap.size w av ys)(hy:∀y∈ys, -9000000000000000000≤y∧y≤9000000000000000000):
  Calls Tryz.prog 198 #[.pointer (some ⟨x.mb,0,none⟩),.int .i64 t,av] w fun r w'=>r=.returned (.bool true)∧di B w sb F x {m with ak:=(ys.map w32).reverse++m.ak.drop t} u w':=by
 obtain⟨c0,c1,c2,c3,c4,hlt⟩:=h.cells;obtain⟨ad,cap,dI,hcap,hmax⟩:=ag h.eP;rw[List.length_reverse]at dI hcap;obtain⟨pa,pc,hpv,YB⟩:=oh hav;have hrow:=h.eP;rw[dI]at c2 hrow;have hl:=h.len.2.1;have H:=ast h;have Ym:=ast dI;have RF:=ast hav;have hB:=h.le;obtain⟨k,hk⟩:=exq (m.ak.length);rw[←hk]at ht ho c2 hl hrow hcap;obtain⟨n,hn⟩:=exq (ys.length);rw[←hn]at ho hpv;have HN:=ast hn;have HK:=ast hk;subst hpv;have RY:¬(k:Int) - (t:Int)<0:=by omega
 have hko:¬32<(k:Int) - (t:Int)+(n:Int):=by omega
 obtain⟨d,hd⟩:=exq (k - t:Nat);have hdi:(k:Int) - (t:Int)=(d:Int):=by omega
 have HD:=ast hd;have WO:(0:Int)≤(d:Int):=by omega
 have hdc:(d:Int)≤(cap:Int):=by omega
 have JA:d≤k:=by omega
 obtain⟨l,hl0⟩:=exq (m.ak.reverse);have hlen:l.length=k:=by rw[hl0,List.length_reverse,hk]
 have hrow2:w.ownsRow B 3 1 (.slice ad k cap) k (ints l):=by
  have:=hrow;rw[←hl0]at this;rw[←hlen];rw[←hlen]at this;exact this
 have HRO:=ast hrow2;have HL:=ast hl0;have ZH:=ast hy;have HPC:=ast YB;obtain⟨i0,hi0,hz0,uU,hb0⟩:=info_parts Tryz.lY;have HI:=ast (And.intro hi0 (And.intro hz0 (And.intro uU hb0)));clear h hav hrow hrow2 hl0 hy YB dI hn hk hd hi0 hz0 uU hb0 hlen c0 c1 c3 c4;go_enter Tryz.func198,Tryz.ntmps198
 go_wp2_with (at_builtin;refine rY rfl _ _ rfl rfl rfl HRO.out JA (by omega) ?_)
 intro v1 w1 hr1 hb1;obtain⟨va,vn,vc,rfl⟩:=eG hr1;have H1:Hid (bP w.heap.size w1 (.slice va vn vc) (l.take d++(ys.take 0).map w32)∧Below w.heap.size w w1):=ast ⟨by simpa using hr1,hb1⟩;clear hr1 hb1;go_wp2_with fail
 go_loopw[8,9] (fun s i wr=>∃(j:Nat) (a:Option Addr) (b c:Nat),j≤n∧s=.slice a b c∧i=.int .i64 j∧Hid (bP w.heap.size wr (.slice a b c) (l.take d++(ys.take j).map w32)∧Below w.heap.size w wr)) (fun _ i _=>n - (intOf i).toNat)
 case atStart=>exact⟨0,va,vn,vc,by omega,rfl,rfl,H1⟩
 case round=>
  clear H1 c2;obtain⟨j,a,b,c,hj,rfl,rfl,HC⟩:=hrel
  by_cases hlt2:j<n
  ·have hji:(j:Int)<(n:Int):=by omega
   obtain⟨y,hyj⟩:∃y,ys[j]?=some y:=⟨_,List.getElem?_eq_getElem (by rw[←HN.out];exact hlt2)⟩;obtain⟨pb,po,rfl,hpb,cy⟩:=HPC.out j y hyj;have cyr:wr.cell? ⟨pb,po+j,none⟩=some (.int .i64 y):=(HC.out.2.cell (p:=⟨pb,po+j,none⟩) hpb).trans cy;have hpr:pb<wr.heap.size:=Nat.lt_of_lt_of_le hpb HC.out.2.size;have HWR:=ast (fun w=>Iw y w (ZH.out y (List.mem_of_getElem? hyj)));have HYJ:=ast hyj;clear cy hyj;go_wp2_with fail
   refine(HWR.out _).mono ?_;rintro e w3 ⟨rfl,rfl⟩;clear HWR cyr;obtain⟨hi0,hz0,uU,hb0⟩:=HI.out;have Tf:Below w.heap.size w (w3.alloc (.cells #[.int .i64 (w32 y)] 3 (0,0))):=HC.out.2.alloc HC.out.2.size _;have hrA:(w3.alloc (.cells #[.int .i64 (w32 y)] 3 (0,0))).ownsRow w.heap.size 3 1 (.slice a b c) (l.take d++(ys.take j).map w32).length (ints (l.take d++(ys.take j).map w32)):=HC.out.1.alloc _
   have hsm:(l.take d++(ys.take j).map w32).length≤32:=by
    rw[List.length_append,List.length_map,List.length_take,List.length_take];have:=HN.out;omega
   obtain⟨q,hq⟩:=exq (l.take d++(ys.take j).map w32:List Int);rw[←hq]at hrA hsm;obtain⟨qn,Rz⟩:=exq (q.length);obtain⟨qi,CZ⟩:=exq (ints q);rw[←Rz,←CZ]at hrA;rw[←Rz]at hsm;have HQ:=ast (And.intro hq (And.intro Rz CZ));clear hq Rz CZ;have OQ:=ast Tf;have HRA:=ast hrA;have JH:=ast (Ja w3 #[.int .i64 (w32 y)] 3);clear Tf hrA;go_wp2_with (at_builtin;refine wpList_append_own _ rfl _ _ 24 rfl w.heap.size 3 i0 (.int .i64 0) 1 8 Tryz.underlying24 hi0 hz0 uU hb0 rfl (by decide) (.slice a b c) qn qi rfl HRA.out ⟨w3.heap.size,0,none⟩ 1 1 [.int .i64 (w32 y)] rfl rfl JH.out (by intro u hu;rw[List.mem_singleton.1 hu];rfl) (by unfold maxLen;omega) (by omega) OQ.out.size ?_)
   intro v4 w4 hr4 hg4 _
   have acg:bP w.heap.size w4 v4 (l.take d++(ys.take (j+1)).map w32):=by
    have e:l.take d++(ys.take (j+1)).map w32=(l.take d++(ys.take j).map w32)++[w32 y]:=by
     rw[List.take_add_one,HYJ.out];simp
    show w4.ownsRow _ _ _ _ _ _
    obtain⟨e1,e2,e3⟩:=HQ.out;rw[e,←e1,Eg,List.length_append,←e3,←e2];exact hr4
   have hb4:Below w.heap.size w w4:=OQ.out.trans ((aj.bD hg4).toBelow OQ.out.size (fun q hq e=>by have:=aF HRA.out e.symm;omega));obtain⟨a4,n4,c4,rfl⟩:=eG acg;have HF:=ast (And.intro acg hb4);clear hr4 hg4 acg hb4 hi0 hz0 uU hb0 JH HRA OQ HC;go_wp2_with fail
   go_roundw
   case rel=>exact⟨j+1,a4,n4,c4,by omega,rfl,by go_num,HF⟩
   case measure=>simp only[intOf];omega
  ·obtain rfl:j=n:=by omega
   have hji:¬(j:Int)<(j:Int):=by omega
   have c2r:wr.cell? ⟨x.mb,2,none⟩=some x.tv:=(HC.out.2.cell (p:=⟨x.mb,2,none⟩) hlt).trans (H.out.cells.2.2.1);have f2:wr.frozen? ⟨x.mb,2,none⟩=false:=(HC.out.2.frozen (p:=⟨x.mb,2,none⟩) hlt).trans (H.out.iM.frozen 2);have aqA:x.mb<wr.heap.size:=Nat.lt_of_lt_of_le hlt HC.out.2.size;rw[Ym.out]at c2r;go_wp2_with fail
   go_ret
   refine⟨rfl,_,H.out.stack (tv':=.slice a b c) (((aj.au (S:=fun b=>b=x.mb) HC.out.2).setCell (p:=⟨x.mb,2,none⟩) rfl _)) ?_ ?_ (fun q hq=>Or.inr (aF HC.out.1 hq)) ?_⟩
   ·have hm:=(H.out.iM.sub HC.out.2 hlt).set (o:=2) (.slice a b c)
    simpa [nG]using hm
   ·have e:((ys.map w32).reverse++m.ak.drop t).reverse=l.take d++(ys.take j).map w32:=by
     rw[List.reverse_append,List.reverse_reverse,HL.out,List.take_of_length_le (show ys.length≤j by have:=HN.out;omega),HD.out,HK.out]
     congr 1
     rw[List.reverse_drop]
    show bP B _ _ (((ys.map w32).reverse++m.ak.drop t).reverse)
    rw[e];have YM:bP B wr (.slice a b c) (l.take d++(ys.take j).map w32):=lN HC.out.1 hB;exact af YM ((aj.refl (fun b=>b=x.mb) wr).setCell (p:=⟨x.mb,2,none⟩) rfl _) (fun q hq e=>by subst e;exact ah HC.out.1 (H.out.iM.sub HC.out.2 hlt) (by decide) hq)
   ·show((ys.map w32).reverse++m.ak.drop t).length≤32
    rw[List.length_append,List.length_reverse,List.length_map,List.length_drop,←HN.out,←HK.out];omega
end
end
section
attribute [local go_sem] dK
def frz:Value:=.agg #[.slice none 0 0,.int .i64 0,.int .i64 0,.int .i64 0,.int .i64 0]
theorem Tryz.ach:(Tryz.prog.info? 257).map (fun i=>(i.zero,i.size,i.bytes))=some (some frz,5,56):=by kernel_rfl
section
variable{B:Nat}{w w':World}{sb:Nat}{F:Nat→Prop}{x:DX}{m m':DM}{u u':MW}
theorem OE(l:List (Value×Fr)):(l.flatMap Fr.cells).length=l.length*5:=flat_length Fr.cells 5 (fun _=>rfl) l
theorem gI.VY(h:gI B w sb F x m u)(i:Nat){p:Value×Fr}(hp:m.fs.reverse[i]?=some p):∃g cap,x.fv=.slice (some ⟨g,0,none⟩) m.fs.length cap∧m.fs.length≤cap∧g<w.heap.size∧i<m.fs.length∧∀(j:Nat) (v:Value),(Fr.cells p)[j]?=some v→w.cell? ⟨g,i*5+j,none⟩=some v:=by
 have hi:=(List.getElem?_eq_some_iff.1 hp).1;rw[List.length_reverse]at hi;obtain⟨g,cap,h1,_,h3,h4,_,h6⟩:=aB h.l7 (by omega);refine⟨g,cap,h1,h4,h3,hi,fun j v hv=>h6 _ _ ?_⟩;have hj:j<5:=(List.getElem?_eq_some_iff.1 hv).1;rw[flat_get Fr.cells 5 (fun _=>rfl) m.fs.reverse i j (by rw[List.length_reverse];exact hi) hj];obtain⟨hi',he⟩:=List.getElem?_eq_some_iff.1 hp;rw[he];exact hv
def aG:List (Value×Fr)→Int
 |[]=>0
 |p :: r=>if p.2.qg=2 then p.2.n else aG r
theorem aci(l:List (Value×Fr))(k:Nat)(hk:k<l.length):l.reverse[k]?=l[l.length - 1 - k]?:=List.getElem?_reverse hk
theorem Eh(h:gI B w sb F x m u)(hf:∀p∈m.fs,p.2.qg≤3):
  Calls Tryz.prog 209 #[.pointer (some ⟨x.mb,0,none⟩)] w fun r w'=>r=.returned (.int .i64 (aG m.fs))∧w'=w:=by
 obtain⟨c0,c1,c2,c3,c4,hlt⟩:=h.cells;obtain⟨ad,cap,hfv,hcap,hmax⟩:=ag h.l7;have hlen:=h.len.1;obtain⟨R,hR⟩:=exq (aG m.fs);rw[←hR];rw[hfv]at c1;have H:=ast h;have YR:=ast hfv;have HR:=ast hR;have HF:=ast hf;obtain⟨n,hn⟩:=exq (m.fs.length);rw[←hn]at hlen c1 hcap;have HN:=ast hn;clear h hfv hR hf hn c0 c2 c3 c4;go_enter Tryz.func209,Tryz.ntmps209
 go_wp2_with fail
 go_loopw[3] (fun s wr=>∃k:Nat,k≤n∧s=.int .i64 ((k:Int) - 1)∧wr=w∧Hid (R=aG (m.fs.drop (n - k)))) (fun s _=>(intOf s+1).toNat)
 case atStart=>exact⟨n,nrq,rfl,rfl,ast (by rw[HR.out,Nat.sub_self];rfl)⟩
 case round=>
  clear HR;obtain⟨k,hk,rfl,rfl,HC⟩:=hrel
  by_cases h0:k=0
  ·subst h0
   have qw:Hid (R=0):=by show R=0;rw[HC.out,List.drop_of_length_le (by have:=HN.out;omega)];rfl
   clear HC;go_wp2_with fail
   rw[qw.out];go_ret
   exact⟨rfl,rfl⟩
  ·obtain⟨j,rfl⟩:∃j,k=j+1:=⟨k - 1,by omega⟩
   have hjn:n - (j+1)<m.fs.length:=by have:=HN.out;omega
   obtain⟨p,hp⟩:∃p,m.fs[n - (j+1)]?=some p:=⟨_,List.getElem?_eq_getElem hjn⟩
   have hpr:m.fs.reverse[j]?=some p:=by
    rw[aci m.fs j (by have:=HN.out;omega),←HN.out,show n - 1 - j=n - (j+1) by omega];exact hp
   obtain⟨g,bf,e1,e2,e3,e4,e5⟩:=H.out.VY j hpr
   have had:ad=some ⟨g,0,none⟩∧cap=bf:=by
    have:=YR.out.symm.trans e1;simpa using this
   obtain⟨rfl,rfl⟩:=had;have q2:=e5 2 _ rfl;have q3:=e5 3 _ rfl
   have hdr:R=if p.2.qg=2 then p.2.n else aG (m.fs.drop (n - j)):=by
    obtain⟨h1,h2⟩:=List.getElem?_eq_some_iff.1 hp;rw[HC.out,List.drop_eq_getElem_cons h1,h2,aG,show n - (j+1)+1=n - j by omega]
   have hb3:=HF.out p (List.mem_of_getElem? hp);have HD:=ast hdr;have hji:((j+1:Nat):Int) - 1=(j:Int):=by omega
   have hj0:(0:Int)≤(j:Int):=by omega
   have Zc:(j:Int)<(n:Int):=by omega
   rw[hji];obtain⟨bb,hbb⟩:=exq (p.2.qg);rw[←hbb]at q2 hb3 HD;clear hdr hp hpr e1 e5 HC hbb hji
   by_cases h2:bb=2
   ·subst h2
    have qw:Hid (R=p.2.n):=by show R=_;rw[HD.out,if_pos rfl]
    go_wp2_with fail
    rw[qw.out];go_ret
    exact⟨rfl,rfl⟩
   ·have qw:Hid (R=aG (m.fs.drop (n - j))):=by show R=_;rw[HD.out,if_neg h2]
    have hbe:((bb:Int) == 2)=false:=by simp;omega
    have ry:decide ((bb:Int)=2)=false:=by simp;omega
    go_wp2_with fail
    go_roundw
    case rel=>exact⟨j,by omega,rfl,by trivial,qw⟩
    case measure=>simp only[intOf];omega
end
end
section
attribute [local go_sem] dK
theorem VZ(n:Nat)(h:n≤1000000000000):IntKind.wrap .i64 (n:Int)=(n:Int):=by
 simp only[IntKind.wrap,show IntKind.i64.bits=64 from rfl,show IntKind.i64.signed=true from rfl,Bool.true_and,decide_eq_true_eq];omega
section
variable{B:Nat}{w w':World}{sb:Nat}{F:Nat→Prop}{x:DX}{m m':DM}{u u':MW}
theorem gI.frames{JO:Value}{fs':List (Value×Fr)}(h:gI B w sb F x m u)(hc:aj (fun b=>b=x.mb∨x.fv.ownBlock=some b) w w')(hb:az w' x.mb (nG sb {x with fv:=JO} m) 226)(hf:MK B w' JO fs')(h1:Lc w x.fv JO)(Yl:∀p∈fs',bV F w p.1 p.2.its)(hn:fs'.length≤2000000):DN B w sb F x {m with fs:=fs'} u w' {x with fv:=JO}:=by
 have hB:=h.toBelow hc (fun b e=>e.elim Or.inl (fun e=>Or.inr (Or.inr (Or.inl e))))
 exact h.machine (JO:=JO) (tv':=x.tv) hc hb hf (af h.eP hc (fun b hb e=>by
  rcases e with e|e
  ·subst e;exact ah h.eP h.iM (by decide) hb
  ·exact bQ h.l7 h.eP (by decide) e hb)) h1 (Lc.refl _ _) (fun p hp=>(Yl p hp).below h.fb hB) ⟨hn,h.len.2.1⟩
theorem MM{va:Option Addr}{vn vc:Nat}(f:Fr)(h:gI B w sb F x m u)(hf:bV F w (.slice va vn vc) f.its)(hl:m.fs.length+1≤2000000):
  Calls Tryz.prog 200 #[.pointer (some ⟨x.mb,0,none⟩),.agg #[.slice va vn vc,.int .i64 f.i,.int .i64 f.qg,.int .i64 f.n,.int .i64 f.e]] w fun r w'=>r=.returned (.tuple #[])∧di B w sb F x {m with fs:=(.slice va vn vc,f) :: m.fs} u w':=by
 obtain⟨c0,c1,c2,c3,c4,hlt⟩:=h.cells;obtain⟨ad,cap,hfv,hcap,hmax⟩:=ag h.l7;have hB:=h.le;have H:=ast h;have YR:=ast hfv;have HF:=ast hf;obtain⟨n,hn⟩:=exq (m.fs.length);have HN:=ast hn;obtain⟨cs,hcs⟩:=exq (#[.slice va vn vc,.int .i64 f.i,.int .i64 f.qg,.int .i64 f.n,.int .i64 f.e]:Array Value);have HCS:=ast hcs;obtain⟨Y,hY⟩:=exq (w.alloc (.cells cs 257 (0,0)):World);obtain⟨pb,hpb⟩:=exq (w.heap.size);have Lp:az Y pb cs 257:=by rw[hY,hpb];exact ay w _ _
 have Am:Below w.heap.size w Y:=by rw[hY];exact brq.alloc nrq _
 have hAY:=(h.below Am).at_;have hYs:Y.heap.size=pb+1:=by rw[hY,hpb];simp
 obtain⟨xs,hxs⟩:=exq (m.fs.reverse.flatMap Fr.cells)
 have hro:Y.ownsRow B 257 5 (.slice ad n cap) n xs:=by
  have:=hAY.l7;rw[hfv]at this;rw[hxs,hn];exact this
 have hnp:(Value.slice ad n cap).ownBlock≠some pb:=fun e=>by
  have h1:x.fv.ownBlock=some pb:=by rw[hfv,←hn];exact e
  have:=bg h.l7 h1;omega
 have hnm:(Value.slice ad n cap).ownBlock≠some x.mb:=ah hro hAY.iM (by decide)
 have key:∀w':World,aj (fun b=>(Value.slice ad n cap).ownBlock=some b) Y w'→w'.cell? ⟨x.mb,1,none⟩=some (.slice ad n cap)∧∀(j:Nat) (v:Value),cs[j]?=some v→w'.cell? ⟨pb,j,none⟩=some v:=fun w' hc=>
  ⟨(hc.cell (p:=⟨x.mb,1,none⟩) hAY.iM.lt hnm).trans (by have:=hAY.cells.2.1;rw[hfv,←hn]at this;exact this),fun j v hv=>(hc.cell (p:=⟨pb,j,none⟩) (by show pb<Y.heap.size;omega) hnp).trans (Lp.cell j v hv)⟩
 have hne:Nonempty {w':World // aj (fun b=>(Value.slice ad n cap).ownBlock=some b) Y w'}:=⟨⟨Y,aj.refl _ _⟩⟩;have k1:∀v:{w':World // aj (fun b=>(Value.slice ad n cap).ownBlock=some b) Y w'},v.val.cell? ⟨x.mb,1,none⟩=some (.slice ad n cap):=fun v=>(key _ v.property).1
 have p0:∀v:{w':World // aj (fun b=>(Value.slice ad n cap).ownBlock=some b) Y w'},v.val.cell? ⟨pb,0,none⟩=some (.slice va vn vc):=fun v=>(key _ v.property).2 0 _ (by rw[hcs];rfl)
 have p1:∀v:{w':World // aj (fun b=>(Value.slice ad n cap).ownBlock=some b) Y w'},v.val.cell? ⟨pb,1,none⟩=some (.int .i64 f.i):=fun v=>(key _ v.property).2 1 _ (by rw[hcs];rfl)
 have p2:∀v:{w':World // aj (fun b=>(Value.slice ad n cap).ownBlock=some b) Y w'},v.val.cell? ⟨pb,2,none⟩=some (.int .i64 f.qg):=fun v=>(key _ v.property).2 2 _ (by rw[hcs];rfl)
 have p3:∀v:{w':World // aj (fun b=>(Value.slice ad n cap).ownBlock=some b) Y w'},v.val.cell? ⟨pb,3,none⟩=some (.int .i64 f.n):=fun v=>(key _ v.property).2 3 _ (by rw[hcs];rfl)
 have p4:∀v:{w':World // aj (fun b=>(Value.slice ad n cap).ownBlock=some b) Y w'},v.val.cell? ⟨pb,4,none⟩=some (.int .i64 f.e):=fun v=>(key _ v.property).2 4 _ (by rw[hcs];rfl)
 obtain⟨i0,hi,hz0,hz1,hz2⟩:=info_parts Tryz.ach;have HI:=ast (And.intro hi (And.intro hz0 (And.intro hz1 hz2)));have Ed:=ast (show ∀v∈cs.toList,v.oneCell'=true by rw[hcs];intro v hv;simp at hv;rcases hv with rfl|rfl|rfl|rfl|rfl<;>rfl);have HQ:=ast (And.intro (show n+1≤maxLen by unfold maxLen;omega) (show(n+1)*56≤140737488355328 by omega));have Rj:=ast Lp;have nO:=ast Am;have HAY:=ast hAY;have HRO:=ast hro;have HY:=ast hY;have XB:=ast hpb;have HXS:=ast hxs;have ZH:=ast hYs;have hpY:pb<Y.heap.size:=by omega
 have hlY:x.mb<Y.heap.size:=by omega
 clear h hfv hf hn Lp Am hAY hYs hro key hi hz0 hz1 hz2 c0 c1 c2 c3 c4 hxs hpb hY;go_enter Tryz.func200,Tryz.ntmps200
 go_upto_region 1 with fail
 rw[show #[.slice va vn vc,.int .i64 f.i,.int .i64 f.qg,.int .i64 f.n,.int .i64 f.e]=cs from hcs.symm,←HY.out,←XB.out];refine aH (C:=fJ fun w'=>aj (fun b=>(Value.slice ad n cap).ownBlock=some b) Y w') 10 [6,7] ⟨Y.drew,(aj.refl _ Y).drew⟩ (by kernel_rfl) (by kernel_rfl) rfl ?_;rw[show List.range 10=[0,1,2,3,4,5,6,7,8,9]from rfl]
 repeat (refine aO rfl rfl (fun K hK=>?_);go_simp;refine hK _ ?_;clear hK K)
 rw[←hcs];have hKW:=ast (show ∀j u,cs.toList[j]?=some u→(Y.drew.alloc (.cells cs 257 (0,0))).cell? ((Addr.mk Y.heap.size 0 none).add j)=some u from World.news_of_block (fr:=(0,0)) (heap_alloc_new Y.drew _));refine eu rfl rfl (.slice (some ⟨Y.heap.size,0,none⟩) 1 1) (Y.drew.alloc (.cells cs 257 (0,0))) ((aj.refl _ Y).drew.alloc _) (Or.inl (by rw[hcs];go_simp)) ?_;obtain⟨hi,hz0,hz1,hz2⟩:=HI.out;refine oM rfl rfl (Y.drew.alloc (.cells cs 257 (0,0))) rfl _ _ _ rfl B 257 i0 frz 5 56 Tryz.underlying224 hi hz0 hz1 hz2 rfl (by decide) (.slice ad n cap) n xs rfl (HRO.out.drew.alloc _) (Addr.mk Y.heap.size 0 none) 1 1 cs.toList rfl (by rw[hcs];rfl) hKW.out Ed.out (by decide) HQ.out.1 HQ.out.2 (by have:=HAY.out.le;simp;omega) (Y.heap.size+1) (by simp) (fun w' hg=>((aj.refl _ Y).drew.alloc _).trans ((aj.bD hg).mono (fun k _ e=>e.symm))) ?_;intro g2 bf w2 jh hr2 hg2 rV hlt2
 repeat (refine aO rfl rfl (fun K hK=>?_);go_simp;refine hK _ ?_;clear hK K)
 have d1:=k1 ⟨w2,jh⟩;simp only at d1;have hb2:=HAY.out.iM.aA jh hnm;have f1:=hb2.frozen 1;have HR2:=ast hr2;have Fb:=ast jh;have gK:=ast hb2;have vw:=ast rV;refine df ?_;intro w' hw';rw[show w'=w2 from hw'];clear hw' w' k1 p0 p1 p2 p3 p4 hne hr2 hg2 rV hi hz0 hz1 hz2 hb2;simp only[List.drop_succ_cons,List.drop_zero];have hl2:x.mb<w2.heap.size:=Nat.lt_of_lt_of_le hlY jh.size;clear jh;go_wp2_with fail
 go_end0
 have iL:aj (fun b=>b=x.mb) w2 (w2.setCell ⟨x.mb,1,none⟩ (.slice (some ⟨g2,0,none⟩) (n+1) bf)):=(aj.refl (fun b=>b=x.mb) w2).setCell (p:=⟨x.mb,1,none⟩) rfl _;have hbe:x.fv=.slice ad n cap:=by rw[YR.out,HN.out]
 have hcw:aj (fun b=>b=x.mb∨x.fv.ownBlock=some b) w (w2.setCell ⟨x.mb,1,none⟩ (.slice (some ⟨g2,0,none⟩) (n+1) bf)):=((aj.au nO.out).trans (Fb.out.mono (fun b _ e=>Or.inr (by rw[hbe];exact e)))).trans (iL.mono (fun b _ e=>Or.inl e));refine⟨rfl,_,H.out.frames (JO:=.slice (some ⟨g2,0,none⟩) (n+1) bf) (fs':=(.slice va vn vc,f) :: m.fs) hcw ?_ ?_ ?_ ?_ hl⟩
 ·have:=gK.out.set (o:=1) (.slice (some ⟨g2,0,none⟩) (n+1) bf)
  simpa [nG]using this
 ·show World.ownsRow _ _ _ _ _ _ _
  rw[List.length_cons,←HN.out,List.reverse_cons,List.flatMap_append,←HXS.out,List.flatMap_singleton];have e:Fr.cells (.slice va vn vc,f)=cs.toList:=by rw[HCS.out];rfl
  rw[e];exact af HR2.out iL (fun b hb e=>by subst e;exact ah HR2.out gK.out (by decide) hb)
 ·intro k hk
  simp only[Value.ownBlock,Option.some.injEq]at hk;subst hk;rcases vw.out with e|e
  ·exact Or.inl (by rw[hbe];exact e)
  ·right;have:=ZH.out;have:=XB.out;omega
 ·intro p hp
  rcases List.mem_cons.1 hp with rfl|hp
  ·exact HF.out
  ·exact H.out.Xb p hp
theorem Bv{p:Value×Fr}{r:List (Value×Fr)}(h:gI B w sb F x m u)(hp:m.fs=p :: r):
  Calls Tryz.prog 174 #[.pointer (some ⟨x.mb,0,none⟩)] w fun e w'=>e=.returned (.tuple #[])∧di B w sb F x {m with fs:=r} u w':=by
 obtain⟨c0,c1,c2,c3,c4,hlt⟩:=h.cells;have hfl:m.fs.length=r.length+1:=by rw[hp];rfl
 have hrow:=h.l7;rw[show MK B w x.fv m.fs=w.ownsRow B 257 5 x.fv m.fs.length (m.fs.reverse.flatMap Fr.cells)from rfl,hfl]at hrow;obtain⟨g,cap,hfv,_,hg,hcap,_,_⟩:=aB hrow (by omega);rw[hfv]at c1 hrow;have hlen:=h.len.1;have f1:=h.iM.frozen 1;rw[hp,List.reverse_cons,List.flatMap_append]at hrow;have KF:=ownsRow_pop hrow (by rw[OE,List.length_reverse]);have H:=ast h;have HP:=ast KF;have YR:=ast hfv;have HPE:=ast hp;rw[hfl]at hlen;obtain⟨n,hn⟩:=exq (r.length);rw[←hn]at c1 hcap hlen HP;have HN:=ast hn;have k1:∀v:{w':World // w'=w.drew},v.val.cell? ⟨x.mb,1,none⟩=some (.slice (some ⟨g,0,none⟩) (n+1) cap):=fun v=>by rw[v.property];exact c1
 have hne:Nonempty {w':World // w'=w.drew}:=⟨⟨w.drew,rfl⟩⟩;have wK:(0:Int)≤(n:Int):=by omega
 have hn1:(n:Int)≤(cap:Int):=by omega
 have hn2:(n:Int)+1 - 1=(n:Int):=by omega
 have Fz:IntKind.wrap .i64 (n:Int)=(n:Int):=VZ n (by omega);clear h hrow KF hfv hp hn c0 c2 c3 c4 hfl;go_enter Tryz.func174,Tryz.ntmps174
 refine aH (C:=fJ fun w'=>w'=w.drew) 14 [] ⟨w.drew,rfl⟩ (by kernel_rfl) (by kernel_rfl) rfl ?_;rw[show List.range 14=[0,1,2,3,4,5,6,7,8,9,10,11,12,13]from rfl]
 repeat (refine aO rfl rfl (fun K hK=>?_);go_simp;refine hK _ ?_;clear hK K)
 refine df ?_;intro w' hw';rw[show w'=w.drew from hw'];clear hw' w' k1 hne;simp only[List.drop_succ_cons,List.drop_zero];go_wp2_with fail
 go_end0
 have iL:aj (fun b=>b=x.mb) w (w.drew.setCell ⟨x.mb,1,none⟩ (.slice (some ⟨g,0,none⟩) n cap)):=(aj.refl (fun b=>b=x.mb) w).drew.setCell (p:=⟨x.mb,1,none⟩) rfl _;refine⟨rfl,_,H.out.frames (JO:=.slice (some ⟨g,0,none⟩) n cap) (fs':=r) (iL.mono (fun b _ e=>Or.inl e)) ?_ ?_ ?_ (fun q hq=>H.out.Xb q (by rw[HPE.out];exact List.mem_cons_of_mem _ hq)) (by have:=HN.out;omega)⟩
 ·have:=(H.out.iM.set (o:=1) (.slice (some ⟨g,0,none⟩) n cap)).drew
  simpa [nG]using this
 ·show World.ownsRow _ _ _ _ _ _ _
  rw[←HN.out];exact af HP.out iL (fun b hb e=>by subst e;exact ah HP.out H.out.iM (by decide) hb)
 ·intro k hk
  left
  rw[YR.out];exact hk
end
end
section
attribute [local go_sem] dK
def iW(k:Nat)(n:Int)(s:List Int)(u:MW):List Int×MW:=((fV k 0 ⟨s,[(n,0)],[],0⟩ u).2.1.ak,(fV k 0 ⟨s,[(n,0)],[],0⟩ u).2.2)
theorem fH(W:World)(l:List Int):bz (W.alloc (.cells (ints l).toArray 3 (0,0))).heap.size (W.alloc (.cells (ints l).toArray 3 (0,0))) (.slice (some ⟨W.heap.size,0,none⟩) l.length l.length) l:=by
 refine Or.inr ⟨W.heap.size,0,l.length,rfl,nrq,by simp,fun j y hy=>?_⟩;rw[Nat.zero_add];exact(ay W (ints l).toArray 3).cell j _ (by simp[ints,hy])
section
variable{B:Nat}{w w':World}{sb:Nat}{F:Nat→Prop}{x:DX}{m m':DM}{u u':MW}
theorem Bz(s:ByteArray)(wv:Value)(h:gI B w sb F x m u)(hs:(m.ak.length:Int)<(ax s).1):
  Calls Tryz.prog 199 #[.pointer (some ⟨x.mb,0,none⟩),.string s,wv] w fun r w'=>r=.returned (.tuple #[])∧di B w sb F x {m with done:=true,ed:=1} u w':=by
 obtain⟨c0,c1,c2,c3,c4,hlt⟩:=h.cells;obtain⟨ad,cap,dI,_,_⟩:=ag h.eP;rw[dI,List.length_reverse]at c2;have hl:=h.len.2.1;have HS:=ast (jE 1 h);have HT:=ast (fun w=>bF s w);obtain⟨T,hT⟩:=exq (ax s);rw[←hT]at hs HT;clear hT;obtain⟨t,p,ok⟩:=T;simp only at hs HT;clear h dI c0 c1 c3 c4;generalize m.ak.length=k at *;go_enter Tryz.func199,Tryz.ntmps199
 go_wp2_with fail
 refine(HT.out _).mono ?_;rintro e w' ⟨rfl,rfl⟩;go_wp2_with fail
 refine HS.out.mono ?_;rintro e w2 ⟨rfl,hd⟩;have HD:=ast hd;clear hd HS HT;go_wp2_with fail
 exact bodyPost_ret (results_none rfl _ _ _) rfl ⟨rfl,_,HD.out⟩
end
end
end Go.Proofs.YtcphhbofjkenaaaGreatDoor
