import Derived.Test.YtcphhbofjkenaaaGreatDoorM11
namespace Go.Proofs.YtcphhbofjkenaaaGreatDoor
open Go Go.RowKit
set_option linter.unusedVariables false
set_option linter.unusedSimpArgs false
set_option maxRecDepth 100000
set_option maxHeartbeats 16000000
section
section
variable{ws:List RW}{ar:List Tk}{fin:Int}{f:Nat}{ends:List ByteArray}{loops:Int}{acc:List AI}{I:Nat}
theorem Vu(h:ck (aS ar I) ends=true):pItems ws ar fin (f+1) ends loops acc I=.inl (acc,aS ar I,I+1):=by rw[pItems,aG h]
theorem adg(h:ck (aS ar I) ends=false)(h2:ck (aS ar I) gw=true):pItems ws ar fin (f+1) ends loops acc I=.inr (5,cE ar fin I):=by rw[pItems,az tV,aG h2]
theorem aaG(h:ck (aS ar I) ends=false)(h2:ck (aS ar I) gw=false)(h3:(dC (aS ar I)).2=true):pItems ws ar fin (f+1) ends loops acc I=pItems ws ar fin f ends loops (acc++[⟨some (dC (aS ar I)).1,Inf.plain 0 1,.num (dC (aS ar I)).1⟩]) (I+1):=by rw[pItems,az tV,az yt,aG h3]
theorem p_if(h:ck (aS ar I) ends=false)(h2:ck (aS ar I) gw=false)(h3:(dC (aS ar I)).2=false)(h4:((aS ar I).toList == [105,102])=true):
  pItems ws ar fin (f+1) ends loops acc I=match pBr ws ar fin f loops (I+1)with|.inr r=>.inr r|.inl (x,I')=>pItems ws ar fin f ends loops (acc++[x]) I':=by
 rw[pItems,az tV,az yt,az (by simp[h3]),aG h4];unfold pBr
 cases pItems ws ar fin f [jm,eC] loops [] (I+1)with
 |inr r=>rfl
 |inl q=>
  obtain⟨la,ta,I1⟩:=q;simp only
  split
  ·cases pItems ws ar fin f [eC] loops [] I1 with
   |inr r=>rfl
   |inl q2=>
    obtain⟨lb,tb,I2⟩:=q2;simp only
    split<;>rfl
  ·split<;>rfl
theorem Z8(h:ck (aS ar I) ends=false)(h2:ck (aS ar I) gw=false)(h3:(dC (aS ar I)).2=false)(h4:((aS ar I).toList == [105,102])=false)(h5:((aS ar I).toList == [100,111])=true):
  pItems ws ar fin (f+1) ends loops acc I=match pLp ws ar fin f loops acc I with|.inr r=>.inr r|.inl (x,I')=>pItems ws ar fin f ends loops (acc++[x]) I':=by
 rw[pItems,az tV,az yt,az (by simp[h3]),az (by simp[h4]),aG h5];unfold pLp
 cases lastTwo acc with
 |none=>rfl
 |some q=>
  obtain⟨a,b⟩:=q;simp only
  split
  ·rfl
  ·cases pItems ws ar fin f [jV] (loops+1) [] (I+1)with
   |inr r=>rfl
   |inl q=>
    obtain⟨la,ta,I1⟩:=q;simp only
    split<;>rfl
theorem UA(h:ck (aS ar I) ends=false)(h2:ck (aS ar I) gw=false)(h3:(dC (aS ar I)).2=false)(h4:((aS ar I).toList == [105,102])=false)(h5:((aS ar I).toList == [100,111])=false):
  pItems ws ar fin (f+1) ends loops acc I=if lp ws (aS ar I) loops=0 then pItems ws ar fin f ends loops (acc++[⟨none,wordI ws (aS ar I),tF ws (aS ar I)⟩]) (I+1)else .inr (lp ws (aS ar I) loops,cE ar fin I):=by
 rw[pItems,az tV,az yt,az (by simp[h3]),az (by simp[h4]),az (by simp[h5])]
end
theorem ado{ar:List Tk}{I:Nat}(hI:I≤ar.length)(h:ck (aS ar I) gw=false):I<ar.length:=by
 rcases kh I ar.length with h1|h1
 ·exact h1
 ·exfalso
  have:aS ar I=⟨#[]⟩:=by simp[aS,List.getD,jh h1]
  rw[this]at h;exact absurd h dJ
def sQ(n:Int):Array Value:= #[ae 1,ae n,.string ⟨#[]⟩,aI,aI]
theorem YK(sb:Nat)(sv:Value)(ws:List RW)(c k:Int)(w:World)(n:Int)(hn: -2147483648≤n∧n≤2147483647):uA sb sv ws c k (fun _=>False) w (sQ n) (Inf.plain 0 1) (.num n):=
 fun w' _=>⟨.num n hn,fun _=>Zc sb _ _ _ _ rfl rfl rfl rfl w'⟩
theorem XV{sb:Nat}{sv:Value}{ws:List RW}{c k:Int}{w:World}(fR:ws.length≤1100000)(Dg:∀x∈ws,x.inf.Wt 1∧∃a n c,x.items=.slice a n c)(t:ByteArray):uA sb sv ws c k (fun _=>False) w (tK ws t) (wordI ws t) (tF ws t):=by
 intro w' _;refine⟨?_,fun hS=>?_⟩
 ·unfold tK tF
  split
  ·rename_i hp
   rw[←Int.toNat_of_nonneg hp];exact .own _
  ·exact .op t
 unfold tK wordI
 by_cases hp:0≤cL ws t
 ·rw[aG hp,aG hp]
  have hlt:cL ws t<ws.length:=(xG (nameAt ws) t ws.length).1;obtain⟨i,hi⟩:∃i:Nat,cL ws t=i:=⟨_,(Int.toNat_of_nonneg hp).symm⟩;have hil:i<ws.length:=ag;obtain⟨g,cap,hv,_,_,hcap,_,hcell⟩:=cd hS.row ag;rw[hi,rL,bE hil];have hx:=Dg ws[i] (nS hil);exact abf sb g cap ws.length i ws[i] (.string ⟨#[]⟩) aI aI rfl rfl rfl w' hil fR hcap hx.2 (hx.1.ok ag ag) (by rw[←hv];exact hS.blk.cell 0 sv rfl) (fun j u hj hu=>Dx hS.row hv i j hil u hj hu)
 ·rw[az hp,az hp]
  exact aa6 sb _ t _ _ rfl rfl rfl w'
theorem XQ(ws:List RW)(t:ByteArray):∃(k n:Int) (s:ByteArray),tK ws t= #[ae k,ae n,.string s,aI,aI]∧k≠1:=by
 unfold tK
 split
 ·exact⟨3,_,_,rfl,aj⟩
 ·exact⟨2,_,_,rfl,aj⟩
end
end Go.Proofs.YtcphhbofjkenaaaGreatDoor
