import Derived.Test.YtcphhbofjkenaaaGreatDoorM12
namespace Go.Proofs.YtcphhbofjkenaaaGreatDoor
open Go Go.RowKit
set_option linter.unusedVariables false
set_option linter.unusedSimpArgs false
set_option maxRecDepth 100000
set_option maxHeartbeats 16000000
section
section
variable{ws:List RW}{ae:List Tk}{fin:Int}{f:Nat}{ends:List ByteArray}{loops:Int}{acc:List AI}{I:Nat}
theorem aeP(h:jH (aC ae I) ends=true):aJ ws ae fin (f+1) ends loops acc I=.inl (acc,aC ae I,I+1):=by rw[aJ,if_pos h]
theorem XE(h:jH (aC ae I) ends=false)(h2:jH (aC ae I) fQ=true):aJ ws ae fin (f+1) ends loops acc I=.inr (5,kz ae fin I):=by rw[aJ,if_neg (by simp[h]),if_pos h2]
theorem aeQ(h:jH (aC ae I) ends=false)(h2:jH (aC ae I) fQ=false)(h3:(fZ (aC ae I)).2=true):aJ ws ae fin (f+1) ends loops acc I=aJ ws ae fin f ends loops (acc++[⟨some (fZ (aC ae I)).1,Inf.plain 0 1,.num (fZ (aC ae I)).1⟩]) (I+1):=by rw[aJ,if_neg (by simp[h]),if_neg (by simp[h2]),if_pos h3]
theorem ajE(h:jH (aC ae I) ends=false)(h2:jH (aC ae I) fQ=false)(h3:(fZ (aC ae I)).2=false)(h4:((aC ae I).toList == [105,102])=true):
  aJ ws ae fin (f+1) ends loops acc I=match OY ws ae fin f loops (I+1)with|.inr r=>.inr r|.inl (x,I')=>aJ ws ae fin f ends loops (acc++[x]) I':=by
 rw[aJ,if_neg (by simp[h]),if_neg (by simp[h2]),if_neg (by simp[h3]),if_pos h4];unfold OY
 cases aJ ws ae fin f [iQ,dO] loops [] (I+1)with
 |inr r=>rfl
 |inl q=>
  obtain⟨la,ta,I1⟩:=q;simp only
  split
  ·cases aJ ws ae fin f [dO] loops [] I1 with
   |inr r=>rfl
   |inl q2=>
    obtain⟨lb,tb,I2⟩:=q2;simp only
    split<;>rfl
  ·split<;>rfl
theorem ajF(h:jH (aC ae I) ends=false)(h2:jH (aC ae I) fQ=false)(h3:(fZ (aC ae I)).2=false)(h4:((aC ae I).toList == [105,102])=false)(h5:((aC ae I).toList == [100,111])=true):
  aJ ws ae fin (f+1) ends loops acc I=match Kt ws ae fin f loops acc I with|.inr r=>.inr r|.inl (x,I')=>aJ ws ae fin f ends loops (acc++[x]) I':=by
 rw[aJ,if_neg (by simp[h]),if_neg (by simp[h2]),if_neg (by simp[h3]),if_neg (by simp[h4]),if_pos h5];unfold Kt
 cases gp acc with
 |none=>rfl
 |some q=>
  obtain⟨a,b⟩:=q;simp only
  split
  ·rfl
  ·cases aJ ws ae fin f [jg] (loops+1) [] (I+1)with
   |inr r=>rfl
   |inl q=>
    obtain⟨la,ta,I1⟩:=q;simp only
    split<;>rfl
theorem aaT(h:jH (aC ae I) ends=false)(h2:jH (aC ae I) fQ=false)(h3:(fZ (aC ae I)).2=false)(h4:((aC ae I).toList == [105,102])=false)(h5:((aC ae I).toList == [100,111])=false):
  aJ ws ae fin (f+1) ends loops acc I=if kC ws (aC ae I) loops=0 then aJ ws ae fin f ends loops (acc++[⟨none,mJ ws (aC ae I),sD ws (aC ae I)⟩]) (I+1)else .inr (kC ws (aC ae I) loops,kz ae fin I):=by
 rw[aJ,if_neg (by simp[h]),if_neg (by simp[h2]),if_neg (by simp[h3]),if_neg (by simp[h4]),if_neg (by simp[h5])]
end
theorem Pn{ae:List Tk}{I:Nat}(hI:I≤ae.length)(h:jH (aC ae I) fQ=false):I<ae.length:=by
 rcases Nat.lt_or_ge I ae.length with h1|h1
 ·exact h1
 ·exfalso
  have:aC ae I=⟨#[]⟩:=by simp[aC,List.getD,List.getElem?_eq_none h1]
  rw[this]at h;exact absurd h (by decide +kernel)
def Aj(n:Int):Array Value:= #[.int .i64 1,.int .i64 n,.string ⟨#[]⟩,.slice none 0 0,.slice none 0 0]
theorem TN(sb:Nat)(sv:Value)(ws:List RW)(c k:Int)(w:World)(n:Int)(hn: -2147483648≤n∧n≤2147483647):oI sb sv ws c k (fun _=>False) w (Aj n) (Inf.plain 0 1) (.num n):=
 fun w' _=>⟨.num n hn,fun _=>J3 sb _ _ _ _ rfl rfl rfl rfl w'⟩
theorem Po{sb:Nat}{sv:Value}{ws:List RW}{c k:Int}{w:World}(sS:ws.length≤1100000)(XF:∀x∈ws,x.inf.Wt 1∧∃a n c,x.items=.slice a n c)(t:ByteArray):oI sb sv ws c k (fun _=>False) w (su ws t) (mJ ws t) (sD ws t):=by
 intro w' _;refine⟨?_,fun hS=>?_⟩
 ·unfold su sD
  split
  ·rename_i hp
   rw[←Int.toNat_of_nonneg hp];exact .own _
  ·exact .op t
 unfold su mJ
 by_cases hp:0≤dB ws t
 ·rw[if_pos hp,if_pos hp]
  have hlt:dB ws t<ws.length:=(qy (nameAt ws) t ws.length).1;obtain⟨i,hi⟩:∃i:Nat,dB ws t=i:=⟨_,(Int.toNat_of_nonneg hp).symm⟩;have JD:i<ws.length:=by omega
  obtain⟨g,cap,hv,_,_,hcap,_,hcell⟩:=aB hS.row (by omega);rw[hi,Int.toNat_natCast,List.getElem?_eq_getElem JD];have hx:=XF ws[i] (List.getElem_mem JD);exact J4 sb g cap ws.length i ws[i] (.string ⟨#[]⟩) (.slice none 0 0) (.slice none 0 0) rfl rfl rfl w' JD sS hcap hx.2 (hx.1.ok (by omega) (by omega)) (by rw[←hv];exact hS.blk.cell 0 sv rfl) (fun j u hj hu=>zf hS.row hv i j JD u hj hu)
 ·rw[if_neg hp,if_neg hp]
  exact EE sb _ t _ _ rfl rfl rfl w'
theorem Ky(ws:List RW)(t:ByteArray):∃(k n:Int) (s:ByteArray),su ws t= #[.int .i64 k,.int .i64 n,.string s,.slice none 0 0,.slice none 0 0]∧k≠1:=by
 unfold su
 split
 ·exact⟨3,_,_,rfl,by decide⟩
 ·exact⟨2,_,_,rfl,by decide⟩
end
end Go.Proofs.YtcphhbofjkenaaaGreatDoor
