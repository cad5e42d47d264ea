import Derived.Test.YtcphhbofjkenaaaGreatDoorQ04
namespace Go.Proofs.YtcphhbofjkenaaaGreatDoor
open Go Go.RowKit
set_option linter.all false
set_option maxRecDepth 100000
set_option maxHeartbeats 16000000
section
section
variable{b:List RW}{a:List Tk}{fin:Int}{f:Nat}{ends:List ByteArray}{d:Int}{e:List AI}{I:Nat}
theorem ag5(h:cF (aV a I) ends=true):pItems b a fin (f+1) ends d e I=.inl (e,aV a I,I+1):=by rw[pItems,aG h]
theorem Z7(h:cF (aV a I) ends=false)(c:cF (aV a I) iT=true):pItems b a fin (f+1) ends d e I=.inr (5,cR a fin I):=by rw[pItems,ay yh,aG c]
theorem afL(h:cF (aV a I) ends=false)(h2:cF (aV a I) iT=false)(c:(eI (aV a I)).2=true):pItems b a fin (f+1) ends d e I=pItems b a fin f ends d (e++[⟨some (eI (aV a I)).1,Inf.plain 0 1,.num (eI (aV a I)).1⟩]) (I+1):=by rw[pItems,ay yh,ay DG,aG c]
theorem p_if(h:cF (aV a I) ends=false)(h2:cF (aV a I) iT=false)(c:(eI (aV a I)).2=false)(g:((aV a I).toList==[105,102])=true):pItems b a fin (f+1) ends d e I=match pBr b a fin f d (I+1)with|.inr r=>.inr r|.inl (x,i)=>pItems b a fin f ends d (e++[x]) i:=by rw[pItems,ay yh,ay DG,ay (by simp[c]),aG g];unfold pBr;cases pItems b a fin f [kU,fK] d [] (I+1)with|inr r=>rfl|inl q=>obtain⟨l,m,j⟩:=q;simp only;split;{cases pItems b a fin f [fK] d [] j with|inr r=>rfl|inl k=>obtain⟨n,o,s⟩:=k;simp only;split<;>rfl};split<;>rfl
theorem aeR(h:cF (aV a I) ends=false)(h2:cF (aV a I) iT=false)(c:(eI (aV a I)).2=false)(g:((aV a I).toList==[105,102])=false)(i:((aV a I).toList==[100,111])=true):pItems b a fin (f+1) ends d e I=match pLp b a fin f d e I with|.inr r=>.inr r|.inl (x,j)=>pItems b a fin f ends d (e++[x]) j:=by rw[pItems,ay yh,ay DG,ay (by simp[c]),ay (by simp[g]),aG i];unfold pLp;cases lastTwo e with|none=>rfl|some q=>obtain⟨n,o⟩:=q;simp only;split;{rfl};cases pItems b a fin f [lY] (d+1) [] (I+1)with|inr r=>rfl|inl q=>obtain⟨k,l,m⟩:=q;simp only;split<;>rfl
theorem aar(h:cF (aV a I) ends=false)(h2:cF (aV a I) iT=false)(c:(eI (aV a I)).2=false)(g:((aV a I).toList==[105,102])=false)(i:((aV a I).toList==[100,111])=false):pItems b a fin (f+1) ends d e I=if nQ b (aV a I) d=0 then pItems b a fin f ends d (e++[⟨none,wordI b (aV a I),xW b (aV a I)⟩]) (I+1)else .inr (nQ b (aV a I) d,cR a fin I):=by rw[pItems,ay yh,ay DG,ay (by simp[c]),ay (by simp[g]),ay (by simp[i])]
end
theorem af5{a:List Tk}{I:Nat}(c:I<=a.length)(h:cF (aV a I) iT=false):I<a.length:=by rcases lx I a.length with b|b;{exact b};exfalso;(have:aV a I=⟨#[]⟩:=by simp[aV,List.getD,jq b]);rw[this]at h;exact absurd h eV
def vW(n:Int):Array Value:= #[ae 1,ae n,.string ⟨#[]⟩,aH,aH]
theorem YV(a:Nat)(d:Value)(b:List RW)(c k:Int)(w:World)(n:Int)(e: -2147483648<=n/\n<=2147483647):Av a d b c k (λ_=>False) w (vW n) (Inf.plain 0 1) (.num n):=λf _=>⟨.num n e,λ_=>afR a _ _ _ _ rfl rfl rfl rfl f⟩
theorem YE{sb:Nat}{sv:Value}{b:List RW}{c k:Int}{w:World}(v:b.length<=1100000)(y:∀x∈b,x.inf.Wt 1/\∃a n c,x.items=.slice a n c)(t:ByteArray):Av sb sv b c k (λ_=>False) w (ym b t) (wordI b t) (xW b t):=by intro q _;refine⟨?_,λl=>?_⟩;{unfold ym xW;split;{rename_i e;rw[<-Int.toNat_of_nonneg e];exact .own _};exact .op t};unfold ym wordI;by_cases e:0<=cY b t;{rw[aG e,aG e];have z:cY b t<b.length:=(BV (nameAt b) t b.length).1;obtain⟨i,A⟩:∃i:Nat,cY b t=i:=⟨_,(Int.toNat_of_nonneg e).symm⟩;have d:i<b.length:=ag;obtain⟨g,m,r,_,_,f,_,o⟩:=bT l.row ag;rw[A,ra,bD d];have s:=y b[i] (qu d);exact agy sb g m b.length i b[i] (.string ⟨#[]⟩) aH aH rfl rfl rfl q d v f s.2 (s.1.ok ag ag) (by rw[<-r];exact l.blk.cell 0 sv rfl) (λj u B C=>Fs l.row r i j d u B C)};rw[ay e,ay e];exact abJ sb _ t _ _ rfl rfl rfl q
theorem agv(b:List RW)(t:ByteArray):∃(k n:Int)(s:ByteArray),ym b t= #[ae k,ae n,.string s,aH,aH]/\k≠1:=by unfold ym;split;{exact⟨3,_,_,rfl,aj⟩};exact⟨2,_,_,rfl,aj⟩
end
end Go.Proofs.YtcphhbofjkenaaaGreatDoor
