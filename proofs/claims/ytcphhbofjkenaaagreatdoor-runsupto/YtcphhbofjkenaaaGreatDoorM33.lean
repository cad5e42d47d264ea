import Derived.Test.YtcphhbofjkenaaaGreatDoorM26
namespace Go.Proofs.YtcphhbofjkenaaaGreatDoor
open Go Go.RowKit
set_option linter.unusedVariables false
set_option linter.unusedSimpArgs false
set_option maxRecDepth 100000
set_option maxHeartbeats 16000000
section
attribute [local go_sem] dK
def nZ(cs:Array Value):List Int→Prop
 |[]=>True
 |x :: r=>cs[r.length]?=some (.int .i64 x)∧nZ cs r
theorem nZ.congr{cs cs':Array Value}:∀{s:List Int},nZ cs s→(∀i,i<s.length→cs'[i]?=cs[i]?)→nZ cs' s
 |[],_,_=>trivial
 |x :: r,h,he=>⟨(he r.length (by simp)).trans h.1,h.2.congr (fun i hi=>he i (by simp;omega))⟩
structure MC (cs:Array Value) (s:List Int):Prop where
 size:cs.size=39
 ak:nZ cs s
 dep:cs[32]?=some (.int .i64 s.length)
 le:s.length≤32
 any:∀i,i<32→∃z:Int,cs[i]?=some (.int .i64 z)
def Rest(cs cs':Array Value):Prop:=∀i,33≤i→cs'[i]?=cs[i]?
theorem MC.pop{cs:Array Value}{x:Int}{s:List Int}(h:MC cs (x :: s)):MC (cs.setIfInBounds 32 (.int .i64 s.length)) s∧Rest cs (cs.setIfInBounds 32 (.int .i64 s.length)):=by
 have hl:=h.le;simp at hl;refine⟨⟨by simp[h.size],h.ak.2.congr (fun i hi=>?_),?_,by omega,fun i hi=>?_⟩,fun i hi=>?_⟩
 ·rw[Array.getElem?_setIfInBounds_ne (by omega)]
 ·rw[Array.getElem?_setIfInBounds_self_of_lt (by rw[h.size];omega)]
 ·rw[Array.getElem?_setIfInBounds_ne (by omega)];exact h.any i hi
 ·rw[Array.getElem?_setIfInBounds_ne (by omega)]
theorem Qx{w:World}{mb:Nat}{cs:Array Value}{x:Int}{s:List Int}(hb:az w mb cs 116)(h:MC cs (x :: s)):
  Calls Tryz.prog 108 #[.pointer (some ⟨mb,0,none⟩)] w fun e w'=>e=.returned (.int .i64 x)∧∃cs',az w' mb cs' 116∧MC cs' s∧Rest cs cs'∧aj (fun b=>b=mb) w w':=by
 have FV:w.cell? ⟨mb,32,none⟩=some (.int .i64 ((s.length:Int)+1)):=by have:=hb.cell 32 _ h.dep;simpa using this
 have f32:=hb.frozen 32;have hl:=h.le;simp at hl;obtain⟨X,hX⟩:=exq (w.setCell ⟨mb,32,none⟩ (.int .i64 s.length):World);obtain⟨hp,hr⟩:=h.pop;have bU:az X mb (cs.setIfInBounds 32 (.int .i64 s.length)) 116:=by rw[hX];exact hb.set (o:=32) _
 have x32:X.cell? ⟨mb,32,none⟩=some (.int .i64 s.length):=bU.cell 32 _ hp.dep;have xs:X.cell? ⟨mb,s.length,none⟩=some (.int .i64 x):=bU.cell s.length _ (by rw[Array.getElem?_setIfInBounds_ne (by omega)];exact h.ak.1);have vF:aj (fun b=>b=mb) w X:=by rw[hX];exact(aj.refl (fun b=>b=mb) w).setCell (p:=⟨mb,32,none⟩) rfl _
 have zB:=bU.lt;have hmw:=hb.lt;have HX:=ast hX;have jX:=ast bU;have vz:=ast vF;have HP:=ast (And.intro hp hr);have hs0:(0:Int)≤(s.length:Int):=by omega
 have hs1:(s.length:Int)<32:=by omega
 clear hX bU vF hp hr h hb;go_enter Tryz.func108,Tryz.ntmps108
 go_upto_region 2 with fail
 rw[←HX.out];clear FV f32;go_wp2_with fail
 go_quiet (fail)
 go_wp2_with fail
 go_ret
 have hbq:Below X.heap.size X (X.drewN nq):=bdq;exact⟨rfl,_,jX.out.sub hbq jX.out.lt,HP.out.1,HP.out.2,vz.out.trans (aj.au hbq)⟩
theorem VH{w:World}{mb:Nat}{cs:Array Value}{x:Int}{s:List Int}(hb:az w mb cs 116)(h:MC cs (x :: s)):
  Calls Tryz.prog 139 #[.pointer (some ⟨mb,0,none⟩)] w fun e w'=>e=.returned (.int .i64 x)∧Below w.heap.size w w':=by
 have FV:w.cell? ⟨mb,32,none⟩=some (.int .i64 ((s.length:Int)+1)):=by have:=hb.cell 32 _ h.dep;simpa using this
 have hl:=h.le;simp at hl;have xs:w.cell? ⟨mb,s.length,none⟩=some (.int .i64 x):=hb.cell s.length _ h.ak.1;have hmw:=hb.lt;have hs0:(0:Int)≤(s.length:Int):=by omega
 have hs1:(s.length:Int)<32:=by omega
 clear h hb;go_enter Tryz.func139,Tryz.ntmps139
 go_wp2_with fail
 go_quiet (fail)
 go_wp2_with fail
 go_ret
 exact⟨rfl,⟨rfl,rfl,rfl,nrq,fun _ _=>rfl⟩⟩
theorem nZ.put{cs:Array Value}:∀(ys s:List Int),nZ cs s→(∀i y,ys[i]?=some y→cs[s.length+i]?=some (.int .i64 y))→nZ cs (ys.reverse++s)
 |[],s,h,_=>h
 |y :: l,s,h,hy=>by
  have h1:nZ cs (y :: s):=⟨hy 0 y rfl,h⟩
  have:=nZ.put l (y :: s) h1 (fun i z hz=>by
   have:=hy (i+1) z hz;rw[List.length_cons,Nat.add_assoc,Nat.add_comm 1 i];exact this)
  simpa using this
def vY(cs:Array Value)(d:Nat)(ys:List Int):Array Value:=(cs.toList.take d++(ys.map (Value.int .i64))++cs.toList.drop (d+ys.length)).toArray
theorem Bj(cs:Array Value)(d:Nat)(ys:List Int)(i:Nat)(h:d+ys.length≤cs.size):(vY cs d ys)[i]?=if i<d then cs[i]? else if i<d+ys.length then(ys.map (Value.int .i64))[i - d]? else cs[i]?:=by
 unfold vY;rw[List.getElem?_toArray];have h1:(cs.toList.take d).length=d:=by rw[List.length_take,Array.length_toList];omega
 split
 ·rename_i hi
  rw[List.append_assoc,List.getElem?_append_left (by omega),List.getElem?_take,if_pos hi,Array.getElem?_toList]
 ·rename_i hi
  split
  ·rename_i h2
   rw[List.append_assoc,List.getElem?_append_right (by omega),h1,List.getElem?_append_left (by simp;omega)]
  ·rename_i h2
   rw[List.getElem?_append_right (by rw[List.length_append,h1];simp;omega),List.length_append,h1,List.length_map,List.getElem?_drop,Array.getElem?_toList]
   congr 1;omega
theorem MC.push{cs:Array Value}{s:List Int}(h:MC cs s)(ys:List Int)(hy:s.length+ys.length≤32):
  MC ((vY cs s.length ys).setIfInBounds 32 (.int .i64 ((s.length:Int)+ys.length))) (ys.reverse++s)∧Rest cs ((vY cs s.length ys).setIfInBounds 32 (.int .i64 ((s.length:Int)+ys.length))):=by
 have hs:=h.size;have hsz:(vY cs s.length ys).size=39:=by unfold vY;simp[hs];omega
 have hg:=fun i=>Bj cs s.length ys i (by omega)
 refine⟨⟨by simp[hsz],?_,?_,by simp;omega,fun i hi=>?_⟩,fun i hi=>?_⟩
 ·refine nZ.put ys s (h.ak.congr (fun i hi=>?_)) (fun i y hi=>?_)
  ·rw[Array.getElem?_setIfInBounds_ne (by omega),hg,if_pos hi]
  ·have JD:=(List.getElem?_eq_some_iff.1 hi).1
   rw[Array.getElem?_setIfInBounds_ne (by omega),hg,if_neg (by omega),if_pos (by omega),Nat.add_sub_cancel_left,List.getElem?_map,hi];rfl
 ·rw[Array.getElem?_setIfInBounds_self_of_lt (by rw[hsz];omega)];simp;omega
 ·rw[Array.getElem?_setIfInBounds_ne (by omega),hg]
  split
  ·exact h.any i hi
  ·split
   ·rename_i h1 h2
    obtain⟨y,hy⟩:∃y,ys[i - s.length]?=some y:=⟨_,List.getElem?_eq_getElem (by omega)⟩;exact⟨y,by rw[List.getElem?_map,hy];rfl⟩
   ·exact h.any i hi
 ·rw[Array.getElem?_setIfInBounds_ne (by omega),hg,if_neg (by omega),if_neg (by omega)]
theorem FW:(Tryz.prog.info? 3).map (·.size)=some 1:=by kernel_rfl
theorem VI{w:World}{mb lb cap:Nat}{cs:Array Value}{s:List Int}(ys:List Int)(hb:az w mb cs 116)(h:MC cs s)(LQ:s.length<32)(hy:s.length+ys.length≤32)(hlb:lb≠mb)(hll:lb<w.heap.size)(hcap:ys.length≤cap)
  (hl:∀(i:Nat) (y:Int),ys[i]?=some y→w.cell? ⟨lb,i,none⟩=some (.int .i64 y)):
  Calls Tryz.prog 106 #[.pointer (some ⟨mb,0,none⟩),.slice (some ⟨lb,0,none⟩) ys.length cap] w fun e w'=>e=.returned (.tuple #[])∧∃cs',az w' mb cs' 116∧MC cs' (ys.reverse++s)∧Rest cs cs'∧aj (fun b=>b=mb) w w':=by
 have FV:w.cell? ⟨mb,32,none⟩=some (.int .i64 s.length):=hb.cell 32 _ h.dep;obtain⟨hp,hr⟩:=h.push ys hy;have hsz:=h.size;have hmw:=hb.lt;have hs0:(0:Int)≤(s.length:Int):=by omega
 have hs1:(s.length:Int)≤32:=by omega
 have hs2:¬32=s.length:=by omega
 have Qy:=run_copy_row (P:=Tryz.prog) w.drew 24 24 3 3 mb s.length (32 - s.length) (32 - s.length) ⟨lb,0,none⟩ ys.length cap cs 116 (ys.map (Value.int .i64)) Tryz.underlying24 FW hb (by rw[List.length_map];exact(Nat.min_eq_left (by omega)).symm) (fun j v hj=>by
  rw[List.getElem?_map]at hj;obtain⟨y,hy1,rfl⟩:=Option.map_eq_some_iff.1 hj;rw[Addr.add_lit,Nat.zero_add];exact hl j y hy1) (by rw[List.length_map];omega) (fun v hv=>by
  obtain⟨y,_,rfl⟩:=List.mem_map.1 hv;rfl)
 rw[List.length_map]at Qy;obtain⟨X,hX⟩:=exq (w.drew.setRow mb (vY cs s.length ys):World);have Qz:(Builtin.copy_ #[24,24] 3 #[.slice (some ⟨mb,s.length,none⟩) (32 - s.length) (32 - s.length),.slice (some ⟨lb,0,none⟩) ys.length cap]).run Tryz.prog w.drew=.ok (.int .i64 ys.length) X:=by rw[hX];exact Qy
 have bU:az X mb (vY cs s.length ys) 116:=by rw[hX];exact setRow_heap w.drew mb _ _ _ _ hb
 have vF:aj (fun b=>b=mb) w X:=by rw[hX];exact(aj.refl (fun b=>b=mb) w).drew.trans ⟨rfl,rfl,rfl,by simp[World.setRow],fun k hk hne=>setRow_other w.drew mb k _ (fun e=>hne e)⟩
 have x32:X.cell? ⟨mb,32,none⟩=some (.int .i64 s.length):=bU.cell 32 _ (by
  rw[Bj cs s.length ys 32 (by omega),if_neg (by omega),if_neg (by omega)];exact h.dep)
 have k0:∀u:{w':World // w'=w.drew∨w'=X},u.val.cell? ⟨mb,32,none⟩=some (.int .i64 s.length):=fun u=>by
  rcases u.property with e|e
  ·rw[e];exact FV
  ·rw[e];exact x32
 have hne:Nonempty {w':World // w'=w.drew∨w'=X}:=⟨⟨X,Or.inr rfl⟩⟩;have HP:=ast (And.intro hp hr);have jX:=ast bU;have vz:=ast vF;have HCP:=ast Qz;have hfz:=bU.frozen 32;have akN:=bU.lt;clear Qy Qz hX bU vF h hb hp hr FV hl;go_enter Tryz.func106,Tryz.ntmps106
 refine aH (C:=fJ fun w'=>w'=w.drew∨w'=X) 15 [13] ⟨w.drew,Or.inl rfl⟩ (by kernel_rfl) (by kernel_rfl) rfl ?_;rw[show List.range 15=[0,1,2,3,4,5,6,7,8,9,10,11,12,13,14]from rfl]
 repeat (refine aO rfl rfl (fun K hK=>?_);go_simp;refine hK _ ?_;clear hK K)
 have Qy:=HCP.out;refine eu rfl rfl (.int .i64 ys.length) X (Or.inr rfl) (Or.inl (by go_simp)) ?_;clear Qy HCP
 repeat (refine aO rfl rfl (fun K hK=>?_);go_simp;refine hK _ ?_;clear hK K)
 refine df ?_;intro w' hw';rw[show w'=X from hw'];clear hw' w' k0 hne;simp only[List.drop_succ_cons,List.drop_zero];go_wp2_with fail
 go_end0
 exact⟨rfl,_,jX.out.set (o:=32) _,HP.out.1,HP.out.2,vz.out.setCell (p:=⟨mb,32,none⟩) rfl _⟩
end
section
theorem Tryz.lY:(Tryz.prog.info? 3).map (fun i=>(i.zero,i.size,i.bytes))=some (some (.int .i64 0),1,8):=by kernel_rfl
theorem Tryz.ab7:(Tryz.prog.info? 237).map (fun i=>(i.zero,i.size,i.bytes))=some (some (.agg #[.int .i64 0,.int .i64 0]),2,16):=by kernel_rfl
theorem Ja(W:World)(x:Array Value)(t:TypeId):∀(j:Nat) (u:Value),x.toList[j]?=some u→(W.alloc (.cells x t (0,0))).cell? ((Addr.mk W.heap.size 0 none).add j)=some u:=World.news_of_block (fr:=(0,0)) (heap_alloc_new W _)
theorem Tryz.Ku:(Tryz.prog.info? 249).map (fun i=>(i.zero,i.size,i.bytes))=some (some (.agg cZ),5,80):=by kernel_rfl
theorem kP{x:Array Value}(h:five x):∀u∈x.toList,u.oneCell'=true:=by
 obtain⟨k,n,s,a1,n1,c1,a2,n2,c2,rfl⟩:=h;intro u hu;simp only[List.mem_cons,List.not_mem_nil,or_false]at hu;rcases hu with rfl|rfl|rfl|rfl|rfl<;>rfl
theorem ownsRow_pop{w:World}{base:Nat}{e:TypeId}{size g n cap:Nat}{xs ys:List Value}(h:w.ownsRow base e size (.slice (some ⟨g,0,none⟩) (n+1) cap) (n+1) (xs++ys))(hl:xs.length=n*size):w.ownsRow base e size (.slice (some ⟨g,0,none⟩) n cap) n xs:=by
 refine⟨hl,?_⟩;rcases h.2 with ⟨h0,_⟩|⟨g',cap',cur,hv,h1,h2,h3,h4,h5,h6⟩
 ·cases h0
 ·obtain⟨rfl,rfl⟩:g=g'∧cap=cap':=by simpa using hv
  refine Or.inr ⟨g,cap,cur,rfl,h1,h2,by omega,h4,h5,?_⟩;have e:(xs++ys).take (n*size)=xs:=by rw[List.take_append_of_le_length (by omega),List.take_of_length_le (by omega)]
  have:=congrArg (List.take (n*size)) h6;rw[List.take_take,Nat.min_eq_left (Nat.mul_le_mul_right _ (by omega)),e]at this;exact this
abbrev ints(l:List Int):List Value:=l.map (Value.int .i64)
abbrev bP(B:Nat)(w:World)(v:Value)(l:List Int):Prop:=w.ownsRow B 3 1 v l.length (ints l)
abbrev xK(B:Nat)(w:World)(v:Value)(l:List (Int×Int)):Prop:=w.ownsRow B 237 2 v l.length (l.flatMap fun x=>[.int .i64 x.1,.int .i64 x.2])
theorem xM(l:List (Int×Int)):(l.flatMap fun x=>[Value.int .i64 x.1,.int .i64 x.2]).length=l.length*2:=flat_length (fun x:Int×Int=>[Value.int .i64 x.1,.int .i64 x.2]) 2 (fun _=>rfl) l
section
variable{w:World}{wp:Nat}{vv ov iv:Value}
theorem QA{va:Option Addr}{n vc:Nat}(hb:az w wp #[.slice va n vc,ov,iv] 118)(x:Int)(hn:n≤1000):
  Calls Tryz.prog 138 #[.pointer (some ⟨wp,0,none⟩),.int .i64 x] w fun e w'=>e=.returned (.bool (decide (0≤x∧x<n)))∧w'=w:=by
 have c0:w.cell? ⟨wp,0,none⟩=some (.slice va n vc):=hb.cell 0 _ rfl;have hl:=hb.lt;obtain⟨R,hR⟩:=exq (decide (0≤x∧x<(n:Int)));rw[←hR];clear hb
 by_cases h0:0≤x
 ·by_cases h1:x<(n:Int)
  ·have HR:Hid (R=true):=by show R=true;rw[hR];exact decide_eq_true ⟨h0,h1⟩
   clear hR;go_enter Tryz.func138,Tryz.ntmps138
   go_wp2_with fail
   rw[HR.out];go_ret
   exact⟨rfl,rfl⟩
  ·have HR:Hid (R=false):=by show R=false;rw[hR];exact decide_eq_false (fun h=>h1 h.2)
   clear hR;go_enter Tryz.func138,Tryz.ntmps138
   go_wp2_with fail
   rw[HR.out];go_ret
   exact⟨rfl,rfl⟩
 ·have HR:Hid (R=false):=by show R=false;rw[hR];exact decide_eq_false (fun h=>h0 h.1)
  clear hR;go_enter Tryz.func138,Tryz.ntmps138
  go_wp2_with fail
  rw[HR.out];go_ret
  exact⟨rfl,rfl⟩
theorem Ee{B:Nat}{g n cap:Nat}{l:List Int}(h:w.ownsRow B 3 1 (.slice (some ⟨g,0,none⟩) n cap) n (ints l)){i:Nat}{x:Int}(hx:l[i]?=some x)(hn:0<n):w.cell? ⟨g,i,none⟩=some (.int .i64 x):=by
 obtain⟨g',cap',hv,_,_,_,_,hc⟩:=aB h hn;obtain⟨rfl,rfl⟩:g=g'∧cap=cap':=by simpa using hv
 exact hc i _ (by rw[List.getElem?_map,hx];rfl)
theorem Jb{B:Nat}{l:List Int}(hb:az w wp #[vv,ov,iv] 118)(hv:bP B w vv l)(i:Nat)(hi:i<l.length)(hl:l.length≤1000):
  Calls Tryz.prog 143 #[.pointer (some ⟨wp,0,none⟩),.int .i64 i] w fun e w'=>e=.returned (.int .i64 (l.getD i 0))∧w'=w:=by
 obtain⟨g,cap,rfl,_,hg,hc,_,_⟩:=aB hv (by omega);have c0:w.cell? ⟨wp,0,none⟩=some (.slice (some ⟨g,0,none⟩) l.length cap):=hb.cell 0 _ rfl;have c1:=Ee hv (i:=i) (x:=l.getD i 0) (by simp[hi]) (by omega);have hlt:=hb.lt;obtain⟨x,hx⟩:=exq (l.getD i 0);rw[←hx]at c1 ⊢;obtain⟨n,hn⟩:=exq (l.length);rw[←hn]at c0 hi hl hc;have hii:(i:Int)<(n:Int):=by omega
 have hi0:(0:Int)≤(i:Int):=by omega
 clear hb hv hx hn;go_enter Tryz.func143,Tryz.ntmps143
 go_wp2_with fail
 go_ret
 exact⟨rfl,rfl⟩
theorem Jc{B:Nat}{l:List Int}(hb:az w wp #[vv,ov,iv] 118)(hv:bP B w vv l)(i:Nat)(x:Int)(hi:i<l.length)(hl:l.length≤1000):
  Calls Tryz.prog 144 #[.pointer (some ⟨wp,0,none⟩),.int .i64 i,.int .i64 x] w fun e w'=>e=.returned (.tuple #[])∧bP B w' vv (l.set i x)∧aj (fun b=>vv.ownBlock=some b) w w':=by
 obtain⟨g,cap,rfl,_,hg,hc,_,_⟩:=aB hv (by omega);have c0:w.cell? ⟨wp,0,none⟩=some (.slice (some ⟨g,0,none⟩) l.length cap):=hb.cell 0 _ rfl;have c1:=Ee hv (i:=i) (x:=l.getD i 0) (by simp[hi]) (by omega)
 have f1:w.frozen? ⟨g,i,none⟩=false:=by
  rcases hv.2 with ⟨h0,_⟩|⟨g',cap',cur,hv',_,hh,_⟩
  ·cases h0
  ·obtain⟨rfl,rfl⟩:g=g'∧cap=cap':=by simpa using hv'
   simp[World.frozen?,hh]
 have hlt:=hb.lt;obtain⟨y,hy⟩:∃x,x=l.getD i 0:=⟨_,rfl⟩;rw[←hy]at c1;have HV:=ast hv;obtain⟨n,hn⟩:=exq (l.length);rw[←hn]at c0 hi hl hc;have hii:(i:Int)<(n:Int):=by omega
 have hi0:(0:Int)≤(i:Int):=by omega
 have HN:=ast hn;clear hb hv hy hn;rw[←HN.out];go_enter Tryz.func144,Tryz.ntmps144
 go_wp2_with fail
 go_end0
 refine⟨rfl,?_,(aj.refl (fun b=>(Value.slice (some ⟨g,0,none⟩) n cap).ownBlock=some b) w).setCell (p:=⟨g,i,none⟩) rfl _⟩;have:=fO HV.out i (.int .i64 x);rw[←List.map_set]at this
 show World.ownsRow _ _ _ _ _ _ _
 rw[List.length_set,HN.out];exact this
def bz(B:Nat)(w:World)(iv:Value)(l:List Int):Prop:=
 (l=[]∧∃a c,iv=.slice a 0 c)∨∃pb po c,iv=.slice (some ⟨pb,po,none⟩) l.length c∧l.length≤c∧pb<B∧∀(j:Nat) (y:Int),l[j]?=some y→w.cell? ⟨pb,po+j,none⟩=some (.int .i64 y)
theorem bz.below{B:Nat}{w w':World}{iv:Value}{l:List Int}(h:bz B w iv l)(hb:Below B w w'):bz B w' iv l:=by
 rcases h with h|⟨pb,po,c,h1,h2,h3,h4⟩
 ·exact Or.inl h
 ·exact Or.inr ⟨pb,po,c,h1,h2,h3,fun j y hy=>by rw[hb.cell (p:=⟨pb,po+j,none⟩) h3];exact h4 j y hy⟩
theorem LU{B:Nat}{l:List Int}(hb:az w wp #[vv,ov,iv] 118)(hi:bz B w iv l)(hB:B≤wp)(hl:l.length≤2000000):
  Calls Tryz.prog 145 #[.pointer (some ⟨wp,0,none⟩)] w fun e w'=>e=.returned (.int .i64 (l.headD 0))∧∃LV,az w' wp #[vv,ov,LV] 118∧bz B w' LV l.tail∧aj (fun b=>b=wp) w w':=by
 have hlt:=hb.lt
 cases l with
 |nil=>
  obtain⟨a,c,rfl⟩:∃a c,iv=.slice a 0 c:=by
   rcases hi with ⟨_,h⟩|⟨pb,po,c,h,_⟩
   ·exact h
   ·exact⟨_,_,h⟩
  have c2:w.cell? ⟨wp,2,none⟩=some (.slice a 0 c):=hb.cell 2 _ rfl;have HB:=ast hb;clear hb hi;go_enter Tryz.func145,Tryz.ntmps145
  go_wp2_with fail
  go_ret
  exact⟨rfl,_,HB.out,Or.inl ⟨rfl,_,_,rfl⟩,aj.refl _ _⟩
 |cons x r=>
  obtain⟨pb,po,c,rfl,h2,h3,h4⟩:=hi.resolve_left (fun h=>by cases h.1);have c2:w.cell? ⟨wp,2,none⟩=some (.slice (some ⟨pb,po,none⟩) (x :: r).length c):=hb.cell 2 _ rfl;have p0:w.cell? ⟨pb,po,none⟩=some (.int .i64 x):=by have:=h4 0 x rfl;simpa using this
  have f2:=hb.frozen 2;simp only[List.length_cons]at h2 c2 hl;obtain⟨n,hn⟩:=exq (r.length);rw[←hn]at h2 c2 hl;have HB:=ast hb;have H4:=ast h4;have HN:=ast hn;have hz:(((n:Int)+1) == 0)=false:=by simp;omega
  have hz2:(((n+1:Nat):Int) == 0)=false:=by simp;omega
  have hpl:pb<w.heap.size:=by omega
  clear hb hi h4 hn
  by_cases hc1:c=1
  ·subst hc1
   obtain rfl:n=0:=by omega
   go_enter Tryz.func145,Tryz.ntmps145
   go_wp2_with fail
   go_ret
   have hr:r=[]:=List.eq_nil_of_length_eq_zero HN.out.symm;refine⟨rfl,_,by have:=HB.out.set (o:=2) (.slice (some ⟨pb,po,none⟩) 0 0);simpa using this,Or.inl ⟨hr,_,_,rfl⟩,(aj.refl (fun b=>b=wp) w).setCell (p:=⟨wp,2,none⟩) rfl _⟩
  ·have hcn:¬c=1:=hc1
   have aqc:¬1=c:=fun h=>hc1 h.symm
   go_enter Tryz.func145,Tryz.ntmps145
   go_wp2_with fail
   go_ret
   refine⟨rfl,_,by have:=HB.out.set (o:=2) (.slice (some ⟨pb,po+1,none⟩) n (c - 1));simpa using this,Or.inr ⟨pb,po+1,c - 1,by simp[HN.out],by simp only[List.tail_cons];have:=HN.out;omega,h3,fun j y hy=>?_⟩,(aj.refl (fun b=>b=wp) w).setCell (p:=⟨wp,2,none⟩) rfl _⟩;have h5:=H4.out (j+1) y hy;have hc:aj (fun b=>b=wp) w (w.setCell ⟨wp,2,none⟩ (.slice (some ⟨pb,po+1,none⟩) n (c - 1))):=(aj.refl (fun b=>b=wp) w).setCell (p:=⟨wp,2,none⟩) rfl _;rw[hc.cell (p:=⟨pb,po+1+j,none⟩) hpl (by show ¬pb=wp;omega),Nat.add_assoc,Nat.add_comm 1 j];exact h5
end
end
section
theorem LW{B:Nat}{w:World}{wp:Nat}{vv ov iv:Value}{l:List Int}(hb:az w wp #[vv,ov,iv] 118)(ho:bP B w ov l)(x:Int)(hl:l.length≤2000000)(hB:B≤w.heap.size):
  Calls Tryz.prog 146 #[.pointer (some ⟨wp,0,none⟩),.int .i64 x] w fun e w'=>e=.returned (.tuple #[])∧∃yE,az w' wp #[vv,yE,iv] 118∧bP B w' yE (l++[x])∧Lc w ov yE∧aj (fun b=>b=wp∨ov.ownBlock=some b) w w':=by
 obtain⟨oa,oc,hov,hoc,_⟩:=ag ho;subst hov;have c1:w.cell? ⟨wp,1,none⟩=some (.slice oa l.length oc):=hb.cell 1 _ rfl;have hlt:=hb.lt;obtain⟨i0,hi,hz0,hz1,hz2⟩:=info_parts Tryz.lY;have HI:=ast (And.intro hi (And.intro hz0 (And.intro hz1 hz2)));have HB:=ast hb;have HO:=ast ho;have HX:=ast (ho.alloc (.cells #[.int .i64 x] 3 (0,0)));have HN:=ast (Ja w #[.int .i64 x] 3);have Ed:=ast (show ∀u∈([.int .i64 x]:List Value),u.oneCell'=true by intro u hu;simp at hu;rw[hu];rfl);have HQ:=ast (And.intro (show l.length+1≤maxLen by unfold maxLen;omega) (show(l.length+1)*8≤140737488355328 by omega));have HS:=ast (show B≤(w.alloc (.cells #[.int .i64 x] 3 (0,0))).heap.size by simp;omega);have HH:=ast (show(w.alloc (.cells #[.int .i64 x] 3 (0,0))).heap.size=w.heap.size+1 by simp);have hne:(Value.slice oa l.length oc).ownBlock≠some wp:=ah ho hb (by decide);clear hi hz0 hz1 hz2 hb ho;go_enter Tryz.func146,Tryz.ntmps146
 go_wp2_with (at_builtin;refine wpList_append_lies _ rfl _ _ 24 rfl B 3 i0 (.int .i64 0) 1 8 Tryz.underlying24 HI.out.1 HI.out.2.1 HI.out.2.2.1 HI.out.2.2.2 rfl (by decide) (.slice oa l.length oc) l.length (ints l) rfl HX.out ⟨w.heap.size,0,none⟩ 1 1 [.int .i64 x] rfl rfl HN.out Ed.out (by decide) HQ.out.1 HQ.out.2 HS.out (w.heap.size+1) HH.out ?_)
 intro g cap w2 hr hg hat hlt2;have jh:aj (fun b=>(Value.slice oa l.length oc).ownBlock=some b) w w2:=((aj.refl _ w).alloc _).trans ((aj.bD hg).mono (fun k _ e=>e.symm));have hb2:=HB.out.aA jh hne;have wY:(Value.slice (some ⟨g,0,none⟩) (l.length+1) cap).ownBlock≠some wp:=ah hr hb2 (by decide);have q1:w2.cell? ⟨wp,1,none⟩=some (.slice oa l.length oc):=hb2.cell 1 _ rfl;have f1:=hb2.frozen 1;have HR:=ast hr;have HC:=ast jh;have gK:=ast hb2
 have HL:Hid (Lc w (Value.slice oa l.length oc) (.slice (some ⟨g,0,none⟩) (l.length+1) cap)):=fun k hk=>by
  simp only[Value.ownBlock,Option.some.injEq]at hk;subst hk;rcases hat with e|e
  ·exact Or.inl e
  ·right;omega
 clear hr hg hat hlt2 jh hb2 c1;go_wp2_with fail
 go_end0
 have iL:aj (fun b=>b=wp) w2 (w2.setCell ⟨wp,1,none⟩ (.slice (some ⟨g,0,none⟩) (l.length+1) cap)):=(aj.refl (fun b=>b=wp) w2).setCell (p:=⟨wp,1,none⟩) rfl _;refine⟨rfl,.slice (some ⟨g,0,none⟩) (l.length+1) cap,by have:=gK.out.set (o:=1) (.slice (some ⟨g,0,none⟩) (l.length+1) cap);simpa using this,?_,HL.out,(HC.out.mono (fun b _ e=>Or.inr e)).trans (iL.mono (fun b _ e=>Or.inl e))⟩
 show World.ownsRow _ _ _ _ _ _ _
 rw[List.length_append,List.length_singleton,ints,List.map_append];exact af HR.out iL (fun b hb e=>wY (by rw[hb,e]))
section
variable{B:Nat}{w:World}{mb:Nat}{cs:Array Value}
theorem QB{cv:Value}{l:List Int}(hb:az w mb cs 116)(RD:cs[34]?=some cv)(hc:bP B w cv l)(x:Int)(hl:l.length≤2000000)(hB:B≤w.heap.size):
  Calls Tryz.prog 150 #[.pointer (some ⟨mb,34,none⟩),.int .i64 x] w fun e w'=>e=.returned (.tuple #[])∧∃cv',az w' mb (cs.setIfInBounds 34 cv') 116∧bP B w' cv' (l++[x])∧Lc w cv cv'∧aj (fun b=>b=mb∨cv.ownBlock=some b) w w':=by
 obtain⟨oa,oc,hov,hoc,_⟩:=ag hc;subst hov;have c1:w.cell? ⟨mb,34,none⟩=some (.slice oa l.length oc):=hb.cell 34 _ RD;have hlt:=hb.lt;obtain⟨i0,hi,hz0,hz1,hz2⟩:=info_parts Tryz.lY;have HI:=ast (And.intro hi (And.intro hz0 (And.intro hz1 hz2)));have HB:=ast hb;have HO:=ast hc;have H34:=ast RD;have HX:=ast (hc.alloc (.cells #[.int .i64 x] 3 (0,0)));have HN:=ast (Ja w #[.int .i64 x] 3);have Ed:=ast (show ∀u∈([.int .i64 x]:List Value),u.oneCell'=true by intro u hu;simp at hu;rw[hu];rfl);have HQ:=ast (And.intro (show l.length+1≤maxLen by unfold maxLen;omega) (show(l.length+1)*8≤140737488355328 by omega));have HS:=ast (show B≤(w.alloc (.cells #[.int .i64 x] 3 (0,0))).heap.size by simp;omega);have HH:=ast (show(w.alloc (.cells #[.int .i64 x] 3 (0,0))).heap.size=w.heap.size+1 by simp);have hne:(Value.slice oa l.length oc).ownBlock≠some mb:=ah hc hb (by decide);clear hi hz0 hz1 hz2 hb hc RD;go_enter Tryz.func150,Tryz.ntmps150
 go_wp2_with (at_builtin;refine wpList_append_lies _ rfl _ _ 24 rfl B 3 i0 (.int .i64 0) 1 8 Tryz.underlying24 HI.out.1 HI.out.2.1 HI.out.2.2.1 HI.out.2.2.2 rfl (by decide) (.slice oa l.length oc) l.length (ints l) rfl HX.out ⟨w.heap.size,0,none⟩ 1 1 [.int .i64 x] rfl rfl HN.out Ed.out (by decide) HQ.out.1 HQ.out.2 HS.out (w.heap.size+1) HH.out ?_)
 intro g cap w2 hr hg hat hlt2;have jh:aj (fun b=>(Value.slice oa l.length oc).ownBlock=some b) w w2:=((aj.refl _ w).alloc _).trans ((aj.bD hg).mono (fun k _ e=>e.symm));have hb2:=HB.out.aA jh hne;have wY:(Value.slice (some ⟨g,0,none⟩) (l.length+1) cap).ownBlock≠some mb:=ah hr hb2 (by decide);have q1:w2.cell? ⟨mb,34,none⟩=some (.slice oa l.length oc):=hb2.cell 34 _ H34.out;have f1:=hb2.frozen 34;have HR:=ast hr;have HC:=ast jh;have gK:=ast hb2
 have HL:Hid (Lc w (Value.slice oa l.length oc) (.slice (some ⟨g,0,none⟩) (l.length+1) cap)):=fun k hk=>by
  simp only[Value.ownBlock,Option.some.injEq]at hk;subst hk;rcases hat with e|e
  ·exact Or.inl e
  ·right;omega
 clear hr hg hat hlt2 jh hb2 c1;go_wp2_with fail
 go_end0
 have iL:aj (fun b=>b=mb) w2 (w2.setCell ⟨mb,34,none⟩ (.slice (some ⟨g,0,none⟩) (l.length+1) cap)):=(aj.refl (fun b=>b=mb) w2).setCell (p:=⟨mb,34,none⟩) rfl _;refine⟨rfl,.slice (some ⟨g,0,none⟩) (l.length+1) cap,gK.out.set (o:=34) _,?_,HL.out,(HC.out.mono (fun b _ e=>Or.inr e)).trans (iL.mono (fun b _ e=>Or.inl e))⟩
 show World.ownsRow _ _ _ _ _ _ _
 rw[List.length_append,List.length_singleton,ints,List.map_append];exact af HR.out iL (fun b hb e=>wY (by rw[hb,e]))
theorem FX{cv:Value}(hb:az w mb cs 116)(RD:cs[34]?=some cv)(hc:bP B w cv []):
  Calls Tryz.prog 147 #[.pointer (some ⟨mb,34,none⟩)] w fun e w'=>e=.returned (.tuple #[.int .i64 0,.bool false])∧w'=w:=by
 obtain⟨oa,oc,hov,hoc,_⟩:=ag hc;subst hov;have c1:w.cell? ⟨mb,34,none⟩=some (.slice oa 0 oc):=hb.cell 34 _ RD;have hlt:=hb.lt;clear hb hc RD;go_enter Tryz.func147,Tryz.ntmps147
 go_wp2_with fail
 exact bodyPost_ret (v:=.tuple #[.int .i64 0,.bool false]) (by simp[results,Tryz.results147,go_sem]) rfl ⟨rfl,rfl⟩
theorem Jd{cv:Value}{l:List Int}{x:Int}(hb:az w mb cs 116)(RD:cs[34]?=some cv)(hc:bP B w cv (l++[x]))(hl:l.length≤2000000):
  Calls Tryz.prog 147 #[.pointer (some ⟨mb,34,none⟩)] w fun e w'=>e=.returned (.tuple #[.int .i64 x,.bool true])∧∃cv',az w' mb (cs.setIfInBounds 34 cv') 116∧bP B w' cv' l∧Lc w cv cv'∧aj (fun b=>b=mb) w w':=by
 have hlen:(l++[x]).length=l.length+1:=by simp
 have hc':w.ownsRow B 3 1 cv (l.length+1) (ints l++[.int .i64 x]):=by have:=hc;rw[bP,hlen,ints,List.map_append]at this;exact this
 obtain⟨g,cap,rfl,_,hg,hcap,_,hcell⟩:=aB hc' (by omega);have c1:w.cell? ⟨mb,34,none⟩=some (.slice (some ⟨g,0,none⟩) (l.length+1) cap):=hb.cell 34 _ RD;have c2:w.cell? ⟨g,l.length,none⟩=some (.int .i64 x):=hcell _ _ (by simp[ints]);have f1:=hb.frozen 34;have hlt:=hb.lt;have HB:=ast hb;have HC:=ast hc';have hne:g≠mb:=fun e=>ah hc' hb (by decide) (by rw[←e];rfl)
 have hi0:(0:Int)≤(l.length:Int):=by omega
 have hi1:¬(l.length:Int)<0:=by omega
 clear hb hc hc' RD hcell hlen;go_enter Tryz.func147,Tryz.ntmps147
 go_wp2_with fail
 refine bodyPost_ret (v:=.tuple #[.int .i64 x,.bool true]) (by simp[results,Tryz.results147,go_sem]) rfl ⟨rfl,.slice (some ⟨g,0,none⟩) l.length cap,HB.out.set (o:=34) _,?_,fun k hk=>Or.inl hk,(aj.refl (fun b=>b=mb) w).setCell (p:=⟨mb,34,none⟩) rfl _⟩;refine af (ownsRow_pop HC.out (by simp)) ((aj.refl (fun b=>b=mb) w).setCell (p:=⟨mb,34,none⟩) rfl _) (fun b hb e=>hne ?_);have:g=b:=by simpa [Value.ownBlock]using hb
 rw[this,e]
theorem LY{lv:Value}{l:List (Int×Int)}(hb:az w mb cs 116)(BN:cs[33]?=some lv)(hc:xK B w lv l)(x y:Int)(hl:l.length≤2000000)(hB:B≤w.heap.size)(XO:x<y):
  Calls Tryz.prog 148 #[.pointer (some ⟨mb,33,none⟩),.int .i64 x,.int .i64 y] w fun e w'=>e=.returned (.bool true)∧∃qx,az w' mb (cs.setIfInBounds 33 qx) 116∧xK B w' qx (l++[(x,y)])∧Lc w lv qx∧aj (fun b=>b=mb∨lv.ownBlock=some b) w w':=by
 obtain⟨oa,oc,hov,hoc,_⟩:=ag hc;subst hov;have c1:w.cell? ⟨mb,33,none⟩=some (.slice oa l.length oc):=hb.cell 33 _ BN;have hlt:=hb.lt;obtain⟨i0,hi,hz0,hz1,hz2⟩:=info_parts Tryz.ab7;have HI:=ast (And.intro hi (And.intro hz0 (And.intro hz1 hz2)));have HB:=ast hb;have HO:=ast hc;have ZA:=ast BN;obtain⟨xs,hxs⟩:=exq (l.flatMap fun x=>[Value.int .i64 x.1,.int .i64 x.2]);have hc':w.ownsRow B 237 2 (.slice oa l.length oc) l.length xs:=by rw[hxs];exact hc
 have HXS:=ast hxs;have HX:=ast (hc'.alloc (.cells #[.int .i64 x,.int .i64 y] 237 (0,0)));have HN:=ast (Ja w #[.int .i64 x,.int .i64 y] 237);have Ed:=ast (show ∀u∈([.int .i64 x,.int .i64 y]:List Value),u.oneCell'=true by intro u hu;simp at hu;rcases hu with rfl|rfl<;>rfl);have HQ:=ast (And.intro (show l.length+1≤maxLen by unfold maxLen;omega) (show(l.length+1)*16≤140737488355328 by omega));have HS:=ast (show B≤(w.alloc (.cells #[.int .i64 x,.int .i64 y] 237 (0,0))).heap.size by simp;omega);have HH:=ast (show(w.alloc (.cells #[.int .i64 x,.int .i64 y] 237 (0,0))).heap.size=w.heap.size+1 by simp);have hne:(Value.slice oa l.length oc).ownBlock≠some mb:=ah hc hb (by decide);have hge:¬y≤x:=by omega
 clear hi hz0 hz1 hz2 hb hc hc' BN hxs;go_enter Tryz.func148,Tryz.ntmps148
 go_wp2_with (at_builtin;refine wpList_append_lies _ rfl _ _ 110 rfl B 237 i0 (.agg #[.int .i64 0,.int .i64 0]) 2 16 Tryz.underlying110 HI.out.1 HI.out.2.1 HI.out.2.2.1 HI.out.2.2.2 rfl (by decide) (.slice oa l.length oc) l.length xs rfl HX.out ⟨w.heap.size,0,none⟩ 1 1 [.int .i64 x,.int .i64 y] rfl rfl HN.out Ed.out (by decide) HQ.out.1 HQ.out.2 HS.out (w.heap.size+1) HH.out ?_)
 intro g cap w2 hr hg hat hlt2;have jh:aj (fun b=>(Value.slice oa l.length oc).ownBlock=some b) w w2:=((aj.refl _ w).alloc _).trans ((aj.bD hg).mono (fun k _ e=>e.symm));have hb2:=HB.out.aA jh hne;have wY:(Value.slice (some ⟨g,0,none⟩) (l.length+1) cap).ownBlock≠some mb:=ah hr hb2 (by decide);have q1:w2.cell? ⟨mb,33,none⟩=some (.slice oa l.length oc):=hb2.cell 33 _ ZA.out;have f1:=hb2.frozen 33;have HR:=ast hr;have HC:=ast jh;have gK:=ast hb2
 have HL:Hid (Lc w (Value.slice oa l.length oc) (.slice (some ⟨g,0,none⟩) (l.length+1) cap)):=fun k hk=>by
  simp only[Value.ownBlock,Option.some.injEq]at hk;subst hk;rcases hat with e|e
  ·exact Or.inl e
  ·right;omega
 clear hr hg hat hlt2 jh hb2 c1;go_wp2_with fail
 go_ret
 have iL:aj (fun b=>b=mb) w2 (w2.setCell ⟨mb,33,none⟩ (.slice (some ⟨g,0,none⟩) (l.length+1) cap)):=(aj.refl (fun b=>b=mb) w2).setCell (p:=⟨mb,33,none⟩) rfl _;refine⟨rfl,.slice (some ⟨g,0,none⟩) (l.length+1) cap,gK.out.set (o:=33) _,?_,HL.out,(HC.out.mono (fun b _ e=>Or.inr e)).trans (iL.mono (fun b _ e=>Or.inl e))⟩
 show World.ownsRow _ _ _ _ _ _ _
 rw[List.length_append,List.length_singleton,List.flatMap_append,←HXS.out];exact af HR.out iL (fun b hb e=>wY (by rw[hb,e]))
theorem Je(x y:Int)(XO:¬x<y):Calls Tryz.prog 148 #[.pointer (some ⟨mb,33,none⟩),.int .i64 x,.int .i64 y] w fun e w'=>e=.returned (.bool false)∧w'=w:=by
 have hge:y≤x:=by omega
 go_enter Tryz.func148,Tryz.ntmps148
 go_wp2_with fail
 go_ret
 exact⟨rfl,rfl⟩
theorem ug{g n cap:Nat}{l:List (Int×Int)}{x y:Int}(h:w.ownsRow B 237 2 (.slice (some ⟨g,0,none⟩) (n+1) cap) (n+1) ((l++[(x,y)]).flatMap fun x=>[.int .i64 x.1,.int .i64 x.2]))(hn:l.length=n):
  w.cell? ⟨g,n*2,none⟩=some (.int .i64 x)∧w.cell? ⟨g,n*2+1,none⟩=some (.int .i64 y):=by
 obtain⟨g',cap',hv,_,_,_,_,hc⟩:=aB h (by omega);obtain⟨rfl,rfl⟩:g=g'∧cap=cap':=by simpa using hv
 have q:=fun m hm=>flat_get (fun x:Int×Int=>[Value.int .i64 x.1,.int .i64 x.2]) 2 (fun _=>rfl) (l++[(x,y)]) n m (by simp;omega) hm
 have e:(l++[(x,y)])[n]'(by simp;omega)=(x,y):=by rw[List.getElem_append_right (by omega)];simp
 constructor
 ·refine hc _ _ ?_
  have:=q 0 (by omega);rw[Nat.add_zero,e]at this;rw[this];rfl
 ·refine hc _ _ ?_
  rw[q 1 (by omega),e];rfl
theorem Jf{lv:Value}{l:List (Int×Int)}{x y:Int}(hb:az w mb cs 116)(BN:cs[33]?=some lv)(hc:xK B w lv (l++[(x,y)]))(hl:l.length≤2000000):
  Calls Tryz.prog 113 #[.pointer (some ⟨mb,33,none⟩)] w fun e w'=>e=.returned (.int .i64 x)∧Below w.heap.size w w':=by
 have hlen:(l++[(x,y)]).length=l.length+1:=by simp
 have hc':=hc;rw[xK,hlen]at hc';obtain⟨g,cap,rfl,_,hg,hcap,_,_⟩:=aB hc' (by omega);have c1:w.cell? ⟨mb,33,none⟩=some (.slice (some ⟨g,0,none⟩) (l.length+1) cap):=hb.cell 33 _ BN;obtain⟨c2,c3⟩:=ug hc' rfl;have hlt:=hb.lt;have hi0:(0:Int)≤(l.length:Int):=by omega
 obtain⟨n,hn⟩:=exq (l.length);rw[←hn]at c1 c2 c3 hi0 hl hcap;clear hb hc hc' BN hlen hn;go_enter Tryz.func113,Tryz.ntmps113
 go_wp2_with fail
 go_quiet (fail)
 go_wp2_with fail
 go_ret
 exact⟨rfl,⟨rfl,rfl,rfl,nrq,fun _ _=>rfl⟩⟩
theorem L6(l:List (Int×Int))(x y z:Int):((l++[(x,y)]).flatMap fun x=>[Value.int .i64 x.1,.int .i64 x.2]).set (l.length*2) (.int .i64 z)=(l++[(z,y)]).flatMap fun x=>[Value.int .i64 x.1,.int .i64 x.2]:=by
 rw[List.flatMap_append,List.flatMap_append,List.set_append_right _ _ (by rw[xM];omega),xM,Nat.sub_self];rfl
theorem L8{lv:Value}{l:List (Int×Int)}{x y:Int}(hb:az w mb cs 116)(BN:cs[33]?=some lv)(hc:xK B w lv (l++[(x,y)]))(hl:l.length≤2000000)(hx0: -9000000000≤x)(hx1:x≤9000000000):
  Calls Tryz.prog 149 #[.pointer (some ⟨mb,33,none⟩)] w fun e w'=>e=.returned (.bool (decide (x+1<y)))∧∃qx,az w' mb (cs.setIfInBounds 33 qx) 116∧xK B w' qx (if x+1<y then l++[(x+1,y)]else l)∧Lc w lv qx∧aj (fun b=>b=mb∨lv.ownBlock=some b) w w':=by
 obtain⟨L,hL⟩:=exq ((if x+1<y then l++[(x+1,y)]else l));rw[←hL];have HLL:=ast hL;clear hL;have hlen:(l++[(x,y)]).length=l.length+1:=by simp
 have hc':=hc;rw[xK,hlen]at hc';obtain⟨g,cap,rfl,_,hg,hcap,_,_⟩:=aB hc' (by omega);have c1:w.cell? ⟨mb,33,none⟩=some (.slice (some ⟨g,0,none⟩) (l.length+1) cap):=hb.cell 33 _ BN;obtain⟨c2,c3⟩:=ug hc' rfl
 have f2:w.frozen? ⟨g,l.length*2,none⟩=false:=by
  rcases hc'.2 with ⟨h0,_⟩|⟨g',cap',cur,hv',_,hh,_⟩
  ·cases h0
  ·obtain⟨rfl,rfl⟩:g=g'∧cap=cap':=by simpa using hv'
   simp[World.frozen?,hh]
 have hlt:=hb.lt;have hne:g≠mb:=fun e=>ah hc' hb (by decide) (by rw[←e];rfl)
 obtain⟨X,hX⟩:=exq (w.setCell ⟨g,l.length*2,none⟩ (.int .i64 (x+1)):World);have vF:aj (fun b=>b=g) w X:=by rw[hX];exact(aj.refl (fun b=>b=g) w).setCell (p:=⟨g,l.length*2,none⟩) rfl _
 have YG:X.ownsRow B 237 2 (.slice (some ⟨g,0,none⟩) (l.length+1) cap) (l.length+1) ((l++[(x+1,y)]).flatMap fun x=>[.int .i64 x.1,.int .i64 x.2]):=by
  have:=fO hc' (l.length*2) (.int .i64 (x+1));rw[L6]at this;rw[hX];exact this
 have bU:=hb.aA vF (fun e=>hne e.symm);have x1:X.cell? ⟨mb,33,none⟩=some (.slice (some ⟨g,0,none⟩) (l.length+1) cap):=bU.cell 33 _ BN;have g1:=bU.frozen 33;obtain⟨x2,x3⟩:=ug YG rfl;have Ol:=bU.lt;have HX:=ast hX;have vz:=ast vF;have BZ:=ast YG;have jX:=ast bU;have ZA:=ast BN;obtain⟨n,hn⟩:=exq (l.length);rw[←hn]at c1 c2 c3 f2 x1 x2 x3 hl hcap HX;have HN:=ast hn;have hi0:(0:Int)≤(n:Int):=by omega
 clear hb hc hc' BN hlen hX vF YG bU hn;go_enter Tryz.func149,Tryz.ntmps149
 go_upto_region 3 with fail
 rw[←HX.out];clear c1 c2 c3 f2
 by_cases hlt2:x+1<y
 ·have hd:decide (x+1<y)=true:=decide_eq_true hlt2
  have HLP:Hid (L=l++[(x+1,y)]):=by show L=_;rw[HLL.out,if_pos hlt2]
  clear HLL;go_wp2_with fail
  go_quiet (fail)
  go_wp2_with fail
  go_ret
  have hbq:Below X.heap.size X (X.drewN nq):=bdq;refine⟨jK hd.symm,.slice (some ⟨g,0,none⟩) (l.length+1) cap,?_,?_,fun k hk=>Or.inl (by rw[←HN.out]at hk;exact hk),((vz.out.mono (fun b _ e=>Or.inr (by rw[e];rfl))).trans (aj.au hbq))⟩
  ·have:=jX.out.sub hbq jX.out.lt
   have e:cs.setIfInBounds 33 (.slice (some ⟨g,0,none⟩) (l.length+1) cap)=cs:=by
    apply Array.ext_getElem?;intro i
    by_cases hi:i=33
    ·subst hi;rw[Array.getElem?_setIfInBounds_self_of_lt (Array.getElem?_eq_some_iff.1 ZA.out).1,ZA.out]
    ·rw[Array.getElem?_setIfInBounds_ne (Ne.symm hi)]
   rw[e];exact this
  ·show World.ownsRow _ _ _ _ _ _ _
   rw[HLP.out,List.length_append,List.length_singleton];exact af BZ.out (aj.au (S:=fun _=>False) hbq) (fun _ _=>id)
 ·have hd:decide (x+1<y)=false:=decide_eq_false hlt2
  have HLP:Hid (L=l):=by show L=_;rw[HLL.out,if_neg hlt2]
  clear HLL;go_wp2_with fail
  go_quiet (fail)
  have hbq:Below X.heap.size X (X.drewN nq):=bdq;obtain⟨V,hV⟩:=exq (X.drewN nq:World);rw[←hV]at hbq;rw[←hV];have BU:=jX.out.sub hbq jX.out.lt;have v1:V.cell? ⟨mb,33,none⟩=some (.slice (some ⟨g,0,none⟩) (n+1) cap):=by rw[hbq.cell (p:=⟨mb,33,none⟩) Ol];exact x1
  have u1:=BU.frozen 33;have Oz:=ast BU;have sJ:=ast hbq;have hVl:=BU.lt;clear hV BU hbq x1 x2 x3 g1;go_wp2_with fail
  go_ret
  have iL:aj (fun b=>b=mb) V (V.setCell ⟨mb,33,none⟩ (.slice (some ⟨g,0,none⟩) n cap)):=(aj.refl (fun b=>b=mb) V).setCell (p:=⟨mb,33,none⟩) rfl _;refine⟨jK hd.symm,.slice (some ⟨g,0,none⟩) n cap,Oz.out.set (o:=33) _,?_,fun k hk=>Or.inl hk,((vz.out.mono (fun b _ e=>Or.inr (by rw[e];rfl))).trans (aj.au sJ.out)).trans (iL.mono (fun b _ e=>Or.inl e))⟩;have KF:=ownsRow_pop (n:=l.length) (by have:=BZ.out;rw[List.flatMap_append]at this;exact this) (xM l)
  show World.ownsRow _ _ _ _ _ _ _
  rw[HLP.out];rw[HN.out]at iL ⊢
  exact af (af KF (aj.au (S:=fun _=>False) sJ.out) (fun _ _=>id)) iL (fun b hb e=>hne (by
   have:g=b:=by simpa [Value.ownBlock]using hb
   rw[this,e]))
end
end
section
structure MS where
 ak:List Int
 loops:List (Int×Int)
 calls:List Int
 at_:Nat
structure MW where
 vars:List Int
 outs:List Int
 ins:List Int
structure RX where
 mb:Nat
 wp:Nat
 rv:Value
 st:Int
 lv:Value
 cv:Value
 vv:Value
 ov:Value
 iv:Value
def RX.S(x:RX)(b:Nat):Prop:=b=x.mb∨b=x.wp∨x.lv.ownBlock=some b∨x.cv.ownBlock=some b∨x.vv.ownBlock=some b∨x.ov.ownBlock=some b
def xN(B:Nat)(w:World)(rv:Value)(code:List Int):Prop:=∃g cap,rv=.slice (some ⟨g,0,none⟩) code.length cap∧code.length≤cap∧g<B∧∀(i:Nat) (x:Int),code[i]?=some x→w.cell? ⟨g,i,none⟩=some (.int .i64 x)
theorem xN.below{B:Nat}{w w':World}{rv:Value}{code:List Int}(h:xN B w rv code)(hb:Below B w w'):xN B w' rv code:=by
 obtain⟨g,cap,h1,h2,h3,h4⟩:=h;exact⟨g,cap,h1,h2,h3,fun i x hx=>by rw[hb.cell (p:=⟨g,i,none⟩) h3];exact h4 i x hx⟩
structure QC (x:RX) (m:MS) (cs:Array Value):Prop where
 mc:MC cs m.ak
 W9:cs[33]?=some x.lv
 YH:cs[34]?=some x.cv
 rJ:cs[35]?=some (.pointer (some ⟨x.wp,0,none⟩))
 qU:cs[36]?=some x.rv
 c37:cs[37]?=some (.int .i64 x.st)
 dh:cs[38]?=some (.int .i64 m.at_)
structure dE (B:Nat) (w:World) (x:RX) (code:List Int) (m:MS) (u:MW):Prop where
 Dc:∃cs,az w x.mb cs 116∧QC x m cs
 lI:xK B w x.lv m.loops
 fB:bP B w x.cv m.calls
 dN:az w x.wp #[x.vv,x.ov,x.iv] 118
 qV:bP B w x.vv u.vars
 jV:bP B w x.ov u.outs
 ins:bz B w x.iv u.ins
 iO:xN B w x.rv code
 uh:∀k,x.cv.ownBlock=some k→x.vv.ownBlock≠some k∧x.ov.ownBlock≠some k
 QD:∀k,x.vv.ownBlock=some k→x.ov.ownBlock≠some k
 bm:B≤x.mb
 bw:B≤x.wp
 len:m.loops.length≤2000000∧m.calls.length≤2000000∧u.outs.length≤2000000∧u.ins.length≤2000000∧u.vars.length≤1000∧code.length≤1000∧m.at_≤code.length
section
variable{B:Nat}{w w':World}{x:RX}{code:List Int}{m m':MS}{u u':MW}
theorem dE.le(h:dE B w x code m u):B≤w.heap.size:=by have:=h.dN.lt;have:=h.bw;omega
theorem dE.OB(h:dE B w x code m u){b:Nat}(hb:x.S b):B≤b:=by
 rcases hb with e|e|e|e|e|e
 ·rw[e];exact h.bm
 ·rw[e];exact h.bw
 ·exact aF h.lI e
 ·exact aF h.fB e
 ·exact aF h.qV e
 ·exact aF h.jV e
theorem dE.zC(h:dE B w x code m u){b:Nat}(hb:x.S b):b<w.heap.size:=by
 rcases hb with e|e|e|e|e|e
 ·obtain⟨cs,hk,_⟩:=h.Dc;rw[e];exact hk.lt
 ·rw[e];exact h.dN.lt
 ·exact bg h.lI e
 ·exact bg h.fB e
 ·exact bg h.qV e
 ·exact bg h.jV e
theorem dE.toBelow(h:dE B w x code m u){S:Nat→Prop}(hc:aj S w w')(hs:∀b,S b→x.S b):Below B w w':=hc.toBelow h.le (fun b hb e=>by have:=h.OB (hs b e);omega)
structure RN (B:Nat) (w:World) (x:RX) (code:List Int) (m':MS) (u':MW) (w':World) (y:RX):Prop where
 at_:dE B w' y code m' u'
 mb:y.mb=x.mb
 wp:y.wp=x.wp
 rv:y.rv=x.rv
 st:y.st=x.st
 vv:y.vv=x.vv
 lv:Lc w x.lv y.lv
 cv:Lc w x.cv y.cv
 ov:Lc w x.ov y.ov
 aA:aj x.S w w'
def fK(B:Nat)(w:World)(x:RX)(code:List Int)(m':MS)(u':MW)(w':World):Prop:=∃y,RN B w x code m' u' w' y
theorem RN.sub{y:RX}(h:RN B w x code m' u' w' y):∀b,y.S b→x.S b∨w.heap.size≤b:=by
 rintro b (e|e|e|e|e|e)
 ·rw[h.mb]at e;exact Or.inl (Or.inl e)
 ·rw[h.wp]at e;exact Or.inl (Or.inr (Or.inl e))
 ·exact(h.lv b e).imp (fun e=>Or.inr (Or.inr (Or.inl e))) id
 ·exact(h.cv b e).imp (fun e=>Or.inr (Or.inr (Or.inr (Or.inl e)))) id
 ·rw[h.vv]at e;exact Or.inl (Or.inr (Or.inr (Or.inr (Or.inr (Or.inl e)))))
 ·exact(h.ov b e).imp (fun e=>Or.inr (Or.inr (Or.inr (Or.inr (Or.inr e))))) id
theorem RN.trans{y z:RX}{w2:World}{m2:MS}{u2:MW}(h:RN B w x code m' u' w' y)(h2:RN B w' y code m2 u2 w2 z):RN B w x code m2 u2 w2 z:=
 ⟨h2.at_,h2.mb.trans h.mb,h2.wp.trans h.wp,h2.rv.trans h.rv,h2.st.trans h.st,h2.vv.trans h.vv,
  fun k hk=>(h2.lv k hk).elim (h.lv k) (fun e=>Or.inr (Nat.le_trans h.aA.size e)),fun k hk=>(h2.cv k hk).elim (h.cv k) (fun e=>Or.inr (Nat.le_trans h.aA.size e)),fun k hk=>(h2.ov k hk).elim (h.ov k) (fun e=>Or.inr (Nat.le_trans h.aA.size e)),
  h.aA.jG h2.aA (fun b hb e=>(h.sub b e).elim id (fun e=>by omega))⟩
theorem dE.machine{qx cv':Value}(h:dE B w x code m u)(hc:aj (fun b=>b=x.mb∨x.lv.ownBlock=some b∨x.cv.ownBlock=some b) w w')(hcs:∃cs,az w' x.mb cs 116∧QC {x with lv:=qx,cv:=cv'} m' cs)
  (hl:xK B w' qx m'.loops) (hr:bP B w' cv' m'.calls) (h1:Lc w x.lv qx) (h2:Lc w x.cv cv') (hn:m'.loops.length≤2000000∧m'.calls.length≤2000000∧m'.at_≤code.length):RN B w x code m' u w' {x with lv:=qx,cv:=cv'}:=by
 obtain⟨cs0,hk0,_⟩:=h.Dc
 have Bl:∀b,(b=x.mb∨x.lv.ownBlock=some b∨x.cv.ownBlock=some b)→x.S b:=fun b e=>by
  rcases e with e|e|e
  ·exact Or.inl e
  ·exact Or.inr (Or.inr (Or.inl e))
  ·exact Or.inr (Or.inr (Or.inr (Or.inl e)))
 have hB:=h.toBelow hc Bl
 have hw:¬(x.wp=x.mb∨x.lv.ownBlock=some x.wp∨x.cv.ownBlock=some x.wp):=by
  rintro (e|e|e)
  ·rw[←e]at hk0;exact absurd (bH hk0 h.dN) (by decide)
  ·exact ah h.lI h.dN (by decide) e
  ·exact ah h.fB h.dN (by decide) e
 have hv:∀{v:Value} {l:List Int},bP B w v l→(∀k,x.cv.ownBlock=some k→v.ownBlock≠some k)→bP B w' v l:=fun {v l} hr hs=>af hr hc (fun b hb e=>by
  rcases e with e|e|e
  ·subst e;exact ah hr hk0 (by decide) hb
  ·exact bQ h.lI hr (by decide) e hb
  ·exact hs b e hb)
 obtain⟨n1,n2,n3⟩:=hn;obtain⟨_,_,n4,n5,n6,n7,_⟩:=h.len;refine⟨⟨hcs,hl,hr,h.dN.aA hc hw,hv h.qV (fun k hk=>(h.uh k hk).1),hv h.jV (fun k hk=>(h.uh k hk).2),h.ins.below hB,h.iO.below hB,fun k hk=>?_,h.QD,h.bm,h.bw,n1,n2,n4,n5,n6,n7,n3⟩,rfl,rfl,rfl,rfl,rfl,h1,h2,Lc.refl _ _,hc.mono (fun b _ e=>Bl b e)⟩;rcases h2 k hk with e|e
 ·exact h.uh k e
 ·exact⟨fun e'=>by have:=bg h.qV e';omega,fun e'=>by have:=bg h.jV e';omega⟩
theorem dE.world{yE LV:Value}(h:dE B w x code m u)(hc:aj (fun b=>b=x.wp∨x.vv.ownBlock=some b∨x.ov.ownBlock=some b) w w')(hb:az w' x.wp #[x.vv,yE,LV] 118)
  (hv:bP B w' x.vv u'.vars) (ho:bP B w' yE u'.outs) (hi:bz B w' LV u'.ins) (h1:Lc w x.ov yE) (hn:u'.outs.length≤2000000∧u'.ins.length≤2000000∧u'.vars.length≤1000):RN B w x code m u' w' {x with ov:=yE,iv:=LV}:=by
 obtain⟨cs0,hk0,hcs⟩:=h.Dc
 have Bl:∀b,(b=x.wp∨x.vv.ownBlock=some b∨x.ov.ownBlock=some b)→x.S b:=fun b e=>by
  rcases e with e|e|e
  ·exact Or.inr (Or.inl e)
  ·exact Or.inr (Or.inr (Or.inr (Or.inr (Or.inl e))))
  ·exact Or.inr (Or.inr (Or.inr (Or.inr (Or.inr e))))
 have hB:=h.toBelow hc Bl
 have hm:¬(x.mb=x.wp∨x.vv.ownBlock=some x.mb∨x.ov.ownBlock=some x.mb):=by
  rintro (e|e|e)
  ·rw[e]at hk0;exact absurd (bH hk0 h.dN) (by decide)
  ·exact ah h.qV hk0 (by decide) e
  ·exact ah h.jV hk0 (by decide) e
 have hl:xK B w' x.lv m.loops:=af h.lI hc (fun b hb e=>by
  rcases e with e|e|e
  ·subst e;exact ah h.lI h.dN (by decide) hb
  ·exact bQ h.lI h.qV (by decide) hb e
  ·exact bQ h.lI h.jV (by decide) hb e)
 have hr:bP B w' x.cv m.calls:=af h.fB hc (fun b hb e=>by
  rcases e with e|e|e
  ·subst e;exact ah h.fB h.dN (by decide) hb
  ·exact(h.uh b hb).1 e
  ·exact(h.uh b hb).2 e)
 obtain⟨n1,n2,n3⟩:=hn;obtain⟨m1,m2,_,_,_,n7,n8⟩:=h.len;refine⟨⟨⟨cs0,hk0.aA hc hm,hcs.mc,hcs.W9,hcs.YH,hcs.rJ,hcs.qU,hcs.c37,hcs.dh⟩,hl,hr,hb,hv,ho,hi,h.iO.below hB,fun k hk=>⟨(h.uh k hk).1,fun e=>?_⟩,fun k hk e=>?_,h.bm,h.bw,m1,m2,n1,n2,n3,n7,n8⟩,rfl,rfl,rfl,rfl,rfl,Lc.refl _ _,Lc.refl _ _,h1,hc.mono (fun b _ e=>Bl b e)⟩
 ·rcases h1 k e with e'|e'
  ·exact(h.uh k hk).2 e'
  ·have:=bg h.fB hk;omega
 ·rcases h1 k e with e'|e'
  ·exact h.QD k hk e'
  ·have:=bg h.qV hk;omega
theorem dE.below(h:dE B w x code m u)(hb:Below w.heap.size w w'):RN B w x code m u w' x:=by
 obtain⟨cs0,hk0,hcs⟩:=h.Dc;have hc:aj (fun _=>False) w w':=aj.au hb;have hB:=hb.mono h.le;exact⟨⟨⟨cs0,hk0.sub hb hk0.lt,hcs⟩,af h.lI hc (fun _ _=>id),af h.fB hc (fun _ _=>id),h.dN.sub hb h.dN.lt,af h.qV hc (fun _ _=>id),af h.jV hc (fun _ _=>id),h.ins.below hB,h.iO.below hB,h.uh,h.QD,h.bm,h.bw,h.len⟩,rfl,rfl,rfl,rfl,rfl,Lc.refl _ _,Lc.refl _ _,Lc.refl _ _,hc.mono (fun b _ e=>e.elim)⟩
theorem QC.stack{cs cs':Array Value}{s:List Int}(h:QC x m cs)(hm:MC cs' s)(hr:Rest cs cs'):QC x {m with ak:=s} cs':=
 ⟨hm,(hr 33 (by omega)).trans h.W9,(hr 34 (by omega)).trans h.YH,(hr 35 (by omega)).trans h.rJ,(hr 36 (by omega)).trans h.qU,(hr 37 (by omega)).trans h.c37,(hr 38 (by omega)).trans h.dh⟩
theorem dE.take{a:Int}{s:List Int}(h:dE B w x code m u)(hs:m.ak=a :: s):
  Calls Tryz.prog 108 #[.pointer (some ⟨x.mb,0,none⟩)] w fun e w'=>e=.returned (.int .i64 a)∧RN B w x code {m with ak:=s} u w' x:=by
 obtain⟨cs,hk,hcs⟩:=h.Dc;have hmc:=hcs.mc;rw[hs]at hmc;refine(Qx hk hmc).mono ?_;rintro e w' ⟨he,cs',xU,wL,hr',hc⟩;have hcl:∀{b:Nat} {v:Value} {l:List (Int×Int)},xK B w v l→v.ownBlock=some b→b≠x.mb:=fun hr hb e=>ah hr hk (by decide) (by rw[←e];exact hb)
 have hci:∀{b:Nat} {v:Value} {l:List Int},bP B w v l→v.ownBlock=some b→b≠x.mb:=fun hr hb e=>ah hr hk (by decide) (by rw[←e];exact hb)
 exact⟨he,h.machine (qx:=x.lv) (cv':=x.cv) (hc.mono (fun b _ e=>Or.inl e)) ⟨cs',xU,hcs.stack wL hr'⟩ (af h.lI hc (fun b hb e=>hcl h.lI hb e)) (af h.fB hc (fun b hb e=>hci h.fB hb e)) (Lc.refl _ _) (Lc.refl _ _) ⟨h.len.1,h.len.2.1,h.len.2.2.2.2.2.2⟩⟩
theorem dE.put{lb cap:Nat}(ys:List Int)(h:dE B w x code m u)(LQ:m.ak.length<32)(hy:m.ak.length+ys.length≤32)(hlb:lb≠x.mb)(hll:lb<w.heap.size)(hcap:ys.length≤cap)(hl:∀(i:Nat) (y:Int),ys[i]?=some y→w.cell? ⟨lb,i,none⟩=some (.int .i64 y)):
  Calls Tryz.prog 106 #[.pointer (some ⟨x.mb,0,none⟩),.slice (some ⟨lb,0,none⟩) ys.length cap] w fun e w'=>e=.returned (.tuple #[])∧RN B w x code {m with ak:=ys.reverse++m.ak} u w' x:=by
 obtain⟨cs,hk,hcs⟩:=h.Dc;refine(VI ys hk hcs.mc LQ hy hlb hll hcap hl).mono ?_;rintro e w' ⟨he,cs',xU,wL,hr',hc⟩;have hcl:∀{b:Nat} {v:Value} {l:List (Int×Int)},xK B w v l→v.ownBlock=some b→b≠x.mb:=fun hr hb e=>ah hr hk (by decide) (by rw[←e];exact hb)
 have hci:∀{b:Nat} {v:Value} {l:List Int},bP B w v l→v.ownBlock=some b→b≠x.mb:=fun hr hb e=>ah hr hk (by decide) (by rw[←e];exact hb)
 exact⟨he,h.machine (qx:=x.lv) (cv':=x.cv) (hc.mono (fun b _ e=>Or.inl e)) ⟨cs',xU,hcs.stack wL hr'⟩ (af h.lI hc (fun b hb e=>hcl h.lI hb e)) (af h.fB hc (fun b hb e=>hci h.fB hb e)) (Lc.refl _ _) (Lc.refl _ _) ⟨h.len.1,h.len.2.1,h.len.2.2.2.2.2.2⟩⟩
end
end
section
attribute [local go_sem] dK
section
variable{B:Nat}{w w':World}{x:RX}{code:List Int}{m m':MS}{u u':MW}
theorem dE.yT(ys:List Int)(h:dE B w x code m u)(LQ:m.ak.length<32)(hy:m.ak.length+ys.length≤32):
  Calls Tryz.prog 106 #[.pointer (some ⟨x.mb,0,none⟩),.slice (some ⟨w.heap.size,0,none⟩) ys.length ys.length] (w.alloc (.cells (ints ys).toArray 3 (0,0))) fun e w'=>e=.returned (.tuple #[])∧RN B w x code {m with ak:=ys.reverse++m.ak} u w' x:=by
 have hb:Below w.heap.size w (w.alloc (.cells (ints ys).toArray 3 (0,0))):=brq.alloc nrq _;have h1:=h.below hb;have hne:w.heap.size≠x.mb:=fun e=>by obtain⟨cs,hk,_⟩:=h.Dc;have:=hk.lt;omega
 have hk:=ay w (ints ys).toArray 3;refine(h1.at_.put ys LQ hy hne (by simp) nrq (fun i y hy=>hk.cell i _ (by simp[hy]))).mono ?_;rintro e w' ⟨he,hn⟩;exact⟨he,h1.trans hn⟩
def nz(op:Nat):List Int→List Int
 |c :: b :: a :: s=>if op=16 then c :: c :: b :: a :: s else if op=17 then b :: a :: s else if op=18 then b :: c :: a :: s else if op=19 then b :: c :: b :: a :: s else if op=21 then c :: a :: s else if op=22 then c :: b :: c :: a :: s else a :: c :: b :: s
 |[c,b]=>if op=16 then [c,c,b]else if op=17 then [b]else if op=18 then [b,c]else if op=19 then [b,c,b]else if op=21 then [c]else [c,b,c]
 |[c]=>if op=16 then [c,c]else []
 |[]=>[]
theorem VJ{c:Int}{s:List Int}(h:dE B w x code m u)(hs:m.ak=c :: s)(hl:m.ak.length+1≤32):
  Calls Tryz.prog 111 #[.pointer (some ⟨x.mb,0,none⟩),.int .i64 16] w fun e w'=>e=.returned (.tuple #[])∧RN B w x code {m with ak:=c :: c :: s} u w' x:=by
 have hl':=hl;rw[hs]at hl';simp only[List.length_cons]at hl';have gX:x.mb<w.heap.size:=h.zC (Or.inl rfl);have H0:=ast h;have JM:=ast hs;clear h hs hl;go_enter Tryz.func111,Tryz.ntmps111
 go_wp2_with fail
 refine(dE.take H0.out JM.out).mono ?_;rintro e w0 ⟨rfl,wK⟩;have rW:=ast wK;have hm0:x.mb<w0.heap.size:=Nat.lt_of_lt_of_le gX rW.out.aA.size;clear wK;have qW:=ast (dE.yT [c,c] rW.out.at_ (by simp only;omega) (by simp only[List.length_cons,List.length_nil];omega));go_wp2_with fail
 refine qW.out.mono ?_;rintro e wz ⟨rfl,hz⟩;have HZ:=ast (rW.out.trans hz);clear hz qW;go_wp2_with fail
 exact bodyPost_ret (results_none rfl _ _ _) rfl ⟨rfl,HZ.out⟩
theorem QE{c:Int}{s:List Int}(h:dE B w x code m u)(hs:m.ak=c :: s)(hl:m.ak.length+0≤32):
  Calls Tryz.prog 111 #[.pointer (some ⟨x.mb,0,none⟩),.int .i64 17] w fun e w'=>e=.returned (.tuple #[])∧RN B w x code {m with ak:=s} u w' x:=by
 have hl':=hl;rw[hs]at hl';simp only[List.length_cons]at hl';have gX:x.mb<w.heap.size:=h.zC (Or.inl rfl);have H0:=ast h;have JM:=ast hs;clear h hs hl;go_enter Tryz.func111,Tryz.ntmps111
 go_wp2_with fail
 refine(dE.take H0.out JM.out).mono ?_;rintro e w0 ⟨rfl,wK⟩;have rW:=ast wK;have hm0:x.mb<w0.heap.size:=Nat.lt_of_lt_of_le gX rW.out.aA.size;clear wK;go_wp2_with fail
 exact bodyPost_ret (results_none rfl _ _ _) rfl ⟨rfl,rW.out⟩
theorem QF{c b:Int}{s:List Int}(h:dE B w x code m u)(hs:m.ak=c :: b :: s)(hl:m.ak.length+0≤32):
  Calls Tryz.prog 111 #[.pointer (some ⟨x.mb,0,none⟩),.int .i64 18] w fun e w'=>e=.returned (.tuple #[])∧RN B w x code {m with ak:=b :: c :: s} u w' x:=by
 have hl':=hl;rw[hs]at hl';simp only[List.length_cons]at hl';have gX:x.mb<w.heap.size:=h.zC (Or.inl rfl);have H0:=ast h;have JM:=ast hs;clear h hs hl;go_enter Tryz.func111,Tryz.ntmps111
 go_wp2_with fail
 refine(dE.take H0.out JM.out).mono ?_;rintro e w0 ⟨rfl,wK⟩;have rW:=ast wK;have hm0:x.mb<w0.heap.size:=Nat.lt_of_lt_of_le gX rW.out.aA.size;clear wK;go_wp2_with fail
 refine(dE.take rW.out.at_ rfl).mono ?_;rintro e w1 ⟨rfl,hn1⟩;have oC:=ast (rW.out.trans hn1);have hm1:x.mb<w1.heap.size:=Nat.lt_of_lt_of_le gX oC.out.aA.size;clear hn1;have qW:=ast (dE.yT [c,b] oC.out.at_ (by simp only;omega) (by simp only[List.length_cons,List.length_nil];omega));go_wp2_with fail
 refine qW.out.mono ?_;rintro e wz ⟨rfl,hz⟩;have HZ:=ast (oC.out.trans hz);clear hz qW;go_wp2_with fail
 go_end0
 exact⟨rfl,HZ.out⟩
theorem QG{c b:Int}{s:List Int}(h:dE B w x code m u)(hs:m.ak=c :: b :: s)(hl:m.ak.length+1≤32):
  Calls Tryz.prog 111 #[.pointer (some ⟨x.mb,0,none⟩),.int .i64 19] w fun e w'=>e=.returned (.tuple #[])∧RN B w x code {m with ak:=b :: c :: b :: s} u w' x:=by
 have hl':=hl;rw[hs]at hl';simp only[List.length_cons]at hl';have gX:x.mb<w.heap.size:=h.zC (Or.inl rfl);have H0:=ast h;have JM:=ast hs;clear h hs hl;go_enter Tryz.func111,Tryz.ntmps111
 go_wp2_with fail
 refine(dE.take H0.out JM.out).mono ?_;rintro e w0 ⟨rfl,wK⟩;have rW:=ast wK;have hm0:x.mb<w0.heap.size:=Nat.lt_of_lt_of_le gX rW.out.aA.size;clear wK;go_wp2_with fail
 refine(dE.take rW.out.at_ rfl).mono ?_;rintro e w1 ⟨rfl,hn1⟩;have oC:=ast (rW.out.trans hn1);have hm1:x.mb<w1.heap.size:=Nat.lt_of_lt_of_le gX oC.out.aA.size;clear hn1;have qW:=ast (dE.yT [b,c,b] oC.out.at_ (by simp only;omega) (by simp only[List.length_cons,List.length_nil];omega));go_wp2_with fail
 refine qW.out.mono ?_;rintro e wz ⟨rfl,hz⟩;have HZ:=ast (oC.out.trans hz);clear hz qW;go_wp2_with fail
 go_end0
 exact⟨rfl,HZ.out⟩
theorem VK{c b:Int}{s:List Int}(h:dE B w x code m u)(hs:m.ak=c :: b :: s)(hl:m.ak.length+0≤32):
  Calls Tryz.prog 111 #[.pointer (some ⟨x.mb,0,none⟩),.int .i64 21] w fun e w'=>e=.returned (.tuple #[])∧RN B w x code {m with ak:=c :: s} u w' x:=by
 have hl':=hl;rw[hs]at hl';simp only[List.length_cons]at hl';have gX:x.mb<w.heap.size:=h.zC (Or.inl rfl);have H0:=ast h;have JM:=ast hs;clear h hs hl;go_enter Tryz.func111,Tryz.ntmps111
 go_wp2_with fail
 refine(dE.take H0.out JM.out).mono ?_;rintro e w0 ⟨rfl,wK⟩;have rW:=ast wK;have hm0:x.mb<w0.heap.size:=Nat.lt_of_lt_of_le gX rW.out.aA.size;clear wK;go_wp2_with fail
 refine(dE.take rW.out.at_ rfl).mono ?_;rintro e w1 ⟨rfl,hn1⟩;have oC:=ast (rW.out.trans hn1);have hm1:x.mb<w1.heap.size:=Nat.lt_of_lt_of_le gX oC.out.aA.size;clear hn1;have qW:=ast (dE.yT [c] oC.out.at_ (by simp only;omega) (by simp only[List.length_cons,List.length_nil];omega));go_wp2_with fail
 refine qW.out.mono ?_;rintro e wz ⟨rfl,hz⟩;have HZ:=ast (oC.out.trans hz);clear hz qW;go_wp2_with fail
 go_end0
 exact⟨rfl,HZ.out⟩
theorem QH{c b:Int}{s:List Int}(h:dE B w x code m u)(hs:m.ak=c :: b :: s)(hl:m.ak.length+1≤32):
  Calls Tryz.prog 111 #[.pointer (some ⟨x.mb,0,none⟩),.int .i64 22] w fun e w'=>e=.returned (.tuple #[])∧RN B w x code {m with ak:=c :: b :: c :: s} u w' x:=by
 have hl':=hl;rw[hs]at hl';simp only[List.length_cons]at hl';have gX:x.mb<w.heap.size:=h.zC (Or.inl rfl);have H0:=ast h;have JM:=ast hs;clear h hs hl;go_enter Tryz.func111,Tryz.ntmps111
 go_wp2_with fail
 refine(dE.take H0.out JM.out).mono ?_;rintro e w0 ⟨rfl,wK⟩;have rW:=ast wK;have hm0:x.mb<w0.heap.size:=Nat.lt_of_lt_of_le gX rW.out.aA.size;clear wK;go_wp2_with fail
 refine(dE.take rW.out.at_ rfl).mono ?_;rintro e w1 ⟨rfl,hn1⟩;have oC:=ast (rW.out.trans hn1);have hm1:x.mb<w1.heap.size:=Nat.lt_of_lt_of_le gX oC.out.aA.size;clear hn1;have qW:=ast (dE.yT [c,b,c] oC.out.at_ (by simp only;omega) (by simp only[List.length_cons,List.length_nil];omega));go_wp2_with fail
 refine qW.out.mono ?_;rintro e wz ⟨rfl,hz⟩;have HZ:=ast (oC.out.trans hz);clear hz qW;go_wp2_with fail
 go_end0
 exact⟨rfl,HZ.out⟩
theorem VL{c b a:Int}{s:List Int}(h:dE B w x code m u)(hs:m.ak=c :: b :: a :: s)(hl:m.ak.length+0≤32):
  Calls Tryz.prog 111 #[.pointer (some ⟨x.mb,0,none⟩),.int .i64 20] w fun e w'=>e=.returned (.tuple #[])∧RN B w x code {m with ak:=a :: c :: b :: s} u w' x:=by
 have hl':=hl;rw[hs]at hl';simp only[List.length_cons]at hl';have gX:x.mb<w.heap.size:=h.zC (Or.inl rfl);have H0:=ast h;have JM:=ast hs;clear h hs hl;go_enter Tryz.func111,Tryz.ntmps111
 go_wp2_with fail
 refine(dE.take H0.out JM.out).mono ?_;rintro e w0 ⟨rfl,wK⟩;have rW:=ast wK;have hm0:x.mb<w0.heap.size:=Nat.lt_of_lt_of_le gX rW.out.aA.size;clear wK;go_wp2_with fail
 refine(dE.take rW.out.at_ rfl).mono ?_;rintro e w1 ⟨rfl,hn1⟩;have oC:=ast (rW.out.trans hn1);have hm1:x.mb<w1.heap.size:=Nat.lt_of_lt_of_le gX oC.out.aA.size;clear hn1;go_wp2_with fail
 refine(dE.take oC.out.at_ rfl).mono ?_;rintro e w2 ⟨rfl,hn2⟩;have vU:=ast (oC.out.trans hn2);have hm2:x.mb<w2.heap.size:=Nat.lt_of_lt_of_le gX vU.out.aA.size;clear hn2;have qW:=ast (dE.yT [b,c,a] vU.out.at_ (by simp only;omega) (by simp only[List.length_cons,List.length_nil];omega));go_wp2_with fail
 refine qW.out.mono ?_;rintro e wz ⟨rfl,hz⟩;have HZ:=ast (vU.out.trans hz);clear hz qW;go_wp2_with fail
 go_end0
 exact⟨rfl,HZ.out⟩
end
end
section
attribute [local go_sem] dK
section
variable{B:Nat}{w w':World}{x:RX}{code:List Int}{m m':MS}{u u':MW}
theorem dE.rJ(h:dE B w x code m u):w.cell? ⟨x.mb,35,none⟩=some (.pointer (some ⟨x.wp,0,none⟩)):=by
 obtain⟨cs,hk,hcs⟩:=h.Dc;exact hk.cell 35 _ hcs.rJ
theorem dE.agz(h:dE B w x code m u)(i:Nat)(hi:i<u.vars.length):
  Calls Tryz.prog 143 #[.pointer (some ⟨x.wp,0,none⟩),.int .i64 i] w fun e w'=>e=.returned (.int .i64 (u.vars.getD i 0))∧w'=w:=
 Jb h.dN h.qV i hi h.len.2.2.2.2.1
theorem dE.store(h:dE B w x code m u)(i:Nat)(a:Int)(hi:i<u.vars.length):
  Calls Tryz.prog 144 #[.pointer (some ⟨x.wp,0,none⟩),.int .i64 i,.int .i64 a] w fun e w'=>e=.returned (.tuple #[])∧RN B w x code m {u with vars:=u.vars.set i a} w' x:=by
 refine(Jc h.dN h.qV i a hi h.len.2.2.2.2.1).mono ?_;rintro e w' ⟨he,hv,hc⟩;have hw:x.vv.ownBlock≠some x.wp:=ah h.qV h.dN (by decide);refine⟨he,h.world (yE:=x.ov) (LV:=x.iv) (hc.mono (fun b _ e=>Or.inr (Or.inl e))) (h.dN.aA hc hw) hv (af h.jV hc (fun b hb e=>h.QD b e hb)) (h.ins.below (h.toBelow hc (fun b e=>Or.inr (Or.inr (Or.inr (Or.inr (Or.inl e))))))) (Lc.refl _ _) ⟨h.len.2.2.1,h.len.2.2.2.1,by rw[List.length_set];exact h.len.2.2.2.2.1⟩⟩
theorem dE.next(h:dE B w x code m u):
  Calls Tryz.prog 145 #[.pointer (some ⟨x.wp,0,none⟩)] w fun e w'=>e=.returned (.int .i64 (u.ins.headD 0))∧∃LV,RN B w x code m {u with ins:=u.ins.tail} w' {x with iv:=LV}:=by
 refine(LU h.dN h.ins h.bw h.len.2.2.2.1).mono ?_;rintro e w' ⟨he,LV,hb,hi,hc⟩;have hv:∀{v:Value} {l:List Int},bP B w v l→bP B w' v l:=fun hr=>af hr hc (fun b hb e=>ah hr h.dN (by decide) (by rw[←e];exact hb))
 exact⟨he,LV,h.world (yE:=x.ov) (LV:=LV) (hc.mono (fun b _ e=>Or.inl e)) hb (hv h.qV) (hv h.jV) hi (Lc.refl _ _) ⟨h.len.2.2.1,by have:=h.len.2.2.2.1;simp only[List.length_tail];omega,h.len.2.2.2.2.1⟩⟩
theorem dE.tell(h:dE B w x code m u)(a:Int)(hl:u.outs.length+1≤2000000):
  Calls Tryz.prog 146 #[.pointer (some ⟨x.wp,0,none⟩),.int .i64 a] w fun e w'=>e=.returned (.tuple #[])∧∃yE,RN B w x code m {u with outs:=u.outs++[a]} w' {x with ov:=yE}:=by
 refine(LW h.dN h.jV a h.len.2.2.1 h.le).mono ?_;rintro e w' ⟨he,yE,hb,ho,hlc,hc⟩;refine⟨he,yE,h.world (yE:=yE) (LV:=x.iv) (hc.mono (fun b _ e=>e.elim Or.inl (fun e=>Or.inr (Or.inr e)))) hb (af h.qV hc (fun b hb e=>?_)) ho (h.ins.below (h.toBelow hc (fun b e=>e.elim (fun e=>Or.inr (Or.inl e)) (fun e=>Or.inr (Or.inr (Or.inr (Or.inr (Or.inr e)))))))) hlc ⟨by simp only[List.length_append,List.length_singleton];exact hl,h.len.2.2.2.1,h.len.2.2.2.2.1⟩⟩;rcases e with e|e
 ·subst e;exact ah h.qV h.dN (by decide) hb
 ·exact h.QD b hb e
theorem L9{i:Nat}{s:List Int}(h:dE B w x code m u)(hs:m.ak=(i:Int) :: s)(hi:i<u.vars.length):
  Calls Tryz.prog 112 #[.pointer (some ⟨x.mb,0,none⟩),.int .i64 23] w fun e w'=>e=.returned (.tuple #[])∧RN B w x code {m with ak:=u.vars.getD i 0 :: s} u w' x:=by
 have hl:s.length<32:=by obtain⟨cs,_,hcs⟩:=h.Dc;have:=hcs.mc.le;rw[hs]at this;simp at this;omega
 have hd:Below w.heap.size w w.drew:=brq.drew;have hD:=h.below hd;have k0:∀u':{w':World // w'.cell? ⟨x.mb,35,none⟩=some (.pointer (some ⟨x.wp,0,none⟩))},u'.val.cell? ⟨x.mb,35,none⟩=some (.pointer (some ⟨x.wp,0,none⟩)):=fun u'=>u'.property
 have hne:Nonempty {w':World // w'.cell? ⟨x.mb,35,none⟩=some (.pointer (some ⟨x.wp,0,none⟩))}:=⟨⟨w,h.rJ⟩⟩;have HD:=ast hD;have HS:=ast hs;have HC:=ast hD.at_.rJ;obtain⟨v,hv⟩:=exq (u.vars.getD i 0);rw[←hv];have HV:=ast hv;clear h hd hD hs hv;go_enter Tryz.func112,Tryz.ntmps112
 go_upto_region 2 with fail
 refine aH (C:=fJ fun w'=>w'.cell? ⟨x.mb,35,none⟩=some (.pointer (some ⟨x.wp,0,none⟩))) 13 [10,11,12] ⟨w.drew,HC.out⟩ (by kernel_rfl) (by kernel_rfl) rfl ?_;rw[show List.range 13=[0,1,2,3,4,5,6,7,8,9,10,11,12]from rfl]
 repeat (refine aO rfl rfl (fun K hK=>?_);go_simp;refine hK _ ?_;clear hK K)
 refine bG rfl rfl 108 #[.pointer (some ⟨x.mb,0,none⟩)] (by go_simp) ((HD.out.at_.take HS.out).mono ?_);rintro e w1 ⟨rfl,hn1⟩;refine⟨_,rfl,hn1.at_.rJ,?_⟩;refine bG rfl rfl 143 #[.pointer (some ⟨x.wp,0,none⟩),.int .i64 i] (by go_simp) ((hn1.at_.agz i hi).mono ?_);rintro e w2 ⟨rfl,rfl⟩;refine⟨_,rfl,hn1.at_.rJ,?_⟩;have oC:=ast (HD.out.trans hn1)
 have NQ:(w2.alloc (.cells #[.int .i64 v] 3 (0,0))).cell? ⟨x.mb,35,none⟩=some (.pointer (some ⟨x.wp,0,none⟩)):=by
  have:=(hn1.at_.below (brq.alloc nrq (.cells #[.int .i64 v] 3 (0,0)))).at_.rJ;exact this
 have qW:=ast (dE.yT [v] hn1.at_ (by simp only;omega) (by simp only[List.length_cons,List.length_nil];omega));rw[←HV.out];refine eu rfl rfl (.slice (some ⟨w2.heap.size,0,none⟩) 1 1) (w2.alloc (.cells #[.int .i64 v] 3 (0,0))) NQ (Or.inl (by go_simp)) ?_;refine df ?_;intro w' hw';rw[show w'=w2.alloc (.cells #[.int .i64 v] 3 (0,0))from hw'];clear hw' w' k0 hne NQ hn1;simp only[List.drop_succ_cons,List.drop_zero];go_wp2_with fail
 refine qW.out.mono ?_;rintro e wz ⟨rfl,hz⟩;have HZ:=ast (oC.out.trans hz);clear hz qW;go_wp2_with fail
 go_end0
 exact⟨rfl,HZ.out⟩
theorem Mc{i:Nat}{a:Int}{s:List Int}(h:dE B w x code m u)(hs:m.ak=(i:Int) :: a :: s)(hi:i<u.vars.length):
  Calls Tryz.prog 112 #[.pointer (some ⟨x.mb,0,none⟩),.int .i64 24] w fun e w'=>e=.returned (.tuple #[])∧RN B w x code {m with ak:=s} {u with vars:=u.vars.set i a} w' x:=by
 have hd:Below w.heap.size w w.drew:=brq.drew;have hD:=h.below hd;have hne:Nonempty {w':World // True}:=⟨⟨w,trivial⟩⟩;have gX:x.mb<w.heap.size:=h.zC (Or.inl rfl);have HD:=ast hD;have HS:=ast hs;clear h hd hD hs;go_enter Tryz.func112,Tryz.ntmps112
 go_upto_region 4 with fail
 refine iy (C:=fJ fun _=>True) 8 [0,1,2,4,5,6,3,7] [3,7] ⟨w.drew,trivial⟩ (by kernel_rfl) (by kernel_rfl) rfl ?_
 repeat (refine aO rfl rfl (fun K hK=>?_);go_simp;refine hK _ ?_;clear hK K)
 refine bG rfl rfl 108 #[.pointer (some ⟨x.mb,0,none⟩)] (by go_simp) ((HD.out.at_.take HS.out).mono ?_);rintro e w1 ⟨rfl,hn1⟩;refine⟨_,rfl,trivial,?_⟩;refine bG rfl rfl 108 #[.pointer (some ⟨x.mb,0,none⟩)] (by go_simp) ((hn1.at_.take rfl).mono ?_);rintro e w2 ⟨rfl,hn2⟩;refine⟨_,rfl,trivial,df ?_⟩;intro w' hw';rw[show w'=w2 from hw'];have vU:=ast ((HD.out.trans hn1).trans hn2);have rJ:=hn2.at_.rJ;have HST:=ast (hn2.at_.store i a hi);have hm2:x.mb<w2.heap.size:=hn2.at_.zC (Or.inl rfl);clear hw' w' hne hn1 hn2;simp only[List.drop_succ_cons,List.drop_zero];go_wp2_with fail
 refine HST.out.mono ?_;rintro e wz ⟨rfl,hz⟩;have HZ:=ast (vU.out.trans hz);clear hz HST rJ;go_wp2_with fail
 go_end0
 exact⟨rfl,HZ.out⟩
theorem YI(h:dE B w x code m u)(hl:m.ak.length<32):
  Calls Tryz.prog 112 #[.pointer (some ⟨x.mb,0,none⟩),.int .i64 25] w fun e w'=>e=.returned (.tuple #[])∧fK B w x code {m with ak:=u.ins.headD 0 :: m.ak} {u with ins:=u.ins.tail} w':=by
 have hd:Below w.heap.size w w.drew:=brq.drew;have hD:=h.below hd;have k0:∀u':{w':World // w'.cell? ⟨x.mb,35,none⟩=some (.pointer (some ⟨x.wp,0,none⟩))},u'.val.cell? ⟨x.mb,35,none⟩=some (.pointer (some ⟨x.wp,0,none⟩)):=fun u'=>u'.property
 have hne:Nonempty {w':World // w'.cell? ⟨x.mb,35,none⟩=some (.pointer (some ⟨x.wp,0,none⟩))}:=⟨⟨w,h.rJ⟩⟩;have HD:=ast hD;have HC:=ast hD.at_.rJ;obtain⟨v,hv⟩:=exq (u.ins.headD 0);rw[←hv];have HV:=ast hv;clear h hd hD hv;go_enter Tryz.func112,Tryz.ntmps112
 go_upto_region 7 with fail
 refine aH (C:=fJ fun w'=>w'.cell? ⟨x.mb,35,none⟩=some (.pointer (some ⟨x.wp,0,none⟩))) 9 [7,8] ⟨w.drew,HC.out⟩ (by kernel_rfl) (by kernel_rfl) rfl ?_;rw[show List.range 9=[0,1,2,3,4,5,6,7,8]from rfl]
 repeat (refine aO rfl rfl (fun K hK=>?_);go_simp;refine hK _ ?_;clear hK K)
 refine bG rfl rfl 145 #[.pointer (some ⟨x.wp,0,none⟩)] (by go_simp) ((HD.out.at_.next).mono ?_);rintro e w2 ⟨rfl,LV,hn1⟩;refine⟨_,rfl,hn1.at_.rJ,?_⟩;have oC:=ast (HD.out.trans hn1)
 have NQ:(w2.alloc (.cells #[.int .i64 v] 3 (0,0))).cell? ⟨x.mb,35,none⟩=some (.pointer (some ⟨x.wp,0,none⟩)):=by
  have:=(hn1.at_.below (brq.alloc nrq (.cells #[.int .i64 v] 3 (0,0)))).at_.rJ;exact this
 have qW:=ast (dE.yT [v] hn1.at_ hl (by simp only[List.length_cons,List.length_nil];omega));rw[←HV.out];refine eu rfl rfl (.slice (some ⟨w2.heap.size,0,none⟩) 1 1) (w2.alloc (.cells #[.int .i64 v] 3 (0,0))) NQ (Or.inl (by go_simp)) ?_;refine df ?_;intro w' hw';rw[show w'=w2.alloc (.cells #[.int .i64 v] 3 (0,0))from hw'];clear hw' w' k0 hne NQ hn1;simp only[List.drop_succ_cons,List.drop_zero];go_wp2_with fail
 refine qW.out.mono ?_;rintro e wz ⟨rfl,hz⟩;have HZ:=ast (oC.out.trans hz);clear hz qW;go_wp2_with fail
 go_end0
 exact⟨rfl,_,HZ.out⟩
theorem VM{a:Int}{s:List Int}(h:dE B w x code m u)(hs:m.ak=a :: s)(hl:u.outs.length+1≤2000000):
  Calls Tryz.prog 112 #[.pointer (some ⟨x.mb,0,none⟩),.int .i64 26] w fun e w'=>e=.returned (.tuple #[])∧fK B w x code {m with ak:=s} {u with outs:=u.outs++[a]} w':=by
 have hd:Below w.heap.size w w.drew:=brq.drew;have hD:=h.below hd;have k0:∀u':{w':World // w'.cell? ⟨x.mb,35,none⟩=some (.pointer (some ⟨x.wp,0,none⟩))},u'.val.cell? ⟨x.mb,35,none⟩=some (.pointer (some ⟨x.wp,0,none⟩)):=fun u'=>u'.property
 have hne:Nonempty {w':World // w'.cell? ⟨x.mb,35,none⟩=some (.pointer (some ⟨x.wp,0,none⟩))}:=⟨⟨w,h.rJ⟩⟩;have HD:=ast hD;have HC:=ast hD.at_.rJ;have HS:=ast hs;clear h hd hD hs;go_enter Tryz.func112,Tryz.ntmps112
 go_upto_region 9 with fail
 refine aH (C:=fJ fun w'=>w'.cell? ⟨x.mb,35,none⟩=some (.pointer (some ⟨x.wp,0,none⟩))) 8 [7] ⟨w.drew,HC.out⟩ (by kernel_rfl) (by kernel_rfl) rfl ?_;rw[show List.range 8=[0,1,2,3,4,5,6,7]from rfl]
 repeat (refine aO rfl rfl (fun K hK=>?_);go_simp;refine hK _ ?_;clear hK K)
 refine bG rfl rfl 108 #[.pointer (some ⟨x.mb,0,none⟩)] (by go_simp) ((HD.out.at_.take HS.out).mono ?_);rintro e w2 ⟨rfl,hn1⟩;refine⟨_,rfl,hn1.at_.rJ,df ?_⟩;intro w' hw';rw[show w'=w2 from hw'];have oC:=ast (HD.out.trans hn1);have HTL:=ast (hn1.at_.tell a hl);clear hw' w' k0 hne hn1;simp only[List.drop_succ_cons,List.drop_zero];go_wp2_with fail
 refine HTL.out.mono ?_;rintro e wz ⟨rfl,yE,hz⟩;have HZ:=ast (oC.out.trans hz);clear hz HTL;go_wp2_with fail
 go_end0
 exact⟨rfl,_,HZ.out⟩
end
end
section
attribute [local go_sem] dK
section
variable{B:Nat}{w w':World}{x:RX}{code:List Int}{m m':MS}{u u':MW}
theorem dE.dh(h:dE B w x code m u):w.cell? ⟨x.mb,38,none⟩=some (.int .i64 m.at_)∧w.frozen? ⟨x.mb,38,none⟩=false∧x.mb<w.heap.size:=by
 obtain⟨cs,hk,hcs⟩:=h.Dc;exact⟨hk.cell 38 _ hcs.dh,hk.frozen 38,hk.lt⟩
theorem dE.qU(h:dE B w x code m u):w.cell? ⟨x.mb,36,none⟩=some x.rv:=by
 obtain⟨cs,hk,hcs⟩:=h.Dc;exact hk.cell 36 _ hcs.qU
theorem dE.setAt(h:dE B w x code m u)(n:Nat)(hn:n≤code.length):RN B w x code {m with at_:=n} u (w.setCell ⟨x.mb,38,none⟩ (.int .i64 n)) x:=by
 obtain⟨cs,hk,hcs⟩:=h.Dc;have hc:aj (fun b=>b=x.mb) w (w.setCell ⟨x.mb,38,none⟩ (.int .i64 n)):=(aj.refl (fun b=>b=x.mb) w).setCell (p:=⟨x.mb,38,none⟩) rfl _;have hsz:=hcs.mc.size;have g:∀i,i≠38→(cs.setIfInBounds 38 (.int .i64 n))[i]?=cs[i]?:=fun i hi=>Array.getElem?_setIfInBounds_ne (Ne.symm hi)
 have hmc:MC (cs.setIfInBounds 38 (.int .i64 n)) m.ak:=⟨by simp[hsz],hcs.mc.ak.congr (fun i hi=>g i (by have:=hcs.mc.le;omega)),(g 32 (by decide)).trans hcs.mc.dep,hcs.mc.le,fun i hi=>by rw[g i (by omega)];exact hcs.mc.any i hi⟩;refine h.machine (qx:=x.lv) (cv':=x.cv) (hc.mono (fun b _ e=>Or.inl e)) ⟨_,hk.set (o:=38) _,hmc,(g 33 (by decide)).trans hcs.W9,(g 34 (by decide)).trans hcs.YH,(g 35 (by decide)).trans hcs.rJ,(g 36 (by decide)).trans hcs.qU,(g 37 (by decide)).trans hcs.c37,by rw[Array.getElem?_setIfInBounds_self_of_lt (by omega)]⟩ (af h.lI hc (fun b hb e=>ah h.lI hk (by decide) (by rw[←e];exact hb))) (af h.fB hc (fun b hb e=>ah h.fB hk (by decide) (by rw[←e];exact hb))) (Lc.refl _ _) (Lc.refl _ _) ⟨h.len.1,h.len.2.1,hn⟩
theorem dE.operand{v:Int}(h:dE B w x code m u)(hv:code[m.at_]?=some v):
  Calls Tryz.prog 114 #[.pointer (some ⟨x.mb,0,none⟩)] w fun e w'=>e=.returned (.int .i64 v)∧RN B w x code {m with at_:=m.at_+1} u w' x:=by
 have hlt:m.at_<code.length:=(List.getElem?_eq_some_iff.1 hv).1;obtain⟨dh,f38,gX⟩:=h.dh;have hS:=h.setAt (m.at_+1) (by omega);obtain⟨X,hX⟩:=exq (w.setCell ⟨x.mb,38,none⟩ (.int .i64 ((m.at_+1:Nat):Int)):World);rw[←hX]at hS;obtain⟨x38,_,zB⟩:=hS.at_.dh;have x36:=hS.at_.qU;obtain⟨g,cap,D7,hcap,hg,hcell⟩:=hS.at_.iO;rw[D7]at x36;have xg:X.cell? ⟨g,m.at_,none⟩=some (.int .i64 v):=hcell _ _ hv;have hcl:=h.len.2.2.2.2.2.1;obtain⟨k,hk⟩:=exq (m.at_);obtain⟨n,hn⟩:=exq (code.length);have HS:=ast hS;rw[←hn]at x36 hlt hcap hcl;simp only at x38;rw[←hk]at dh x38 xg hlt hX;have HX:=ast hX;have RY:(k:Int)<(n:Int):=by omega
 have hk0:(0:Int)≤(k:Int):=by omega
 have hkb:(k:Int)≤1000:=by omega
 have hcast:((k+1:Nat):Int)=(k:Int)+1:=by omega
 rw[hcast]at x38 HX;have hgX:g<X.heap.size:=Nat.lt_of_lt_of_le hg hS.at_.le;clear h hS hX hv hcell D7 hn hk hcast;go_enter Tryz.func114,Tryz.ntmps114
 go_upto_region 2 with fail
 rw[←HX.out];clear dh f38;go_wp2_with fail
 go_quiet (fail)
 go_wp2_with fail
 go_ret
 have hbq:Below X.heap.size X (X.drewN nq):=bdq;exact⟨rfl,HS.out.trans (HS.out.at_.below hbq)⟩
theorem dE.agB(h:dE B w x code m u)(p:Int)(hl:m.calls.length+1≤2000000):
  Calls Tryz.prog 150 #[.pointer (some ⟨x.mb,34,none⟩),.int .i64 p] w fun e w'=>e=.returned (.tuple #[])∧fK B w x code {m with calls:=m.calls++[p]} u w':=by
 obtain⟨cs,hk,hcs⟩:=h.Dc;refine(QB hk hcs.YH h.fB p h.len.2.1 h.le).mono ?_;rintro e w' ⟨he,cv',xU,hr',hlc,hc⟩;have hsz:=hcs.mc.size;have g:∀i,i≠34→(cs.setIfInBounds 34 cv')[i]?=cs[i]?:=fun i hi=>Array.getElem?_setIfInBounds_ne (Ne.symm hi)
 have hmc:MC (cs.setIfInBounds 34 cv') m.ak:=⟨by simp[hsz],hcs.mc.ak.congr (fun i hi=>g i (by have:=hcs.mc.le;omega)),(g 32 (by decide)).trans hcs.mc.dep,hcs.mc.le,fun i hi=>by rw[g i (by omega)];exact hcs.mc.any i hi⟩;refine⟨he,_,h.machine (qx:=x.lv) (cv':=cv') (hc.mono (fun b _ e=>e.elim Or.inl (fun e=>Or.inr (Or.inr e)))) ⟨_,xU,hmc,(g 33 (by decide)).trans hcs.W9,by rw[Array.getElem?_setIfInBounds_self_of_lt (by omega)],(g 35 (by decide)).trans hcs.rJ,(g 36 (by decide)).trans hcs.qU,(g 37 (by decide)).trans hcs.c37,(g 38 (by decide)).trans hcs.dh⟩ (af h.lI hc (fun b hb e=>?_)) hr' (Lc.refl _ _) hlc ⟨h.len.1,by simp only[List.length_append,List.length_singleton];exact hl,h.len.2.2.2.2.2.2⟩⟩;rcases e with e|e
 ·subst e;exact ah h.lI hk (by decide) hb
 ·exact bQ h.lI h.fB (by decide) hb e
theorem dE.YJ(h:dE B w x code m u)(hc:m.calls=[]):
  Calls Tryz.prog 147 #[.pointer (some ⟨x.mb,34,none⟩)] w fun e w'=>e=.returned (.tuple #[.int .i64 0,.bool false])∧w'=w:=by
 obtain⟨cs,hk,hcs⟩:=h.Dc;have hr:=h.fB;rw[hc]at hr;exact FX hk hcs.YH hr
theorem dE.caller{l:List Int}{p:Int}(h:dE B w x code m u)(hc:m.calls=l++[p]):
  Calls Tryz.prog 147 #[.pointer (some ⟨x.mb,34,none⟩)] w fun e w'=>e=.returned (.tuple #[.int .i64 p,.bool true])∧fK B w x code {m with calls:=l} u w':=by
 obtain⟨cs,hk,hcs⟩:=h.Dc;have hr:=h.fB;have hl:=h.len.2.1;rw[hc]at hr hl;simp at hl;refine(Jd hk hcs.YH hr (by omega)).mono ?_;rintro e w' ⟨he,cv',xU,hr',hlc,jh⟩;have hsz:=hcs.mc.size;have g:∀i,i≠34→(cs.setIfInBounds 34 cv')[i]?=cs[i]?:=fun i hi=>Array.getElem?_setIfInBounds_ne (Ne.symm hi)
 have hmc:MC (cs.setIfInBounds 34 cv') m.ak:=⟨by simp[hsz],hcs.mc.ak.congr (fun i hi=>g i (by have:=hcs.mc.le;omega)),(g 32 (by decide)).trans hcs.mc.dep,hcs.mc.le,fun i hi=>by rw[g i (by omega)];exact hcs.mc.any i hi⟩;exact⟨he,_,h.machine (qx:=x.lv) (cv':=cv') (jh.mono (fun b _ e=>Or.inl e)) ⟨_,xU,hmc,(g 33 (by decide)).trans hcs.W9,by rw[Array.getElem?_setIfInBounds_self_of_lt (by omega)],(g 35 (by decide)).trans hcs.rJ,(g 36 (by decide)).trans hcs.qU,(g 37 (by decide)).trans hcs.c37,(g 38 (by decide)).trans hcs.dh⟩ (af h.lI jh (fun b hb e=>ah h.lI hk (by decide) (by rw[←e];exact hb))) hr' (Lc.refl _ _) hlc ⟨h.len.1,by simp only;omega,h.len.2.2.2.2.2.2⟩⟩
theorem dE.Jg{qx:Value}{l:List (Int×Int)}(h:dE B w x code m u){cs:Array Value}(hk0:az w x.mb cs 116)(hcs:QC x m cs)(hk:az w' x.mb (cs.setIfInBounds 33 qx) 116)(hr:xK B w' qx l)(hlc:Lc w x.lv qx)(hc:aj (fun b=>b=x.mb∨x.lv.ownBlock=some b) w w')(hl:l.length≤2000000):
  RN B w x code {m with loops:=l} u w' {x with lv:=qx,cv:=x.cv}:=by
 have hsz:=hcs.mc.size;have g:∀i,i≠33→(cs.setIfInBounds 33 qx)[i]?=cs[i]?:=fun i hi=>Array.getElem?_setIfInBounds_ne (Ne.symm hi)
 have hmc:MC (cs.setIfInBounds 33 qx) m.ak:=⟨by simp[hsz],hcs.mc.ak.congr (fun i hi=>g i (by have:=hcs.mc.le;omega)),(g 32 (by decide)).trans hcs.mc.dep,hcs.mc.le,fun i hi=>by rw[g i (by omega)];exact hcs.mc.any i hi⟩;refine h.machine (qx:=qx) (cv':=x.cv) (hc.mono (fun b _ e=>e.elim Or.inl (fun e=>Or.inr (Or.inl e)))) ⟨_,hk,hmc,by rw[Array.getElem?_setIfInBounds_self_of_lt (by omega)],(g 34 (by decide)).trans hcs.YH,(g 35 (by decide)).trans hcs.rJ,(g 36 (by decide)).trans hcs.qU,(g 37 (by decide)).trans hcs.c37,(g 38 (by decide)).trans hcs.dh⟩ hr (af h.fB hc (fun b hb e=>?_)) hlc (Lc.refl _ _) ⟨hl,h.len.2.1,h.len.2.2.2.2.2.2⟩;rcases e with e|e
 ·subst e;exact ah h.fB hk0 (by decide) hb
 ·exact bQ h.lI h.fB (by decide) e hb
theorem dE.enter(h:dE B w x code m u)(a b:Int)(hab:a<b)(hl:m.loops.length+1≤2000000):
  Calls Tryz.prog 148 #[.pointer (some ⟨x.mb,33,none⟩),.int .i64 a,.int .i64 b] w fun e w'=>e=.returned (.bool true)∧fK B w x code {m with loops:=m.loops++[(a,b)]} u w':=by
 obtain⟨cs,hk,hcs⟩:=h.Dc;refine(LY hk hcs.W9 h.lI a b h.len.1 h.le hab).mono ?_;rintro e w' ⟨he,qx,xU,hr',hlc,hc⟩;exact⟨he,_,h.Jg hk hcs xU hr' hlc hc (by simpa using hl)⟩
theorem dE.number{l:List (Int×Int)}{a b:Int}(h:dE B w x code m u)(hs:m.loops=l++[(a,b)]):
  Calls Tryz.prog 113 #[.pointer (some ⟨x.mb,33,none⟩)] w fun e w'=>e=.returned (.int .i64 a)∧Below w.heap.size w w':=by
 obtain⟨cs,hk,hcs⟩:=h.Dc;have hr:=h.lI;have hl:=h.len.1;rw[hs]at hr hl;simp at hl;exact Jf hk hcs.W9 hr (by omega)
theorem dE.again{l:List (Int×Int)}{a b:Int}(h:dE B w x code m u)(hs:m.loops=l++[(a,b)])(h0: -9000000000≤a)(h1:a≤9000000000):
  Calls Tryz.prog 149 #[.pointer (some ⟨x.mb,33,none⟩)] w fun e w'=>e=.returned (.bool (decide (a+1<b)))∧fK B w x code {m with loops:=if a+1<b then l++[(a+1,b)]else l} u w':=by
 obtain⟨cs,hk,hcs⟩:=h.Dc;have hr:=h.lI;have hl:=h.len.1;rw[hs]at hr hl;simp at hl;refine(L8 hk hcs.W9 hr (by omega) h0 h1).mono ?_;rintro e w' ⟨he,qx,xU,hr',hlc,hc⟩;refine⟨he,_,h.Jg hk hcs xU hr' hlc hc ?_⟩
 split
 ·rw[List.length_append,List.length_singleton];omega
 ·omega
end
end
section
attribute [local go_sem] dK
section
variable{B:Nat}{w w':World}{x:RX}{code:List Int}{m m':MS}{u u':MW}
theorem Jh(h:dE B w x code m u)(hc:m.calls=[]):
  Calls Tryz.prog 115 #[.pointer (some ⟨x.mb,0,none⟩)] w fun e w'=>e=.returned (.int .i64 0)∧w'=w:=by
 have HC:=ast (h.YJ hc);have gX:=h.dh.2.2;clear h hc;go_enter Tryz.func115,Tryz.ntmps115
 go_wp2_with fail
 refine HC.out.mono ?_;rintro e w1 ⟨rfl,rfl⟩;clear HC;go_wp2_with fail
 go_ret
 exact⟨rfl,rfl⟩
theorem Md{l:List Int}{p:Nat}(h:dE B w x code m u)(hc:m.calls=l++[(p:Int)])(hp:p≤code.length):
  Calls Tryz.prog 115 #[.pointer (some ⟨x.mb,0,none⟩)] w fun e w'=>e=.returned (.int .i64 4)∧fK B w x code {m with calls:=l,at_:=p} u w':=by
 have HC:=ast (h.caller hc);have gX:=h.dh.2.2;clear h hc;go_enter Tryz.func115,Tryz.ntmps115
 go_wp2_with fail
 refine HC.out.mono ?_;rintro e w1 ⟨rfl,y,hn⟩;have hst:=hn.at_.setAt p hp;obtain⟨dh,f38,hm1⟩:=hn.at_.dh;rw[hn.mb]at dh f38 hm1 hst;have HN:=ast hn;have HST:=ast hst;clear hn hst HC;go_wp2_with fail
 go_ret
 exact⟨rfl,y,HN.out.trans HST.out⟩
theorem qX{y:RX}{k:Nat}(h:RN B w x code m' u w' y)(hk:k≤code.length):RN B w x code {m' with at_:=k} u (w'.setCell ⟨x.mb,38,none⟩ (.int .i64 k)) y:=by
 have:=h.at_.setAt k hk;rw[h.mb]at this;exact h.trans this
theorem QI{k:Nat}(h:dE B w x code m u)(hv:code[m.at_]?=some (k:Int))(hk:k≤code.length):
  Calls Tryz.prog 116 #[.pointer (some ⟨x.mb,0,none⟩),.int .i64 30] w fun e w'=>e=.returned (.tuple #[])∧fK B w x code {m with at_:=k} u w':=by
 have HC:=ast (h.operand hv);have gX:=h.dh.2.2;clear h hv;go_enter Tryz.func116,Tryz.ntmps116
 go_wp2_with fail
 refine HC.out.mono ?_;rintro e w1 ⟨rfl,hn⟩;obtain⟨dh,f38,hm1⟩:=hn.at_.dh;have HN:=ast hn;clear hn HC;go_wp2_with fail
 go_end0
 exact⟨rfl,_,qX (m':={m with at_:=m.at_+1}) HN.out hk⟩
theorem YK{k:Nat}{a:Int}{s:List Int}(h:dE B w x code m u)(hv:code[m.at_]?=some (k:Int))(hk:k≤code.length)(hs:m.ak=a :: s):
  Calls Tryz.prog 116 #[.pointer (some ⟨x.mb,0,none⟩),.int .i64 29] w fun e w'=>e=.returned (.tuple #[])∧fK B w x code {m with ak:=s,at_:=if a=0 then k else m.at_+1} u w':=by
 have HC:=ast (h.operand hv);have gX:=h.dh.2.2;have HS:=ast hs;obtain⟨K,hK⟩:=exq (if a=0 then k else m.at_+1);rw[←hK];have HK:=ast hK;clear h hv hs hK;go_enter Tryz.func116,Tryz.ntmps116
 go_wp2_with fail
 refine HC.out.mono ?_;rintro e w1 ⟨rfl,hn⟩;have HT:=ast (hn.at_.take HS.out);have hm1:=hn.at_.dh.2.2;have HN:=ast hn;clear hn HC;go_wp2_with fail
 refine HT.out.mono ?_;rintro e w2 ⟨rfl,hn2⟩;obtain⟨dh,f38,hm2⟩:=hn2.at_.dh;have vU:=ast (HN.out.trans hn2);clear hn2 HT
 by_cases ha:a=0
 ·have hd:(a == 0)=true:=by simp[ha]
  have jD:Hid (K=k):=by show K=k;rw[HK.out,if_pos ha]
  have HA:=ast ha;clear ha HK;go_wp2_with fail
  go_end0
  rw[jD.out];exact⟨rfl,_,qX vU.out hk⟩
 ·have hd:(a == 0)=false:=by simp[ha]
  have jD:Hid (K=m.at_+1):=by show K=_;rw[HK.out,if_neg ha]
  clear HK;go_wp2_with fail
  go_end0
  rw[jD.out];exact⟨rfl,_,vU.out⟩
theorem YL{k:Nat}{a b:Int}{s:List Int}(h:dE B w x code m u)(hv:code[m.at_]?=some (k:Int))(hk:k≤code.length)(hs:m.ak=a :: b :: s)(hl:m.loops.length+1≤2000000):
  Calls Tryz.prog 116 #[.pointer (some ⟨x.mb,0,none⟩),.int .i64 31] w fun e w'=>e=.returned (.tuple #[])∧fK B w x code (if a<b then{m with ak:=s,loops:=m.loops++[(a,b)],at_:=m.at_+1}else{m with ak:=s,at_:=k}) u w':=by
 have HC:=ast (h.operand hv);have gX:=h.dh.2.2;have HS:=ast hs;obtain⟨K,hK⟩:∃K,K=(if a<b then{m with ak:=s,loops:=m.loops++[(a,b)],at_:=m.at_+1}else{m with ak:=s,at_:=k}):=⟨_,rfl⟩;rw[←hK];have HK:=ast hK;have hne:Nonempty {w':World // True}:=⟨⟨w,trivial⟩⟩;clear h hv hs hK;go_enter Tryz.func116,Tryz.ntmps116
 go_wp2_with fail
 refine HC.out.mono ?_;rintro e w1 ⟨rfl,hn⟩;have hD:=hn.at_.below (Below.drew (Below.refl w1.heap.size w1));have HN:=ast hn;have HD:=ast hD;clear hn hD HC;go_upto_region 6 with fail
 refine iy (C:=fJ fun _=>True) 8 [0,1,2,4,5,6,3,7] [3,7] ⟨w1.drew,trivial⟩ (by kernel_rfl) (by kernel_rfl) rfl ?_
 repeat (refine aO rfl rfl (fun K hK=>?_);go_simp;refine hK _ ?_;clear hK K)
 refine bG rfl rfl 108 #[.pointer (some ⟨x.mb,0,none⟩)] (by go_simp) ((HD.out.at_.take HS.out).mono ?_);rintro e w2 ⟨rfl,hn1⟩;refine⟨_,rfl,trivial,?_⟩;refine bG rfl rfl 108 #[.pointer (some ⟨x.mb,0,none⟩)] (by go_simp) ((hn1.at_.take rfl).mono ?_);rintro e w3 ⟨rfl,hn2⟩;refine⟨_,rfl,trivial,df ?_⟩;intro w' hw';rw[show w'=w3 from hw'];have vU:=ast (((HN.out.trans HD.out).trans hn1).trans hn2);obtain⟨dh,f38,hm3⟩:=hn2.at_.dh;have vw:=ast hn2.at_;clear hw' w' hne hn1 hn2 HN HD;simp only[List.drop_succ_cons,List.drop_zero]
 by_cases hab:a<b
 ·have jD:Hid (K={m with ak:=s,loops:=m.loops++[(a,b)],at_:=m.at_+1}):=by show K=_;rw[HK.out,if_pos hab]
  have HE:=ast (vw.out.enter a b hab hl);clear HK vw;go_wp2_with fail
  refine HE.out.mono ?_;rintro e w4 ⟨rfl,y,hn4⟩;have HN4:=ast (vU.out.trans hn4);clear hn4 HE;go_wp2_with fail
  go_end0
  rw[jD.out];exact⟨rfl,y,HN4.out⟩
 ·have jD:Hid (K={m with ak:=s,at_:=k}):=by show K=_;rw[HK.out,if_neg hab]
  have HE:=ast (Je (w:=w3) (mb:=x.mb) a b hab);clear HK vw;go_wp2_with fail
  refine HE.out.mono ?_;rintro e w4 ⟨rfl,rfl⟩;clear HE;go_wp2_with fail
  go_end0
  rw[jD.out];exact⟨rfl,_,qX vU.out hk⟩
theorem QJ{k:Nat}{a b:Int}{l:List (Int×Int)}(h:dE B w x code m u)(hv:code[m.at_]?=some (k:Int))(hk:k≤code.length)(hs:m.loops=l++[(a,b)])(h0: -9000000000≤a)(h1:a≤9000000000):
  Calls Tryz.prog 116 #[.pointer (some ⟨x.mb,0,none⟩),.int .i64 32] w fun e w'=>e=.returned (.tuple #[])∧fK B w x code (if a+1<b then{m with loops:=l++[(a+1,b)],at_:=k}else{m with loops:=l,at_:=m.at_+1}) u w':=by
 have HC:=ast (h.operand hv);have gX:=h.dh.2.2;have HS:=ast hs;obtain⟨K,hK⟩:∃K,K=(if a+1<b then{m with loops:=l++[(a+1,b)],at_:=k}else{m with loops:=l,at_:=m.at_+1}):=⟨_,rfl⟩;rw[←hK];have HK:=ast hK;clear h hv hs hK;go_enter Tryz.func116,Tryz.ntmps116
 go_wp2_with fail
 refine HC.out.mono ?_;rintro e w1 ⟨rfl,hn⟩;have HT:=ast (hn.at_.again HS.out h0 h1);have hm1:=hn.at_.dh.2.2;have HN:=ast hn;clear hn HC
 by_cases hab:a+1<b
 ·have hd:decide (a+1<b)=true:=decide_eq_true hab
  have jD:Hid (K={m with loops:=l++[(a+1,b)],at_:=k}):=by show K=_;rw[HK.out,if_pos hab]
  rw[hd,if_pos hab]at HT;clear HK hd;go_wp2_with fail
  refine HT.out.mono ?_;rintro e w2 ⟨rfl,y,hn2⟩;obtain⟨dh,f38,hm2⟩:=hn2.at_.dh;rw[hn2.mb]at dh f38 hm2;have vU:=ast (HN.out.trans hn2);clear hn2 HT;go_wp2_with fail
  go_end0
  rw[jD.out];exact⟨rfl,y,qX vU.out hk⟩
 ·have hd:decide (a+1<b)=false:=decide_eq_false hab
  have jD:Hid (K={m with loops:=l,at_:=m.at_+1}):=by show K=_;rw[HK.out,if_neg hab]
  rw[hd,if_neg hab]at HT;clear HK hd;go_wp2_with fail
  refine HT.out.mono ?_;rintro e w2 ⟨rfl,y,hn2⟩;have vU:=ast (HN.out.trans hn2);clear hn2 HT;go_wp2_with fail
  go_end0
  rw[jD.out];exact⟨rfl,y,vU.out⟩
theorem Me{k:Nat}(h:dE B w x code m u)(hv:code[m.at_]?=some (k:Int))(hk:k≤code.length)(hl:m.calls.length+1≤2000000):
  Calls Tryz.prog 116 #[.pointer (some ⟨x.mb,0,none⟩),.int .i64 33] w fun e w'=>e=.returned (.tuple #[])∧fK B w x code {m with calls:=m.calls++[((m.at_+1:Nat):Int)],at_:=k} u w':=by
 have HC:=ast (h.operand hv);have gX:=h.dh.2.2;obtain⟨q,hq⟩:=exq (((m.at_+1:Nat):Int):Int);rw[←hq];have HQ:=ast hq;clear h hv hq;go_enter Tryz.func116,Tryz.ntmps116
 go_wp2_with fail
 refine HC.out.mono ?_;rintro e w1 ⟨rfl,hn⟩;have hD:=hn.at_.below (Below.drew (Below.refl w1.heap.size w1));obtain⟨d38,_,hmd⟩:=hD.at_.dh;obtain⟨dh,_,hm1⟩:=hn.at_.dh;simp only at d38 dh;rw[←HQ.out]at d38 dh;have hne:Nonempty {w':World // w'.cell? ⟨x.mb,38,none⟩=some (.int .i64 q)}:=⟨⟨w1,dh⟩⟩;have k0:∀u':{w':World // w'.cell? ⟨x.mb,38,none⟩=some (.int .i64 q)},u'.val.cell? ⟨x.mb,38,none⟩=some (.int .i64 q):=fun u'=>u'.property
 have HN:=ast hn;have HD:=ast hD;clear hn hD HC;go_upto_region 11 with fail
 refine aH (C:=fJ fun w'=>w'.cell? ⟨x.mb,38,none⟩=some (.int .i64 q)) 7 [] ⟨w1.drew,d38⟩ (by kernel_rfl) (by kernel_rfl) rfl ?_;rw[show List.range 7=[0,1,2,3,4,5,6]from rfl]
 repeat (refine aO rfl rfl (fun K hK=>?_);go_simp;refine hK _ ?_;clear hK K)
 refine df ?_;intro w' hw';rw[show w'=w1.drew from hw'];clear hw' w' hne k0 dh d38;have HE:=ast (HD.out.at_.agB q hl);simp only[List.drop_succ_cons,List.drop_zero];go_wp2_with fail
 refine HE.out.mono ?_;rintro e w2 ⟨rfl,y,hn2⟩;obtain⟨dh,f38,hm2⟩:=hn2.at_.dh;rw[hn2.mb]at dh f38 hm2;have vU:=ast ((HN.out.trans HD.out).trans hn2);clear hn2 HE;go_wp2_with fail
 go_end0
 exact⟨rfl,y,qX vU.out hk⟩
end
end
section
attribute [local go_sem] dK
section
variable{B:Nat}{w w':World}{x:RX}{code:List Int}{m m':MS}{u u':MW}
def cO(k:Nat)(s:List Int)(n:Nat):Int:=
 if(s.length:Int)<(ai k).need then 1 else if(k=23∨k=24)∧¬(0≤s.headD 0∧s.headD 0<(n:Int))then 3 else if 32<(s.length:Int)+(ai k).bu then 2 else 4
theorem dE.FV(h:dE B w x code m u):w.cell? ⟨x.mb,32,none⟩=some (.int .i64 m.ak.length)∧m.ak.length≤32:=by
 obtain⟨cs,hk,hcs⟩:=h.Dc;exact⟨hk.cell 32 _ hcs.mc.dep,hcs.mc.le⟩
theorem dE.top{a:Int}{s:List Int}(h:dE B w x code m u)(hs:m.ak=a :: s):
  Calls Tryz.prog 139 #[.pointer (some ⟨x.mb,0,none⟩)] w fun e w'=>e=.returned (.int .i64 a)∧Below w.heap.size w w':=by
 obtain⟨cs,hk,hcs⟩:=h.Dc;have:=hcs.mc;rw[hs]at this;exact VH hk this
theorem dE.has(h:dE B w x code m u)(a:Int):
  Calls Tryz.prog 138 #[.pointer (some ⟨x.wp,0,none⟩),.int .i64 a] w fun e w'=>e=.returned (.bool (decide (0≤a∧a<u.vars.length)))∧w'=w:=by
 obtain⟨va,vc,hv,_,_⟩:=ag h.qV;have hb:=h.dN;rw[hv]at hb;exact QA hb a h.len.2.2.2.2.1
theorem iG(k:Nat)(hk:k<35)(h:dE B w x code m u)(ht:lh w):
  Calls Tryz.prog 107 #[.pointer (some ⟨x.mb,0,none⟩),.int .i64 k] w fun e w'=>e=.returned (.int .i64 (cO k m.ak u.vars.length))∧Below w.heap.size w w':=by
 have HEF:=ast (dV k w hk ht);obtain⟨R,hR⟩:=exq (cO k m.ak u.vars.length);rw[←hR];have hR2:=hR;unfold cO at hR2;have ry:=qL k hk;obtain⟨n1,n2,n3,n4,n5,hI⟩:∃(a b c d:Int) (e:Bool),(ai k).tm=.agg #[.int .i64 a,.int .i64 b,.int .i64 c,.int .i64 d,.bool e]∧a=(ai k).need∧b=(ai k).bu:=⟨_,_,_,_,_,rfl,rfl,rfl⟩;obtain⟨hI,hn1,hn2⟩:=hI;have hb1:0≤n1∧n1≤3∧ -3≤n2∧n2≤3:=by rw[hn1,hn2];simp only[ai];omega
 rw[hI]at HEF;rw[←hn1,←hn2]at hR2;obtain⟨hb1,hb2,hb3,hb4⟩:=hb1;have HR:=ast hR2;have H:=ast h;have gX:=h.dh.2.2;have LQ:=h.FV.2;have oC:=ast hn1;clear hR hR2 h ht ry hI hn1 hn2;go_enter Tryz.func107,Tryz.ntmps107
 go_wp2_with fail
 refine HEF.out.mono ?_;rintro e w1 ⟨rfl,hbe⟩;obtain⟨X,hX⟩:=exq (w1.alloc (.cells #[.int .i64 n1,.int .i64 n2,.int .i64 n3,.int .i64 n4,.bool n5] 151 (0,0)):World);obtain⟨eb,heb⟩:=exq (w1.heap.size);have hbX:Below w.heap.size w X:=by rw[hX];exact hbe.alloc hbe.size _
 have bU:az X eb #[.int .i64 n1,.int .i64 n2,.int .i64 n3,.int .i64 n4,.bool n5] 151:=by rw[hX,heb];exact ay w1 _ _
 have hAX:=H.out.below hbX;have x0:X.cell? ⟨eb,0,none⟩=some (.int .i64 n1):=bU.cell 0 _ rfl;have x1:X.cell? ⟨eb,1,none⟩=some (.int .i64 n2):=bU.cell 1 _ rfl;have x32:=hAX.at_.FV.1;obtain⟨d,hd⟩:=exq (m.ak.length);rw[←hd]at x32 LQ;have hdd:=HR.out;rw[←hd]at hdd;have HR2:=ast hdd;have HD:=ast hd;have HX:=ast hX;have HEB:=ast heb;have lV:=ast hbX;have jX:=ast bU;have HAX:=ast hAX;have zB:=hAX.at_.dh.2.2;clear hX heb hbX bU hAX hbe HEF hd hdd HR;go_upto_region 2 with fail
 rw[←HX.out,←HEB.out]
 by_cases hlt:(d:Int)<n1
 ·have hdt:decide ((d:Int)<n1)=true:=decide_eq_true hlt
  have hfin:Hid (R=1):=by show R=1;rw[HR2.out,if_pos hlt]
  clear HR2;go_wp2_with fail
  go_quiet (fail)
  go_wp2_with fail
  rw[hfin.out];go_ret
  exact⟨rfl,lV.out.trans ⟨rfl,rfl,rfl,nrq,fun _ _=>rfl⟩⟩
 ·have hdt:decide ((d:Int)<n1)=false:=decide_eq_false hlt
  have hr3:=HR2.out;rw[if_neg hlt]at hr3;have WV:=ast hr3;clear hr3 HR2;go_wp2_with fail
  go_quiet (fail)
  have hbq:Below X.heap.size X (X.drewN nq):=bdq;obtain⟨V,hV⟩:=exq (X.drewN nq:World);rw[←hV]at hbq;rw[←hV];have hAV:=HAX.out.at_.below hbq;have BU:=jX.out.sub hbq jX.out.lt;have rC:=ast (lV.out.trans (hbq.mono lV.out.size));have RF:=ast hAV;have Oz:=ast BU;have v1:V.cell? ⟨eb,1,none⟩=some (.int .i64 n2):=BU.cell 1 _ rfl;have v32:=hAV.at_.FV.1;rw[←HD.out]at v32;have hmV:=hAV.at_.dh.2.2;have ab8:=BU.lt;clear hV hbq hAV BU x0 x1 x32 HX HEB lV jX HAX
  by_cases h2:k=23∨k=24
  ·rcases h2 with rfl|rfl
   ·have agC:1≤n1:=by rw[oC.out];decide
    obtain⟨a,s,hs⟩:∃a s,m.ak=a :: s:=by
     cases hq:m.ak with
     |nil=>have:=HD.out;rw[hq]at this;simp at this;omega
     |cons a s=>exact⟨a,s,rfl⟩
    have hr4:=WV.out;rw[hs]at hr4;simp only[List.headD_cons]at hr4;have HR4:=ast hr4;have HS:=ast hs;have g1:(((23:Nat):Int) == 23)=true:=by decide
    have g2:(((23:Nat):Int) == 24)=false:=by decide
    have hD:=RF.out.at_.below (Below.drew (Below.refl V.heap.size V));have k0:∀u':{w':World // w'.cell? ⟨x.mb,35,none⟩=some (.pointer (some ⟨x.wp,0,none⟩))},u'.val.cell? ⟨x.mb,35,none⟩=some (.pointer (some ⟨x.wp,0,none⟩)):=fun u'=>u'.property
    have hne:Nonempty {w':World // w'.cell? ⟨x.mb,35,none⟩=some (.pointer (some ⟨x.wp,0,none⟩))}:=⟨⟨V,RF.out.at_.rJ⟩⟩;have vH:=ast hD;have HC:=ast hD.at_.rJ;clear hr4 WV hs hD;go_upto_region 4 with fail
    refine aH (C:=fJ fun w'=>w'.cell? ⟨x.mb,35,none⟩=some (.pointer (some ⟨x.wp,0,none⟩))) 18 [14,15] ⟨V.drew,HC.out⟩ (by kernel_rfl) (by kernel_rfl) rfl ?_;rw[show List.range 18=[0,1,2,3,4,5,6,7,8,9,10,11,12,13,14,15,16,17]from rfl]
    repeat (refine aO rfl rfl (fun K hK=>?_);go_simp;refine hK _ ?_;clear hK K)
    refine bG rfl rfl 139 #[.pointer (some ⟨x.mb,0,none⟩)] (by go_simp) ((vH.out.at_.top HS.out).mono ?_);rintro e w2 ⟨rfl,hb2⟩;have hn2:=vH.out.at_.below hb2;refine⟨_,rfl,hn2.at_.rJ,?_⟩;refine bG rfl rfl 138 #[.pointer (some ⟨x.wp,0,none⟩),.int .i64 a] (by go_simp) ((hn2.at_.has a).mono ?_);rintro e w3 ⟨rfl,rfl⟩;refine⟨_,rfl,hn2.at_.rJ,?_⟩;obtain⟨b,hb⟩:=exq (decide (0≤a∧a<(u.vars.length:Int)));rw[←hb];have HB:=ast hb;have Bc:Below V.heap.size V w3:=(Below.drew (Below.refl V.heap.size V)).trans hb2;have z1:w3.cell? ⟨eb,1,none⟩=some (.int .i64 n2):=(Bc.cell (p:=⟨eb,1,none⟩) ab8).trans v1;have z32:w3.cell? ⟨x.mb,32,none⟩=some (.int .i64 d):=(Bc.cell (p:=⟨x.mb,32,none⟩) hmV).trans v32;have BK:=ast (rC.out.trans (Bc.mono rC.out.size));clear hb Bc v1 v32
    cases b with
    |false=>
     have hfin:Hid (R=3):=by show R=3;rw[HR4.out,if_pos ⟨by decide,of_decide_eq_false HB.out.symm⟩]
     clear HR4
     repeat (refine aO rfl rfl (fun K hK=>?_);go_simp;refine hK _ ?_;clear hK K)
     refine df ?_;intro w' hw';rw[show w'=w3 from hw'];clear hw' w' k0 hne;simp only[List.drop_succ_cons,List.drop_zero];go_wp2_with fail
     rw[hfin.out];go_ret
     exact⟨rfl,BK.out⟩
    |true=>
     have YM:=HR4.out;rw[if_neg (fun h=>h.2 (of_decide_eq_true HB.out.symm))]at YM;have Rt:=ast YM;clear HR4 YM
     repeat (refine aO rfl rfl (fun K hK=>?_);go_simp;refine hK _ ?_;clear hK K)
     refine df ?_;intro w' hw';rw[show w'=w3 from hw'];clear hw' w' k0 hne;simp only[List.drop_succ_cons,List.drop_zero]
     by_cases h3:32<(d:Int)+n2
     ·have VN:decide (32<(d:Int)+n2)=true:=decide_eq_true h3
      have hfin:Hid (R=2):=by show R=2;rw[Rt.out,if_pos h3]
      clear Rt;go_wp2_with fail
      go_quiet (fail)
      go_wp2_with fail
      rw[hfin.out];go_ret
      exact⟨rfl,BK.out.trans ⟨rfl,rfl,rfl,nrq,fun _ _=>rfl⟩⟩
     ·have VN:decide (32<(d:Int)+n2)=false:=decide_eq_false h3
      have hfin:Hid (R=4):=by show R=4;rw[Rt.out,if_neg h3]
      clear Rt;go_wp2_with fail
      go_quiet (fail)
      go_wp2_with fail
      rw[hfin.out];go_ret
      exact⟨rfl,BK.out.trans ⟨rfl,rfl,rfl,nrq,fun _ _=>rfl⟩⟩
   ·have agC:2≤n1:=by rw[oC.out];decide
    obtain⟨a,s,hs⟩:∃a s,m.ak=a :: s:=by
     cases hq:m.ak with
     |nil=>have:=HD.out;rw[hq]at this;simp at this;omega
     |cons a s=>exact⟨a,s,rfl⟩
    have hr4:=WV.out;rw[hs]at hr4;simp only[List.headD_cons]at hr4;have HR4:=ast hr4;have HS:=ast hs;have g1:(((24:Nat):Int) == 23)=false:=by decide
    have g2:(((24:Nat):Int) == 24)=true:=by decide
    have hD:=RF.out.at_.below (Below.drew (Below.refl V.heap.size V));have k0:∀u':{w':World // w'.cell? ⟨x.mb,35,none⟩=some (.pointer (some ⟨x.wp,0,none⟩))},u'.val.cell? ⟨x.mb,35,none⟩=some (.pointer (some ⟨x.wp,0,none⟩)):=fun u'=>u'.property
    have hne:Nonempty {w':World // w'.cell? ⟨x.mb,35,none⟩=some (.pointer (some ⟨x.wp,0,none⟩))}:=⟨⟨V,RF.out.at_.rJ⟩⟩;have vH:=ast hD;have HC:=ast hD.at_.rJ;clear hr4 WV hs hD;go_upto_region 4 with fail
    refine aH (C:=fJ fun w'=>w'.cell? ⟨x.mb,35,none⟩=some (.pointer (some ⟨x.wp,0,none⟩))) 18 [14,15] ⟨V.drew,HC.out⟩ (by kernel_rfl) (by kernel_rfl) rfl ?_;rw[show List.range 18=[0,1,2,3,4,5,6,7,8,9,10,11,12,13,14,15,16,17]from rfl]
    repeat (refine aO rfl rfl (fun K hK=>?_);go_simp;refine hK _ ?_;clear hK K)
    refine bG rfl rfl 139 #[.pointer (some ⟨x.mb,0,none⟩)] (by go_simp) ((vH.out.at_.top HS.out).mono ?_);rintro e w2 ⟨rfl,hb2⟩;have hn2:=vH.out.at_.below hb2;refine⟨_,rfl,hn2.at_.rJ,?_⟩;refine bG rfl rfl 138 #[.pointer (some ⟨x.wp,0,none⟩),.int .i64 a] (by go_simp) ((hn2.at_.has a).mono ?_);rintro e w3 ⟨rfl,rfl⟩;refine⟨_,rfl,hn2.at_.rJ,?_⟩;obtain⟨b,hb⟩:=exq (decide (0≤a∧a<(u.vars.length:Int)));rw[←hb];have HB:=ast hb;have Bc:Below V.heap.size V w3:=(Below.drew (Below.refl V.heap.size V)).trans hb2;have z1:w3.cell? ⟨eb,1,none⟩=some (.int .i64 n2):=(Bc.cell (p:=⟨eb,1,none⟩) ab8).trans v1;have z32:w3.cell? ⟨x.mb,32,none⟩=some (.int .i64 d):=(Bc.cell (p:=⟨x.mb,32,none⟩) hmV).trans v32;have BK:=ast (rC.out.trans (Bc.mono rC.out.size));clear hb Bc v1 v32
    cases b with
    |false=>
     have hfin:Hid (R=3):=by show R=3;rw[HR4.out,if_pos ⟨by decide,of_decide_eq_false HB.out.symm⟩]
     clear HR4
     repeat (refine aO rfl rfl (fun K hK=>?_);go_simp;refine hK _ ?_;clear hK K)
     refine df ?_;intro w' hw';rw[show w'=w3 from hw'];clear hw' w' k0 hne;simp only[List.drop_succ_cons,List.drop_zero];go_wp2_with fail
     rw[hfin.out];go_ret
     exact⟨rfl,BK.out⟩
    |true=>
     have YM:=HR4.out;rw[if_neg (fun h=>h.2 (of_decide_eq_true HB.out.symm))]at YM;have Rt:=ast YM;clear HR4 YM
     repeat (refine aO rfl rfl (fun K hK=>?_);go_simp;refine hK _ ?_;clear hK K)
     refine df ?_;intro w' hw';rw[show w'=w3 from hw'];clear hw' w' k0 hne;simp only[List.drop_succ_cons,List.drop_zero]
     by_cases h3:32<(d:Int)+n2
     ·have VN:decide (32<(d:Int)+n2)=true:=decide_eq_true h3
      have hfin:Hid (R=2):=by show R=2;rw[Rt.out,if_pos h3]
      clear Rt;go_wp2_with fail
      go_quiet (fail)
      go_wp2_with fail
      rw[hfin.out];go_ret
      exact⟨rfl,BK.out.trans ⟨rfl,rfl,rfl,nrq,fun _ _=>rfl⟩⟩
     ·have VN:decide (32<(d:Int)+n2)=false:=decide_eq_false h3
      have hfin:Hid (R=4):=by show R=4;rw[Rt.out,if_neg h3]
      clear Rt;go_wp2_with fail
      go_quiet (fail)
      go_wp2_with fail
      rw[hfin.out];go_ret
      exact⟨rfl,BK.out.trans ⟨rfl,rfl,rfl,nrq,fun _ _=>rfl⟩⟩
  ·have g1:((k:Int) == 23)=false:=by simp;omega
   have g2:((k:Int) == 24)=false:=by simp;omega
   have hr4:=WV.out;rw[if_neg (fun h=>h2 h.1)]at hr4;have HR4:=ast hr4;clear hr4 WV;go_wp2_with fail
   go_quiet (fail)
   have hbq:Below V.heap.size V (V.drewN nq):=bdq;obtain⟨Z,hZ⟩:=exq (V.drewN nq:World);rw[←hZ]at hbq;rw[←hZ];have z1:Z.cell? ⟨eb,1,none⟩=some (.int .i64 n2):=(hbq.cell (p:=⟨eb,1,none⟩) ab8).trans v1;have z32:Z.cell? ⟨x.mb,32,none⟩=some (.int .i64 d):=(hbq.cell (p:=⟨x.mb,32,none⟩) hmV).trans v32;have BK:=ast (rC.out.trans (hbq.mono rC.out.size));clear hZ hbq v1 v32
   by_cases h3:32<(d:Int)+n2
   ·have VN:decide (32<(d:Int)+n2)=true:=decide_eq_true h3
    have hfin:Hid (R=2):=by show R=2;rw[HR4.out,if_pos h3]
    clear HR4;go_wp2_with fail
    go_quiet (fail)
    go_wp2_with fail
    rw[hfin.out];go_ret
    exact⟨rfl,BK.out.trans ⟨rfl,rfl,rfl,nrq,fun _ _=>rfl⟩⟩
   ·have VN:decide (32<(d:Int)+n2)=false:=decide_eq_false h3
    have hfin:Hid (R=4):=by show R=4;rw[HR4.out,if_neg h3]
    clear HR4;go_wp2_with fail
    go_quiet (fail)
    go_wp2_with fail
    rw[hfin.out];go_ret
    exact⟨rfl,BK.out.trans ⟨rfl,rfl,rfl,nrq,fun _ _=>rfl⟩⟩
end
end
end Go.Proofs.YtcphhbofjkenaaaGreatDoor
