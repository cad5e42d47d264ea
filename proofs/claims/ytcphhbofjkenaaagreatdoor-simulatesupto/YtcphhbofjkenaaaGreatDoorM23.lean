import Derived.Test.YtcphhbofjkenaaaGreatDoorMy
import Derived.Test.YtcphhbofjkenaaaGreatDoorM19
namespace Go.Proofs.YtcphhbofjkenaaaGreatDoor
open Go Go.RowKit Proofs.Tryz
set_option linter.unusedVariables false
set_option linter.unusedSimpArgs false
set_option maxRecDepth 100000
set_option maxHeartbeats 16000000
variable{cs cs':Array Value}{x y b a c:Int}{s l:List Int}{w w':World}{mb lb cap g n B i k:Nat}{iv cv lv eD:Value}
theorem JB{p:Prop}(h:p:=by
  have hD:=s7.at_.below (Below.drew (Below.refl V.heap.size V));have k0:∀u':{w':World // w'.cell? (ai x.mb 35)=some (ax x.wp)},u'.val.cell? (ai x.mb 35)=some (ax x.wp):=fun u'=>u'.property
  have hne:Nonempty {w':World // w'.cell? (ai x.mb 35)=some (ax x.wp)}:=⟨⟨V,s7.at_.fq⟩⟩;have eO:=af hD;have HC:=af hD.at_.fq;clear hr4 HR3 hs hD;go_upto_region 4 with fail
  refine ly (C:=eM fun w'=>w'.cell? (ai x.mb 35)=some (ax x.wp)) 18 [14,15] ⟨V.drew,HC⟩ aP aP rfl ?_;rw[show List.range 18=[0,1,2,3,4,5,6,7,8,9,10,11,12,13,14,15,16,17]from rfl]
  repeat (refine eV rfl rfl (fun K hK=>?_);go_simp;refine hK _ ?_;clear hK K)
  refine ja rfl rfl 139 #[ax x.mb] dB ((eO.at_.top HS).mono ?_);rintro e w2 ⟨rfl,hb2⟩;have hn2:=eO.at_.below hb2;refine⟨_,rfl,hn2.at_.fq,?_⟩;refine ja rfl rfl 138 #[ax x.wp,ae a] dB ((hn2.at_.has a).mono ?_);rintro e w3 ⟨rfl,rfl⟩;refine⟨_,rfl,hn2.at_.fq,?_⟩;obtain⟨b,hb⟩:=ak (decide (0≤a∧a<(u.vars.length:Int)));rw[←hb];have HB:=af hb;have fe:Below V.heap.size V w3:=(Below.drew (Below.refl V.heap.size V)).trans hb2;have z1:w3.cell? (ai eb 1)=some (ae n2):=(fe.cell (p:=ai eb 1) Q7).trans v1;have z32:w3.cell? (ai x.mb 32)=some (ae d):=(fe.cell (p:=ai x.mb 32) hmV).trans v32;have lf:=af (cS.trans (fe.mono cS.size));clear hb fe v1 v32
  cases b with
  |false=>
   have hfin:Hid (R=3):=UY;clear HR4
   repeat (refine eV rfl rfl (fun K hK=>?_);go_simp;refine hK _ ?_;clear hK K)
   refine iV ?_;intro w' hw';rw[show w'=w3 from hw'];clear hw' w' k0 hne;simp only[List.drop_succ_cons,List.drop_zero];go_wp2_with fail;rw[hfin.out];go_ret;exact⟨rfl,lf⟩
  |true=>
   have vI:=HR4.out;rw[az (fun h=>h.2 (of_decide_eq_true HB.symm))]at vI;have mz:=af vI;clear HR4 vI
   repeat (refine eV rfl rfl (fun K hK=>?_);go_simp;refine hK _ ?_;clear hK K)
   refine iV ?_;intro w' hw';rw[show w'=w3 from hw'];clear hw' w' k0 hne;simp only[List.drop_succ_cons,List.drop_zero]
   by_cases h3:32<(d:Int)+n2
   ·have yV:decide (32<(d:Int)+n2)=true:=jW h3
    have hfin:Hid (R=2):=by show R=2;rw[mz.out,aG h3]
    clear mz;go_wp2_with fail;go_quiet (fail);go_wp2_with fail;rw[hfin.out];go_ret;exact⟨rfl,lf.trans ⟨rfl,rfl,rfl,aH,fun _ _=>rfl⟩⟩
   ·have yV:decide (32<(d:Int)+n2)=false:=gO h3
    have hfin:Hid (R=4):=by show R=4;rw[mz.out,az h3]
    clear mz;go_wp2_with fail;go_quiet (fail);go_wp2_with fail;rw[hfin.out];go_ret;exact⟨rfl,lf.trans ⟨rfl,rfl,rfl,aH,fun _ _=>rfl⟩⟩):p:=h
theorem BB{p:Prop}(h:p:=by
  refine gC.mono ?_;rintro e wz ⟨rfl,hz⟩;have HZ:=af (eA.trans hz);clear hz gC;go_wp2_with fail;go_end0;exact⟨rfl,HZ⟩):p:=h
theorem OJ{p:Prop}(h:p:=by
  have hci:∀{b:Nat} {v:Value} {l:List Int},bX B w v l→v.ownBlock=some b→b≠x.mb:=fun hr hb e=>aZ hr hk aj xC
  exact⟨he,h.machine (eD:=x.lv) (cv':=x.cv) (hc.mono (fun b _ e=>aC e)) ⟨cs',eI,hcs.stack sL hr'⟩ (aR h.fx hc (fun b hb e=>hcl h.fx hb e)) (aR h.cD hc (fun b hb e=>hci h.cD hb e)) (Lc.refl _ _) (Lc.refl _ _) ⟨h.len.1,h.len.2.1,h.len.2.2.2.2.2.2⟩⟩):p:=h
theorem F9{p:Prop}(h:p:=by
  simp only[Value.ownBlock,Option.some.injEq]at hk;subst hk;rcases hat with e|e
  ·exact aC e
  ·right;omega):p:=h
theorem IQ{p:Prop}(h:p:=by
  clear hR;go_enter func138,ntmps138;go_wp2_with fail;rw[HR.out];go_ret;exact⟨rfl,rfl⟩):p:=h
theorem PJ{p:Prop}(h:p:=by
  clear HR4;go_wp2_with fail;go_quiet (fail);go_wp2_with fail;rw[hfin.out];go_ret;exact⟨rfl,lf.trans ⟨rfl,rfl,rfl,aH,fun _ _=>rfl⟩⟩):p:=h
theorem Lz{p:Prop}(h:p:=by
  show World.ownsRow _ _ _ _ _ _ _
  rw[cF,gJ,ints,List.map_append];exact aR HR cO (fun b hb e=>oZ uH)):p:=h
theorem Kc{p:Prop}(h:p:=by
  go_wp2_with fail
  go_quiet (fail)
  go_wp2_with fail
  go_ret
  exact⟨rfl,⟨rfl,rfl,rfl,aH,fun _ _=>rfl⟩⟩):p:=h
theorem Mx{p:Prop}(h:p:=by
  cases hq:m.au with
  |nil=>have:=HD.out;rw[hq]at this;simp at this;omega
  |cons a s=>exact⟨a,s,rfl⟩):p:=h
section
attribute [local go_sem] fH
def rK(cs:Array Value):List Int→Prop
 |[]=>True
 |x :: r=>cs[r.length]?=some (ae x)∧rK cs r
theorem rK.congr:∀{s:List Int},rK cs s→(∀i,i<s.length→cs'[i]?=cs[i]?)→rK cs' s
 |[],_,_=>trivial
 |x :: r,h,he=>⟨(he r.length aF).trans h.1,h.2.congr (fun i hi=>he i aK)⟩
structure MC (cs:Array Value) (s:List Int):Prop where
 size:cs.size=39
 au:rK cs s
 dep:cs[32]?=some (ae s.length)
 le:s.length≤32
 any:∀i,i<32→∃z:Int,cs[i]?=some (ae z)
def Rest(cs cs':Array Value):Prop:=∀i,33≤i→cs'[i]?=cs[i]?
theorem MC.pop(h:MC cs (x :: s)):MC (cs.setIfInBounds 32 (ae s.length)) s∧Rest cs (cs.setIfInBounds 32 (ae s.length)):=by
 have hl:=h.le;simp at hl;refine⟨⟨by simp[h.size],h.au.2.congr (fun i hi=>?_),?_,ag,fun i hi=>?_⟩,fun i hi=>?_⟩
 ·rw[jy ag]
 ·rw[sV (by rw[h.size];omega)]
 ·rw[jy ag];exact h.any i hi
 ·rw[jy ag]
theorem SQ(hb:ay w mb cs 116)(h:MC cs (x :: s)):
  Calls prog 108 #[ax mb] w fun e w'=>e=.returned (ae x)∧∃cs',ay w' mb cs' 116∧MC cs' s∧Rest cs cs'∧aq (fun b=>b=mb) w w':=by
 have nK:w.cell? (ai mb 32)=some (ae ((s.length:Int)+1)):=JN;have f32:=hb.frozen 32;have hl:=h.le;simp at hl;obtain⟨X,hX⟩:=ak (w.setCell (ai mb 32) (ae s.length):World);obtain⟨hp,hr⟩:=h.pop;have aN:ay X mb (cs.setIfInBounds 32 (ae s.length)) 116:=by rw[hX];exact hb.set (o:=32) _
 have x32:X.cell? (ai mb 32)=some (ae s.length):=aN.cell 32 _ hp.dep;have xs:X.cell? (ai mb s.length)=some (ae x):=aN.cell s.length _ (by rw[jy ag];exact h.au.1);have fo:aq (fun b=>b=mb) w X:=by rw[hX];exact(aq.refl (fun b=>b=mb) w).setCell (p:=ai mb 32) rfl _
 have jI:=aN.lt;have hmw:=hb.lt;have HX:=af hX;have bz:=af aN;have eN:=af fo;have HP:=af (aY hp hr);have hs0:(0:Int)≤(s.length:Int):=ag;have hs1:(s.length:Int)<32:=ag;clear hX aN fo hp hr h hb;go_enter func108,ntmps108;go_upto_region 2 with fail
 rw[←HX.out];clear nK f32;go_wp2_with fail;go_quiet (fail);go_wp2_with fail;go_ret;have hbq:Below X.heap.size X (X.drewN nq):=dz;exact⟨rfl,_,bz.sub hbq bz.lt,HP.out.1,HP.out.2,eN.trans (aq.bf hbq)⟩
theorem Sw(hb:ay w mb cs 116)(h:MC cs (x :: s)):
  Calls prog 139 #[ax mb] w fun e w'=>e=.returned (ae x)∧Below w.heap.size w w':=by
 have nK:w.cell? (ai mb 32)=some (ae ((s.length:Int)+1)):=JN;have hl:=h.le;simp at hl;have xs:w.cell? (ai mb s.length)=some (ae x):=hb.cell s.length _ h.au.1;have hmw:=hb.lt;have hs0:(0:Int)≤(s.length:Int):=ag;have hs1:(s.length:Int)<32:=ag;clear h hb;go_enter func139,ntmps139;exact Kc
theorem rK.put:∀(ys s:List Int),rK cs s→(∀i y,ys[i]?=some y→cs[s.length+i]?=some (ae y))→rK cs (ys.reverse++s)
 |[],s,h,_=>h
 |y :: l,s,h,hy=>by
  have h1:rK cs (y :: s):=⟨hy 0 y rfl,h⟩
  have:=rK.put l (y :: s) h1 (fun i z hz=>by
   have:=hy (i+1) z hz;rw[fA,Nat.add_assoc,Nat.add_comm 1 i];exact this)
  simpa using this
def oI(cs:Array Value)(d:Nat)(ys:List Int):Array Value:=(cs.toList.take d++(ys.map (Value.int .i64))++cs.toList.drop (d+ys.length)).toArray
theorem He(cs:Array Value)(d:Nat)(ys:List Int)(i:Nat)(h:d+ys.length≤cs.size):(oI cs d ys)[i]?=if i<d then cs[i]? else if i<d+ys.length then(ys.map (Value.int .i64))[i - d]? else cs[i]?:=by
 unfold oI;rw[List.getElem?_toArray];have h1:(cs.toList.take d).length=d:=by rw[List.length_take,kP];omega
 split
 ·rename_i hi
  rw[vZ,dH ag,List.getElem?_take,aG hi,Array.getElem?_toList]
 ·rename_i hi
  split
  ·rename_i h2
   rw[vZ,fP ag,h1,dH aK]
  ·rename_i h2
   rw[fP (by rw[cF,h1];simp;omega),cF,h1,List.length_map,List.getElem?_drop,Array.getElem?_toList]
   congr 1;omega
theorem MC.push(h:MC cs s)(ys:List Int)(hy:s.length+ys.length≤32):
  MC ((oI cs s.length ys).setIfInBounds 32 (ae ((s.length:Int)+ys.length))) (ys.reverse++s)∧Rest cs ((oI cs s.length ys).setIfInBounds 32 (ae ((s.length:Int)+ys.length))):=by
 have hs:=h.size;have hsz:(oI cs s.length ys).size=39:=by unfold oI;simp[hs];omega
 have hg:=fun i=>He cs s.length ys i ag
 refine⟨⟨by simp[hsz],?_,?_,aK,fun i hi=>?_⟩,fun i hi=>?_⟩
 ·refine rK.put ys s (h.au.congr (fun i hi=>?_)) (fun i y hi=>?_)
  ·rw[jy ag,hg,aG hi]
  ·have hil:=(cI.1 hi).1
   rw[jy ag,hg,az ag,aG ag,Nat.add_sub_cancel_left,iH,hi];rfl
 ·rw[sV (by rw[hsz];omega)];simp;omega
 ·rw[jy ag,hg]
  split
  ·exact h.any i hi
  ·split
   ·rename_i h1 h2
    obtain⟨y,hy⟩:∃y,ys[i - s.length]?=some y:=⟨_,bE ag⟩;exact⟨y,by rw[iH,hy];rfl⟩
   ·exact h.any i hi
 ·rw[jy ag,hg,az ag,az ag]
theorem Ea:(prog.info? 3).map (·.size)=some 1:=aP
theorem Zb(ys:List Int)(hb:ay w mb cs 116)(h:MC cs s)(h32:s.length<32)(hy:s.length+ys.length≤32)(hlb:lb≠mb)(hll:lb<w.heap.size)(hcap:ys.length≤cap)
  (hl:∀(i:Nat) (y:Int),ys[i]?=some y→w.cell? (ai lb i)=some (ae y)):
  Calls prog 106 #[ax mb,aD lb ys.length cap] w fun e w'=>e=.returned (.tuple #[])∧∃cs',ay w' mb cs' 116∧MC cs' (ys.reverse++s)∧Rest cs cs'∧aq (fun b=>b=mb) w w':=by
 have nK:w.cell? (ai mb 32)=some (ae s.length):=hb.cell 32 _ h.dep;obtain⟨hp,hr⟩:=h.push ys hy;have hsz:=h.size;have hmw:=hb.lt;have hs0:(0:Int)≤(s.length:Int):=ag;have hs1:(s.length:Int)≤32:=ag;have hs2:¬32=s.length:=ag
 have mU:=run_copy_row (P:=prog) w.drew 24 24 3 3 mb s.length (32 - s.length) (32 - s.length) (ai lb 0) ys.length cap cs 116 (ys.map (Value.int .i64)) underlying24 Ea hb (by rw[List.length_map];exact(Nat.min_eq_left ag).symm) (fun j v hj=>by
  rw[iH]at hj;obtain⟨y,hy1,rfl⟩:=Option.map_eq_some_iff.1 hj;rw[Addr.add_lit,Nat.zero_add];exact hl j y hy1) (by rw[List.length_map];omega) (fun v hv=>by
  obtain⟨y,_,rfl⟩:=List.mem_map.1 hv;rfl)
 rw[List.length_map]at mU;obtain⟨X,hX⟩:=ak (w.drew.setRow mb (oI cs s.length ys):World);have zf:(Builtin.copy_ #[24,24] 3 #[.slice (some (ai mb s.length)) (32 - s.length) (32 - s.length),aD lb ys.length cap]).run prog w.drew=.ok (ae ys.length) X:=by rw[hX];exact mU
 have aN:ay X mb (oI cs s.length ys) 116:=QY;have fo:aq (fun b=>b=mb) w X:=Qj
 have x32:X.cell? (ai mb 32)=some (ae s.length):=aN.cell 32 _ (by
  rw[He cs s.length ys 32 ag,az ag,az ag];exact h.dep)
 have k0:∀u:{w':World // w'=w.drew∨w'=X},u.val.cell? (ai mb 32)=some (ae s.length):=fun u=>by
  rcases u.property with e|e
  ·rw[e];exact nK
  ·rw[e];exact x32
 have hne:Nonempty {w':World // w'=w.drew∨w'=X}:=⟨⟨X,aA rfl⟩⟩;have HP:=af (aY hp hr);have bz:=af aN;have eN:=af fo;have HCP:=af zf;have hfz:=aN.frozen 32;have Si:=aN.lt;clear mU zf hX aN fo h hb hp hr nK hl;go_enter func106,ntmps106;refine ly (C:=eM fun w'=>w'=w.drew∨w'=X) 15 [13] ⟨w.drew,aC rfl⟩ aP aP rfl ?_;rw[show List.range 15=[0,1,2,3,4,5,6,7,8,9,10,11,12,13,14]from rfl]
 repeat (refine eV rfl rfl (fun K hK=>?_);go_simp;refine hK _ ?_;clear hK K)
 have mU:=HCP.out;refine oG rfl rfl (ae ys.length) X (aA rfl) (aC dB) ?_;clear mU HCP
 repeat (refine eV rfl rfl (fun K hK=>?_);go_simp;refine hK _ ?_;clear hK K)
 refine iV ?_;intro w' hw';rw[show w'=X from hw'];clear hw' w' k0 hne;simp only[List.drop_succ_cons,List.drop_zero];go_wp2_with fail;go_end0;exact⟨rfl,_,bz.set (o:=32) _,HP.out.1,HP.out.2,eN.setCell (p:=ai mb 32) rfl _⟩
end
section
theorem Tryz.vo:(prog.info? 3).map (fun i=>(i.zero,i.size,i.bytes))=some (some (ae 0),1,8):=aP
theorem Tryz.WO:(prog.info? 237).map (fun i=>(i.zero,i.size,i.bytes))=some (some (.agg #[ae 0,ae 0]),2,16):=aP
theorem za(W:World)(x:Array Value)(t:TypeId):∀(j:Nat) (u:Value),x.toList[j]?=some u→(W.alloc (.cells x t (0,0))).cell? ((Addr.mk W.heap.size 0 none).add j)=some u:=World.news_of_block (fr:=(0,0)) (heap_alloc_new W _)
theorem Tryz.E8:(prog.info? 249).map (fun i=>(i.zero,i.size,i.bytes))=some (some (.agg dR),5,80):=aP
theorem vz{x:Array Value}(h:five x):∀u∈x.toList,u.oneCell'=true:=by
 obtain⟨k,n,s,a1,n1,c1,a2,n2,c2,rfl⟩:=h;intro u hu;simp only[er,List.not_mem_nil,or_false]at hu;rcases hu with rfl|rfl|rfl|rfl|rfl<;>rfl
theorem ownsRow_pop{base:Nat}{e:TypeId}{size:Nat}{xs ys:List Value}(h:w.ownsRow base e size (aD g (n+1) cap) (n+1) (xs++ys))(hl:xs.length=n*size):w.ownsRow base e size (aD g n cap) n xs:=by
 refine⟨hl,?_⟩;rcases h.2 with ⟨h0,_⟩|⟨g',cap',cur,hv,h1,h2,h3,h4,h5,h6⟩
 ·cases h0
 ·obtain⟨rfl,rfl⟩:g=g'∧cap=cap':=by simpa using hv
  refine aA ⟨g,cap,cur,rfl,h1,h2,ag,h4,h5,?_⟩;have e:(xs++ys).take (n*size)=xs:=by rw[List.take_append_of_le_length ag,List.take_of_length_le ag]
  have:=congrArg (List.take (n*size)) h6;rw[List.take_take,Nat.min_eq_left (Nat.mul_le_mul_right _ ag),e]at this;exact this
abbrev ints(l:List Int):List Value:=l.map (Value.int .i64)
abbrev bX(B:Nat)(w:World)(v:Value)(l:List Int):Prop:=w.ownsRow B 3 1 v l.length (ints l)
abbrev oy(B:Nat)(w:World)(v:Value)(l:List (Int×Int)):Prop:=w.ownsRow B 237 2 v l.length (l.flatMap fun x=>[ae x.1,ae x.2])
theorem Jo(l:List (Int×Int)):(l.flatMap fun x=>[ae x.1,ae x.2]).length=l.length*2:=flat_length (fun x:Int×Int=>[ae x.1,ae x.2]) 2 (fun _=>rfl) l
section
variable{w:World}{wp:Nat}{vv ov iv:Value}
theorem WM{va:Option Addr}{vc:Nat}(hb:ay w wp #[.slice va n vc,ov,iv] 118)(x:Int)(hn:n≤1000):
  Calls prog 138 #[ax wp,ae x] w fun e w'=>e=.returned (.bool (decide (0≤x∧x<n)))∧w'=w:=by
 have c0:w.cell? (ai wp 0)=some (.slice va n vc):=hb.cell 0 _ rfl;have hl:=hb.lt;obtain⟨R,hR⟩:=ak (decide (0≤x∧x<(n:Int)));rw[←hR];clear hb
 by_cases h0:0≤x
 ·by_cases h1:x<(n:Int)
  ·have HR:Hid (R=true):=by show R=true;rw[hR];exact jW ⟨h0,h1⟩
   exact IQ
  ·have HR:Hid (R=false):=by show R=false;rw[hR];exact gO (fun h=>h1 h.2)
   exact IQ
 ·have HR:Hid (R=false):=by show R=false;rw[hR];exact gO (fun h=>h0 h.1)
  exact IQ
theorem J6(h:w.ownsRow B 3 1 (aD g n cap) n (ints l))(hx:l[i]?=some x)(hn:0<n):w.cell? (ai g i)=some (ae x):=by
 obtain⟨g',cap',hv,_,_,_,_,hc⟩:=cd h hn;obtain⟨rfl,rfl⟩:g=g'∧cap=cap':=gW;exact hc i _ (by rw[iH,hx];rfl)
theorem VQ(hb:ay w wp #[vv,ov,iv] 118)(hv:bX B w vv l)(i:Nat)(hi:i<l.length)(hl:l.length≤1000):
  Calls prog 143 #[ax wp,ae i] w fun e w'=>e=.returned (ae (l.getD i 0))∧w'=w:=by
 obtain⟨g,cap,rfl,_,hg,hc,_,_⟩:=cd hv ag;have c0:w.cell? (ai wp 0)=some (aD g l.length cap):=hb.cell 0 _ rfl;have c1:=J6 hv (i:=i) (x:=l.getD i 0) (by simp[hi]) ag;have hlt:=hb.lt;obtain⟨x,hx⟩:=ak (l.getD i 0);rw[←hx]at c1 ⊢;obtain⟨n,hn⟩:=ak (l.length);rw[←hn]at c0 hi hl hc;have hii:(i:Int)<(n:Int):=ag;have lS:(0:Int)≤(i:Int):=ag;clear hb hv hx hn;go_enter func143,ntmps143;go_wp2_with fail;go_ret;exact⟨rfl,rfl⟩
theorem T4(hb:ay w wp #[vv,ov,iv] 118)(hv:bX B w vv l)(i:Nat)(x:Int)(hi:i<l.length)(hl:l.length≤1000):
  Calls prog 144 #[ax wp,ae i,ae x] w fun e w'=>e=.returned (.tuple #[])∧bX B w' vv (l.set i x)∧aq (fun b=>vv.ownBlock=some b) w w':=by
 obtain⟨g,cap,rfl,_,hg,hc,_,_⟩:=cd hv ag;have c0:w.cell? (ai wp 0)=some (aD g l.length cap):=hb.cell 0 _ rfl;have c1:=J6 hv (i:=i) (x:=l.getD i 0) (by simp[hi]) ag
 have f1:w.frozen? (ai g i)=false:=by
  rcases hv.2 with ⟨h0,_⟩|⟨g',cap',cur,hv',_,hh,_⟩
  ·cases h0
  ·obtain⟨rfl,rfl⟩:g=g'∧cap=cap':=by simpa using hv'
   simp[World.frozen?,hh]
 have hlt:=hb.lt;obtain⟨y,hy⟩:∃x,x=l.getD i 0:=⟨_,rfl⟩;rw[←hy]at c1;have HV:=af hv;obtain⟨n,hn⟩:=ak (l.length);rw[←hn]at c0 hi hl hc;have hii:(i:Int)<(n:Int):=ag;have lS:(0:Int)≤(i:Int):=ag;have HN:=af hn;clear hb hv hy hn;rw[←HN.out];go_enter func144,ntmps144;go_wp2_with fail;go_end0;refine⟨rfl,?_,(aq.refl (fun b=>(aD g n cap).ownBlock=some b) w).setCell (p:=ai g i) rfl _⟩;have:=iJ HV i (ae x);rw[←List.map_set]at this
 show World.ownsRow _ _ _ _ _ _ _
 rw[km,HN.out];exact this
def cN(B:Nat)(w:World)(iv:Value)(l:List Int):Prop:=
 (l=[]∧∃a c,iv=.slice a 0 c)∨∃pb po c,iv=.slice (some (ai pb po)) l.length c∧l.length≤c∧pb<B∧∀(j:Nat) (y:Int),l[j]?=some y→w.cell? (ai pb (po+j))=some (ae y)
theorem cN.below(h:cN B w iv l)(hb:Below B w w'):cN B w' iv l:=by
 rcases h with h|⟨pb,po,c,h1,h2,h3,h4⟩
 ·exact aC h
 ·exact aA ⟨pb,po,c,h1,h2,h3,fun j y hy=>by rw[hb.cell (p:=ai pb (po+j)) h3];exact h4 j y hy⟩
theorem Z3(hb:ay w wp #[vv,ov,iv] 118)(hi:cN B w iv l)(hB:B≤wp)(hl:l.length≤2000000):
  Calls prog 145 #[ax wp] w fun e w'=>e=.returned (ae (l.headD 0))∧∃nX,ay w' wp #[vv,ov,nX] 118∧cN B w' nX l.tail∧aq (fun b=>b=wp) w w':=by
 have hlt:=hb.lt
 cases l with
 |nil=>
  obtain⟨a,c,rfl⟩:∃a c,iv=.slice a 0 c:=by
   rcases hi with ⟨_,h⟩|⟨pb,po,c,h,_⟩
   ·exact h
   ·exact⟨_,_,h⟩
  have c2:w.cell? (ai wp 2)=some (.slice a 0 c):=hb.cell 2 _ rfl;have HB:=af hb;clear hb hi;go_enter func145,ntmps145;go_wp2_with fail;go_ret;exact⟨rfl,_,HB,aC ⟨rfl,_,_,rfl⟩,aq.refl _ _⟩
 |cons x r=>
  obtain⟨pb,po,c,rfl,h2,h3,h4⟩:=hi.resolve_left (fun h=>by cases h.1);have c2:w.cell? (ai wp 2)=some (.slice (some (ai pb po)) (x :: r).length c):=hb.cell 2 _ rfl;have p0:w.cell? (ai pb po)=some (ae x):=by have:=h4 0 x rfl;simpa using this
  have f2:=hb.frozen 2;simp only[fA]at h2 c2 hl;obtain⟨n,hn⟩:=ak (r.length);rw[←hn]at h2 c2 hl;have HB:=af hb;have H4:=af h4;have HN:=af hn;have hz:(((n:Int)+1) == 0)=false:=aK;have hz2:(((n+1:Nat):Int) == 0)=false:=aK;have hpl:pb<w.heap.size:=ag;clear hb hi h4 hn
  by_cases hc1:c=1
  ·subst hc1
   obtain rfl:n=0:=ag;go_enter func145,ntmps145;go_wp2_with fail;go_ret;have hr:r=[]:=List.eq_nil_of_length_eq_zero HN.symm;refine⟨rfl,_,by have:=HB.set (o:=2) (.slice (some (ai pb po)) 0 0);simpa using this,aC ⟨hr,_,_,rfl⟩,(aq.refl (fun b=>b=wp) w).setCell (p:=ai wp 2) rfl _⟩
  ·have hcn:¬c=1:=hc1
   have adF:¬1=c:=fun h=>hc1 h.symm
   go_enter func145,ntmps145
   go_wp2_with fail
   go_ret
   refine⟨rfl,_,by have:=HB.set (o:=2) (.slice (some (ai pb (po+1))) n (c - 1));simpa using this,aA ⟨pb,po+1,c - 1,by simp[HN.out],by simp only[List.tail_cons];have:=HN.out;omega,h3,fun j y hy=>?_⟩,(aq.refl (fun b=>b=wp) w).setCell (p:=ai wp 2) rfl _⟩;have h5:=H4.out (j+1) y hy;have hc:aq (fun b=>b=wp) w (w.setCell (ai wp 2) (.slice (some (ai pb (po+1))) n (c - 1))):=(aq.refl (fun b=>b=wp) w).setCell (p:=ai wp 2) rfl _;rw[hc.cell (p:=ai pb (po+1+j)) hpl (by show ¬pb=wp;omega),Nat.add_assoc,Nat.add_comm 1 j];exact h5
end
end
section
theorem Uo{wp:Nat}{vv ov:Value}(hb:ay w wp #[vv,ov,iv] 118)(ho:bX B w ov l)(x:Int)(hl:l.length≤2000000)(hB:B≤w.heap.size):
  Calls prog 146 #[ax wp,ae x] w fun e w'=>e=.returned (.tuple #[])∧∃ik,ay w' wp #[vv,ik,iv] 118∧bX B w' ik (l++[x])∧Lc w ov ik∧aq (fun b=>b=wp∨ov.ownBlock=some b) w w':=by
 obtain⟨oa,oc,hov,hoc,_⟩:=bo ho;subst hov;have c1:w.cell? (ai wp 1)=some (.slice oa l.length oc):=hb.cell 1 _ rfl;have hlt:=hb.lt;obtain⟨i0,hi,hz0,hz1,hz2⟩:=info_parts Tryz.vo;have HI:=af (aY hi (aY hz0 (aY hz1 hz2)));have HB:=af hb;have HO:=af ho;have HX:=af (ho.alloc (.cells #[ae x] 3 (0,0)));have HN:=af (za w #[ae x] 3);have fB:=af (show ∀u∈([ae x]:List Value),u.oneCell'=true by intro u hu;simp at hu;rw[hu];rfl);have HQ:=af (aY (show l.length+1≤maxLen by unfold maxLen;omega) (show(l.length+1)*8≤140737488355328 by omega));have HS:=af (show B≤(w.alloc (.cells #[ae x] 3 (0,0))).heap.size by simp;omega);have HH:=af (show(w.alloc (.cells #[ae x] 3 (0,0))).heap.size=w.heap.size+1 by simp);have hne:(Value.slice oa l.length oc).ownBlock≠some wp:=aZ ho hb aj;clear hi hz0 hz1 hz2 hb ho;go_enter func146,ntmps146;go_wp2_with (at_builtin;refine wpList_append_lies _ rfl _ _ 24 rfl B 3 i0 (ae 0) 1 8 underlying24 HI.out.1 HI.out.2.1 HI.out.2.2.1 HI.out.2.2.2 rfl aj (.slice oa l.length oc) l.length (ints l) rfl HX (ai w.heap.size 0) 1 1 [ae x] rfl rfl HN fB aj HQ.out.1 HQ.out.2 HS (w.heap.size+1) HH ?_);intro g cap w2 hr hg hat hlt2;have bP:aq (fun b=>(Value.slice oa l.length oc).ownBlock=some b) w w2:=((aq.refl _ w).alloc _).trans ((aq.dP hg).mono (fun k _ e=>e.symm));have hb2:=HB.aB bP hne;have oZ:(aD g (l.length+1) cap).ownBlock≠some wp:=aZ hr hb2 aj;have q1:w2.cell? (ai wp 1)=some (.slice oa l.length oc):=hb2.cell 1 _ rfl;have f1:=hb2.frozen 1;have HR:=af hr;have HC:=af bP;have aW:=af hb2
 have HL:Hid (Lc w (Value.slice oa l.length oc) (aD g (l.length+1) cap)):=fun k hk=>by
  exact F9
 clear hr hg hat hlt2 bP hb2 c1;go_wp2_with fail;go_end0;have cO:aq (fun b=>b=wp) w2 (w2.setCell (ai wp 1) (aD g (l.length+1) cap)):=(aq.refl (fun b=>b=wp) w2).setCell (p:=ai wp 1) rfl _;refine⟨rfl,aD g (l.length+1) cap,by have:=aW.set (o:=1) (aD g (l.length+1) cap);simpa using this,?_,HL,(HC.mono (fun b _ e=>aA e)).trans (cO.mono (fun b _ e=>aC e))⟩;exact Lz
section
variable{B:Nat}{w:World}{mb:Nat}{cs:Array Value}
theorem YJ(hb:ay w mb cs 116)(qI:cs[34]?=some cv)(hc:bX B w cv l)(x:Int)(hl:l.length≤2000000)(hB:B≤w.heap.size):
  Calls prog 150 #[.pointer (some (ai mb 34)),ae x] w fun e w'=>e=.returned (.tuple #[])∧∃cv',ay w' mb (cs.setIfInBounds 34 cv') 116∧bX B w' cv' (l++[x])∧Lc w cv cv'∧aq (fun b=>b=mb∨cv.ownBlock=some b) w w':=by
 obtain⟨oa,oc,hov,hoc,_⟩:=bo hc;subst hov;have c1:w.cell? (ai mb 34)=some (.slice oa l.length oc):=hb.cell 34 _ qI;have hlt:=hb.lt;obtain⟨i0,hi,hz0,hz1,hz2⟩:=info_parts Tryz.vo;have HI:=af (aY hi (aY hz0 (aY hz1 hz2)));have HB:=af hb;have HO:=af hc;have H34:=af qI;have HX:=af (hc.alloc (.cells #[ae x] 3 (0,0)));have HN:=af (za w #[ae x] 3);have fB:=af (show ∀u∈([ae x]:List Value),u.oneCell'=true by intro u hu;simp at hu;rw[hu];rfl);have HQ:=af (aY (show l.length+1≤maxLen by unfold maxLen;omega) (show(l.length+1)*8≤140737488355328 by omega));have HS:=af (show B≤(w.alloc (.cells #[ae x] 3 (0,0))).heap.size by simp;omega);have HH:=af (show(w.alloc (.cells #[ae x] 3 (0,0))).heap.size=w.heap.size+1 by simp);have hne:(Value.slice oa l.length oc).ownBlock≠some mb:=aZ hc hb aj;clear hi hz0 hz1 hz2 hb hc qI;go_enter func150,ntmps150;go_wp2_with (at_builtin;refine wpList_append_lies _ rfl _ _ 24 rfl B 3 i0 (ae 0) 1 8 underlying24 HI.out.1 HI.out.2.1 HI.out.2.2.1 HI.out.2.2.2 rfl aj (.slice oa l.length oc) l.length (ints l) rfl HX (ai w.heap.size 0) 1 1 [ae x] rfl rfl HN fB aj HQ.out.1 HQ.out.2 HS (w.heap.size+1) HH ?_);intro g cap w2 hr hg hat hlt2;have bP:aq (fun b=>(Value.slice oa l.length oc).ownBlock=some b) w w2:=((aq.refl _ w).alloc _).trans ((aq.dP hg).mono (fun k _ e=>e.symm));have hb2:=HB.aB bP hne;have oZ:(aD g (l.length+1) cap).ownBlock≠some mb:=aZ hr hb2 aj;have q1:w2.cell? (ai mb 34)=some (.slice oa l.length oc):=hb2.cell 34 _ H34;have f1:=hb2.frozen 34;have HR:=af hr;have HC:=af bP;have aW:=af hb2
 have HL:Hid (Lc w (Value.slice oa l.length oc) (aD g (l.length+1) cap)):=fun k hk=>by
  exact F9
 clear hr hg hat hlt2 bP hb2 c1;go_wp2_with fail;go_end0;have cO:aq (fun b=>b=mb) w2 (w2.setCell (ai mb 34) (aD g (l.length+1) cap)):=(aq.refl (fun b=>b=mb) w2).setCell (p:=ai mb 34) rfl _;refine⟨rfl,aD g (l.length+1) cap,aW.set (o:=34) _,?_,HL,(HC.mono (fun b _ e=>aA e)).trans (cO.mono (fun b _ e=>aC e))⟩;exact Lz
theorem UG(hb:ay w mb cs 116)(qI:cs[34]?=some cv)(hc:bX B w cv []):
  Calls prog 147 #[.pointer (some (ai mb 34))] w fun e w'=>e=.returned (.tuple #[ae 0,.bool false])∧w'=w:=by
 obtain⟨oa,oc,hov,hoc,_⟩:=bo hc;subst hov;have c1:w.cell? (ai mb 34)=some (.slice oa 0 oc):=hb.cell 34 _ qI;have hlt:=hb.lt;clear hb hc qI;go_enter func147,ntmps147;go_wp2_with fail;exact bodyPost_ret (v:=.tuple #[ae 0,.bool false]) (by simp[results,results147,go_sem]) rfl ⟨rfl,rfl⟩
theorem acJ(hb:ay w mb cs 116)(qI:cs[34]?=some cv)(hc:bX B w cv (l++[x]))(hl:l.length≤2000000):
  Calls prog 147 #[.pointer (some (ai mb 34))] w fun e w'=>e=.returned (.tuple #[ae x,.bool true])∧∃cv',ay w' mb (cs.setIfInBounds 34 cv') 116∧bX B w' cv' l∧Lc w cv cv'∧aq (fun b=>b=mb) w w':=by
 have hlen:(l++[x]).length=l.length+1:=aF;have hc':w.ownsRow B 3 1 cv (l.length+1) (ints l++[ae x]):=by have:=hc;rw[bX,hlen,ints,List.map_append]at this;exact this
 obtain⟨g,cap,rfl,_,hg,hcap,_,hcell⟩:=cd hc' ag;have c1:w.cell? (ai mb 34)=some (aD g (l.length+1) cap):=hb.cell 34 _ qI;have c2:w.cell? (ai g l.length)=some (ae x):=hcell _ _ (by simp[ints]);have f1:=hb.frozen 34;have hlt:=hb.lt;have HB:=af hb;have HC:=af hc';have hne:g≠mb:=fun e=>aZ hc' hb aj (by rw[←e];rfl)
 have lS:(0:Int)≤(l.length:Int):=ag;have hi1:¬(l.length:Int)<0:=ag;clear hb hc hc' qI hcell hlen;go_enter func147,ntmps147;go_wp2_with fail;refine bodyPost_ret (v:=.tuple #[ae x,.bool true]) (by simp[results,results147,go_sem]) rfl ⟨rfl,aD g l.length cap,HB.set (o:=34) _,?_,fun k hk=>aC hk,(aq.refl (fun b=>b=mb) w).setCell (p:=ai mb 34) rfl _⟩;refine aR (ownsRow_pop HC aF) ((aq.refl (fun b=>b=mb) w).setCell (p:=ai mb 34) rfl _) (fun b hb e=>hne ?_);have:g=b:=DV;rw[this,e]
theorem Sg{l:List (Int×Int)}(hb:ay w mb cs 116)(jE:cs[33]?=some lv)(hc:oy B w lv l)(x y:Int)(hl:l.length≤2000000)(hB:B≤w.heap.size)(hxy:x<y):
  Calls prog 148 #[.pointer (some (ai mb 33)),ae x,ae y] w fun e w'=>e=.returned (.bool true)∧∃eD,ay w' mb (cs.setIfInBounds 33 eD) 116∧oy B w' eD (l++[(x,y)])∧Lc w lv eD∧aq (fun b=>b=mb∨lv.ownBlock=some b) w w':=by
 obtain⟨oa,oc,hov,hoc,_⟩:=bo hc;subst hov;have c1:w.cell? (ai mb 33)=some (.slice oa l.length oc):=hb.cell 33 _ jE;have hlt:=hb.lt;obtain⟨i0,hi,hz0,hz1,hz2⟩:=info_parts Tryz.WO;have HI:=af (aY hi (aY hz0 (aY hz1 hz2)));have HB:=af hb;have HO:=af hc;have H33:=af jE;obtain⟨xs,hxs⟩:=ak (l.flatMap fun x=>[ae x.1,ae x.2]);have hc':w.ownsRow B 237 2 (.slice oa l.length oc) l.length xs:=by rw[hxs];exact hc
 have HXS:=af hxs;have HX:=af (hc'.alloc (.cells #[ae x,ae y] 237 (0,0)));have HN:=af (za w #[ae x,ae y] 237);have fB:=af (show ∀u∈([ae x,ae y]:List Value),u.oneCell'=true by intro u hu;simp at hu;rcases hu with rfl|rfl<;>rfl);have HQ:=af (aY (show l.length+1≤maxLen by unfold maxLen;omega) (show(l.length+1)*16≤140737488355328 by omega));have HS:=af (show B≤(w.alloc (.cells #[ae x,ae y] 237 (0,0))).heap.size by simp;omega);have HH:=af (show(w.alloc (.cells #[ae x,ae y] 237 (0,0))).heap.size=w.heap.size+1 by simp);have hne:(Value.slice oa l.length oc).ownBlock≠some mb:=aZ hc hb aj;have hge:¬y≤x:=ag;clear hi hz0 hz1 hz2 hb hc hc' jE hxs;go_enter func148,ntmps148;go_wp2_with (at_builtin;refine wpList_append_lies _ rfl _ _ 110 rfl B 237 i0 (.agg #[ae 0,ae 0]) 2 16 underlying110 HI.out.1 HI.out.2.1 HI.out.2.2.1 HI.out.2.2.2 rfl aj (.slice oa l.length oc) l.length xs rfl HX (ai w.heap.size 0) 1 1 [ae x,ae y] rfl rfl HN fB aj HQ.out.1 HQ.out.2 HS (w.heap.size+1) HH ?_);intro g cap w2 hr hg hat hlt2;have bP:aq (fun b=>(Value.slice oa l.length oc).ownBlock=some b) w w2:=((aq.refl _ w).alloc _).trans ((aq.dP hg).mono (fun k _ e=>e.symm));have hb2:=HB.aB bP hne;have oZ:(aD g (l.length+1) cap).ownBlock≠some mb:=aZ hr hb2 aj;have q1:w2.cell? (ai mb 33)=some (.slice oa l.length oc):=hb2.cell 33 _ H33;have f1:=hb2.frozen 33;have HR:=af hr;have HC:=af bP;have aW:=af hb2
 have HL:Hid (Lc w (Value.slice oa l.length oc) (aD g (l.length+1) cap)):=fun k hk=>by
  exact F9
 clear hr hg hat hlt2 bP hb2 c1;go_wp2_with fail;go_ret;have cO:aq (fun b=>b=mb) w2 (w2.setCell (ai mb 33) (aD g (l.length+1) cap)):=(aq.refl (fun b=>b=mb) w2).setCell (p:=ai mb 33) rfl _;refine⟨rfl,aD g (l.length+1) cap,aW.set (o:=33) _,?_,HL,(HC.mono (fun b _ e=>aA e)).trans (cO.mono (fun b _ e=>aC e))⟩
 show World.ownsRow _ _ _ _ _ _ _
 rw[cF,gJ,kS,←HXS.out];exact aR HR cO (fun b hb e=>oZ uH)
theorem TI(x y:Int)(hxy:¬x<y):Calls prog 148 #[.pointer (some (ai mb 33)),ae x,ae y] w fun e w'=>e=.returned (.bool false)∧w'=w:=by
 have hge:y≤x:=ag;go_enter func148,ntmps148;go_wp2_with fail;go_ret;exact⟨rfl,rfl⟩
theorem ED{l:List (Int×Int)}(h:w.ownsRow B 237 2 (aD g (n+1) cap) (n+1) ((l++[(x,y)]).flatMap fun x=>[ae x.1,ae x.2]))(hn:l.length=n):
  w.cell? (ai g (n*2))=some (ae x)∧w.cell? (ai g (n*2+1))=some (ae y):=by
 obtain⟨g',cap',hv,_,_,_,_,hc⟩:=cd h ag;obtain⟨rfl,rfl⟩:g=g'∧cap=cap':=gW;have q:=fun m hm=>flat_get (fun x:Int×Int=>[ae x.1,ae x.2]) 2 (fun _=>rfl) (l++[(x,y)]) n m aK hm
 have e:(l++[(x,y)])[n]' aK=(x,y):=by rw[List.getElem_append_right ag];simp
 constructor
 ·refine hc _ _ ?_
  have:=q 0 ag;rw[Nat.add_zero,e]at this;rw[this];rfl
 ·refine hc _ _ ?_
  rw[q 1 ag,e];rfl
theorem ZV{l:List (Int×Int)}(hb:ay w mb cs 116)(jE:cs[33]?=some lv)(hc:oy B w lv (l++[(x,y)]))(hl:l.length≤2000000):
  Calls prog 113 #[.pointer (some (ai mb 33))] w fun e w'=>e=.returned (ae x)∧Below w.heap.size w w':=by
 have hlen:(l++[(x,y)]).length=l.length+1:=aF;have hc':=hc;rw[oy,hlen]at hc';obtain⟨g,cap,rfl,_,hg,hcap,_,_⟩:=cd hc' ag;have c1:w.cell? (ai mb 33)=some (aD g (l.length+1) cap):=hb.cell 33 _ jE;obtain⟨c2,c3⟩:=ED hc' rfl;have hlt:=hb.lt;have lS:(0:Int)≤(l.length:Int):=ag;obtain⟨n,hn⟩:=ak (l.length);rw[←hn]at c1 c2 c3 lS hl hcap;clear hb hc hc' jE hlen hn;go_enter func113,ntmps113;exact Kc
theorem aaY(l:List (Int×Int))(x y z:Int):((l++[(x,y)]).flatMap fun x=>[ae x.1,ae x.2]).set (l.length*2) (ae z)=(l++[(z,y)]).flatMap fun x=>[ae x.1,ae x.2]:=by
 rw[kS,kS,List.set_append_right _ _ (by rw[Jo];omega),Jo,Nat.sub_self];rfl
theorem ab0{l:List (Int×Int)}(hb:ay w mb cs 116)(jE:cs[33]?=some lv)(hc:oy B w lv (l++[(x,y)]))(hl:l.length≤2000000)(hx0: -9000000000≤x)(hx1:x≤9000000000):
  Calls prog 149 #[.pointer (some (ai mb 33))] w fun e w'=>e=.returned (.bool (decide (x+1<y)))∧∃eD,ay w' mb (cs.setIfInBounds 33 eD) 116∧oy B w' eD (if x+1<y then l++[(x+1,y)]else l)∧Lc w lv eD∧aq (fun b=>b=mb∨lv.ownBlock=some b) w w':=by
 obtain⟨L,hL⟩:=ak ((if x+1<y then l++[(x+1,y)]else l));rw[←hL];have oM:=af hL;clear hL;have hlen:(l++[(x,y)]).length=l.length+1:=aF;have hc':=hc;rw[oy,hlen]at hc';obtain⟨g,cap,rfl,_,hg,hcap,_,_⟩:=cd hc' ag;have c1:w.cell? (ai mb 33)=some (aD g (l.length+1) cap):=hb.cell 33 _ jE;obtain⟨c2,c3⟩:=ED hc' rfl
 have f2:w.frozen? (ai g (l.length*2))=false:=by
  rcases hc'.2 with ⟨h0,_⟩|⟨g',cap',cur,hv',_,hh,_⟩
  ·cases h0
  ·obtain⟨rfl,rfl⟩:g=g'∧cap=cap':=by simpa using hv'
   simp[World.frozen?,hh]
 have hlt:=hb.lt;have hne:g≠mb:=fun e=>aZ hc' hb aj (by rw[←e];rfl)
 obtain⟨X,hX⟩:=ak (w.setCell (ai g (l.length*2)) (ae (x+1)):World);have fo:aq (fun b=>b=g) w X:=by rw[hX];exact(aq.refl (fun b=>b=g) w).setCell (p:=ai g (l.length*2)) rfl _
 have ki:X.ownsRow B 237 2 (aD g (l.length+1) cap) (l.length+1) ((l++[(x+1,y)]).flatMap fun x=>[ae x.1,ae x.2]):=by
  have:=iJ hc' (l.length*2) (ae (x+1));rw[aaY]at this;rw[hX];exact this
 have aN:=hb.aB fo (fun e=>hne e.symm);have x1:X.cell? (ai mb 33)=some (aD g (l.length+1) cap):=aN.cell 33 _ jE;have g1:=aN.frozen 33;obtain⟨x2,x3⟩:=ED ki rfl;have qC:=aN.lt;have HX:=af hX;have eN:=af fo;have eZ:=af ki;have bz:=af aN;have H33:=af jE;obtain⟨n,hn⟩:=ak (l.length);rw[←hn]at c1 c2 c3 f2 x1 x2 x3 hl hcap HX;have HN:=af hn;have lS:(0:Int)≤(n:Int):=ag;clear hb hc hc' jE hlen hX fo ki aN hn;go_enter func149,ntmps149;go_upto_region 3 with fail
 rw[←HX.out];clear c1 c2 c3 f2
 by_cases hlt2:x+1<y
 ·have hd:decide (x+1<y)=true:=jW hlt2
  have HLP:Hid (L=l++[(x+1,y)]):=by show L=_;rw[oM.out,aG hlt2]
  clear oM;go_wp2_with fail;go_quiet (fail);go_wp2_with fail;go_ret;have hbq:Below X.heap.size X (X.drewN nq):=dz;refine⟨ve hd.symm,aD g (l.length+1) cap,?_,?_,fun k hk=>aC (by rw[←HN.out]at hk;exact hk),((eN.mono (fun b _ e=>aA xA)).trans (aq.bf hbq))⟩
  ·have:=bz.sub hbq bz.lt
   have e:cs.setIfInBounds 33 (aD g (l.length+1) cap)=cs:=by
    apply Array.ext_getElem?;intro i
    by_cases hi:i=33
    ·subst hi;rw[sV (mD.1 H33).1,H33.out]
    ·rw[jy (Ne.symm hi)]
   rw[e];exact this
  ·show World.ownsRow _ _ _ _ _ _ _
   rw[HLP.out,cF,gJ];exact aR eZ (aq.bf (S:=fun _=>False) hbq) (fun _ _=>id)
 ·have hd:decide (x+1<y)=false:=gO hlt2
  have HLP:Hid (L=l):=by show L=_;rw[oM.out,az hlt2]
  clear oM;go_wp2_with fail;go_quiet (fail);have hbq:Below X.heap.size X (X.drewN nq):=dz;obtain⟨V,hV⟩:=ak (X.drewN nq:World);rw[←hV]at hbq;rw[←hV];have gQ:=bz.sub hbq bz.lt;have v1:V.cell? (ai mb 33)=some (aD g (n+1) cap):=by rw[hbq.cell (p:=ai mb 33) qC];exact x1
  have u1:=gQ.frozen 33;have mS:=af gQ;have df:=af hbq;have hVl:=gQ.lt;clear hV gQ hbq x1 x2 x3 g1;go_wp2_with fail;go_ret;have cO:aq (fun b=>b=mb) V (V.setCell (ai mb 33) (aD g n cap)):=(aq.refl (fun b=>b=mb) V).setCell (p:=ai mb 33) rfl _;refine⟨ve hd.symm,aD g n cap,mS.set (o:=33) _,?_,fun k hk=>aC hk,((eN.mono (fun b _ e=>aA xA)).trans (aq.bf df)).trans (cO.mono (fun b _ e=>aC e))⟩;have wR:=ownsRow_pop (n:=l.length) (by have:=eZ.out;rw[kS]at this;exact this) (Jo l)
  show World.ownsRow _ _ _ _ _ _ _
  rw[HLP.out];rw[HN.out]at cO ⊢
  exact aR (aR wR (aq.bf (S:=fun _=>False) df) (fun _ _=>id)) cO (fun b hb e=>hne (by
   have:g=b:=DV;rw[this,e]))
end
end
section
structure MS where
 au:List Int
 loops:List (Int×Int)
 calls:List Int
 at_:Nat
structure MW where
 vars:List Int
 outs:List Int
 ins:List Int
structure RX where
 mb:Nat
 wp:Nat
 rv:Value
 st:Int
 lv:Value
 cv:Value
 vv:Value
 ov:Value
 iv:Value
def RX.S(x:RX)(b:Nat):Prop:=b=x.mb∨b=x.wp∨x.lv.ownBlock=some b∨x.cv.ownBlock=some b∨x.vv.ownBlock=some b∨x.ov.ownBlock=some b
def wV(B:Nat)(w:World)(rv:Value)(code:List Int):Prop:=∃g cap,rv=aD g code.length cap∧code.length≤cap∧g<B∧∀(i:Nat) (x:Int),code[i]?=some x→w.cell? (ai g i)=some (ae x)
theorem wV.below{rv:Value}{code:List Int}(h:wV B w rv code)(hb:Below B w w'):wV B w' rv code:=by
 obtain⟨g,cap,h1,h2,h3,h4⟩:=h;exact⟨g,cap,h1,h2,h3,fun i x hx=>by rw[hb.cell (p:=ai g i) h3];exact h4 i x hx⟩
structure tR (x:RX) (m:MS) (cs:Array Value):Prop where
 mc:MC cs m.au
 qG:cs[33]?=some x.lv
 sR:cs[34]?=some x.cv
 fq:cs[35]?=some (ax x.wp)
 eH:cs[36]?=some x.rv
 c37:cs[37]?=some (ae x.st)
 bh:cs[38]?=some (ae m.at_)
structure aV (B:Nat) (w:World) (x:RX) (code:List Int) (m:MS) (u:MW):Prop where
 gy:∃cs,ay w x.mb cs 116∧tR x m cs
 fx:oy B w x.lv m.loops
 cD:bX B w x.cv m.calls
 bK:ay w x.wp #[x.vv,x.ov,x.iv] 118
 gN:bX B w x.vv u.vars
 cY:bX B w x.ov u.outs
 ins:cN B w x.iv u.ins
 bG:wV B w x.rv code
 kH:∀k,x.cv.ownBlock=some k→x.vv.ownBlock≠some k∧x.ov.ownBlock≠some k
 tY:∀k,x.vv.ownBlock=some k→x.ov.ownBlock≠some k
 bm:B≤x.mb
 bw:B≤x.wp
 len:m.loops.length≤2000000∧m.calls.length≤2000000∧u.outs.length≤2000000∧u.ins.length≤2000000∧u.vars.length≤1000∧code.length≤1000∧m.at_≤code.length
section
variable{B:Nat}{w w':World}{x:RX}{code:List Int}{m m':MS}{u u':MW}
theorem aV.le(h:aV B w x code m u):B≤w.heap.size:=Fo
theorem aV.GX(h:aV B w x code m u){b:Nat}(hb:x.S b):B≤b:=by
 rcases hb with e|e|e|e|e|e
 ·rw[e];exact h.bm
 ·rw[e];exact h.bw
 ·exact cR h.fx e
 ·exact cR h.cD e
 ·exact cR h.gN e
 ·exact cR h.cY e
theorem aV.pI(h:aV B w x code m u){b:Nat}(hb:x.S b):b<w.heap.size:=by
 rcases hb with e|e|e|e|e|e
 ·obtain⟨cs,hk,_⟩:=h.gy;rw[e];exact hk.lt
 ·rw[e];exact h.bK.lt
 ·exact cJ h.fx e
 ·exact cJ h.cD e
 ·exact cJ h.gN e
 ·exact cJ h.cY e
theorem aV.toBelow(h:aV B w x code m u){S:Nat→Prop}(hc:aq S w w')(hs:∀b,S b→x.S b):Below B w w':=hc.toBelow h.le (fun b hb e=>by have:=h.GX (hs b e);omega)
structure RN (B:Nat) (w:World) (x:RX) (code:List Int) (m':MS) (u':MW) (w':World) (y:RX):Prop where
 at_:aV B w' y code m' u'
 mb:y.mb=x.mb
 wp:y.wp=x.wp
 rv:y.rv=x.rv
 st:y.st=x.st
 vv:y.vv=x.vv
 lv:Lc w x.lv y.lv
 cv:Lc w x.cv y.cv
 ov:Lc w x.ov y.ov
 aB:aq x.S w w'
def gH(B:Nat)(w:World)(x:RX)(code:List Int)(m':MS)(u':MW)(w':World):Prop:=∃y,RN B w x code m' u' w' y
theorem RN.sub{y:RX}(h:RN B w x code m' u' w' y):∀b,y.S b→x.S b∨w.heap.size≤b:=by
 rintro b (e|e|e|e|e|e)
 ·rw[h.mb]at e;exact aC (aC e)
 ·rw[h.wp]at e;exact aC (aA (aC e))
 ·exact(h.lv b e).imp (fun e=>aA (aA (aC e))) id
 ·exact(h.cv b e).imp (fun e=>aA (aA (aA (aC e)))) id
 ·rw[h.vv]at e;exact aC (aA (aA (aA (aA (aC e)))))
 ·exact(h.ov b e).imp (fun e=>aA (aA (aA (aA (aA e))))) id
theorem RN.trans{y z:RX}{w2:World}{m2:MS}{u2:MW}(h:RN B w x code m' u' w' y)(h2:RN B w' y code m2 u2 w2 z):RN B w x code m2 u2 w2 z:=
 ⟨h2.at_,h2.mb.trans h.mb,h2.wp.trans h.wp,h2.rv.trans h.rv,h2.st.trans h.st,h2.vv.trans h.vv,
  fun k hk=>(h2.lv k hk).elim (h.lv k) (fun e=>aA (bB h.aB.size e)),fun k hk=>(h2.cv k hk).elim (h.cv k) (fun e=>aA (bB h.aB.size e)),fun k hk=>(h2.ov k hk).elim (h.ov k) (fun e=>aA (bB h.aB.size e)),
  h.aB.fz h2.aB (fun b hb e=>(h.sub b e).elim id (fun e=>ag))⟩
theorem aV.machine{cv':Value}(h:aV B w x code m u)(hc:aq (fun b=>b=x.mb∨x.lv.ownBlock=some b∨x.cv.ownBlock=some b) w w')(hcs:∃cs,ay w' x.mb cs 116∧tR {x with lv:=eD,cv:=cv'} m' cs)
  (hl:oy B w' eD m'.loops) (hr:bX B w' cv' m'.calls) (h1:Lc w x.lv eD) (h2:Lc w x.cv cv') (hn:m'.loops.length≤2000000∧m'.calls.length≤2000000∧m'.at_≤code.length):RN B w x code m' u w' {x with lv:=eD,cv:=cv'}:=by
 obtain⟨cs0,hk0,_⟩:=h.gy
 have sO:∀b,(b=x.mb∨x.lv.ownBlock=some b∨x.cv.ownBlock=some b)→x.S b:=fun b e=>by
  rcases e with e|e|e
  ·exact aC e
  ·exact aA (aA (aC e))
  ·exact aA (aA (aA (aC e)))
 have hB:=h.toBelow hc sO
 have hw:¬(x.wp=x.mb∨x.lv.ownBlock=some x.wp∨x.cv.ownBlock=some x.wp):=by
  rintro (e|e|e)
  ·rw[←e]at hk0;exact absurd (kE hk0 h.bK) aj
  ·exact aZ h.fx h.bK aj e
  ·exact aZ h.cD h.bK aj e
 have hv:∀{v:Value} {l:List Int},bX B w v l→(∀k,x.cv.ownBlock=some k→v.ownBlock≠some k)→bX B w' v l:=fun {v l} hr hs=>aR hr hc (fun b hb e=>by
  rcases e with e|e|e
  ·subst e;exact aZ hr hk0 aj hb
  ·exact fw h.fx hr aj e hb
  ·exact hs b e hb)
 obtain⟨n1,n2,n3⟩:=hn;obtain⟨_,_,n4,n5,n6,n7,_⟩:=h.len;refine⟨⟨hcs,hl,hr,h.bK.aB hc hw,hv h.gN (fun k hk=>(h.kH k hk).1),hv h.cY (fun k hk=>(h.kH k hk).2),h.ins.below hB,h.bG.below hB,fun k hk=>?_,h.tY,h.bm,h.bw,n1,n2,n4,n5,n6,n7,n3⟩,rfl,rfl,rfl,rfl,rfl,h1,h2,Lc.refl _ _,hc.mono (fun b _ e=>sO b e)⟩;rcases h2 k hk with e|e
 ·exact h.kH k e
 ·exact⟨fun e'=>by have:=cJ h.gN e';omega,fun e'=>by have:=cJ h.cY e';omega⟩
theorem aV.world{ik nX:Value}(h:aV B w x code m u)(hc:aq (fun b=>b=x.wp∨x.vv.ownBlock=some b∨x.ov.ownBlock=some b) w w')(hb:ay w' x.wp #[x.vv,ik,nX] 118)
  (hv:bX B w' x.vv u'.vars) (ho:bX B w' ik u'.outs) (hi:cN B w' nX u'.ins) (h1:Lc w x.ov ik) (hn:u'.outs.length≤2000000∧u'.ins.length≤2000000∧u'.vars.length≤1000):RN B w x code m u' w' {x with ov:=ik,iv:=nX}:=by
 obtain⟨cs0,hk0,hcs⟩:=h.gy
 have sO:∀b,(b=x.wp∨x.vv.ownBlock=some b∨x.ov.ownBlock=some b)→x.S b:=fun b e=>by
  rcases e with e|e|e
  ·exact aA (aC e)
  ·exact aA (aA (aA (aA (aC e))))
  ·exact aA (aA (aA (aA (aA e))))
 have hB:=h.toBelow hc sO
 have hm:¬(x.mb=x.wp∨x.vv.ownBlock=some x.mb∨x.ov.ownBlock=some x.mb):=by
  rintro (e|e|e)
  ·rw[e]at hk0;exact absurd (kE hk0 h.bK) aj
  ·exact aZ h.gN hk0 aj e
  ·exact aZ h.cY hk0 aj e
 have hl:oy B w' x.lv m.loops:=aR h.fx hc (fun b hb e=>by
  rcases e with e|e|e
  ·subst e;exact aZ h.fx h.bK aj hb
  ·exact fw h.fx h.gN aj hb e
  ·exact fw h.fx h.cY aj hb e)
 have hr:bX B w' x.cv m.calls:=aR h.cD hc (fun b hb e=>by
  rcases e with e|e|e
  ·subst e;exact aZ h.cD h.bK aj hb
  ·exact(h.kH b hb).1 e
  ·exact(h.kH b hb).2 e)
 obtain⟨n1,n2,n3⟩:=hn;obtain⟨m1,m2,_,_,_,n7,n8⟩:=h.len;refine⟨⟨⟨cs0,hk0.aB hc hm,hcs.mc,hcs.qG,hcs.sR,hcs.fq,hcs.eH,hcs.c37,hcs.bh⟩,hl,hr,hb,hv,ho,hi,h.bG.below hB,fun k hk=>⟨(h.kH k hk).1,fun e=>?_⟩,fun k hk e=>?_,h.bm,h.bw,m1,m2,n1,n2,n3,n7,n8⟩,rfl,rfl,rfl,rfl,rfl,Lc.refl _ _,Lc.refl _ _,h1,hc.mono (fun b _ e=>sO b e)⟩
 ·rcases h1 k e with e'|e'
  ·exact(h.kH k hk).2 e'
  ·have:=cJ h.cD hk;omega
 ·rcases h1 k e with e'|e'
  ·exact h.tY k hk e'
  ·have:=cJ h.gN hk;omega
theorem aV.below(h:aV B w x code m u)(hb:Below w.heap.size w w'):RN B w x code m u w' x:=by
 obtain⟨cs0,hk0,hcs⟩:=h.gy;have hc:aq (fun _=>False) w w':=aq.bf hb;have hB:=hb.mono h.le;exact⟨⟨⟨cs0,hk0.sub hb hk0.lt,hcs⟩,aR h.fx hc (fun _ _=>id),aR h.cD hc (fun _ _=>id),h.bK.sub hb h.bK.lt,aR h.gN hc (fun _ _=>id),aR h.cY hc (fun _ _=>id),h.ins.below hB,h.bG.below hB,h.kH,h.tY,h.bm,h.bw,h.len⟩,rfl,rfl,rfl,rfl,rfl,Lc.refl _ _,Lc.refl _ _,Lc.refl _ _,hc.mono (fun b _ e=>e.elim)⟩
theorem tR.stack(h:tR x m cs)(hm:MC cs' s)(hr:Rest cs cs'):tR x {m with au:=s} cs':=
 ⟨hm,(hr 33 ag).trans h.qG,(hr 34 ag).trans h.sR,(hr 35 ag).trans h.fq,(hr 36 ag).trans h.eH,(hr 37 ag).trans h.c37,(hr 38 ag).trans h.bh⟩
theorem aV.take(h:aV B w x code m u)(hs:m.au=a :: s):
  Calls prog 108 #[ax x.mb] w fun e w'=>e=.returned (ae a)∧RN B w x code {m with au:=s} u w' x:=by
 obtain⟨cs,hk,hcs⟩:=h.gy;have hmc:=hcs.mc;rw[hs]at hmc;refine(SQ hk hmc).mono ?_;rintro e w' ⟨he,cs',eI,sL,hr',hc⟩;have hcl:∀{b:Nat} {v:Value} {l:List (Int×Int)},oy B w v l→v.ownBlock=some b→b≠x.mb:=fun hr hb e=>aZ hr hk aj xC
 exact OJ
theorem aV.put(ys:List Int)(h:aV B w x code m u)(h32:m.au.length<32)(hy:m.au.length+ys.length≤32)(hlb:lb≠x.mb)(hll:lb<w.heap.size)(hcap:ys.length≤cap)(hl:∀(i:Nat) (y:Int),ys[i]?=some y→w.cell? (ai lb i)=some (ae y)):
  Calls prog 106 #[ax x.mb,aD lb ys.length cap] w fun e w'=>e=.returned (.tuple #[])∧RN B w x code {m with au:=ys.reverse++m.au} u w' x:=by
 obtain⟨cs,hk,hcs⟩:=h.gy;refine(Zb ys hk hcs.mc h32 hy hlb hll hcap hl).mono ?_;rintro e w' ⟨he,cs',eI,sL,hr',hc⟩;have hcl:∀{b:Nat} {v:Value} {l:List (Int×Int)},oy B w v l→v.ownBlock=some b→b≠x.mb:=fun hr hb e=>aZ hr hk aj xC
 exact OJ
end
end
section
attribute [local go_sem] fH
section
variable{B:Nat}{w w':World}{x:RX}{code:List Int}{m m':MS}{u u':MW}
theorem aV.puts(ys:List Int)(h:aV B w x code m u)(h32:m.au.length<32)(hy:m.au.length+ys.length≤32):
  Calls prog 106 #[ax x.mb,aD w.heap.size ys.length ys.length] (w.alloc (.cells (ints ys).toArray 3 (0,0))) fun e w'=>e=.returned (.tuple #[])∧RN B w x code {m with au:=ys.reverse++m.au} u w' x:=by
 have hb:Below w.heap.size w (w.alloc (.cells (ints ys).toArray 3 (0,0))):=aQ.alloc aH _;have h1:=h.below hb;have hne:w.heap.size≠x.mb:=fun e=>by obtain⟨cs,hk,_⟩:=h.gy;have:=hk.lt;omega
 have hk:=bJ w (ints ys).toArray 3;refine(h1.at_.put ys h32 hy hne aF aH (fun i y hy=>hk.cell i _ (by simp[hy]))).mono ?_;rintro e w' ⟨he,hn⟩;exact⟨he,h1.trans hn⟩
def arrP(op:Nat):List Int→List Int
 |c :: b :: a :: s=>if op=16 then c :: c :: b :: a :: s else if op=17 then b :: a :: s else if op=18 then b :: c :: a :: s else if op=19 then b :: c :: b :: a :: s else if op=21 then c :: a :: s else if op=22 then c :: b :: c :: a :: s else a :: c :: b :: s
 |[c,b]=>if op=16 then [c,c,b]else if op=17 then [b]else if op=18 then [b,c]else if op=19 then [b,c,b]else if op=21 then [c]else [c,b,c]
 |[c]=>if op=16 then [c,c]else []
 |[]=>[]
theorem Y9(h:aV B w x code m u)(hs:m.au=c :: s)(hl:m.au.length+1≤32):
  Calls prog 111 #[ax x.mb,ae 16] w fun e w'=>e=.returned (.tuple #[])∧RN B w x code {m with au:=c :: c :: s} u w' x:=by
 have hl':=hl;rw[hs]at hl';simp only[fA]at hl';have hmb:x.mb<w.heap.size:=h.pI (aC rfl);have H0:=af h;have kT:=af hs;clear h hs hl;go_enter func111,ntmps111;go_wp2_with fail;refine(aV.take H0 kT).mono ?_;rintro e w0 ⟨rfl,eF⟩;have eU:=af eF;have hm0:x.mb<w0.heap.size:=bF hmb eU.aB.size;clear eF;have gC:=af (aV.puts [c,c] eU.at_ iO ow);go_wp2_with fail;refine gC.mono ?_;rintro e wz ⟨rfl,hz⟩;have HZ:=af (eU.trans hz);clear hz gC;go_wp2_with fail;exact bodyPost_ret (results_none rfl _ _ _) rfl ⟨rfl,HZ⟩
theorem abS(h:aV B w x code m u)(hs:m.au=c :: s)(hl:m.au.length+0≤32):
  Calls prog 111 #[ax x.mb,ae 17] w fun e w'=>e=.returned (.tuple #[])∧RN B w x code {m with au:=s} u w' x:=by
 have hl':=hl;rw[hs]at hl';simp only[fA]at hl';have hmb:x.mb<w.heap.size:=h.pI (aC rfl);have H0:=af h;have kT:=af hs;clear h hs hl;go_enter func111,ntmps111;go_wp2_with fail;refine(aV.take H0 kT).mono ?_;rintro e w0 ⟨rfl,eF⟩;have eU:=af eF;have hm0:x.mb<w0.heap.size:=bF hmb eU.aB.size;clear eF;go_wp2_with fail;exact bodyPost_ret (results_none rfl _ _ _) rfl ⟨rfl,eU⟩
theorem aad(h:aV B w x code m u)(hs:m.au=c :: b :: s)(hl:m.au.length+0≤32):
  Calls prog 111 #[ax x.mb,ae 18] w fun e w'=>e=.returned (.tuple #[])∧RN B w x code {m with au:=b :: c :: s} u w' x:=by
 have hl':=hl;rw[hs]at hl';simp only[fA]at hl';have hmb:x.mb<w.heap.size:=h.pI (aC rfl);have H0:=af h;have kT:=af hs;clear h hs hl;go_enter func111,ntmps111;go_wp2_with fail;refine(aV.take H0 kT).mono ?_;rintro e w0 ⟨rfl,eF⟩;have eU:=af eF;have hm0:x.mb<w0.heap.size:=bF hmb eU.aB.size;clear eF;go_wp2_with fail;refine(aV.take eU.at_ rfl).mono ?_;rintro e w1 ⟨rfl,hn1⟩;have eA:=af (eU.trans hn1);have hm1:x.mb<w1.heap.size:=bF hmb eA.aB.size;clear hn1;have gC:=af (aV.puts [c,b] eA.at_ iO ow);go_wp2_with fail;exact BB
theorem acz(h:aV B w x code m u)(hs:m.au=c :: b :: s)(hl:m.au.length+1≤32):
  Calls prog 111 #[ax x.mb,ae 19] w fun e w'=>e=.returned (.tuple #[])∧RN B w x code {m with au:=b :: c :: b :: s} u w' x:=by
 have hl':=hl;rw[hs]at hl';simp only[fA]at hl';have hmb:x.mb<w.heap.size:=h.pI (aC rfl);have H0:=af h;have kT:=af hs;clear h hs hl;go_enter func111,ntmps111;go_wp2_with fail;refine(aV.take H0 kT).mono ?_;rintro e w0 ⟨rfl,eF⟩;have eU:=af eF;have hm0:x.mb<w0.heap.size:=bF hmb eU.aB.size;clear eF;go_wp2_with fail;refine(aV.take eU.at_ rfl).mono ?_;rintro e w1 ⟨rfl,hn1⟩;have eA:=af (eU.trans hn1);have hm1:x.mb<w1.heap.size:=bF hmb eA.aB.size;clear hn1;have gC:=af (aV.puts [b,c,b] eA.at_ iO ow);go_wp2_with fail;exact BB
theorem acv(h:aV B w x code m u)(hs:m.au=c :: b :: s)(hl:m.au.length+0≤32):
  Calls prog 111 #[ax x.mb,ae 21] w fun e w'=>e=.returned (.tuple #[])∧RN B w x code {m with au:=c :: s} u w' x:=by
 have hl':=hl;rw[hs]at hl';simp only[fA]at hl';have hmb:x.mb<w.heap.size:=h.pI (aC rfl);have H0:=af h;have kT:=af hs;clear h hs hl;go_enter func111,ntmps111;go_wp2_with fail;refine(aV.take H0 kT).mono ?_;rintro e w0 ⟨rfl,eF⟩;have eU:=af eF;have hm0:x.mb<w0.heap.size:=bF hmb eU.aB.size;clear eF;go_wp2_with fail;refine(aV.take eU.at_ rfl).mono ?_;rintro e w1 ⟨rfl,hn1⟩;have eA:=af (eU.trans hn1);have hm1:x.mb<w1.heap.size:=bF hmb eA.aB.size;clear hn1;have gC:=af (aV.puts [c] eA.at_ iO ow);go_wp2_with fail;exact BB
theorem U9(h:aV B w x code m u)(hs:m.au=c :: b :: s)(hl:m.au.length+1≤32):
  Calls prog 111 #[ax x.mb,ae 22] w fun e w'=>e=.returned (.tuple #[])∧RN B w x code {m with au:=c :: b :: c :: s} u w' x:=by
 have hl':=hl;rw[hs]at hl';simp only[fA]at hl';have hmb:x.mb<w.heap.size:=h.pI (aC rfl);have H0:=af h;have kT:=af hs;clear h hs hl;go_enter func111,ntmps111;go_wp2_with fail;refine(aV.take H0 kT).mono ?_;rintro e w0 ⟨rfl,eF⟩;have eU:=af eF;have hm0:x.mb<w0.heap.size:=bF hmb eU.aB.size;clear eF;go_wp2_with fail;refine(aV.take eU.at_ rfl).mono ?_;rintro e w1 ⟨rfl,hn1⟩;have eA:=af (eU.trans hn1);have hm1:x.mb<w1.heap.size:=bF hmb eA.aB.size;clear hn1;have gC:=af (aV.puts [c,b,c] eA.at_ iO ow);go_wp2_with fail;exact BB
theorem Ya(h:aV B w x code m u)(hs:m.au=c :: b :: a :: s)(hl:m.au.length+0≤32):
  Calls prog 111 #[ax x.mb,ae 20] w fun e w'=>e=.returned (.tuple #[])∧RN B w x code {m with au:=a :: c :: b :: s} u w' x:=by
 have hl':=hl;rw[hs]at hl';simp only[fA]at hl';have hmb:x.mb<w.heap.size:=h.pI (aC rfl);have H0:=af h;have kT:=af hs;clear h hs hl;go_enter func111,ntmps111;go_wp2_with fail;refine(aV.take H0 kT).mono ?_;rintro e w0 ⟨rfl,eF⟩;have eU:=af eF;have hm0:x.mb<w0.heap.size:=bF hmb eU.aB.size;clear eF;go_wp2_with fail;refine(aV.take eU.at_ rfl).mono ?_;rintro e w1 ⟨rfl,hn1⟩;have eA:=af (eU.trans hn1);have hm1:x.mb<w1.heap.size:=bF hmb eA.aB.size;clear hn1;go_wp2_with fail;refine(aV.take eA.at_ rfl).mono ?_;rintro e w2 ⟨rfl,hn2⟩;have fW:=af (eA.trans hn2);have hm2:x.mb<w2.heap.size:=bF hmb fW.aB.size;clear hn2;have gC:=af (aV.puts [b,c,a] fW.at_ iO ow);go_wp2_with fail;refine gC.mono ?_;rintro e wz ⟨rfl,hz⟩;have HZ:=af (fW.trans hz);clear hz gC;go_wp2_with fail;go_end0;exact⟨rfl,HZ⟩
end
end
section
attribute [local go_sem] fH
section
variable{B:Nat}{w w':World}{x:RX}{code:List Int}{m m':MS}{u u':MW}
theorem aV.fq(h:aV B w x code m u):w.cell? (ai x.mb 35)=some (ax x.wp):=by
 obtain⟨cs,hk,hcs⟩:=h.gy;exact hk.cell 35 _ hcs.fq
theorem aV.abP(h:aV B w x code m u)(i:Nat)(hi:i<u.vars.length):
  Calls prog 143 #[ax x.wp,ae i] w fun e w'=>e=.returned (ae (u.vars.getD i 0))∧w'=w:=
 VQ h.bK h.gN i hi h.len.2.2.2.2.1
theorem aV.store(h:aV B w x code m u)(i:Nat)(a:Int)(hi:i<u.vars.length):
  Calls prog 144 #[ax x.wp,ae i,ae a] w fun e w'=>e=.returned (.tuple #[])∧RN B w x code m {u with vars:=u.vars.set i a} w' x:=by
 refine(T4 h.bK h.gN i a hi h.len.2.2.2.2.1).mono ?_;rintro e w' ⟨he,hv,hc⟩;have hw:x.vv.ownBlock≠some x.wp:=aZ h.gN h.bK aj;refine⟨he,h.world (ik:=x.ov) (nX:=x.iv) (hc.mono (fun b _ e=>aA (aC e))) (h.bK.aB hc hw) hv (aR h.cY hc (fun b hb e=>h.tY b e hb)) (h.ins.below (h.toBelow hc (fun b e=>aA (aA (aA (aA (aC e))))))) (Lc.refl _ _) ⟨h.len.2.2.1,h.len.2.2.2.1,by rw[km];exact h.len.2.2.2.2.1⟩⟩
theorem aV.next(h:aV B w x code m u):
  Calls prog 145 #[ax x.wp] w fun e w'=>e=.returned (ae (u.ins.headD 0))∧∃nX,RN B w x code m {u with ins:=u.ins.tail} w' {x with iv:=nX}:=by
 refine(Z3 h.bK h.ins h.bw h.len.2.2.2.1).mono ?_;rintro e w' ⟨he,nX,hb,hi,hc⟩;have hv:∀{v:Value} {l:List Int},bX B w v l→bX B w' v l:=fun hr=>aR hr hc (fun b hb e=>aZ hr h.bK aj xC)
 exact⟨he,nX,h.world (ik:=x.ov) (nX:=nX) (hc.mono (fun b _ e=>aC e)) hb (hv h.gN) (hv h.cY) hi (Lc.refl _ _) ⟨h.len.2.2.1,by have:=h.len.2.2.2.1;simp only[List.length_tail];omega,h.len.2.2.2.2.1⟩⟩
theorem aV.tell(h:aV B w x code m u)(a:Int)(hl:u.outs.length+1≤2000000):
  Calls prog 146 #[ax x.wp,ae a] w fun e w'=>e=.returned (.tuple #[])∧∃ik,RN B w x code m {u with outs:=u.outs++[a]} w' {x with ov:=ik}:=by
 refine(Uo h.bK h.cY a h.len.2.2.1 h.le).mono ?_;rintro e w' ⟨he,ik,hb,ho,hlc,hc⟩;refine⟨he,ik,h.world (ik:=ik) (nX:=x.iv) (hc.mono (fun b _ e=>e.elim aC (fun e=>aA (aA e)))) hb (aR h.gN hc (fun b hb e=>?_)) ho (h.ins.below (h.toBelow hc (fun b e=>e.elim (fun e=>aA (aC e)) (fun e=>aA (aA (aA (aA (aA e)))))))) hlc ⟨Q8,h.len.2.2.2.1,h.len.2.2.2.2.1⟩⟩;rcases e with e|e
 ·subst e;exact aZ h.gN h.bK aj hb
 ·exact h.tY b hb e
theorem W6(h:aV B w x code m u)(hs:m.au=(i:Int) :: s)(hi:i<u.vars.length):
  Calls prog 112 #[ax x.mb,ae 23] w fun e w'=>e=.returned (.tuple #[])∧RN B w x code {m with au:=u.vars.getD i 0 :: s} u w' x:=by
 have hl:s.length<32:=by obtain⟨cs,_,hcs⟩:=h.gy;have:=hcs.mc.le;rw[hs]at this;simp at this;omega
 have hd:Below w.heap.size w w.drew:=aQ.drew;have hD:=h.below hd;have k0:∀u':{w':World // w'.cell? (ai x.mb 35)=some (ax x.wp)},u'.val.cell? (ai x.mb 35)=some (ax x.wp):=fun u'=>u'.property
 have hne:Nonempty {w':World // w'.cell? (ai x.mb 35)=some (ax x.wp)}:=⟨⟨w,h.fq⟩⟩;have HD:=af hD;have HS:=af hs;have HC:=af hD.at_.fq;obtain⟨v,hv⟩:=ak (u.vars.getD i 0);rw[←hv];have HV:=af hv;clear h hd hD hs hv;go_enter func112,ntmps112;go_upto_region 2 with fail
 refine ly (C:=eM fun w'=>w'.cell? (ai x.mb 35)=some (ax x.wp)) 13 [10,11,12] ⟨w.drew,HC⟩ aP aP rfl ?_;rw[show List.range 13=[0,1,2,3,4,5,6,7,8,9,10,11,12]from rfl]
 repeat (refine eV rfl rfl (fun K hK=>?_);go_simp;refine hK _ ?_;clear hK K)
 refine ja rfl rfl 108 #[ax x.mb] dB ((HD.at_.take HS).mono ?_);rintro e w1 ⟨rfl,hn1⟩;refine⟨_,rfl,hn1.at_.fq,?_⟩;refine ja rfl rfl 143 #[ax x.wp,ae i] dB ((hn1.at_.abP i hi).mono ?_);rintro e w2 ⟨rfl,rfl⟩;refine⟨_,rfl,hn1.at_.fq,?_⟩;have eA:=af (HD.trans hn1)
 have oB:(w2.alloc (.cells #[ae v] 3 (0,0))).cell? (ai x.mb 35)=some (ax x.wp):=by
  have:=(hn1.at_.below (aQ.alloc aH (.cells #[ae v] 3 (0,0)))).at_.fq;exact this
 have gC:=af (aV.puts [v] hn1.at_ iO ow);rw[←HV.out];refine oG rfl rfl (aD w2.heap.size 1 1) (w2.alloc (.cells #[ae v] 3 (0,0))) oB (aC dB) ?_;refine iV ?_;intro w' hw';rw[show w'=w2.alloc (.cells #[ae v] 3 (0,0))from hw'];clear hw' w' k0 hne oB hn1;simp only[List.drop_succ_cons,List.drop_zero];go_wp2_with fail;exact BB
theorem T8(h:aV B w x code m u)(hs:m.au=(i:Int) :: a :: s)(hi:i<u.vars.length):
  Calls prog 112 #[ax x.mb,ae 24] w fun e w'=>e=.returned (.tuple #[])∧RN B w x code {m with au:=s} {u with vars:=u.vars.set i a} w' x:=by
 have hd:Below w.heap.size w w.drew:=aQ.drew;have hD:=h.below hd;have hne:Nonempty {w':World // True}:=⟨⟨w,trivial⟩⟩;have hmb:x.mb<w.heap.size:=h.pI (aC rfl);have HD:=af hD;have HS:=af hs;clear h hd hD hs;go_enter func112,ntmps112;go_upto_region 4 with fail
 refine A7 (C:=eM fun _=>True) 8 [0,1,2,4,5,6,3,7] [3,7] ⟨w.drew,trivial⟩ aP aP rfl ?_
 repeat (refine eV rfl rfl (fun K hK=>?_);go_simp;refine hK _ ?_;clear hK K)
 refine ja rfl rfl 108 #[ax x.mb] dB ((HD.at_.take HS).mono ?_);rintro e w1 ⟨rfl,hn1⟩;refine⟨_,rfl,trivial,?_⟩;refine ja rfl rfl 108 #[ax x.mb] dB ((hn1.at_.take rfl).mono ?_);rintro e w2 ⟨rfl,hn2⟩;refine⟨_,rfl,trivial,iV ?_⟩;intro w' hw';rw[show w'=w2 from hw'];have fW:=af ((HD.trans hn1).trans hn2);have fq:=hn2.at_.fq;have HST:=af (hn2.at_.store i a hi);have hm2:x.mb<w2.heap.size:=hn2.at_.pI (aC rfl);clear hw' w' hne hn1 hn2;simp only[List.drop_succ_cons,List.drop_zero];go_wp2_with fail;refine HST.mono ?_;rintro e wz ⟨rfl,hz⟩;have HZ:=af (fW.trans hz);clear hz HST fq;go_wp2_with fail;go_end0;exact⟨rfl,HZ⟩
theorem adj(h:aV B w x code m u)(hl:m.au.length<32):
  Calls prog 112 #[ax x.mb,ae 25] w fun e w'=>e=.returned (.tuple #[])∧gH B w x code {m with au:=u.ins.headD 0 :: m.au} {u with ins:=u.ins.tail} w':=by
 have hd:Below w.heap.size w w.drew:=aQ.drew;have hD:=h.below hd;have k0:∀u':{w':World // w'.cell? (ai x.mb 35)=some (ax x.wp)},u'.val.cell? (ai x.mb 35)=some (ax x.wp):=fun u'=>u'.property
 have hne:Nonempty {w':World // w'.cell? (ai x.mb 35)=some (ax x.wp)}:=⟨⟨w,h.fq⟩⟩;have HD:=af hD;have HC:=af hD.at_.fq;obtain⟨v,hv⟩:=ak (u.ins.headD 0);rw[←hv];have HV:=af hv;clear h hd hD hv;go_enter func112,ntmps112;go_upto_region 7 with fail
 refine ly (C:=eM fun w'=>w'.cell? (ai x.mb 35)=some (ax x.wp)) 9 [7,8] ⟨w.drew,HC⟩ aP aP rfl ?_;rw[show List.range 9=[0,1,2,3,4,5,6,7,8]from rfl]
 repeat (refine eV rfl rfl (fun K hK=>?_);go_simp;refine hK _ ?_;clear hK K)
 refine ja rfl rfl 145 #[ax x.wp] dB ((HD.at_.next).mono ?_);rintro e w2 ⟨rfl,nX,hn1⟩;refine⟨_,rfl,hn1.at_.fq,?_⟩;have eA:=af (HD.trans hn1)
 have oB:(w2.alloc (.cells #[ae v] 3 (0,0))).cell? (ai x.mb 35)=some (ax x.wp):=by
  have:=(hn1.at_.below (aQ.alloc aH (.cells #[ae v] 3 (0,0)))).at_.fq;exact this
 have gC:=af (aV.puts [v] hn1.at_ hl ow);rw[←HV.out];refine oG rfl rfl (aD w2.heap.size 1 1) (w2.alloc (.cells #[ae v] 3 (0,0))) oB (aC dB) ?_;refine iV ?_;intro w' hw';rw[show w'=w2.alloc (.cells #[ae v] 3 (0,0))from hw'];clear hw' w' k0 hne oB hn1;simp only[List.drop_succ_cons,List.drop_zero];go_wp2_with fail;refine gC.mono ?_;rintro e wz ⟨rfl,hz⟩;have HZ:=af (eA.trans hz);clear hz gC;go_wp2_with fail;go_end0;exact⟨rfl,_,HZ⟩
theorem Vi(h:aV B w x code m u)(hs:m.au=a :: s)(hl:u.outs.length+1≤2000000):
  Calls prog 112 #[ax x.mb,ae 26] w fun e w'=>e=.returned (.tuple #[])∧gH B w x code {m with au:=s} {u with outs:=u.outs++[a]} w':=by
 have hd:Below w.heap.size w w.drew:=aQ.drew;have hD:=h.below hd;have k0:∀u':{w':World // w'.cell? (ai x.mb 35)=some (ax x.wp)},u'.val.cell? (ai x.mb 35)=some (ax x.wp):=fun u'=>u'.property
 have hne:Nonempty {w':World // w'.cell? (ai x.mb 35)=some (ax x.wp)}:=⟨⟨w,h.fq⟩⟩;have HD:=af hD;have HC:=af hD.at_.fq;have HS:=af hs;clear h hd hD hs;go_enter func112,ntmps112;go_upto_region 9 with fail
 refine ly (C:=eM fun w'=>w'.cell? (ai x.mb 35)=some (ax x.wp)) 8 [7] ⟨w.drew,HC⟩ aP aP rfl ?_;rw[show List.range 8=[0,1,2,3,4,5,6,7]from rfl]
 repeat (refine eV rfl rfl (fun K hK=>?_);go_simp;refine hK _ ?_;clear hK K)
 refine ja rfl rfl 108 #[ax x.mb] dB ((HD.at_.take HS).mono ?_);rintro e w2 ⟨rfl,hn1⟩;refine⟨_,rfl,hn1.at_.fq,iV ?_⟩;intro w' hw';rw[show w'=w2 from hw'];have eA:=af (HD.trans hn1);have HTL:=af (hn1.at_.tell a hl);clear hw' w' k0 hne hn1;simp only[List.drop_succ_cons,List.drop_zero];go_wp2_with fail;refine HTL.mono ?_;rintro e wz ⟨rfl,ik,hz⟩;have HZ:=af (eA.trans hz);clear hz HTL;go_wp2_with fail;go_end0;exact⟨rfl,_,HZ⟩
end
end
section
attribute [local go_sem] fH
section
variable{B:Nat}{w w':World}{x:RX}{code:List Int}{m m':MS}{u u':MW}
theorem aV.bh(h:aV B w x code m u):w.cell? (ai x.mb 38)=some (ae m.at_)∧w.frozen? (ai x.mb 38)=false∧x.mb<w.heap.size:=by
 obtain⟨cs,hk,hcs⟩:=h.gy;exact⟨hk.cell 38 _ hcs.bh,hk.frozen 38,hk.lt⟩
theorem aV.eH(h:aV B w x code m u):w.cell? (ai x.mb 36)=some x.rv:=by
 obtain⟨cs,hk,hcs⟩:=h.gy;exact hk.cell 36 _ hcs.eH
theorem aV.setAt(h:aV B w x code m u)(n:Nat)(hn:n≤code.length):RN B w x code {m with at_:=n} u (w.setCell (ai x.mb 38) (ae n)) x:=by
 obtain⟨cs,hk,hcs⟩:=h.gy;have hc:aq (fun b=>b=x.mb) w (w.setCell (ai x.mb 38) (ae n)):=(aq.refl (fun b=>b=x.mb) w).setCell (p:=ai x.mb 38) rfl _;have hsz:=hcs.mc.size;have g:∀i,i≠38→(cs.setIfInBounds 38 (ae n))[i]?=cs[i]?:=fun i hi=>jy (Ne.symm hi)
 have hmc:MC (cs.setIfInBounds 38 (ae n)) m.au:=⟨by simp[hsz],hcs.mc.au.congr (fun i hi=>g i CZ),(g 32 aj).trans hcs.mc.dep,hcs.mc.le,fun i hi=>Ck⟩;refine h.machine (eD:=x.lv) (cv':=x.cv) (hc.mono (fun b _ e=>aC e)) ⟨_,hk.set (o:=38) _,hmc,(g 33 aj).trans hcs.qG,(g 34 aj).trans hcs.sR,(g 35 aj).trans hcs.fq,(g 36 aj).trans hcs.eH,(g 37 aj).trans hcs.c37,by rw[sV ag]⟩ (aR h.fx hc (fun b hb e=>aZ h.fx hk aj xC)) (aR h.cD hc (fun b hb e=>aZ h.cD hk aj xC)) (Lc.refl _ _) (Lc.refl _ _) ⟨h.len.1,h.len.2.1,hn⟩
theorem aV.operand{v:Int}(h:aV B w x code m u)(hv:code[m.at_]?=some v):
  Calls prog 114 #[ax x.mb] w fun e w'=>e=.returned (ae v)∧RN B w x code {m with at_:=m.at_+1} u w' x:=by
 have hlt:m.at_<code.length:=(cI.1 hv).1;obtain⟨bh,f38,hmb⟩:=h.bh;have hS:=h.setAt (m.at_+1) ag;obtain⟨X,hX⟩:=ak (w.setCell (ai x.mb 38) (ae ((m.at_+1:Nat):Int)):World);rw[←hX]at hS;obtain⟨x38,_,jI⟩:=hS.at_.bh;have x36:=hS.at_.eH;obtain⟨g,cap,kq,hcap,hg,hcell⟩:=hS.at_.bG;rw[kq]at x36;have xg:X.cell? (ai g m.at_)=some (ae v):=hcell _ _ hv;have hcl:=h.len.2.2.2.2.2.1;obtain⟨k,hk⟩:=ak (m.at_);obtain⟨n,hn⟩:=ak (code.length);have HS:=af hS;rw[←hn]at x36 hlt hcap hcl;simp only at x38;rw[←hk]at bh x38 xg hlt hX;have HX:=af hX;have fD:(k:Int)<(n:Int):=ag;have hk0:(0:Int)≤(k:Int):=ag;have hkb:(k:Int)≤1000:=ag;have hcast:((k+1:Nat):Int)=(k:Int)+1:=ag;rw[hcast]at x38 HX;have hgX:g<X.heap.size:=bF hg hS.at_.le;clear h hS hX hv hcell kq hn hk hcast;go_enter func114,ntmps114;go_upto_region 2 with fail
 rw[←HX.out];clear bh f38;go_wp2_with fail;go_quiet (fail);go_wp2_with fail;go_ret;have hbq:Below X.heap.size X (X.drewN nq):=dz;exact⟨rfl,HS.trans (HS.at_.below hbq)⟩
theorem aV.Ud(h:aV B w x code m u)(p:Int)(hl:m.calls.length+1≤2000000):
  Calls prog 150 #[.pointer (some (ai x.mb 34)),ae p] w fun e w'=>e=.returned (.tuple #[])∧gH B w x code {m with calls:=m.calls++[p]} u w':=by
 obtain⟨cs,hk,hcs⟩:=h.gy;refine(YJ hk hcs.sR h.cD p h.len.2.1 h.le).mono ?_;rintro e w' ⟨he,cv',eI,hr',hlc,hc⟩;have hsz:=hcs.mc.size;have g:∀i,i≠34→(cs.setIfInBounds 34 cv')[i]?=cs[i]?:=fun i hi=>jy (Ne.symm hi)
 have hmc:MC (cs.setIfInBounds 34 cv') m.au:=⟨by simp[hsz],hcs.mc.au.congr (fun i hi=>g i CZ),(g 32 aj).trans hcs.mc.dep,hcs.mc.le,fun i hi=>Ck⟩;refine⟨he,_,h.machine (eD:=x.lv) (cv':=cv') (hc.mono (fun b _ e=>e.elim aC (fun e=>aA (aA e)))) ⟨_,eI,hmc,(g 33 aj).trans hcs.qG,by rw[sV ag],(g 35 aj).trans hcs.fq,(g 36 aj).trans hcs.eH,(g 37 aj).trans hcs.c37,(g 38 aj).trans hcs.bh⟩ (aR h.fx hc (fun b hb e=>?_)) hr' (Lc.refl _ _) hlc ⟨h.len.1,Q8,h.len.2.2.2.2.2.2⟩⟩;rcases e with e|e
 ·subst e;exact aZ h.fx hk aj hb
 ·exact fw h.fx h.cD aj hb e
theorem aV.ZI(h:aV B w x code m u)(hc:m.calls=[]):
  Calls prog 147 #[.pointer (some (ai x.mb 34))] w fun e w'=>e=.returned (.tuple #[ae 0,.bool false])∧w'=w:=by
 obtain⟨cs,hk,hcs⟩:=h.gy;have hr:=h.cD;rw[hc]at hr;exact UG hk hcs.sR hr
theorem aV.caller{p:Int}(h:aV B w x code m u)(hc:m.calls=l++[p]):
  Calls prog 147 #[.pointer (some (ai x.mb 34))] w fun e w'=>e=.returned (.tuple #[ae p,.bool true])∧gH B w x code {m with calls:=l} u w':=by
 obtain⟨cs,hk,hcs⟩:=h.gy;have hr:=h.cD;have hl:=h.len.2.1;rw[hc]at hr hl;simp at hl;refine(acJ hk hcs.sR hr ag).mono ?_;rintro e w' ⟨he,cv',eI,hr',hlc,bP⟩;have hsz:=hcs.mc.size;have g:∀i,i≠34→(cs.setIfInBounds 34 cv')[i]?=cs[i]?:=fun i hi=>jy (Ne.symm hi)
 have hmc:MC (cs.setIfInBounds 34 cv') m.au:=⟨by simp[hsz],hcs.mc.au.congr (fun i hi=>g i CZ),(g 32 aj).trans hcs.mc.dep,hcs.mc.le,fun i hi=>Ck⟩;exact⟨he,_,h.machine (eD:=x.lv) (cv':=cv') (bP.mono (fun b _ e=>aC e)) ⟨_,eI,hmc,(g 33 aj).trans hcs.qG,by rw[sV ag],(g 35 aj).trans hcs.fq,(g 36 aj).trans hcs.eH,(g 37 aj).trans hcs.c37,(g 38 aj).trans hcs.bh⟩ (aR h.fx bP (fun b hb e=>aZ h.fx hk aj xC)) hr' (Lc.refl _ _) hlc ⟨h.len.1,iO,h.len.2.2.2.2.2.2⟩⟩
theorem aV.Nu{l:List (Int×Int)}(h:aV B w x code m u)(hk0:ay w x.mb cs 116)(hcs:tR x m cs)(hk:ay w' x.mb (cs.setIfInBounds 33 eD) 116)(hr:oy B w' eD l)(hlc:Lc w x.lv eD)(hc:aq (fun b=>b=x.mb∨x.lv.ownBlock=some b) w w')(hl:l.length≤2000000):
  RN B w x code {m with loops:=l} u w' {x with lv:=eD,cv:=x.cv}:=by
 have hsz:=hcs.mc.size;have g:∀i,i≠33→(cs.setIfInBounds 33 eD)[i]?=cs[i]?:=fun i hi=>jy (Ne.symm hi)
 have hmc:MC (cs.setIfInBounds 33 eD) m.au:=⟨by simp[hsz],hcs.mc.au.congr (fun i hi=>g i CZ),(g 32 aj).trans hcs.mc.dep,hcs.mc.le,fun i hi=>Ck⟩;refine h.machine (eD:=eD) (cv':=x.cv) (hc.mono (fun b _ e=>e.elim aC (fun e=>aA (aC e)))) ⟨_,hk,hmc,by rw[sV ag],(g 34 aj).trans hcs.sR,(g 35 aj).trans hcs.fq,(g 36 aj).trans hcs.eH,(g 37 aj).trans hcs.c37,(g 38 aj).trans hcs.bh⟩ hr (aR h.cD hc (fun b hb e=>?_)) hlc (Lc.refl _ _) ⟨hl,h.len.2.1,h.len.2.2.2.2.2.2⟩;rcases e with e|e
 ·subst e;exact aZ h.cD hk0 aj hb
 ·exact fw h.fx h.cD aj e hb
theorem aV.enter(h:aV B w x code m u)(a b:Int)(hab:a<b)(hl:m.loops.length+1≤2000000):
  Calls prog 148 #[.pointer (some (ai x.mb 33)),ae a,ae b] w fun e w'=>e=.returned (.bool true)∧gH B w x code {m with loops:=m.loops++[(a,b)]} u w':=by
 obtain⟨cs,hk,hcs⟩:=h.gy;refine(Sg hk hcs.qG h.fx a b h.len.1 h.le hab).mono ?_;rintro e w' ⟨he,eD,eI,hr',hlc,hc⟩;exact⟨he,_,h.Nu hk hcs eI hr' hlc hc (by simpa using hl)⟩
theorem aV.number{l:List (Int×Int)}(h:aV B w x code m u)(hs:m.loops=l++[(a,b)]):
  Calls prog 113 #[.pointer (some (ai x.mb 33))] w fun e w'=>e=.returned (ae a)∧Below w.heap.size w w':=by
 obtain⟨cs,hk,hcs⟩:=h.gy;have hr:=h.fx;have hl:=h.len.1;rw[hs]at hr hl;simp at hl;exact ZV hk hcs.qG hr ag
theorem aV.again{l:List (Int×Int)}(h:aV B w x code m u)(hs:m.loops=l++[(a,b)])(h0: -9000000000≤a)(h1:a≤9000000000):
  Calls prog 149 #[.pointer (some (ai x.mb 33))] w fun e w'=>e=.returned (.bool (decide (a+1<b)))∧gH B w x code {m with loops:=if a+1<b then l++[(a+1,b)]else l} u w':=by
 obtain⟨cs,hk,hcs⟩:=h.gy;have hr:=h.fx;have hl:=h.len.1;rw[hs]at hr hl;simp at hl;refine(ab0 hk hcs.qG hr ag h0 h1).mono ?_;rintro e w' ⟨he,eD,eI,hr',hlc,hc⟩;refine⟨he,_,h.Nu hk hcs eI hr' hlc hc ?_⟩
 split
 ·rw[cF,gJ];omega
 ·omega
end
end
section
attribute [local go_sem] fH
section
variable{B:Nat}{w w':World}{x:RX}{code:List Int}{m m':MS}{u u':MW}
theorem aaC(h:aV B w x code m u)(hc:m.calls=[]):
  Calls prog 115 #[ax x.mb] w fun e w'=>e=.returned (ae 0)∧w'=w:=by
 have HC:=af (h.ZI hc);have hmb:=h.bh.2.2;clear h hc;go_enter func115,ntmps115;go_wp2_with fail;refine HC.mono ?_;rintro e w1 ⟨rfl,rfl⟩;clear HC;go_wp2_with fail;go_ret;exact⟨rfl,rfl⟩
theorem Wn{p:Nat}(h:aV B w x code m u)(hc:m.calls=l++[(p:Int)])(hp:p≤code.length):
  Calls prog 115 #[ax x.mb] w fun e w'=>e=.returned (ae 4)∧gH B w x code {m with calls:=l,at_:=p} u w':=by
 have HC:=af (h.caller hc);have hmb:=h.bh.2.2;clear h hc;go_enter func115,ntmps115;go_wp2_with fail;refine HC.mono ?_;rintro e w1 ⟨rfl,y,hn⟩;have hst:=hn.at_.setAt p hp;obtain⟨bh,f38,hm1⟩:=hn.at_.bh;rw[hn.mb]at bh f38 hm1 hst;have HN:=af hn;have HST:=af hst;clear hn hst HC;go_wp2_with fail;go_ret;exact⟨rfl,y,HN.trans HST⟩
theorem Ao{y:RX}(h:RN B w x code m' u w' y)(hk:k≤code.length):RN B w x code {m' with at_:=k} u (w'.setCell (ai x.mb 38) (ae k)) y:=by
 have:=h.at_.setAt k hk;rw[h.mb]at this;exact h.trans this
theorem SK(h:aV B w x code m u)(hv:code[m.at_]?=some (k:Int))(hk:k≤code.length):
  Calls prog 116 #[ax x.mb,ae 30] w fun e w'=>e=.returned (.tuple #[])∧gH B w x code {m with at_:=k} u w':=by
 have HC:=af (h.operand hv);have hmb:=h.bh.2.2;clear h hv;go_enter func116,ntmps116;go_wp2_with fail;refine HC.mono ?_;rintro e w1 ⟨rfl,hn⟩;obtain⟨bh,f38,hm1⟩:=hn.at_.bh;have HN:=af hn;clear hn HC;go_wp2_with fail;go_end0;exact⟨rfl,_,Ao (m':={m with at_:=m.at_+1}) HN hk⟩
theorem Yr(h:aV B w x code m u)(hv:code[m.at_]?=some (k:Int))(hk:k≤code.length)(hs:m.au=a :: s):
  Calls prog 116 #[ax x.mb,ae 29] w fun e w'=>e=.returned (.tuple #[])∧gH B w x code {m with au:=s,at_:=if a=0 then k else m.at_+1} u w':=by
 have HC:=af (h.operand hv);have hmb:=h.bh.2.2;have HS:=af hs;obtain⟨K,hK⟩:=ak (if a=0 then k else m.at_+1);rw[←hK];have HK:=af hK;clear h hv hs hK;go_enter func116,ntmps116;go_wp2_with fail;refine HC.mono ?_;rintro e w1 ⟨rfl,hn⟩;have HT:=af (hn.at_.take HS);have hm1:=hn.at_.bh.2.2;have HN:=af hn;clear hn HC;go_wp2_with fail;refine HT.mono ?_;rintro e w2 ⟨rfl,hn2⟩;obtain⟨bh,f38,hm2⟩:=hn2.at_.bh;have fW:=af (HN.trans hn2);clear hn2 HT
 by_cases ha:a=0
 ·have hd:(a == 0)=true:=by simp[ha]
  have cf:Hid (K=k):=by show K=k;rw[HK.out,aG ha]
  have HA:=af ha;clear ha HK;go_wp2_with fail;go_end0;rw[cf.out];exact⟨rfl,_,Ao fW hk⟩
 ·have hd:(a == 0)=false:=by simp[ha]
  have cf:Hid (K=m.at_+1):=by show K=_;rw[HK.out,az ha]
  clear HK;go_wp2_with fail;go_end0;rw[cf.out];exact⟨rfl,_,fW⟩
theorem SZ(h:aV B w x code m u)(hv:code[m.at_]?=some (k:Int))(hk:k≤code.length)(hs:m.au=a :: b :: s)(hl:m.loops.length+1≤2000000):
  Calls prog 116 #[ax x.mb,ae 31] w fun e w'=>e=.returned (.tuple #[])∧gH B w x code (if a<b then{m with au:=s,loops:=m.loops++[(a,b)],at_:=m.at_+1}else{m with au:=s,at_:=k}) u w':=by
 have HC:=af (h.operand hv);have hmb:=h.bh.2.2;have HS:=af hs;obtain⟨K,hK⟩:∃K,K=(if a<b then{m with au:=s,loops:=m.loops++[(a,b)],at_:=m.at_+1}else{m with au:=s,at_:=k}):=⟨_,rfl⟩;rw[←hK];have HK:=af hK;have hne:Nonempty {w':World // True}:=⟨⟨w,trivial⟩⟩;clear h hv hs hK;go_enter func116,ntmps116;go_wp2_with fail;refine HC.mono ?_;rintro e w1 ⟨rfl,hn⟩;have hD:=hn.at_.below (Below.drew (Below.refl w1.heap.size w1));have HN:=af hn;have HD:=af hD;clear hn hD HC;go_upto_region 6 with fail
 refine A7 (C:=eM fun _=>True) 8 [0,1,2,4,5,6,3,7] [3,7] ⟨w1.drew,trivial⟩ aP aP rfl ?_
 repeat (refine eV rfl rfl (fun K hK=>?_);go_simp;refine hK _ ?_;clear hK K)
 refine ja rfl rfl 108 #[ax x.mb] dB ((HD.at_.take HS).mono ?_);rintro e w2 ⟨rfl,hn1⟩;refine⟨_,rfl,trivial,?_⟩;refine ja rfl rfl 108 #[ax x.mb] dB ((hn1.at_.take rfl).mono ?_);rintro e w3 ⟨rfl,hn2⟩;refine⟨_,rfl,trivial,iV ?_⟩;intro w' hw';rw[show w'=w3 from hw'];have fW:=af (((HN.trans HD).trans hn1).trans hn2);obtain⟨bh,f38,hm3⟩:=hn2.at_.bh;have gU:=af hn2.at_;clear hw' w' hne hn1 hn2 HN HD;simp only[List.drop_succ_cons,List.drop_zero]
 by_cases hab:a<b
 ·have cf:Hid (K={m with au:=s,loops:=m.loops++[(a,b)],at_:=m.at_+1}):=by show K=_;rw[HK.out,aG hab]
  have HE:=af (gU.enter a b hab hl);clear HK gU;go_wp2_with fail;refine HE.mono ?_;rintro e w4 ⟨rfl,y,hn4⟩;have HN4:=af (fW.trans hn4);clear hn4 HE;go_wp2_with fail;go_end0;rw[cf.out];exact⟨rfl,y,HN4⟩
 ·have cf:Hid (K={m with au:=s,at_:=k}):=by show K=_;rw[HK.out,az hab]
  have HE:=af (TI (w:=w3) (mb:=x.mb) a b hab);clear HK gU;go_wp2_with fail;refine HE.mono ?_;rintro e w4 ⟨rfl,rfl⟩;clear HE;go_wp2_with fail;go_end0;rw[cf.out];exact⟨rfl,_,Ao fW hk⟩
theorem WJ{l:List (Int×Int)}(h:aV B w x code m u)(hv:code[m.at_]?=some (k:Int))(hk:k≤code.length)(hs:m.loops=l++[(a,b)])(h0: -9000000000≤a)(h1:a≤9000000000):
  Calls prog 116 #[ax x.mb,ae 32] w fun e w'=>e=.returned (.tuple #[])∧gH B w x code (if a+1<b then{m with loops:=l++[(a+1,b)],at_:=k}else{m with loops:=l,at_:=m.at_+1}) u w':=by
 have HC:=af (h.operand hv);have hmb:=h.bh.2.2;have HS:=af hs;obtain⟨K,hK⟩:∃K,K=(if a+1<b then{m with loops:=l++[(a+1,b)],at_:=k}else{m with loops:=l,at_:=m.at_+1}):=⟨_,rfl⟩;rw[←hK];have HK:=af hK;clear h hv hs hK;go_enter func116,ntmps116;go_wp2_with fail;refine HC.mono ?_;rintro e w1 ⟨rfl,hn⟩;have HT:=af (hn.at_.again HS h0 h1);have hm1:=hn.at_.bh.2.2;have HN:=af hn;clear hn HC
 by_cases hab:a+1<b
 ·have hd:decide (a+1<b)=true:=jW hab
  have cf:Hid (K={m with loops:=l++[(a+1,b)],at_:=k}):=by show K=_;rw[HK.out,aG hab]
  rw[hd,aG hab]at HT;clear HK hd;go_wp2_with fail;refine HT.mono ?_;rintro e w2 ⟨rfl,y,hn2⟩;obtain⟨bh,f38,hm2⟩:=hn2.at_.bh;rw[hn2.mb]at bh f38 hm2;have fW:=af (HN.trans hn2);clear hn2 HT;go_wp2_with fail;go_end0;rw[cf.out];exact⟨rfl,y,Ao fW hk⟩
 ·have hd:decide (a+1<b)=false:=gO hab
  have cf:Hid (K={m with loops:=l,at_:=m.at_+1}):=by show K=_;rw[HK.out,az hab]
  rw[hd,az hab]at HT;clear HK hd;go_wp2_with fail;refine HT.mono ?_;rintro e w2 ⟨rfl,y,hn2⟩;have fW:=af (HN.trans hn2);clear hn2 HT;go_wp2_with fail;go_end0;rw[cf.out];exact⟨rfl,y,fW⟩
theorem acR(h:aV B w x code m u)(hv:code[m.at_]?=some (k:Int))(hk:k≤code.length)(hl:m.calls.length+1≤2000000):
  Calls prog 116 #[ax x.mb,ae 33] w fun e w'=>e=.returned (.tuple #[])∧gH B w x code {m with calls:=m.calls++[((m.at_+1:Nat):Int)],at_:=k} u w':=by
 have HC:=af (h.operand hv);have hmb:=h.bh.2.2;obtain⟨q,hq⟩:=ak (((m.at_+1:Nat):Int):Int);rw[←hq];have HQ:=af hq;clear h hv hq;go_enter func116,ntmps116;go_wp2_with fail;refine HC.mono ?_;rintro e w1 ⟨rfl,hn⟩;have hD:=hn.at_.below (Below.drew (Below.refl w1.heap.size w1));obtain⟨d38,_,hmd⟩:=hD.at_.bh;obtain⟨bh,_,hm1⟩:=hn.at_.bh;simp only at d38 bh;rw[←HQ.out]at d38 bh;have hne:Nonempty {w':World // w'.cell? (ai x.mb 38)=some (ae q)}:=⟨⟨w1,bh⟩⟩;have k0:∀u':{w':World // w'.cell? (ai x.mb 38)=some (ae q)},u'.val.cell? (ai x.mb 38)=some (ae q):=fun u'=>u'.property
 have HN:=af hn;have HD:=af hD;clear hn hD HC;go_upto_region 11 with fail
 refine ly (C:=eM fun w'=>w'.cell? (ai x.mb 38)=some (ae q)) 7 [] ⟨w1.drew,d38⟩ aP aP rfl ?_;rw[show List.range 7=[0,1,2,3,4,5,6]from rfl]
 repeat (refine eV rfl rfl (fun K hK=>?_);go_simp;refine hK _ ?_;clear hK K)
 refine iV ?_;intro w' hw';rw[show w'=w1.drew from hw'];clear hw' w' hne k0 bh d38;have HE:=af (HD.at_.Ud q hl);simp only[List.drop_succ_cons,List.drop_zero];go_wp2_with fail;refine HE.mono ?_;rintro e w2 ⟨rfl,y,hn2⟩;obtain⟨bh,f38,hm2⟩:=hn2.at_.bh;rw[hn2.mb]at bh f38 hm2;have fW:=af ((HN.trans HD).trans hn2);clear hn2 HE;go_wp2_with fail;go_end0;exact⟨rfl,y,Ao fW hk⟩
end
end
section
attribute [local go_sem] fH
section
variable{B:Nat}{w w':World}{x:RX}{code:List Int}{m m':MS}{u u':MW}
def dh(k:Nat)(s:List Int)(n:Nat):Int:=
 if(s.length:Int)<(aL k).need then 1 else if(k=23∨k=24)∧¬(0≤s.headD 0∧s.headD 0<(n:Int))then 3 else if 32<(s.length:Int)+(aL k).aM then 2 else 4
theorem aV.nK(h:aV B w x code m u):w.cell? (ai x.mb 32)=some (ae m.au.length)∧m.au.length≤32:=by
 obtain⟨cs,hk,hcs⟩:=h.gy;exact⟨hk.cell 32 _ hcs.mc.dep,hcs.mc.le⟩
theorem aV.top(h:aV B w x code m u)(hs:m.au=a :: s):
  Calls prog 139 #[ax x.mb] w fun e w'=>e=.returned (ae a)∧Below w.heap.size w w':=by
 obtain⟨cs,hk,hcs⟩:=h.gy;have:=hcs.mc;rw[hs]at this;exact Sw hk this
theorem aV.has(h:aV B w x code m u)(a:Int):
  Calls prog 138 #[ax x.wp,ae a] w fun e w'=>e=.returned (.bool (decide (0≤a∧a<u.vars.length)))∧w'=w:=by
 obtain⟨va,vc,hv,_,_⟩:=bo h.gN;have hb:=h.bK;rw[hv]at hb;exact WM hb a h.len.2.2.2.2.1
theorem vN(k:Nat)(hk:k<35)(h:aV B w x code m u)(ht:cQ w):
  Calls prog 107 #[ax x.mb,ae k] w fun e w'=>e=.returned (ae (dh k m.au u.vars.length))∧Below w.heap.size w w':=by
 have HEF:=af (sD k w hk ht);obtain⟨R,hR⟩:=ak (dh k m.au u.vars.length);rw[←hR];have hR2:=hR;unfold dh at hR2;have di:=Bz k hk;obtain⟨n1,n2,n3,n4,n5,hI⟩:∃(a b c d:Int) (e:Bool),(aL k).tm=.agg #[ae a,ae b,ae c,ae d,.bool e]∧a=(aL k).need∧b=(aL k).aM:=⟨_,_,_,_,_,rfl,rfl,rfl⟩;obtain⟨hI,hn1,hn2⟩:=hI;have hb1:0≤n1∧n1≤3∧ -3≤n2∧n2≤3:=by rw[hn1,hn2];simp only[aL];omega
 rw[hI]at HEF;rw[←hn1,←hn2]at hR2;obtain⟨hb1,hb2,hb3,hb4⟩:=hb1;have HR:=af hR2;have H:=af h;have hmb:=h.bh.2.2;have h32:=h.nK.2;have eA:=af hn1;clear hR hR2 h ht di hI hn1 hn2;go_enter func107,ntmps107;go_wp2_with fail;refine HEF.mono ?_;rintro e w1 ⟨rfl,hbe⟩;obtain⟨X,hX⟩:=ak (w1.alloc (.cells #[ae n1,ae n2,ae n3,ae n4,.bool n5] 151 (0,0)):World);obtain⟨eb,heb⟩:=ak (w1.heap.size);have hbX:Below w.heap.size w X:=by rw[hX];exact hbe.alloc hbe.size _
 have aN:ay X eb #[ae n1,ae n2,ae n3,ae n4,.bool n5] 151:=by rw[hX,heb];exact bJ w1 _ _
 have hAX:=H.below hbX;have x0:X.cell? (ai eb 0)=some (ae n1):=aN.cell 0 _ rfl;have x1:X.cell? (ai eb 1)=some (ae n2):=aN.cell 1 _ rfl;have x32:=hAX.at_.nK.1;obtain⟨d,hd⟩:=ak (m.au.length);rw[←hd]at x32 h32;have hdd:=HR.out;rw[←hd]at hdd;have HR2:=af hdd;have HD:=af hd;have HX:=af hX;have HEB:=af heb;have bT:=af hbX;have bz:=af aN;have HAX:=af hAX;have jI:=hAX.at_.bh.2.2;clear hX heb hbX aN hAX hbe HEF hd hdd HR;go_upto_region 2 with fail
 rw[←HX.out,←HEB.out]
 by_cases hlt:(d:Int)<n1
 ·have hdt:decide ((d:Int)<n1)=true:=jW hlt
  have hfin:Hid (R=1):=by show R=1;rw[HR2.out,aG hlt]
  clear HR2;go_wp2_with fail;go_quiet (fail);go_wp2_with fail;rw[hfin.out];go_ret;exact⟨rfl,bT.trans ⟨rfl,rfl,rfl,aH,fun _ _=>rfl⟩⟩
 ·have hdt:decide ((d:Int)<n1)=false:=gO hlt
  have hr3:=HR2.out;rw[az hlt]at hr3;have HR3:=af hr3;clear hr3 HR2;go_wp2_with fail;go_quiet (fail);have hbq:Below X.heap.size X (X.drewN nq):=dz;obtain⟨V,hV⟩:=ak (X.drewN nq:World);rw[←hV]at hbq;rw[←hV];have hAV:=HAX.at_.below hbq;have gQ:=bz.sub hbq bz.lt;have cS:=af (bT.trans (hbq.mono bT.size));have s7:=af hAV;have mS:=af gQ;have v1:V.cell? (ai eb 1)=some (ae n2):=gQ.cell 1 _ rfl;have v32:=hAV.at_.nK.1;rw[←HD.out]at v32;have hmV:=hAV.at_.bh.2.2;have Q7:=gQ.lt;clear hV hbq hAV gQ x0 x1 x32 HX HEB bT bz HAX
  by_cases h2:k=23∨k=24
  ·rcases h2 with rfl|rfl
   ·have RH:1≤n1:=by rw[eA.out];decide
    obtain⟨a,s,hs⟩:∃a s,m.au=a :: s:=by
     exact Mx
    have hr4:=HR3.out;rw[hs]at hr4;simp only[List.headD_cons]at hr4;have HR4:=af hr4;have HS:=af hs;have g1:(((23:Nat):Int) == 23)=true:=aj;have g2:(((23:Nat):Int) == 24)=false:=aj;exact JB
   ·have RH:2≤n1:=by rw[eA.out];decide
    obtain⟨a,s,hs⟩:∃a s,m.au=a :: s:=by
     exact Mx
    have hr4:=HR3.out;rw[hs]at hr4;simp only[List.headD_cons]at hr4;have HR4:=af hr4;have HS:=af hs;have g1:(((24:Nat):Int) == 23)=false:=aj;have g2:(((24:Nat):Int) == 24)=true:=aj;exact JB
  ·have g1:((k:Int) == 23)=false:=by simp;omega
   have g2:((k:Int) == 24)=false:=aK;have hr4:=HR3.out;rw[az (fun h=>h2 h.1)]at hr4;have HR4:=af hr4;clear hr4 HR3;go_wp2_with fail;go_quiet (fail);have hbq:Below V.heap.size V (V.drewN nq):=dz;obtain⟨Z,hZ⟩:=ak (V.drewN nq:World);rw[←hZ]at hbq;rw[←hZ];have z1:Z.cell? (ai eb 1)=some (ae n2):=(hbq.cell (p:=ai eb 1) Q7).trans v1;have z32:Z.cell? (ai x.mb 32)=some (ae d):=(hbq.cell (p:=ai x.mb 32) hmV).trans v32;have lf:=af (cS.trans (hbq.mono cS.size));clear hZ hbq v1 v32
   by_cases h3:32<(d:Int)+n2
   ·have yV:decide (32<(d:Int)+n2)=true:=jW h3
    have hfin:Hid (R=2):=by show R=2;rw[HR4.out,aG h3]
    exact PJ
   ·have yV:decide (32<(d:Int)+n2)=false:=gO h3
    have hfin:Hid (R=4):=by show R=4;rw[HR4.out,az h3]
    exact PJ
end
end
end Go.Proofs.YtcphhbofjkenaaaGreatDoor
