import Derived.Test.YtcphhbofjkenaaaGreatDoorMy
import Derived.Test.YtcphhbofjkenaaaGreatDoorM31
namespace Go.Proofs.YtcphhbofjkenaaaGreatDoor
open Go Go.RowKit Proofs.Tryz
set_option linter.unusedVariables false
set_option linter.unusedSimpArgs false
set_option maxRecDepth 100000
set_option maxHeartbeats 16000000
variable{w:World}{b n i jb:Nat}{t:TypeId}{cs:Array Value}{S:Nat→Prop}{cT:Value}{es':List EV}{a:JX×MS}{fs:List (Value×Fr)}{m:MS}{l:List Bool}
theorem D9{p:Prop}(h:p:=by
  rcases h.sat.ty e with ⟨_,t'⟩|⟨_,t'⟩<;>exact absurd (t.uniq t') aj):p:=h
theorem Kn{p:Prop}(h:p:=by
  by_cases e:j=i
  ·subst e
   rw[eL hil]at hp;exact aC ⟨rfl,(fy (fy hp)).symm⟩
  ·rw[dr (fun h=>e h.symm)]at hp
   exact aA ⟨e,hp⟩):p:=h
section
def jt(w:World)(b:Nat)(t:TypeId):Prop:=∃cs f,w.heap[b]?=some (.cells cs t f)
theorem jt.uniq{t':TypeId}(h:jt w b t)(h':jt w b t'):t=t':=by
 obtain⟨cs,f,h⟩:=h;obtain⟨cs',f',h'⟩:=h';rw[h]at h';simp at h';exact h'.2.1
theorem lD(h:ay w b cs t):jt w b t:=⟨cs,_,h⟩
theorem ji{base:Nat}{e:TypeId}{size k:Nat}{v:Value}{xs:List Value}(h:w.ownsRow base e size v n xs)(hk:v.ownBlock=some k):jt w k e:=by
 rcases h.2 with ⟨rfl,_⟩|⟨g,cap,cur,rfl,_,hg,_⟩
 ·cases hk
 ·simp[Value.ownBlock]at hk;subst hk;exact⟨_,_,hg⟩
theorem rW{f:Nat→Value}(h:w.rowIs b t n f):jt w b t:=by
 obtain⟨c,hb,_⟩:=h;exact⟨_,_,hb⟩
section
variable{B:Nat}{w w':World}{s:SX}{code:List Int}{u u':MW}{js:List (JX×MS)}
theorem kx.ty(h:kx B w s code u js)(hb:pF s js b):jt w b 116∨jt w b 118∨jt w b 237∨jt w b 3:=by
 rcases hb with (e|e|e)|⟨i,a,hi,e|e|e⟩
 ·subst e;exact aA (aC (lD h.ij.bK))
 ·exact aA (aA (aA (ji h.ij.gN e)))
 ·exact aA (aA (aA (ji h.ij.cY e)))
 ·subst e
  obtain⟨cs,k,_⟩:=(h.each i a hi).gy;exact aC (lD k)
 ·exact aA (aA (aC (ji (h.each i a hi).fx e)))
 ·exact aA (aA (aA (ji (h.each i a hi).cD e)))
theorem kx.not(h:kx B w s code u js)(hb:pF s js b)(ht:jt w b t)(h1:t≠116)(h2:t≠118)(h3:t≠237)(h4:t≠3):False:=by
 rcases h.ty hb with e|e|e|e
 ·exact h1 (ht.uniq e)
 ·exact h2 (ht.uniq e)
 ·exact h3 (ht.uniq e)
 ·exact h4 (ht.uniq e)
structure dO (B:Nat) (w:World) (tb gn gr:Nat) (s:SX) (code:List Int) (u:MW) (ev:Value) (aU:List Nat) (ts:List JT) (rk:List Nat) (js:List (JX×MS)) (bs:List Bool) (es:List EV):Prop where
 gj:kx B w s code u js
 blk:ay w tb #[ax s.wp,aD gn aU.length aU.length,aD gr aU.length aU.length,ev] 139
 pV:lx B w ev es
 kf:w.rowIs gn 168 aU.length (fun i=>ax (aU.getD i 0))
 kg:w.rowIs gr 168 aU.length (fun i=>ax (aU.getD (rk.getD i 0) 0))
 ln:∀(i:Nat) (jb:Nat),aU[i]?=some jb→∃a t b,js[i]?=some a∧ts[i]?=some t∧bs[i]?=some b∧ay w jb (xR a.1.mb t i b) 170∧(B≤jb∧a.1.st=(t.st:Int)∧t.st≤code.length)
 nodup:∀(i k jb:Nat),aU[i]?=some jb→aU[k]?=some jb→i=k
 bt:B≤tb
 bg:B≤gn∧B≤gr
 len:js.length=aU.length∧bs.length=aU.length∧aU.length≤8
 rank:∀i,i<aU.length→rk.getD i 0<aU.length
variable{tb gn gr:Nat}{ev:Value}{aU:List Nat}{ts:List JT}{rk:List Nat}{bs:List Bool}{es:List EV}
theorem dO.aB(h:dO B w tb gn gr s code u ev aU ts rk js bs es)(hc:aq S w w')(hf:∀b,pF s js b→¬S b)(ht:¬S tb)(he:∀k,ev.ownBlock=some k→¬S k)(hn:¬S gn)(hr:¬S gr)(hj:∀(i jb:Nat),aU[i]?=some jb→¬S jb)(hB:∀b,S b→B≤b):dO B w' tb gn gr s code u ev aU ts rk js bs es:=
 ⟨h.gj.aB hc hf hB,h.blk.aB hc ht,aR h.pV hc he,h.kf.of_block (hc.block gn h.kf.lt hn),h.kg.of_block (hc.block gr h.kg.lt hr),
  fun i jb hi=>by
   obtain⟨a,t,b,k1,k2,k3,k4,k5⟩:=h.ln i jb hi;exact⟨a,t,b,k1,k2,k3,k4.aB hc (hj i jb hi),k5⟩,h.nodup,h.bt,h.bg,h.len,h.rank⟩
theorem dO.TR(h:dO B w tb gn gr s code u ev aU ts rk js bs es)(hc:aq (fun b=>b=tb∨ev.ownBlock=some b) w w')
  (hb:ay w' tb #[ax s.wp,aD gn aU.length aU.length,aD gr aU.length aU.length,cT] 139) (hr:lx B w' cT es'):dO B w' tb gn gr s code u cT aU ts rk js bs es':=by
 have key:∀{b:Nat} {t:TypeId},jt w b t→t≠139→t≠69→¬(b=tb∨ev.ownBlock=some b):=fun {b t} ht h1 h2 e=>by
  rcases e with e|e
  ·subst e;exact h1 (ht.uniq (lD h.blk))
  ·exact h2 (ht.uniq (ji h.pV e))
 have hf:∀b,pF s js b→¬(b=tb∨ev.ownBlock=some b):=fun b hb=>by
  rcases h.gj.ty hb with e|e|e|e
  ·exact key e aj aj
  ·exact key e aj aj
  ·exact key e aj aj
  ·exact key e aj aj
 have hB:∀b,(b=tb∨ev.ownBlock=some b)→B≤b:=fun b e=>by
  rcases e with e|e
  ·subst e;exact h.bt
  ·exact cR h.pV e
 refine⟨h.gj.aB hc hf hB,hb,hr,h.kf.of_block (hc.block gn h.kf.lt (key (rW h.kf) aj aj)),h.kg.of_block (hc.block gr h.kg.lt (key (rW h.kg) aj aj)),fun i jb hi=>?_,h.nodup,h.bt,h.bg,h.len,h.rank⟩;obtain⟨a,t,b,k1,k2,k3,k4,k5⟩:=h.ln i jb hi;exact⟨a,t,b,k1,k2,k3,k4.aB hc (key (lD k4) aj aj),k5⟩
theorem dO.QI(h:dO B w tb gn gr s code u ev aU ts rk js bs es)(hi:aU[i]?=some jb)(v:Bool):dO B (w.setCell (ai jb 6) (.bool v)) tb gn gr s code u ev aU ts rk js (bs.set i v) es:=by
 obtain⟨a0,t0,b0,j1,j2,j3,j4,j5⟩:=h.ln i jb hi;have hc:aq (fun b=>b=jb) w (w.setCell (ai jb 6) (.bool v)):=(aq.refl (fun b=>b=jb) w).setCell (p:=ai jb 6) rfl _
 have key:∀{b:Nat} {t:TypeId},jt w b t→t≠170→¬b=jb:=fun {b t} ht h1 e=>by
  subst e;exact h1 (ht.uniq (lD j4))
 have hf:∀b,pF s js b→¬b=jb:=fun b hb=>by
  rcases h.gj.ty hb with e|e|e|e
  ·exact key e aj
  ·exact key e aj
  ·exact key e aj
  ·exact key e aj
 refine⟨h.gj.aB hc hf (fun b e=>by subst e;exact j5.1),h.blk.aB hc (key (lD h.blk) aj),aR h.pV hc (fun k hk=>key (ji h.pV hk) aj),h.kf.of_block (hc.block gn h.kf.lt (key (rW h.kf) aj)),h.kg.of_block (hc.block gr h.kg.lt (key (rW h.kg) aj)),fun k kb hk=>?_,h.nodup,h.bt,h.bg,⟨h.len.1,by rw[km];exact h.len.2.1,h.len.2.2⟩,h.rank⟩;obtain⟨a,t,b,k1,k2,k3,k4,k5⟩:=h.ln k kb hk
 by_cases fD:k=i
 ·subst fD
  obtain rfl:kb=jb:=fy (hk.symm.trans hi);have hlt:=(cI.1 k3).1;refine⟨a,t,v,k1,k2,by rw[eL hlt],?_,k5⟩;have:=k4.set (o:=6) (.bool v);simpa [xR]using this
 ·refine⟨a,t,b,k1,k2,by rw[dr (fun e=>fD e.symm)];exact k3,k4.aB hc (fun e=>?_),k5⟩
  subst e;exact fD (h.nodup k i kb hk hi)
theorem dO.Oh{m':MS}{y:RX}(h:dO B w tb gn gr s code u ev aU ts rk js bs es)(hi:js[i]?=some a)(hn:RN B w (a.1.rx s) code m' u' w' y):
  dO B w' tb gn gr ⟨s.wp,s.rv,s.vv,y.ov,y.iv⟩ code u' ev aU ts rk (js.set i (⟨a.1.mb,a.1.st,y.lv,y.cv⟩,m')) bs es∧aq (pF s js) w w':=by
 obtain⟨f1,f2,hc⟩:=h.gj.step hi hn;have key:∀{b:Nat} {t:TypeId},jt w b t→t≠116→t≠118→t≠237→t≠3→¬pF s js b:=fun ht h1 h2 h3 h4 hb=>h.gj.not hb ht h1 h2 h3 h4
 have hlt:=(cI.1 hi).1;refine⟨⟨f1,h.blk.aB hc (key (lD h.blk) aj aj aj aj),aR h.pV hc (fun k hk=>key (ji h.pV hk) aj aj aj aj),h.kf.of_block (hc.block gn h.kf.lt (key (rW h.kf) aj aj aj aj)),h.kg.of_block (hc.block gr h.kg.lt (key (rW h.kg) aj aj aj aj)),fun k kb hk=>?_,h.nodup,h.bt,h.bg,⟨by rw[km];exact h.len.1,h.len.2⟩,h.rank⟩,hc⟩;obtain⟨c,t,b,k1,k2,k3,k4,k5⟩:=h.ln k kb hk;have k4':=k4.aB hc (key (lD k4) aj aj aj aj)
 by_cases fD:k=i
 ·subst fD
  obtain rfl:c=a:=fy (k1.symm.trans hi);exact⟨(⟨c.1.mb,c.1.st,y.lv,y.cv⟩,m'),t,b,by rw[eL hlt],k2,k3,k4',k5⟩
 ·exact⟨c,t,b,by rw[dr (fun e=>fD e.symm)];exact k1,k2,k3,k4',k5⟩
theorem dO.base(h:dO B w tb gn gr s code u ev aU ts rk js bs es):B≤w.heap.size:=by have:=h.blk.lt;have:=h.bt;omega
theorem dO.toBelow(h:dO B w tb gn gr s code u ev aU ts rk js bs es)(hc:aq S w w')(hB:∀b,S b→B≤b):Below B w w':=hc.toBelow h.base (fun b hb e=>by have:=hB b e;omega)
theorem dO.Fv(h:dO B w tb gn gr s code u ev aU ts rk js bs es)(hc:aq (fun b=>b=tb∨ev.ownBlock=some b) w w'):Below B w w':=h.toBelow hc (fun b e=>by
 rcases e with e|e
 ·subst e;exact h.bt
 ·exact cR h.pV e)
end
end
section
def puts(n tick:Int)(l:List Int):List EV:=l.map fun c=>⟨3,n,tick,c⟩
section
variable{B:Nat}{w:World}{s:SX}{code:List Int}{u:MW}{js:List (JX×MS)}{tb gn gr:Nat}{ev:Value}{aU:List Nat}{ts:List JT}{rk:List Nat}{bs:List Bool}{es:List EV}
theorem dO.note(h:dO B w tb gn gr s code u ev aU ts rk js bs es)(hi:aU[i]?=some jb)(kind tick val:Int)(hl:es.length≤90000000):
  Calls prog 84 #[ax tb,ae kind,ax jb,ae tick,ae val] w fun e w'=>e=.returned (.tuple #[])∧∃cT,dO B w' tb gn gr s code u cT aU ts rk js bs (es++[⟨kind,i,tick,val⟩])∧Lc w ev cT∧aq (fun b=>b=tb∨ev.ownBlock=some b) w w':=by
 obtain⟨a,t,b,k1,k2,k3,k4,k5⟩:=h.ln i jb hi;refine(WZ kind tick val h.blk h.pV k4 hl h.base).mono ?_;rintro e w' ⟨rfl,⟨cT,r1,r2,r3⟩,hc⟩;exact⟨rfl,cT,h.TR hc r1 r2,r3,hc⟩
theorem OC(oa:Option Addr)(n oc:Nat):(Value.slice oa n oc).ownBlock=(Value.slice oa 0 oc).ownBlock:=by
 cases oa<;>rfl
theorem dO.flush{oa:Option Addr}{oc:Nat}(h:dO B w tb gn gr s code u ev aU ts rk js bs es)(hov:s.ov=.slice oa n oc):
  dO B (w.setCell (ai s.wp 1) (.slice oa 0 oc)) tb gn gr ⟨s.wp,s.rv,s.vv,.slice oa 0 oc,s.iv⟩ code ⟨u.vars,[],u.ins⟩ ev aU ts rk js bs es:=by
 obtain⟨wp,rv,vv,ov,iv⟩:=s;simp only at hov;subst hov;have hw:=h.gj.ij;have hc:aq (fun b=>b=wp) w (w.setCell (ai wp 1) (.slice oa 0 oc)):=(aq.refl (fun b=>b=wp) w).setCell (p:=ai wp 1) rfl _
 have key:∀{b:Nat} {t:TypeId},jt w b t→t≠118→¬b=wp:=fun {b t} ht h1 e=>by
  subst e;exact h1 (ht.uniq (lD hw.bK))
 have hB:Below B w (w.setCell (ai wp 1) (.slice oa 0 oc)):=hc.toBelow h.base (fun b hb e=>by have:=hw.bw;simp only at this;omega)
 have hor:bX B (w.setCell (ai wp 1) (.slice oa 0 oc)) (.slice oa 0 oc) []:=by
  have ho:=aR hw.cY hc (fun k hk=>key (ji hw.cY hk) aj);rcases ho.2 with ⟨e,_⟩|⟨g,cap,cur,e,k1,k2,k3,k4,k5,k6⟩
  ·obtain⟨rfl,rfl,rfl⟩:oa=none∧n=0∧oc=0:=by simpa using e
   exact qQ _ _ _ _
  ·obtain⟨rfl,rfl,rfl⟩:oa=some (ai g 0)∧n=u.outs.length∧oc=cap:=by simpa using e
   exact⟨rfl,aA ⟨g,oc,cur,rfl,k1,k2,bU _,k4,k5,aF⟩⟩
 have hW:∀b,(SX.mk wp rv vv (.slice oa 0 oc) iv).W b→(SX.mk wp rv vv (.slice oa n oc) iv).W b:=by
  rintro b (e|e|e)
  ·exact aC e
  ·exact aA (aC e)
  ·exact aA (aA (by rw[OC];exact e))
 have hJ:∀(i:Nat) (c:JX×MS),js[i]?=some c→∀b,c.1.J b→¬b=wp:=fun i c hi b hb e=>h.gj.sep i c hi b hb (aC e)
 obtain⟨o1,o2,o3,o4⟩:=hw.len;refine⟨⟨⟨?_,aR hw.gN hc (fun k hk=>key (ji hw.gN hk) aj),hor,hw.ins.below hB,hw.bG.below hB,fun k hk=>by rw[←OC oa n oc];exact hw.tY k hk,hw.bw,aF,o2,o3,o4⟩,fun i c hi=>(h.gj.each i c hi).aB hc (hJ i c hi),h.gj.apart,fun i c hi b hb e=>h.gj.sep i c hi b hb (hW b e)⟩,h.blk.aB hc (key (lD h.blk) aj),aR h.pV hc (fun k hk=>key (ji h.pV hk) aj),h.kf.of_block (hc.block gn h.kf.lt (key (rW h.kf) aj)),h.kg.of_block (hc.block gr h.kg.lt (key (rW h.kg) aj)),fun i jb hi=>?_,h.nodup,h.bt,h.bg,h.len,h.rank⟩
 ·have:=hw.bK.set (o:=1) (.slice oa 0 oc)
  simpa using this
 ·obtain⟨a,t,b,k1,k2,k3,k4,k5⟩:=h.ln i jb hi
  exact⟨a,t,b,k1,k2,k3,k4.aB hc (key (lD k4) aj),k5⟩
end
end
section
section
variable{B:Nat}{w:World}{s:SX}{code:List Int}{u:MW}{js:List (JX×MS)}{tb gn gr:Nat}{ev:Value}{aU:List Nat}{ts:List JT}{rk:List Nat}{bs:List Bool}{es:List EV}
def Cr(B:Nat)(tb gn gr:Nat)(code:List Int)(aU:List Nat)(ts:List JT)(rk:List Nat)(js:List (JX×MS))(bs:List Bool)(es:List EV)(i:Nat)(tick E:Int)(m':MS)(u':MW)(w:World)(e:Ending)(w':World):Prop:=
 e=.returned (.tuple #[])∧Below B w w'∧∃s' cT j',dO B w' tb gn gr s' code ⟨u'.vars,[],u'.ins⟩ cT aU ts rk (js.set i (j',m')) (if E≠4 then bs.set i false else bs) (es++puts i tick u'.outs++(if E≠4 then [⟨2,i,tick,E⟩]else []))
theorem Yx(h:dO B w tb gn gr s code u ev aU ts rk js bs es)(hi:aU[i]?=some jb)(ha:js[i]?=some a)(ht:cQ w)(hG:3≤B)(bj:yX code a.2 u)(tick:Int)(hl:es.length≤80000000)(ho:(cK code a.2 u).2.2.outs.length≤100):
  Calls prog 85 #[ax tb,ax jb,ae tick] w fun e w'=>Cr B tb gn gr code aU ts rk js bs es i tick (cK code a.2 u).1 (cK code a.2 u).2.1 (cK code a.2 u).2.2 w e w':=by
 obtain⟨E,hE⟩:=ak ((cK code a.2 u).1);obtain⟨m',sL⟩:∃m',m'=(cK code a.2 u).2.1:=⟨_,rfl⟩;obtain⟨u',iz⟩:∃u',u'=(cK code a.2 u).2.2:=⟨_,rfl⟩;obtain⟨a0,t0,b0,k1,k2,k3,k4,k5⟩:=h.ln i jb hi;obtain rfl:a0=a:=fy (k1.symm.trans ha);have hst:=Vk (h.gj.rAt ha) ht bj;rw[←hE,←sL,←iz]at hst ⊢;rw[←iz]at ho;have c0:w.cell? (ai jb 0)=some (ax a0.1.mb):=k4.cell 0 _ rfl;have hjl:=k4.lt;have HT:=af h;have HST:Hid (Calls prog 74 #[ax a0.1.mb] w fun e w'=>e=.returned (ae E)∧gH B w (a0.1.rx s) code m' u' w'):=af hst;clear hst h hE sL iz bj k4;go_enter func85,ntmps85;go_wp2_with fail;refine HST.mono ?_;rintro e w1 ⟨rfl,y,hn⟩;obtain⟨hT1,hc1⟩:=HT.Oh ha hn;have HB1:=af (HT.toBelow hc1 (fun b hb=>HT.gj.base hb));obtain⟨oa,oc,hov,hoc,_⟩:=bo hT1.gj.ij.cY;obtain⟨n,hnn⟩:=ak (u'.outs.length);obtain⟨s1,hs1⟩:=ak (⟨s.wp,s.rv,s.vv,y.ov,y.iv⟩:SX);obtain⟨j1,tZ⟩:=ak (⟨a0.1.mb,a0.1.st,y.lv,y.cv⟩:JX);rw[←hs1,←tZ]at hT1;have sH:s1.wp=s.wp:=by rw[hs1]
 have hso:s1.ov=.slice oa n oc:=by rw[hs1,hnn];exact hov
 have q0:w1.cell? (ai tb 0)=some (ax s1.wp):=hT1.blk.cell 0 _ rfl;have q1:w1.cell? (ai s1.wp 1)=some (.slice oa n oc):=by rw[←hso];exact hT1.gj.ij.bK.cell 1 _ rfl
 have ad2:n≤100:=ag;have htl:=hT1.blk.lt;have hwl:=hT1.gj.ij.bK.lt;obtain⟨wp,GR⟩:=ak (s1.wp);rw[←GR]at q0 q1 hwl;have r8:=af hT1;have mQ:=af hnn;have HSO:=af hso;have HWP:=af GR;clear hT1 hc1 hn hov hoc hnn hs1 tZ hso sH GR HST HT c0;go_wp2_with fail;go_loopw[22] (fun k wr=>∃(q:Nat) (ev1:Value),q≤n∧k=ae q∧Hid (dO B wr tb gn gr s1 code u' ev1 aU ts rk (js.set i (j1,m')) bs (es++puts i tick (u'.outs.take q)))∧Hid (Below B w wr)) (fun k _=>n - (intOf k).toNat)
 case atStart=>exact⟨0,ev,bU _,rfl,af (by simpa [puts]using r8.out),HB1⟩
 case round=>
  clear r8 HB1 q0 q1 htl hwl;obtain⟨q,ev1,hq,rfl,HQ,df⟩:=hrel
  by_cases hlt:q<n
  ·have jf:(q:Int)<(n:Int):=by omega
   have hrow:=HQ.gj.ij.cY;rw[HSO.out]at hrow;obtain⟨c,hc⟩:∃c,u'.outs[q]?=some c:=⟨_,bE (by rw[←mQ.out];exact hlt)⟩;obtain⟨g,cap,hv,_,hg,_,_,hcc⟩:=cd hrow (by have:=mQ.out;omega);simp only[Value.slice.injEq]at hv;obtain⟨rfl,hnx,rfl⟩:=hv;have hcell:wr.cell? (ai g q)=some (ae c):=hcc q _ (by rw[ints,iH,hc];rfl);have HNO:=af (HQ.note hi 3 tick c (by rw[cF,puts,List.length_map,List.length_take];have:=mQ.out;omega))
   have hpu:es++puts i tick (u'.outs.take q)++[⟨3,i,tick,c⟩]=es++puts i tick (u'.outs.take (q+1)):=by
    rw[vZ,List.take_add_one,hc];simp[puts]
   have HPU:=af hpu;clear hrow hcc hnx hc hpu;go_wp2_with fail;refine HNO.mono ?_;rintro e w3 ⟨rfl,ev2,hT3,_,hc3⟩;have eR:=af (df.trans (HQ.Fv hc3));rw[HPU.out]at hT3;have jk:=af hT3;clear hT3 hc3 HNO hcell;go_wp2_with fail;go_roundw
   case rel=>exact⟨q+1,ev2,ag,bO,jk,eR⟩
   case measure=>simp[intOf];omega
  ·obtain rfl:q=n:=by omega
   have hji:¬(q:Int)<(q:Int):=ag;have q0:wr.cell? (ai tb 0)=some (ax wp):=by rw[HWP.out];exact HQ.blk.cell 0 _ rfl
   have q1:wr.cell? (ai wp 1)=some (.slice oa q oc):=by rw[←HSO.out,HWP.out];exact HQ.gj.ij.bK.cell 1 _ rfl
   have f1:wr.frozen? (ai wp 1)=false:=by rw[HWP.out];exact HQ.gj.ij.bK.frozen 1
   have htl:=HQ.blk.lt;have hwl:wp<wr.heap.size:=by rw[HWP.out];exact HQ.gj.ij.bK.lt
   go_upto_region 6 with fail
   go_still_tail 14,aP
   go_upto_region 7 with fail
   have hT6:=dO.flush (w:=wr) HQ HSO;rw[←HWP.out,List.take_of_length_le (by rw[←mQ.out];exact aH)]at hT6;obtain⟨V,hV⟩:=ak ((wr.setCell (ai wp 1) (.slice oa 0 oc)).drew:World);have hT7:=hT6.aB (w':=V) (S:=fun _=>False) (by rw[hV];exact(aq.refl _ _).drew) (fun _ _=>id) id (fun _ _=>id) id id (fun _ _ _=>id) (fun _ e=>e.elim);have cS:Hid (Below B w V):=af (df.trans (HQ.toBelow (S:=fun b=>b=wp) (by rw[hV];exact((aq.refl (fun b=>b=wp) wr).setCell (p:=ai wp 1) rfl _).drew) (fun b e=>by rw[e,HWP.out];exact HQ.gj.ij.bw)));rw[←hV];obtain⟨a7,t7,b7,g1,g2,g3,g4,g5⟩:=hT7.ln i jb hi;have d6:V.cell? (ai jb 6)=some (.bool b7):=g4.cell 6 _ rfl;have e6:=g4.frozen 6;have hjV:=g4.lt;have HT7:=af hT7;have HJB:=af g5.1;have lG:Hid ((es++puts i tick u'.outs).length≤90000000):=af (by rw[cF,puts,List.length_map];omega);clear hT6 hT7 hV g1 g2 g3 g4 g5 q0 q1 f1 HQ
   by_cases hE4:E=4
   ·have x4:(E != 4)=false:=by simp[hE4]
    have nI:=af hE4;clear hE4;go_wp2_with fail;go_end0;have h4:=nI.out;refine(show Cr B tb gn gr code aU ts rk js bs es i tick E m' u' w _ _ from⟨rfl,cS,⟨wp,s1.rv,s1.vv,.slice oa 0 oc,s1.iv⟩,ev1,j1,?_⟩);rw[az (fun h=>h h4),az (fun h=>h h4),List.append_nil];exact HT7
   ·have x4:(E != 4)=true:=by simpa using hE4
    have nI:=af hE4;clear hE4;have hT8:=HT7.QI hi false;obtain⟨Z,hZ⟩:=ak (V.setCell (ai jb 6) (.bool false):World);rw[←hZ]at hT8;have lf:Hid (Below B w Z):=af (cS.trans (HT7.toBelow (S:=fun b=>b=jb) (by rw[hZ];exact(aq.refl (fun b=>b=jb) V).setCell (p:=ai jb 6) rfl _) (fun b e=>by rw[e];exact HJB)));have HNO:=af (hT8.note hi 2 tick E lG);have HZ:=af hZ;have HT8:=af hT8;clear hZ hT8;go_wp2_with fail;rw[←HZ.out];refine HNO.mono ?_;rintro e w9 ⟨rfl,ev9,hT9,_,hc9⟩;have HT9:=af hT9;have HB9:=af (lf.trans (HT8.Fv hc9));clear hT9 HNO hc9;go_wp2_with fail;go_end0;have h4:=nI.out;refine(show Cr B tb gn gr code aU ts rk js bs es i tick E m' u' w _ _ from⟨rfl,HB9,⟨wp,s1.rv,s1.vv,.slice oa 0 oc,s1.iv⟩,ev9,j1,?_⟩);rw[aG h4,aG h4];exact HT9
end
end
section
structure DQ where
 mb:Nat
 fv:Value
 tv:Value
structure DW where
 wp:Nat
 cv:Value
 iv:Value
 ov:Value
 full:List Int
 tk:Nat
def DQ.dx(q:DQ)(s:DW):DX:=⟨q.mb,s.wp,q.fv,q.tv,s.cv,s.iv,s.ov,s.full,s.tk⟩
def DX.q(x:DX):DQ:=⟨x.mb,x.fv,x.tv⟩
def DX.s(x:DX):DW:=⟨x.wp,x.cv,x.iv,x.ov,x.full,x.tk⟩
def DQ.J(q:DQ)(b:Nat):Prop:=b=q.mb∨q.fv.ownBlock=some b∨q.tv.ownBlock=some b
def DW.W(s:DW)(b:Nat):Prop:=b=s.wp∨s.cv.ownBlock=some b∨s.ov.ownBlock=some b
structure qw (B:Nat) (w:World) (sb:Nat) (F:Nat→Prop) (q:DQ) (m:DM):Prop where
 dA:ay w q.mb #[ax sb,q.fv,q.tv,.bool m.done,ae m.ed] 226
 fg:uu B w q.fv m.fs
 cH:bX B w q.tv m.au.reverse
 bm:B≤q.mb
 oD:∀p∈m.fs,fk F w p.1 p.2.its
 len:m.fs.length≤2000000∧m.au.length≤32
structure SAt (B:Nat) (w:World) (s:DW) (u:MW):Prop where
 bK:ay w s.wp #[s.cv,s.iv,ae s.tk,s.ov] 221
 cD:bX B w s.cv u.vars
 cY:bX B w s.ov u.outs
 ins:cN B w s.iv s.full
 rest:u.ins=s.full.drop s.tk
 kH:∀k,s.cv.ownBlock=some k→s.ov.ownBlock≠some k
 bw:B≤s.wp
 len:u.outs.length≤2000000∧s.full.length≤2000000∧u.vars.length≤1000∧s.tk≤2000000
section
variable{B:Nat}{w w':World}{sb:Nat}{F S:Nat→Prop}{q:DQ}{s:DW}{m:DM}{u:MW}{x:DX}{b:Nat}
theorem acI(hq:qw B w sb F q m)(hs:SAt B w s u)(h:∀k,q.tv.ownBlock=some k→s.cv.ownBlock≠some k∧s.ov.ownBlock≠some k)(fb:∀k,F k→k<B):bC B w sb F (q.dx s) m u:=by
 obtain⟨l1,l2⟩:=hq.len;obtain⟨l3,l4,l5,l6⟩:=hs.len;exact⟨hq.dA,hq.fg,hq.cH,hs.bK,hs.cD,hs.cY,hs.ins,hs.rest,h,hs.kH,hq.bm,hs.bw,hq.oD,fb,l1,l2,l3,l4,l5,l6⟩
theorem bC.mX(h:bC B w sb F x m u):qw B w sb F x.q m:=⟨h.dA,h.fg,h.cH,h.bm,h.oD,h.len.1,h.len.2.1⟩
theorem bC.sat(h:bC B w sb F x m u):SAt B w x.s u:=⟨h.bK,h.cD,h.cY,h.ins,h.rest,h.kH,h.bw,h.len.2.2⟩
theorem qw.ty(h:qw B w sb F q m)(hb:q.J b):(b=q.mb∧jt w b 226)∨(q.fv.ownBlock=some b∧jt w b 257)∨(q.tv.ownBlock=some b∧jt w b 3):=by
 rcases hb with e|e|e
 ·exact aC ⟨e,by rw[e];exact lD h.dA⟩
 ·exact aA (aC ⟨e,ji h.fg e⟩)
 ·exact aA (aA ⟨e,ji h.cH e⟩)
theorem SAt.ty(h:SAt B w s u)(hb:s.W b):(b=s.wp∧jt w b 221)∨((s.cv.ownBlock=some b∨s.ov.ownBlock=some b)∧jt w b 3):=by
 rcases hb with e|e|e
 ·exact aC ⟨e,by rw[e];exact lD h.bK⟩
 ·exact aA ⟨aC e,ji h.cD e⟩
 ·exact aA ⟨aA e,ji h.cY e⟩
theorem qw.lt(h:qw B w sb F q m)(hb:q.J b):b<w.heap.size:=by
 rcases hb with e|e|e
 ·rw[e];exact h.dA.lt
 ·exact cJ h.fg e
 ·exact cJ h.cH e
theorem SAt.lt(h:SAt B w s u)(hb:s.W b):b<w.heap.size:=by
 rcases hb with e|e|e
 ·rw[e];exact h.bK.lt
 ·exact cJ h.cD e
 ·exact cJ h.cY e
theorem qw.aB(h:qw B w sb F q m)(fb:∀k,F k→k<B)(hc:aq S w w')(hB:Below B w w')(hn:∀b,q.J b→¬S b):qw B w' sb F q m:=
 ⟨h.dA.aB hc (hn _ (aC rfl)),aR h.fg hc (fun b hb=>hn b (aA (aC hb))),aR h.cH hc (fun b hb=>hn b (aA (aA hb))),h.bm,fun p hp=>(h.oD p hp).below fb hB,h.len⟩
theorem SAt.aB(h:SAt B w s u)(hc:aq S w w')(hB:Below B w w')(hn:∀b,s.W b→¬S b):SAt B w' s u:=
 ⟨h.bK.aB hc (hn _ (aC rfl)),aR h.cD hc (fun b hb=>hn b (aA (aC hb))),aR h.cY hc (fun b hb=>hn b (aA (aA hb))),h.ins.below hB,h.rest,h.kH,h.bw,h.len⟩
end
def qptr:Option (DQ×DM)→Value
 |none=>.pointer none
 |some p=>ax p.1.mb
structure gV (B:Nat) (w:World) (sb:Nat) (F:Nat→Prop) (mg n:Nat) (s:DW) (u:MW) (qs:List (Option (DQ×DM))) (ev:Value) (es:List EV):Prop where
 ql:qs.length=n
 row:w.ownsRow B 222 1 (aD mg n n) n (qs.map qptr)
 mX:∀(i:Nat) (q:DQ) (m:DM),qs[i]?=some (some (q,m))→qw B w sb F q m
 sat:SAt B w s u
 pS:∀(i:Nat) (q:DQ) (m:DM),qs[i]?=some (some (q,m))→∀k,q.tv.ownBlock=some k→s.cv.ownBlock≠some k∧s.ov.ownBlock≠some k
 zt:∀(i j:Nat) (q:DQ) (m:DM) (q':DQ) (m':DM),i≠j→qs[i]?=some (some (q,m))→qs[j]?=some (some (q',m'))→q.mb≠q'.mb∧∀k,q.fv.ownBlock=some k→q'.fv.ownBlock≠some k
 evs:lx B w ev es
 fb:∀k,F k→k<B
 bs:B≤w.heap.size
section
variable{B:Nat}{w w':World}{sb:Nat}{F S:Nat→Prop}{mg n:Nat}{s:DW}{u u':MW}{qs:List (Option (DQ×DM))}{ev:Value}{es:List EV}{q:DQ}{m m':DM}{x y:DX}{b i:Nat}
theorem ML{mg:Nat}(h:(aD mg n n).ownBlock=some b):b=mg:=by simpa [Value.ownBlock,eq_comm]using h
theorem gV.aB(h:gV B w sb F mg n s u qs ev es)(hc:aq S w w')(hS:∀b,S b→B≤b)(h1:¬S mg)(h2:∀(i:Nat) (q:DQ) (m:DM),qs[i]?=some (some (q,m))→∀b,q.J b→¬S b)(h3:∀b,s.W b→¬S b)(he:lx B w' cT es'):gV B w' sb F mg n s u qs cT es':=by
 have hB:Below B w w':=hc.toBelow h.bs (fun b hb e=>by have:=hS b e;omega);exact⟨h.ql,aR h.row hc (fun b hb e=>h1 (ML hb ▸ e)),fun i q m hi=>(h.mX i q m hi).aB h.fb hc hB (h2 i q m hi),h.sat.aB hc hB h3,h.pS,h.zt,he,h.fb,bB h.bs hc.size⟩
theorem gV.below(h:gV B w sb F mg n s u qs ev es)(hb:Below w.heap.size w w'):gV B w' sb F mg n s u qs ev es:=
 h.aB (aq.bf (S:=fun _=>False) hb) (fun _ e=>e.elim) id (fun _ _ _ _ _ _=>id) (fun _ _=>id) (aR h.evs (aq.bf (S:=fun _=>False) hb) (fun _ _=>id))
theorem gV.event(h:gV B w sb F mg n s u qs ev es)(hg:w.grownBy w' ev.ownBlock)(he:lx B w' cT es'):gV B w' sb F mg n s u qs cT es':=by
 have hty:∀b,some b=ev.ownBlock→jt w b 69:=fun b e=>ji h.evs e.symm
 refine h.aB (aq.dP hg) (fun b e=>cR h.evs e.symm) (fun e=>?_) (fun i q m hi b hb e=>?_) (fun b hb e=>?_) he
 ·exact absurd ((hty _ e).uniq (ji h.row (k:=mg) rfl)) aj
 ·rcases(h.mX i q m hi).ty hb with ⟨_,t⟩|⟨_,t⟩|⟨_,t⟩
  ·exact absurd ((hty _ e).uniq t) aj
  ·exact absurd ((hty _ e).uniq t) aj
  ·exact absurd ((hty _ e).uniq t) aj
 ·rcases h.sat.ty hb with ⟨_,t⟩|⟨_,t⟩
  ·exact absurd ((hty _ e).uniq t) aj
  ·exact absurd ((hty _ e).uniq t) aj
theorem gV.dat(h:gV B w sb F mg n s u qs ev es)(hi:qs[i]?=some (some (q,m))):bC B w sb F (q.dx s) m u:=acI (h.mX i q m hi) h.sat (h.pS i q m hi) h.fb
theorem gV.step{t:Nat}(h:gV B w sb F mg n s u qs ev es)(hi:qs[i]?=some (some (q,m)))(hn:DN B w sb F {q.dx s with tk:=(q.dx s).tk+t} m' u' w' y):gV B w' sb F mg n y.s u' (qs.set i (some (y.q,m'))) ev es∧y.mb=q.mb∧y.wp=s.wp:=by
 have hmb:y.mb=q.mb:=hn.mb;have sH:y.wp=s.wp:=hn.wp;have hcv:y.cv=s.cv:=hn.cv;have hfv:Lc w q.fv y.fv:=hn.fv;have hov:Lc w s.ov y.ov:=hn.ov;have hd:=h.dat hi;have hq:=h.mX i q m hi;have hil:=(cI.1 hi).1;have hc:aq (q.dx s).S w w':=hn.aB;have hB:Below B w w':=hd.toBelow hc (fun _ e=>e)
 have hSt:∀b,(q.dx s).S b→b=q.mb∨q.fv.ownBlock=some b∨s.W b:=by
  rintro b (e|e|e|e|e)
  ·exact aC e
  ·exact aA (aA (aC e))
  ·exact aA (aC e)
  ·exact aA (aA (aA (aC e)))
  ·exact aA (aA (aA (aA e)))
 have hno:∀(j:Nat) (q':DQ) (m':DM),j≠i→qs[j]?=some (some (q',m'))→∀b,q'.J b→¬(q.dx s).S b:=fun j q' m2 hj hqj b hb e=>by
  obtain⟨s1,s2⟩:=h.zt j i q' m2 q m hj hqj hi;rcases(h.mX j q' m2 hqj).ty hb with ⟨g,t⟩|⟨g,t⟩|⟨g,t⟩<;>rcases hSt b e with e|e|e
  ·exact s1 (g.symm.trans e)
  ·exact absurd (t.uniq (ji hq.fg e)) aj
  ·exact D9
  ·exact absurd (t.uniq D6) aj
  ·exact s2 b g e
  ·exact D9
  ·exact absurd (t.uniq D6) aj
  ·exact absurd (t.uniq (ji hq.fg e)) aj
  ·rcases h.sat.ty e with ⟨_,t'⟩|⟨e',_⟩
   ·exact absurd (t.uniq t') aj
   ·obtain⟨k1,k2⟩:=h.pS j q' m2 hqj b g
    exact e'.elim k1 k2
 have cO:∀j p,(qs.set i (some (y.q,m')))[j]?=some (some p)→(j=i∧p=(y.q,m'))∨(j≠i∧qs[j]?=some (some p)):=fun j p hp=>by
  exact Kn
 have hmap:(qs.set i (some (y.q,m'))).map qptr=qs.map qptr:=by
  apply List.ext_getElem?;intro j;rw[iH,iH]
  by_cases e:j=i
  ·subst e
   rw[eL hil,hi];simp[qptr,DX.q,hmb]
  ·rw[dr (fun h=>e h.symm)]
 have hfr:∀b,w.heap.size≤b→∀(j:Nat) (q':DQ) (m':DM),qs[j]?=some (some (q',m'))→¬q'.J b:=fun b hb j q' m2 hj e=>by
  have:=(h.mX j q' m2 hj).lt e;omega
 have UZ:¬(q.dx s).S mg:=fun e=>by
  have t:=ji h.row (k:=mg) rfl;rcases hSt mg e with e|e|e
  ·exact absurd (t.uniq D6) aj
  ·exact absurd (t.uniq (ji hq.fg e)) aj
  ·exact D9
 have Yk:∀b,ev.ownBlock=some b→¬(q.dx s).S b:=fun b hb e=>by
  have t:=ji h.evs hb;rcases hSt b e with e|e|e
  ·exact absurd (t.uniq D6) aj
  ·exact absurd (t.uniq (ji hq.fg e)) aj
  ·exact D9
 refine⟨⟨by rw[km];exact h.ql,?_,fun j q' m2 hj=>?_,hn.at_.sat,fun j q' m2 hj=>?_,fun j k q1 m1 q2 m2 hjk hj hk=>?_,aR h.evs hc Yk,h.fb,bB h.bs hc.size⟩,hmb,sH⟩
 ·rw[hmap]
  exact aR h.row hc (fun b hb e=>UZ (ML hb ▸ e))
 ·rcases cO j _ hj with ⟨rfl,e⟩|⟨e,hj'⟩
  ·obtain⟨rfl,rfl⟩:=u5 e
   exact hn.at_.mX
  ·exact(h.mX j q' m2 hj').aB h.fb hc hB (hno j q' m2 e hj')
 ·rcases cO j _ hj with ⟨rfl,e⟩|⟨e,hj'⟩
  ·obtain⟨rfl,rfl⟩:=u5 e
   exact hn.at_.pS
  ·intro k hk
   obtain⟨a1,a2⟩:=h.pS j q' m2 hj' k hk;refine⟨by show y.cv.ownBlock≠_;rw[hcv];exact a1,fun e2=>?_⟩;rcases hov k e2 with e3|e3
   ·exact a2 e3
   ·exact hfr k e3 j q' m2 hj' (aA (aA hk))
 ·rcases cO j _ hj with ⟨rfl,e1⟩|⟨e1,hj'⟩<;>rcases cO k _ hk with ⟨rfl,e2⟩|⟨e2,eI⟩
  ·exact absurd rfl hjk
  ·obtain⟨rfl,rfl⟩:=u5 e1
   obtain⟨s1,s2⟩:=h.zt j k q m q2 m2 hjk hi eI;refine⟨by show y.mb≠_;rw[hmb];exact s1,fun b hb e=>?_⟩;rcases hfv b hb with e3|e3
   ·exact s2 b e3 e
   ·exact hfr b e3 k q2 m2 eI (aA (aC e))
  ·obtain⟨rfl,rfl⟩:=u5 e2
   obtain⟨s1,s2⟩:=h.zt j k q1 m1 q m hjk hj' hi;refine⟨by show _≠y.mb;rw[hmb];exact s1,fun b hb e=>?_⟩;rcases hfv b e with e3|e3
   ·exact s2 b hb e3
   ·exact hfr b e3 j q1 m1 hj' (aA (aC hb))
  ·exact h.zt j k q1 m1 q2 m2 hjk hj' eI
theorem gV.release{w1:World}{mb:Nat}{fv tv:Value}(h:gV B w sb F mg n s u qs ev es)(hi:i<n)(hb:Below w.heap.size w w1)(hk:ay w1 mb #[ax sb,fv,tv,.bool false,ae 0] 226)(hmb:w.heap.size≤mb)
  (hf:uu w.heap.size w1 fv fs) (ht:bX w.heap.size w1 tv []) (oV:∀p∈fs,fk F w1 p.1 p.2.its) (hl:fs.length≤2000000):gV B (w1.setCell (ai mg i) (ax mb)) sb F mg n s u (qs.set i (some (⟨mb,fv,tv⟩,⟨fs,[],false,0⟩))) ev es:=by
 have h1:=h.below hb;have hil:i<qs.length:=by rw[h.ql];exact hi
 have hc:aq (fun b=>b=mg) w1 (w1.setCell (ai mg i) (ax mb)):=(aq.refl (fun b=>b=mg) w1).setCell (p:=ai mg i) rfl _;have hmg:jt w1 mg 222:=ji h1.row (k:=mg) rfl;have hgB:B≤mg:=cR h1.row (k:=mg) rfl;have hB:Below B w1 (w1.setCell (ai mg i) (ax mb)):=hc.toBelow h1.bs (fun b hb e=>ag);have lN:qw B w1 sb F ⟨mb,fv,tv⟩ ⟨fs,[],false,0⟩:=⟨hk,ownsRow_base hf (fun b hb=>bB h.bs (cR hf hb)),ownsRow_base ht (fun b hb=>bB h.bs (cR ht hb)),bB h.bs hmb,oV,hl,aF⟩
 have hnJ:∀{q:DQ} {m:DM},qw B w1 sb F q m→∀b,q.J b→¬b=mg:=fun hq b hb e=>by
  subst e;rcases hq.ty hb with ⟨_,t⟩|⟨_,t⟩|⟨_,t⟩<;>exact absurd (hmg.uniq t) aj
 have cO:∀j p,(qs.set i (some (⟨mb,fv,tv⟩,⟨fs,[],false,0⟩)))[j]?=some (some p)→(j=i∧p=(⟨mb,fv,tv⟩,⟨fs,[],false,0⟩))∨(j≠i∧qs[j]?=some (some p)):=fun j p hp=>by
  exact Kn
 refine⟨by rw[km];exact h.ql,?_,fun j q' m2 hj=>?_,h1.sat.aB hc hB (fun b hb e=>?_),fun j q' m2 hj k eI=>?_,fun j k q1 m1 q2 m2 hjk hj eI=>?_,aR h1.evs hc (fun b hb e=>?_),h.fb,bB h1.bs hc.size⟩
 ·rw[List.map_set]
  exact iJ h1.row i _
 ·rcases cO j _ hj with ⟨rfl,e⟩|⟨e,hj'⟩
  ·obtain⟨rfl,rfl⟩:=u5 e
   exact lN.aB h.fb hc hB (hnJ lN)
  ·exact(h1.mX j q' m2 hj').aB h.fb hc hB (hnJ (h1.mX j q' m2 hj'))
 ·subst e
  rcases h1.sat.ty hb with ⟨_,t⟩|⟨_,t⟩<;>exact absurd (hmg.uniq t) aj
 ·rcases cO j _ hj with ⟨rfl,e⟩|⟨e,hj'⟩
  ·obtain⟨rfl,rfl⟩:=u5 e
   have hkb:=cR ht eI;exact⟨fun e=>by have:=h.sat.lt (aA (aC e));omega,fun e=>by have:=h.sat.lt (aA (aA e));omega⟩
  ·exact h1.pS j q' m2 hj' k eI
 ·rcases cO j _ hj with ⟨rfl,e1⟩|⟨e1,hj'⟩<;>rcases cO k _ eI with ⟨rfl,e2⟩|⟨e2,MZ⟩
  ·exact absurd rfl hjk
  ·obtain⟨rfl,rfl⟩:=u5 e1
   have hq2:=h.mX k q2 m2 MZ;refine⟨fun e=>?_,fun b hb e=>?_⟩
   ·have:mb<w.heap.size:=hq2.lt (aC e)
    omega
   ·have:=hq2.lt (aA (aC e));have:=cR hf hb;omega
  ·obtain⟨rfl,rfl⟩:=u5 e2
   have sw:=h.mX j q1 m1 hj';refine⟨fun e=>?_,fun b hb e=>?_⟩
   ·have:mb<w.heap.size:=sw.lt (aC e.symm)
    omega
   ·have:=sw.lt (aA (aC hb));have:=cR hf e;omega
  ·exact h1.zt j k q1 m1 q2 m2 hjk hj' MZ
 ·subst e
  exact absurd (hmg.uniq (ji h1.evs hb)) aj
end
end
section
def turnOf(rk:List Nat)(bs:List Bool):Nat→Nat→Option Nat
 |0,_=>none
 |f+1,k=>if bs.getD (rk.getD k 0) false=true then some (rk.getD k 0)else turnOf rk bs f (k+1)
section
variable{B:Nat}{w:World}{s:SX}{code:List Int}{u:MW}{js:List (JX×MS)}{tb gn gr:Nat}{ev:Value}{aU:List Nat}{ts:List JT}{rk:List Nat}{bs:List Bool}{es:List EV}
def WL(B:Nat)(tb gn gr:Nat)(s:SX)(code:List Int)(u:MW)(ev:Value)(aU:List Nat)(ts:List JT)(rk:List Nat)(js:List (JX×MS))(bs:List Bool)(es:List EV)(tick:Int)(q:Option Nat)(w:World)(e:Ending)(w':World):Prop:=
 match q with
 |none=>e=.returned (.tuple #[])∧w'=w∧dO B w' tb gn gr s code u ev aU ts rk js bs es
 |some i=>∃a,js[i]?=some a∧Cr B tb gn gr code aU ts rk js bs es i tick (cK code a.2 u).1 (cK code a.2 u).2.1 (cK code a.2 u).2.2 w e w'
theorem aaF(h:dO B w tb gn gr s code u ev aU ts rk js bs es)(ht:cQ w)(hG:3≤B)(tick:Int)(hl:es.length≤80000000)(bj:∀(i:Nat) (a:JX×MS),js[i]?=some a→bs.getD i false=true→yX code a.2 u∧(cK code a.2 u).2.2.outs.length≤100):
  Calls prog 59 #[ax tb,ae tick] w fun e w'=>WL B tb gn gr s code u ev aU ts rk js bs es tick (turnOf rk bs aU.length 0) w e w':=by
 obtain⟨Q,hQ⟩:=ak (turnOf rk bs aU.length 0);rw[←hQ];obtain⟨n,hn⟩:=ak (aU.length);have c2:w.cell? (ai tb 2)=some (aD gr n n):=by rw[hn];exact h.blk.cell 2 _ rfl
 have htl:=h.blk.lt;have hn8:n≤8:=by rw[hn];exact h.len.2.2
 have HR:Hid (∀k,k<n→w.cell? (ai gr k)=some (ax (aU.getD (rk.getD k 0) 0))∧gr<w.heap.size):=af fun k hk=>⟨h.kg.cell (by rw[←hn];exact hk),h.kg.lt⟩
 have HT:=af h;have Z4:=af ht;have eP:=af bj;have HN:=af hn;have HQ0:Hid (Q=turnOf rk bs n 0):=af (by rw[hn];exact hQ);clear h ht bj hn hQ;go_enter func59,ntmps59;go_wp2_with fail;go_loopw[11] (fun k wr=>∃q:Nat,q≤n∧k=ae q∧wr=w∧Hid (Q=turnOf rk bs (n - q) q)) (fun k _=>n - (intOf k).toNat)
 case atStart=>exact⟨0,bU _,rfl,rfl,HQ0⟩
 case round=>
  clear HQ0 c2;obtain⟨q,hq,rfl,rfl,HQ⟩:=hrel
  by_cases hlt:q<n
  ·have jf:(q:Int)<(n:Int):=by omega
   obtain⟨cr,hgl⟩:=HR.out q hlt;obtain⟨i,hi⟩:=ak (rk.getD q 0);have hil:i<aU.length:=by rw[hi];exact HT.rank q uj
   obtain⟨jb,hjb⟩:=ak (aU.getD i 0);have hji:aU[i]?=some jb:=by rw[hjb];simp[hil]
   rw[←hi,←hjb]at cr;obtain⟨a,t,b,k1,k2,k3,k4,k5⟩:=HT.ln i jb hji;have c6:wr.cell? (ai jb 6)=some (.bool b):=k4.cell 6 _ rfl;have hjl:=k4.lt;have hbg:bs.getD i false=b:=by rw[lM,k3];rfl
   have hst:Q=if b=true then some i else turnOf rk bs (n - (q+1)) (q+1):=by
    rw[HQ.out,show n - q=(n - (q+1))+1 by omega,turnOf,←hi,hbg]
   have HS:=af hst
   cases b with
   |true=>
    have HSO:=af (Yx HT hji k1 Z4 hG (eP i a k1 hbg).1 tick hl (eP i a k1 hbg).2);have ft:=af k1;clear hst hi hjb hji k1 k2 k3 k4 k5 hbg hil;go_wp2_with fail;refine HSO.mono ?_;intro e w5 hp;have HP:=af hp;have he:e=.returned (.tuple #[]):=hp.1;subst he;clear hp;go_wp2_with fail;refine bodyPost_ret (results_none rfl _ _ _) rfl ?_;have e:Q=some i:=by rw[HS.out];simp
    rw[e];exact(show ∃a,_∧_ from⟨a,ft,HP⟩)
   |false=>
    have HS2:Hid (Q=turnOf rk bs (n - (q+1)) (q+1)):=af (by rw[hst];simp);clear hst hi hjb hji k1 k2 k3 k4 k5 hbg hil HS;go_wp2_with fail;go_roundw
    case rel=>exact⟨q+1,ag,bO,by first|trivial|rfl,HS2⟩
    case measure=>simp[intOf];omega
  ·obtain rfl:q=n:=by omega
   have hji:¬(q:Int)<(q:Int):=ag;go_wp2_with fail;go_end0;have e:Q=none:=by rw[HQ.out,Nat.sub_self];rfl
   rw[e];exact(show _∧_∧_ from⟨rfl,rfl,HT⟩)
end
end
section
def jR(p:Nat):MS:=⟨[],[],[],p⟩
structure PS where
 ms:List MS
 bs:List Bool
 u:MW
 es:List EV
def tM(t:JT)(k:Nat)(tick:Int)(p:PS):PS:=if vC t tick=true then⟨p.ms.set k (jR t.st),p.bs.set k true,p.u,p.es++[⟨1,k,tick,0⟩]⟩else p
def relP(ts:List JT)(tick:Int):Nat→Nat→PS→PS
 |0,_,p=>p
 |f+1,k,p=>match ts[k]? with
  |none=>relP ts tick f (k+1) p
  |some t=>relP ts tick f (k+1) (tM t k tick p)
def turnQ(code:List Int)(i:Nat)(tick:Int)(p:PS):PS:=
 match p.ms[i]? with
 |none=>p
 |some m=>⟨p.ms.set i (cK code m p.u).2.1,if(cK code m p.u).1≠4 then p.bs.set i false else p.bs,⟨(cK code m p.u).2.2.vars,[],(cK code m p.u).2.2.ins⟩,p.es++puts i tick (cK code m p.u).2.2.outs++(if(cK code m p.u).1≠4 then [⟨2,i,tick,(cK code m p.u).1⟩]else [])⟩
def turnP(code:List Int)(rk:List Nat)(n:Nat)(tick:Int)(p:PS):PS:=
 match turnOf rk p.bs n 0 with
 |none=>p
 |some i=>turnQ code i tick p
def Pm(code:List Int)(ts:List JT)(rk:List Nat)(n:Nat)(tick:Int)(p:PS):PS:=turnP code rk n tick (relP ts tick n 0 p)
def gz(code:List Int)(ts:List JT)(rk:List Nat)(n:Nat):Nat→PS→PS
 |0,p=>p
 |k+1,p=>Pm code ts rk n k (gz code ts rk n k p)
theorem Kj{rk:List Nat}{bs:List Bool}:∀{f k i:Nat},turnOf rk bs f k=some i→bs.getD i false=true
 |0,_,_,h=>kK
 |f+1,k,i,h=>by
  unfold turnOf at h
  split at h
  ·rename_i hb
   cases h
   exact hb
  ·exact Kj h
def TOk(es:List PE)(code:List Int)(t:JT):Prop:=∃(y:RW) (q:Nat),dw es code false y.its t.st q∧code[q]?=some 34∧t.st<code.length
structure eQ (es:List PE) (code:List Int) (n nv k L:Nat) (p:PS):Prop where
 l1:p.ms.length=n
 l2:p.bs.length=n
 uo:p.u.outs=[]
 uv:p.u.vars.length=nv
 vc:∀a∈p.u.vars,Cell a
 ic:∀a∈p.u.ins,Cell a
 le:p.es.length≤L
 job:∀(i:Nat) (m:MS),p.ms[i]?=some m→p.bs.getD i false=true→∃fs,oT es code k fs m p.u
section
variable{es:List PE}{code:List Int}{ws:List RW}{n nv k L:Nat}{p:PS}{ts:List JT}{rk:List Nat}
theorem eQ.more{k' L':Nat}(h:eQ es code n nv k L p)(hk:k≤k')(hL:L≤L'):eQ es code n nv k' L' p:=
 ⟨h.l1,h.l2,h.uo,h.uv,h.vc,h.ic,bB h.le hL,fun i m hm hb=>by
  obtain⟨fs,s⟩:=h.job i m hm hb;exact⟨fs,s.rel,s.wl,bB s.l1 hk,bB s.l2 hk,bB s.l3 hk,bB s.l4 ag⟩⟩
theorem ab2{t:JT}(h:TOk es code t){u:MW}(h1:u.outs=[])(h2:∀a∈u.vars,Cell a)(h3:∀a∈u.ins,Cell a)(k:Nat):∃fs,oT es code k fs (jR t.st) u:=by
 obtain⟨y,q,c1,c2,c3⟩:=h;exact⟨[⟨y.its,0,3,0,0⟩],⟨false,.last _ t.st q ⟨rfl,c1.most ag⟩ (by simpa using c1) c2⟩,⟨(fun a ha=>by cases ha),h2,h3,bU _⟩,bU _,bU _,by rw[h1];exact bU _,aF⟩
theorem eQ.WV{t:JT}(h:eQ es code n nv k L p)(ht:TOk es code t)(i:Nat)(tick:Int):eQ es code n nv k (L+1) (tM t i tick p):=by
 unfold tM
 by_cases hd:vC t tick=true
 ·rw[aG hd]
  refine⟨by rw[km];exact h.l1,by rw[km];exact h.l2,h.uo,h.uv,h.vc,h.ic,by have:=h.le;simp;omega,fun j m hm hb=>?_⟩;simp only at hm hb
  by_cases e:j=i
  ·subst e
   by_cases hl:j<p.ms.length
   ·rw[eL hl]at hm
    obtain rfl:=fy hm;exact ab2 ht h.uo h.vc h.ic k
   ·rw[jh (by rw[km];omega)]at hm;cases hm
  ·rw[dr (fun h=>e h.symm)]at hm
   rw[lM,dr (fun h=>e h.symm),←lM]at hb;exact h.job j m hm hb
 ·rw[az hd];exact h.more aH ag
theorem eQ.rel(ht:∀t∈ts,TOk es code t)(tick:Int):∀(f q L:Nat) (p:PS),eQ es code n nv k L p→eQ es code n nv k (L+f) (relP ts tick f q p)
 |0,_,_,_,h=>h
 |f+1,q,L,p,h=>by
  unfold relP
  split
  ·exact(eQ.rel ht tick f (q+1) L p h).more aH ag
  ·rename_i t hq
   have:=eQ.rel ht tick f (q+1) (L+1) _ (h.WV (ht t (mF hq)) q tick)
   rwa [show L+1+f=L+(f+1) by omega]at this
theorem eQ.ok(hc:kA es code ws)(ha:Alike es ws)(h:eQ es code n nv k L p)(hk:k≤1000000)(hm:p.ms[i]?=some m)(hb:p.bs.getD i false=true):yX code m p.u∧(cK code m p.u).2.2.outs.length≤1:=by
 obtain⟨fs,hS⟩:=h.job i m hm hb;refine⟨hS.ok hc ha hk,?_⟩;obtain⟨d,hr⟩:=hS.rel;have hcc:=AU (u:=p.u) hc ha hr m rfl rfl rfl hS.wl;have:=hcc.l3;rw[hcc.u];rw[h.uo]at this;simpa using this
theorem eQ.Zk(hc:kA es code ws)(ha:Alike es ws)(h:eQ es code n nv k L p)(hb:p.bs.getD i false=true)(tick:Int):eQ es code n nv (k+1) (L+2) (turnQ code i tick p):=by
 unfold turnQ
 split
 ·exact h.more ag ag
 ·rename_i m hm
  obtain⟨fs,hS⟩:=h.job i m hm hb;obtain⟨d,hr⟩:=hS.rel;have hcc:=AU (u:=p.u) hc ha hr m rfl rfl rfl hS.wl;obtain⟨e1,e2,e3,e4⟩:=hS.step hc ha;have hwl:=hcc.wl;have hl5:=hcc.l5;have hl3:=hcc.l3;rw[←hcc.s,←hcc.u]at hwl;rw[←hcc.u]at hl5 hl3;rw[h.uo]at hl3;have hil:=(cI.1 hm).1;refine⟨by rw[km];exact h.l1,?_,rfl,hl5.trans h.uv,hwl.v,hwl.i,?_,fun j mj hmj hbj=>?_⟩
  ·show(if _ then _ else _:List Bool).length=n
   split
   ·rw[km];exact h.l2
   ·exact h.l2
  ·have:=h.le
   show(p.es++puts i tick _++_).length≤_
   rw[cF,cF,puts,List.length_map];simp only[List.length_nil]at hl3
   split<;>simp<;>omega
  ·simp only at hmj hbj
   by_cases e:j=i
   ·subst e
    rw[eL hil]at hmj;obtain rfl:=fy hmj
    by_cases h4:(cK code m p.u).1=4
    ·have s:=e4 (e1 ▸ h4)
     exact⟨_,s.rel,⟨s.wl.s,s.wl.v,s.wl.i,s.wl.l⟩,s.l1,s.l2,bU _,s.l4⟩
    ·rw[aG h4,lM,eL (by rw[h.l2,←h.l1];exact hil)]at hbj
     cases hbj
   ·rw[dr (fun h=>e h.symm)]at hmj
    have SL:p.bs.getD j false=true:=by
     split at hbj
     ·rwa [lM,dr (fun h=>e h.symm),←lM]at hbj
     ·exact hbj
    obtain⟨fj,s⟩:=h.job j mj hmj SL;have:=s.l1;have:=s.l2;have:=s.l4;exact⟨fj,s.rel,⟨s.wl.s,hwl.v,hwl.i,s.wl.l⟩,ag,ag,bU _,ag⟩
theorem eQ.turn(hc:kA es code ws)(ha:Alike es ws)(h:eQ es code n nv k L p)(tick:Int):eQ es code n nv (k+1) (L+2) (turnP code rk n tick p):=by
 unfold turnP
 split
 ·exact h.more ag ag
 ·rename_i i hi
  exact h.Zk hc ha (Kj hi) tick
theorem eQ.tick(hc:kA es code ws)(ha:Alike es ws)(ht:∀t∈ts,TOk es code t)(hn:n≤8)(h:eQ es code n nv k (10*k) p)(tick:Int):eQ es code n nv (k+1) (10*(k+1)) (Pm code ts rk n tick p):=
 ((h.rel ht tick n 0 _ p).turn hc ha tick).more aH ag
theorem eQ.sim(hc:kA es code ws)(ha:Alike es ws)(ht:∀t∈ts,TOk es code t)(hn:n≤8)(h:eQ es code n nv 0 0 p):∀k,eQ es code n nv k (10*k) (gz code ts rk n k p)
 |0=>h
 |k+1=>(eQ.sim hc ha ht hn h k).tick hc ha ht hn k
end
end
section
theorem Pv{rk:List Nat}{bs:List Bool}{i:Nat}:∀{f k:Nat},turnOf rk bs f k=some i→∃q,k≤q∧q<k+f∧i=rk.getD q 0∧bs.getD i false=true∧∀q',k≤q'→q'<q→bs.getD (rk.getD q' 0) false=false
 |0,_,h=>kK
 |f+1,k,h=>by
  unfold turnOf at h
  split at h
  ·rename_i hb
   obtain rfl:=fy h;exact⟨k,aH,ag,rfl,hb,fun q' a b=>ag⟩
  ·rename_i hb
   obtain⟨q,a,b,c,d,e⟩:=Pv h;refine⟨q,ag,ag,c,d,fun q' a' b'=>?_⟩;rcases kh k q' with g|g
   ·exact e q' ag b'
   ·obtain rfl:q'=k:=by omega
    simpa using hb
theorem Qa{rk:List Nat}{bs:List Bool}:∀{f k:Nat},turnOf rk bs f k=none→∀q,k≤q→q<k+f→bs.getD (rk.getD q 0) false=false
 |0,_,_,q,a,b=>ag
 |f+1,k,h,q,a,b=>by
  unfold turnOf at h
  split at h
  ·cases h
  ·rename_i hb
   rcases kh k q with g|g
   ·exact Qa h q ag ag
   ·obtain rfl:q=k:=by omega
    simpa using hb
section
variable{ls:List (Int×Int)}{bs:List Bool}{i:Nat}
theorem J7(h:turnOf (fF ls) bs ls.length 0=some i):i<ls.length∧bs.getD i false=true∧∀j,j<ls.length→eB ls j i=true→bs.getD j false=false:=by
 obtain⟨q,_,b,c,d,e⟩:=Pv h;rw[Nat.zero_add]at b;rw[Ag b]at c;obtain⟨h1,h2⟩:=B8 b;refine⟨by rw[c];exact h1,d,fun j hj hg=>?_⟩;have hr:=Jk hj hg;rw[c,h2]at hr;have:=e (kW ls j) (bU _) hr;rw[Ag (yw hj),Pq hj]at this;exact this
theorem Vf(h:turnOf (fF ls) bs ls.length 0=none):∀j,j<ls.length→bs.getD j false=false:=fun j hj=>by
 have:=Qa h (kW ls j) (bU _) (by rw[Nat.zero_add];exact yw hj);rw[Ag (yw hj),Pq hj]at this;exact this
end
end
section
structure rA (es:List PE) (code:List Int) (k:Nat) (p:PS) (qs:List (Option (DQ×DM))) (s:DW) (u:MW):Prop where
 len:qs.length=p.ms.length
 lb:p.bs.length=p.ms.length
 vars:u.vars=p.u.vars
 ins:u.ins=p.u.ins
 po:p.u.outs=[]
 outs:u.outs.length≤k
 tk:s.tk≤k
 busy:∀i,p.bs.getD i false=true→∃q m ms,qs[i]?=some (some (q,m))∧p.ms[i]?=some ms∧m.done=false∧oT es code k (m.fs.map Prod.snd) ms u∧m.au=ms.au
 idle:∀i q m,p.bs.getD i false=false→qs[i]?=some (some (q,m))→m.done=true
section
variable{es:List PE}{code:List Int}{ws:List RW}{k i:Nat}{p:PS}{qs:List (Option (DQ×DM))}{s:DW}{u u':MW}{q:DQ}{m m':DM}{ms:MS}
theorem Qf{b:Bool}(h:i<l.length):(l.set i b).getD i false=b:=tV
theorem getD_set_ne{j:Nat}{b:Bool}(h:j≠i):(l.set i b).getD j false=l.getD j false:=by
 simp only[lM];rw[dr (fun e=>h e.symm)]
theorem rA.release{st:Nat}{x:EV}(h:rA es code k p qs s u)(hi:i<p.ms.length)(hs:oT es code k (fs.map Prod.snd) (jR st) u):rA es code k ⟨p.ms.set i (jR st),p.bs.set i true,p.u,p.es++[x]⟩ (qs.set i (some (q,⟨fs,[],false,0⟩))) s u:=by
 refine⟨by simp only[km];exact h.len,by simp only[km];exact h.lb,h.vars,h.ins,h.po,h.outs,h.tk,fun j hj=>?_,fun j q' m' hj hq=>?_⟩
 ·by_cases e:j=i
  ·subst e
   exact⟨_,_,_,by rw[eL sZ],by simp only;rw[eL hi],rfl,hs,rfl⟩
  ·simp only at hj
   rw[getD_set_ne e]at hj;obtain⟨q',m',ms,a,b,c⟩:=h.busy j hj;exact⟨q',m',ms,by rw[dr (fun h=>e h.symm)];exact a,by simp only;rw[dr (fun h=>e h.symm)];exact b,c⟩
 ·by_cases e:j=i
  ·subst e
   simp only at hj;rw[Qf (by rw[h.lb];exact hi)]at hj
   cases hj
  ·simp only at hj
   rw[getD_set_ne e]at hj;rw[dr (fun h=>e h.symm)]at hq;exact h.idle j q' m' hj hq
theorem oT.after{fs:List Fr}(h:oT es code n fs ms u)(hv:∀a∈u'.vars,Cell a)(hi:∀a∈u'.ins,Cell a)(ho:u'.outs.length≤n+1):oT es code (n+1) fs ms u':=by
 have:=h.l1;have:=h.l2;have:=h.l4;exact⟨h.rel,⟨h.wl.s,hv,hi,h.wl.l⟩,ag,ag,ho,ag⟩
theorem rA.turn{y:DX}{t:Nat}(hc:kA es code ws)(ha:Alike es ws)(h:rA es code k p qs s u)(hb:p.bs.getD i false=true)(hq:qs[i]?=some (some (q,m)))(hm:p.ms[i]?=some ms)(hS:oT es code k (m.fs.map Prod.snd) ms u)(hst:m.au=ms.au)(hd:m.done=false)(ht:t≤1)(hyt:y.tk=s.tk+t)(tick:Int)
  (hA:After m m' u' (dStep ws (m.fs.map Prod.snd) m.au u)):rA es code (k+1) (turnQ code i tick p) (qs.set i (some (y.q,m'))) y.s u'∧m'.done=decide ((cK code ms p.u).1≠4)∧((cK code ms p.u).1≠4→m'.ed=(cK code ms p.u).1)∧u'.outs=u.outs++(cK code ms p.u).2.2.outs∧(cK code ms p.u).2.2.outs.length≤1:=by
 obtain⟨a1,a2,a3⟩:=hA;obtain⟨e1,e2,e3,e4⟩:=hS.step hc ha;rw[←hst]at e1 e2 e3 e4;obtain⟨d,hr⟩:=hS.rel;have hcc:=AU (u:=u) hc ha hr ms rfl rfl rfl hS.wl;have hwl:=hcc.wl;have hl3:=hcc.l3;rw[←hst]at hwl hl3;rw[←a2]at hwl hl3;have hil:=(cI.1 hm).1;have hu:u=⟨p.u.vars,u.outs,p.u.ins⟩:=by rw[←h.vars,←h.ins]
 have hpu:p.u=⟨p.u.vars,[],p.u.ins⟩:=by rw[←h.po]
 have ho:=Vr code ms p.u.vars u.outs p.u.ins;rw[←hu,←hpu]at ho;obtain⟨r,hrr⟩:=ak (cK code ms p.u);rw[←hrr]at ho ⊢;rw[ho]at e1 e2 e3 e4;simp only[vH]at e1 e2 e3 e4;have iz:u'=⟨r.2.2.vars,u.outs++r.2.2.outs,r.2.2.ins⟩:=by rw[a2,←e3]
 have hlen:r.2.2.outs.length≤1:=by
  rw[iz]at hl3;simp only[cF]at hl3;omega
 have ho1:=h.outs;have htk:=h.tk;have hout:u'.outs.length≤k+1:=ag
 have hT:turnQ code i tick p=⟨p.ms.set i r.2.1,if r.1≠4 then p.bs.set i false else p.bs,⟨r.2.2.vars,[],r.2.2.ins⟩,p.es++puts i tick r.2.2.outs++(if r.1≠4 then [⟨2,i,tick,r.1⟩]else [])⟩:=by
  unfold turnQ;rw[hm,hrr]
 refine⟨?_,?_,fun e=>?_,by rw[iz],hlen⟩
 ·rw[hT]
  refine⟨by simp only[km];exact h.len,?_,by rw[iz],by rw[iz],rfl,hout,by show y.tk≤_;omega,fun j hj=>?_,fun j q' m2 hj hq'=>?_⟩
  ·simp only
   split<;>simp only[km]<;>exact h.lb
  ·by_cases e:j=i
   ·subst e
    simp only at hj;rcases a3 with ⟨b1,b2,b3,b4⟩|⟨b1,b2,b3⟩
    ·refine⟨_,_,_,by rw[eL (by rw[h.len];exact hil)],by simp only;rw[eL hil],b3.trans hd,?_,by rw[a1,←e2]⟩
     rw[b2,a2,←e3];exact e4 b1
    ·rw[aG (by rw[e1];exact b1),Qf (by rw[h.lb];exact hil)]at hj
     cases hj
   ·simp only at hj
    have hj':p.bs.getD j false=true:=by
     split at hj
     ·rwa [getD_set_ne e]at hj
     ·exact hj
    obtain⟨q',m2,ms',a,b,c,d,f⟩:=h.busy j hj';exact⟨q',m2,ms',by rw[dr (fun h=>e h.symm)];exact a,by simp only;rw[dr (fun h=>e h.symm)];exact b,c,d.after hwl.v hwl.i hout,f⟩
  ·by_cases e:j=i
   ·subst e
    rw[eL (by rw[h.len];exact hil)]at hq';obtain⟨rfl,rfl⟩:=u5 (fy (fy hq'));rcases a3 with ⟨b1,b2,b3,b4⟩|⟨b1,b2,b3⟩
    ·simp only at hj
     rw[az (fun e=>e (by rw[e1];exact b1)),hb]at hj
     cases hj
    ·exact b2
   ·simp only at hj
    have hj':p.bs.getD j false=false:=by
     split at hj
     ·rwa [getD_set_ne e]at hj
     ·exact hj
    rw[dr (fun h=>e h.symm)]at hq';exact h.idle j q' m2 hj' hq'
 ·rcases a3 with ⟨b1,b2,b3,b4⟩|⟨b1,b2,b3⟩
  ·rw[b3,hd,e1,b1];rfl
  ·rw[b2,e1,jW b1]
 ·rcases a3 with ⟨b1,_⟩|⟨b1,b2,b3⟩
  ·exact absurd (e1.trans b1) e
  ·rw[b3,e1]
def oX(ls:List (Int×Int))(bs:List Bool)(i:Nat)(c:Int):Prop:=(c= -1∧∀j,j<i→bs.getD j false=false)∨∃k:Nat,k<i∧c=k∧bs.getD k false=true∧∀j,j<i→bs.getD j false=true→j=k∨eB ls k j=true
end
section
variable{ls:List (Int×Int)}{bs:List Bool}{i k:Nat}{c:Int}
theorem oX.skip(h:oX ls bs i c)(hi:bs.getD i false=false):oX ls bs (i+1) c:=by
 rcases h with ⟨h1,h2⟩|⟨k,h1,h2,h3,h4⟩
 ·refine aC ⟨h1,fun j hj=>?_⟩
  rcases kh j i with g|g
  ·exact h2 j g
  ·rw[show j=i by omega];exact hi
 ·refine aA ⟨k,ag,h2,h3,fun j hj hb=>?_⟩
  rcases kh j i with g|g
  ·exact h4 j g hb
  ·rw[show j=i by omega,hi]at hb;cases hb
theorem oX.keep(h:oX ls bs i (k:Int))(hi:eB ls i k=false):oX ls bs (i+1) (k:Int):=by
 rcases h with ⟨h1,_⟩|⟨k',h1,h2,h3,h4⟩
 ·omega
 ·obtain rfl:k=k':=by omega
  refine aA ⟨k,ag,rfl,h3,fun j hj hb=>?_⟩;rcases kh j i with g|g
  ·exact h4 j g hb
  ·rw[show j=i by omega]
   rcases LH (ls:=ls) (show k≠i by omega)with e|e
   ·exact aA e
   ·rw[hi]at e;cases e
theorem oX.take(h:oX ls bs i c)(hb:bs.getD i false=true)(hi:c= -1∨∃k:Nat,c=k∧eB ls i k=true):oX ls bs (i+1) (i:Int):=by
 refine aA ⟨i,ag,rfl,hb,fun j hj hbj=>?_⟩;rcases kh j i with g|g
 ·rcases h with ⟨h1,h2⟩|⟨k',h1,h2,h3,h4⟩
  ·rw[h2 j g]at hbj;cases hbj
  ·rcases hi with e|⟨k,e,hk⟩
   ·omega
   ·obtain rfl:k=k':=by omega
    rcases h4 j g hbj with e|e
    ·rw[e];exact aA hk
    ·exact aA (PM hk e)
 ·exact aC ag
theorem oX.fin(h:oX ls bs ls.length c):c=match turnOf (fF ls) bs ls.length 0 with|none=> -1|some t=>(t:Int):=by
 cases ht:turnOf (fF ls) bs ls.length 0 with
 |none=>
  rcases h with ⟨h1,_⟩|⟨k,h1,h2,h3,_⟩
  ·exact h1
  ·rw[Vf ht k h1]at h3;cases h3
 |some t=>
  obtain⟨t1,t2,t3⟩:=J7 ht;rcases h with ⟨h1,h2⟩|⟨k,h1,h2,h3,h4⟩
  ·rw[h2 t t1]at t2;cases t2
  ·rcases h4 t t1 t2 with e|e
   ·rw[h2,e]
   ·rw[t3 k h1 e]at h3;cases h3
end
end
section
theorem NW(B:Nat)(w:World):cN B w aI []:=aC ⟨rfl,none,0,rfl⟩
theorem QV(w:World)(v:Value):Lc w v aI:=fun k hk=>by simp[Value.ownBlock]at hk
section
variable{B:Nat}{w:World}{s:SX}{code:List Int}{u:MW}{js:List (JX×MS)}{tb gn gr:Nat}{ev:Value}{aU:List Nat}{ts:List JT}{rk:List Nat}{bs:List Bool}{es:List EV}
theorem Xi{w':World}{x:RX}{cs':Array Value}{p:Nat}(h:aV B w x code m u)(hcs:tR x m cs)(hb:ay w' x.mb cs' 116)(hg:Ht cs cs' [] (p:Int))(hp:p≤code.length)(hc:aq (fun b=>b=x.mb) w w'):
  RN B w x code (jR p) u w' {x with lv:=aI,cv:=aI}:=
 h.machine (m':=jR p) (eD:=aI) (cv':=aI) (hc.mono (fun b _ e=>aC e)) ⟨cs',hb,⟨(by have:=hg.mc;simpa [jR]using this),hg.qG,hg.sR,hg.fq.trans hcs.fq,hg.eH.trans hcs.eH,hg.c37.trans hcs.c37,hg.bh⟩⟩ (xt _ _ _ _) (xt _ _ _ _) (QV _ _) (QV _ _) ⟨by simp[jR],by simp[jR],hp⟩
theorem dO.begin{t:JT}(h:dO B w tb gn gr s code u ev aU ts rk js bs es)(hi:aU[i]?=some jb)(ha:js[i]?=some a)(ht:ts[i]?=some t):
  Calls prog 73 #[ax a.1.mb,aI] w fun e w'=>e=.returned (.tuple #[])∧(∃js',js'.map Prod.snd=(js.map Prod.snd).set i (jR t.st)∧dO B w' tb gn gr s code u ev aU ts rk js' bs es)∧Below B w w':=by
 obtain⟨a0,t0,b0,k1,k2,k3,k4,k5,k6,k7⟩:=h.ln i jb hi;obtain rfl:a0=a:=fy (k1.symm.trans ha);obtain rfl:t0=t:=fy (k2.symm.trans ht);have hR:=h.gj.rAt ha;obtain⟨cs,c1,c2⟩:=hR.gy;refine(Nd (B:=B) (st:=(t0.st:Int)) [] c1 c2.mc.size (by rw[←k6];exact c2.c37) (bU _) (NW B w) hR.bm).mono ?_;rintro e w' ⟨rfl,cs',hb,hg,hc⟩;have hn:=Xi hR c2 hb hg k7 hc;obtain⟨t1,t2⟩:=h.Oh ha hn;refine⟨rfl,⟨_,?_,t1⟩,h.toBelow t2 (fun b hb=>h.gj.base hb)⟩;rw[List.map_set]
def O0(B:Nat)(tb gn gr:Nat)(s:SX)(code:List Int)(u:MW)(aU:List Nat)(ts:List JT)(rk:List Nat)(P:PS)(w:World)(e:Ending)(w':World):Prop:=
 e=.returned (.tuple #[])∧Below B w w'∧∃cT js',js'.map Prod.snd=P.ms∧dO B w' tb gn gr s code u cT aU ts rk js' P.bs P.es
def Ee(t:JT):Prop:=1≤t.bZ∧t.bZ≤1000000∧0≤t.off∧t.off≤1000000
theorem V1(h:dO B w tb gn gr s code u ev aU ts rk js bs es)(tick:Int)(hts:∀t∈ts,Ee t)(k1:0≤tick)(k2:tick≤1000000)(hl:es.length≤80000000):
  Calls prog 58 #[ax tb,ae tick] w (O0 B tb gn gr s code u aU ts rk (relP ts tick aU.length 0 ⟨js.map Prod.snd,bs,u,es⟩) w):=by
 obtain⟨n,hn⟩:=ak (aU.length);obtain⟨P,hP⟩:=ak (relP ts tick n 0 ⟨js.map Prod.snd,bs,u,es⟩);rw[←hn,←hP];have c1:w.cell? (ai tb 1)=some (aD gn n n):=by rw[hn];exact h.blk.cell 1 _ rfl
 have htl:=h.blk.lt;have hn8:n≤8:=by rw[hn];exact h.len.2.2
 have HT:=af h;have HN:=af hn;have kR:=af hts;have HP:Hid (P=relP ts tick (n - 0) 0 ⟨js.map Prod.snd,bs,u,es⟩):=af hP;have bu:=af (Below.refl B w);clear h hn hP hts;go_enter func58,ntmps58;go_wp2_with fail;go_loopw[11] (fun k wr=>∃(q:Nat) (ev1:Value) (js1:List (JX×MS)) (bs1:List Bool) (es1:List EV),q≤n∧k=ae q∧Hid (dO B wr tb gn gr s code u ev1 aU ts rk js1 bs1 es1)∧Hid (P=relP ts tick (n - q) q ⟨js1.map Prod.snd,bs1,u,es1⟩)∧Hid (Below B w wr)∧es1.length≤es.length+q) (fun k _=>n - (intOf k).toNat)
 case atStart=>exact⟨0,ev,js,bs,es,bU _,rfl,HT,HP,bu,aH⟩
 case round=>
  clear HP HT c1 bu htl;obtain⟨q,ev1,js1,bs1,es1,hq,rfl,HQ,HP,df,hel⟩:=hrel
  by_cases hlt:q<n
  ·have jf:(q:Int)<(n:Int):=by omega
   have hil:q<aU.length:=uj;obtain⟨jb,hjb⟩:=ak (aU.getD q 0);have hji:aU[q]?=some jb:=by rw[hjb];simp[hil]
   have cr:wr.cell? (ai gn q)=some (ax jb):=by rw[hjb];exact HQ.kf.cell hil
   have hgl:=HQ.kf.lt;obtain⟨a,t,b,j1,j2,j3,j4,j5⟩:=HQ.ln q jb hji;have jz:=kR.out t (mF j2);have HD:=af (aac tick j4 jz.1 jz.2.1 jz.2.2.1 jz.2.2.2 k1 k2);obtain⟨D,hD⟩:=ak (vC t tick);rw[←hD]at HD
   have hst:P=relP ts tick (n - (q+1)) (q+1) (tM t q tick ⟨js1.map Prod.snd,bs1,u,es1⟩):=by
    rw[HP.out,show n - q=(n - (q+1))+1 by omega,relP,j2]
   have HS:=af hst;have HJ1:=af j1;have HJ2:=af j2;have HJI:=af hji;have eO:=af hD;clear hst hjb hji hil j1 j2 j3 j4 j5 jz hD HP;go_wp2_with fail;refine HD.mono ?_;rintro e w3 ⟨rfl,hb3⟩;have hT3:=HQ.aB (S:=fun _=>False) (aq.bf hb3) (fun _ _=>id) id (fun _ _=>id) id id (fun _ _ _=>id) (fun _ e=>e.elim);have eR:=af (df.trans (hb3.mono HQ.base));have jk:=af hT3;clear hb3 hT3 HD cr hgl HQ df
   cases D with
   |false=>
    have HS2:Hid (P=relP ts tick (n - (q+1)) (q+1) ⟨js1.map Prod.snd,bs1,u,es1⟩):=af (by rw[HS.out,tM,az (by rw[←eO.out];decide)]);clear HS HJ1 HJ2 HJI eO;go_wp2_with fail;go_roundw
    case rel=>exact⟨q+1,ev1,js1,bs1,es1,ag,bO,jk,HS2,eR,ag⟩
    case measure=>simp[intOf];omega
   |true=>
    obtain⟨a3,t3,b3,j1,j2,j3,j4,j5⟩:=jk.ln q jb HJI;obtain rfl:a3=a:=fy (j1.symm.trans HJ1);have c0:w3.cell? (ai jb 0)=some (ax a3.1.mb):=j4.cell 0 _ rfl;have hjl:=j4.lt;have HBG:=af (jk.begin HJI HJ1 HJ2);clear j1 j2 j3 j4 j5;go_wp2_with fail;refine HBG.mono ?_;rintro e w4 ⟨rfl,⟨js4,OQ,hT4⟩,hb4⟩;obtain⟨a4,t4,b4,j1,j2,j3,j4,j5⟩:=hT4.ln q jb HJI;have d6:w4.cell? (ai jb 6)=some (.bool b4):=j4.cell 6 _ rfl;have e6:=j4.frozen 6;have adG:=j4.lt;have hT5:=hT4.QI HJI true;obtain⟨Z,hZ⟩:=ak (w4.setCell (ai jb 6) (.bool true):World);rw[←hZ]at hT5;have dI:Hid (Below B w Z):=af ((eR.trans hb4).trans (hT4.toBelow (S:=fun b=>b=jb) (by rw[hZ];exact(aq.refl (fun b=>b=jb) w4).setCell (p:=ai jb 6) rfl _) (fun b e=>by rw[e];exact j5.1)));have HNO:=af (hT5.note HJI 1 tick 0 ag);have HS2:Hid (P=relP ts tick (n - (q+1)) (q+1) ⟨js4.map Prod.snd,bs1.set q true,u,es1++[⟨1,q,tick,0⟩]⟩):=af (by rw[HS.out,tM,aG eO.symm,OQ]);have HZ:=af hZ;have HT5:=af hT5;clear hT4 hT5 hb4 hZ j1 j2 j3 j4 j5 OQ HBG jk c0 HS eR hjl;go_wp2_with fail;rw[←HZ.out];refine HNO.mono ?_;rintro e w6 ⟨rfl,ev6,hT6,_,kU⟩;have gD:=af (dI.trans (HT5.Fv kU));have HT6:=af hT6;clear hT6 kU HNO HT5 dI d6 e6;go_wp2_with fail;go_roundw
    case rel=>exact⟨q+1,ev6,js4,bs1.set q true,es1++[⟨1,q,tick,0⟩],ag,bO,HT6,HS2,gD,PC⟩
    case measure=>simp[intOf];omega
  ·obtain rfl:q=n:=by omega
   have hji:¬(q:Int)<(q:Int):=ag;go_wp2_with fail;go_end0;have e:P=⟨js1.map Prod.snd,bs1,u,es1⟩:=by rw[HP.out,Nat.sub_self];rfl
   rw[e];exact(show O0 _ _ _ _ _ _ _ _ _ _ _ _ _ _ from⟨rfl,df,ev1,js1,rfl,HQ⟩)
end
end
section
theorem EG(ts:List JT)(tick:Int):∀(f k:Nat) (p:PS),(relP ts tick f k p).u=p.u
 |0,_,_=>rfl
 |f+1,k,p=>by
  unfold relP
  split
  ·exact EG ts tick f (k+1) p
  ·rw[EG ts tick f (k+1)]
   unfold tM
   split<;>rfl
def xU(B:Nat)(w:World)(tb gn gr:Nat)(code:List Int)(aU:List Nat)(ts:List JT)(rk:List Nat)(p:PS):Prop:=
 ∃s ev js,js.map Prod.snd=p.ms∧dO B w tb gn gr s code p.u ev aU ts rk js p.bs p.es
section
variable{B:Nat}{w:World}{code:List Int}{tb gn gr:Nat}{aU:List Nat}{ts:List JT}{rk:List Nat}{p:PS}
theorem Sy(h:xU B w tb gn gr code aU ts rk p)(tick:Int)(hts:∀t∈ts,Ee t)(k1:0≤tick)(k2:tick≤1000000)(hl:p.es.length≤80000000):
  Calls prog 58 #[ax tb,ae tick] w fun e w'=>e=.returned (.tuple #[])∧xU B w' tb gn gr code aU ts rk (relP ts tick aU.length 0 p)∧Below B w w':=by
 obtain⟨s,ev,js,h1,h2⟩:=h;refine(V1 h2 tick hts k1 k2 hl).mono ?_;rintro e w' ⟨rfl,hb,cT,js',h3,h4⟩;rw[h1]at h3 h4;refine⟨rfl,⟨s,cT,js',h3,?_⟩,hb⟩;rw[EG];exact h4
theorem Xp(h:xU B w tb gn gr code aU ts rk p)(ht:cQ w)(hG:3≤B)(tick:Int)(hl:p.es.length≤80000000)(bj:∀(i:Nat) (m:MS),p.ms[i]?=some m→p.bs.getD i false=true→yX code m p.u∧(cK code m p.u).2.2.outs.length≤1):
  Calls prog 59 #[ax tb,ae tick] w fun e w'=>e=.returned (.tuple #[])∧xU B w' tb gn gr code aU ts rk (turnP code rk aU.length tick p)∧Below B w w':=by
 obtain⟨s,ev,js,h1,h2⟩:=h;refine(aaF h2 ht hG tick hl (fun i a ha hb=>?_)).mono ?_
 ·obtain⟨k1,k2⟩:=bj i a.2 (by rw[←h1,iH,ha];rfl) hb
  exact⟨k1,ag⟩
 ·intro e w' hp
  cases hq:turnOf rk p.bs aU.length 0 with
  |none=>
   rw[hq]at hp;obtain⟨rfl,rfl,h3⟩:=hp;refine⟨rfl,?_,aQ⟩;unfold turnP;rw[hq];exact⟨s,ev,js,h1,h2⟩
  |some i=>
   rw[hq]at hp;obtain⟨a,ha,rfl,hb,s',cT,j',h3⟩:=hp;refine⟨rfl,?_,hb⟩;have hm:p.ms[i]?=some a.2:=by rw[←h1,iH,ha];rfl
   unfold turnP turnQ;rw[hq];simp only[hm];exact⟨s',cT,_,by rw[List.map_set,h1],h3⟩
end
end
section
theorem sU{α:Type}{l:List α}{x y:α}(h:(l++[x])[i]?=some y):(i<l.length∧l[i]?=some y)∨(i=l.length∧y=x):=by
 rcases Nat.lt_trichotomy i l.length with e|e|e
 ·rw[dH e]at h;exact aC ⟨e,h⟩
 ·subst e
  rw[fP aH,Nat.sub_self]at h;exact aA ⟨rfl,(fy h).symm⟩
 ·rw[jh aK]at h;cases h
section
variable{B:Nat}{w w':World}{s:SX}{code:List Int}{u:MW}{js:List (JX×MS)}
theorem kx.add(h:kx B w s code u js)(hb:Below w.heap.size w w')(hr:aV B w' (a.1.rx s) code a.2 u)(hn:∀b,a.1.J b→w.heap.size≤b):kx B w' s code u (js++[a]):=by
 have hc:aq (fun _=>False) w w':=aq.bf hb;have h':=h.aB hc (fun _ _=>id) (fun _ e=>e.elim);refine⟨hr.ij,fun i c hi=>?_,fun i k c d hi hk hne n hc hd=>?_,fun i c hi n hc e=>?_⟩
 ·rcases sU hi with ⟨_,hi⟩|⟨_,rfl⟩
  ·exact h'.each i c hi
  ·exact hr.job
 ·rcases sU hi with ⟨_,ky⟩|⟨e1,f1⟩
  ·rcases sU hk with ⟨_,hk2⟩|⟨_,f2⟩
   ·exact h.apart i k c d ky hk2 hne n hc hd
   ·rw[f2]at hd;have:=(h.each i c ky).lt hc;have:=hn n hd;omega
  ·rcases sU hk with ⟨_,hk2⟩|⟨e2,_⟩
   ·rw[f1]at hc;have:=(h.each k d hk2).lt hd;have:=hn n hc;omega
   ·exact hne (e1.trans e2.symm)
 ·rcases sU hi with ⟨_,hi⟩|⟨_,rfl⟩
  ·exact h.sep i c hi n hc e
  ·have:=h.ij.lt e;have:=hn n hc;omega
abbrev vK(jb:Nat):Value:=ax jb
structure TB (B:Nat) (w:World) (tb gn gr n:Nat) (s:SX) (code:List Int) (u:MW) (aU:List Nat) (ts:List JT) (rank:Nat→Nat) (js:List (JX×MS)):Prop where
 gj:kx B w s code u js
 blk:ay w tb #[ax s.wp,aD gn n n,aD gr n n,aI] 139
 kf:∃f,w.rowIs gn 168 n f∧∀(i jb:Nat),aU[i]?=some jb→f i=vK jb
 kg:∃f,w.rowIs gr 168 n f∧∀(i jb:Nat),aU[i]?=some jb→f (rank i)=vK jb
 ln:∀(i:Nat) (jb:Nat),aU[i]?=some jb→∃a t,js[i]?=some a∧ts[i]?=some t∧ay w jb (xR a.1.mb t i false) 170∧(B≤jb∧a.1.st=(t.st:Int)∧t.st≤code.length)
 nodup:∀(i k jb:Nat),aU[i]?=some jb→aU[k]?=some jb→i=k
 bt:B≤tb
 bg:B≤gn∧B≤gr
 gne:gn≠gr
 len:js.length=aU.length
 ini:js.map Prod.snd=(ts.take aU.length).map fun t=>jR t.st
variable{tb gn gr n:Nat}{aU:List Nat}{ts:List JT}{rank:Nat→Nat}
theorem TB.below(h:TB B w tb gn gr n s code u aU ts rank js)(hb:Below w.heap.size w w'):TB B w' tb gn gr n s code u aU ts rank js:=by
 have hc:aq (fun _=>False) w w':=aq.bf hb;obtain⟨f,f1,f2⟩:=h.kf;obtain⟨g,g1,g2⟩:=h.kg;refine⟨h.gj.aB hc (fun _ _=>id) (fun _ e=>e.elim),h.blk.aB hc id,⟨f,f1.of_block (hb.block gn f1.lt),f2⟩,⟨g,g1.of_block (hb.block gr g1.lt),g2⟩,fun i jb hi=>?_,h.nodup,h.bt,h.bg,h.gne,h.len,h.ini⟩;obtain⟨a,t,k1,k2,k3,k4⟩:=h.ln i jb hi;exact⟨a,t,k1,k2,k3.aB hc id,k4⟩
theorem TB.add{X:World}{t:JT}(h:TB B w tb gn gr n s code u aU ts rank js)(hb:Below w.heap.size w X)(hf:kx B X s code u (js++[a]))(ht:ts[aU.length]?=some t)(hj:ay X jb (xR a.1.mb t aU.length false) 170)(hjb:w.heap.size≤jb)(hst:a.1.st=(t.st:Int)∧t.st≤code.length)(ha:a.2=jR t.st)(X6:∀i,i<aU.length→rank i≠rank aU.length):
  TB B ((X.setCell (ai gn aU.length) (vK jb)).setCell (ai gr (rank aU.length)) (vK jb)) tb gn gr n s code u (aU++[jb]) ts rank (js++[a]):=by
 have h':=h.below hb;obtain⟨f,f1,f2⟩:=h'.kf;obtain⟨g,g1,g2⟩:=h'.kg;have hBX:B≤w.heap.size:=by have:=h.blk.lt;have:=h.bt;omega
 have hc:aq (fun b=>b=gn∨b=gr) X ((X.setCell (ai gn aU.length) (vK jb)).setCell (ai gr (rank aU.length)) (vK jb)):=
  (((aq.refl (fun b=>b=gn∨b=gr) X).setCell (p:=ai gn aU.length) (aC rfl) _).setCell (p:=ai gr (rank aU.length)) (aA rfl) _)
 have key:∀{b:Nat} {t:TypeId},jt X b t→t≠168→¬(b=gn∨b=gr):=fun {b t} ht h1 e=>by
  rcases e with e|e
  ·subst e;exact h1 (ht.uniq (rW f1))
  ·subst e;exact h1 (ht.uniq (rW g1))
 have hfn:∀b,pF s (js++[a]) b→¬(b=gn∨b=gr):=fun b hb=>by
  rcases hf.ty hb with e|e|e|e
  ·exact key e aj
  ·exact key e aj
  ·exact key e aj
  ·exact key e aj
 have hB:∀b,(b=gn∨b=gr)→B≤b:=fun b e=>by
  rcases e with e|e
  ·subst e;exact h.bg.1
  ·subst e;exact h.bg.2
 refine⟨hf.aB hc hfn hB,h'.blk.aB hc (key (lD h'.blk) aj),⟨_,(f1.set aU.length (vK jb)).setOther (by exact h.gne) _,fun i jc hi=>?_⟩,⟨_,(g1.setOther (by exact h.gne.symm) _).set (rank aU.length) (vK jb),fun i jc hi=>?_⟩,fun i jc hi=>?_,fun i k jc hi hk=>?_,h.bt,h.bg,h.gne,by simp[h.len],?_⟩
 ·rcases sU hi with ⟨hl,hi⟩|⟨rfl,rfl⟩
  ·rw[az ag];exact f2 i jc hi
  ·simp
 ·rcases sU hi with ⟨hl,hi⟩|⟨rfl,rfl⟩
  ·rw[az (X6 i hl)];exact g2 i jc hi
  ·simp
 ·rcases sU hi with ⟨hl,hi⟩|⟨rfl,rfl⟩
  ·obtain⟨c,t',k1,k2,k3,k4⟩:=h'.ln i jc hi
   exact⟨c,t',by rw[dH (by rw[h.len];exact hl)];exact k1,k2,k3.aB hc (key (lD k3) aj),k4⟩
  ·exact⟨a,t,by rw[←h.len,fP aH,Nat.sub_self];rfl,ht,hj.aB hc (key (lD hj) aj),ag,hst⟩
 ·have old:∀(i jd:Nat),aU[i]?=some jd→jd<w.heap.size:=fun i jd hi=>by
   obtain⟨c,t',k1,k2,k3,k4⟩:=h.ln i jd hi;exact k3.lt
  rcases sU hi with ⟨hl,ky⟩|⟨e1,f1⟩
  ·rcases sU hk with ⟨hl',hk2⟩|⟨_,f2⟩
   ·exact h.nodup i k jc ky hk2
   ·have:=old i _ ky;omega
  ·rcases sU hk with ⟨hl',hk2⟩|⟨e2,_⟩
   ·have:=old k _ hk2;omega
   ·exact e1.trans e2.symm
 ·rw[List.map_append,h.ini,cF,gJ,List.take_add_one,ht,List.map_append,List.map_singleton,ha];rfl
theorem TB.all{ls:List (Int×Int)}(h:TB B w tb gn gr n s code u aU ts (kW ls) js)(hn:aU.length=n)(hl:ls.length=n)(h8:n≤8)(hts:ts.length=n):
  dO B w tb gn gr s code u aI aU ts (fF ls) js (List.replicate n false) []∧js.map Prod.snd=ts.map fun t=>jR t.st:=by
 subst hn;obtain⟨f,f1,f2⟩:=h.kf;obtain⟨g,g1,g2⟩:=h.kg;have hget:∀i,i<aU.length→aU[i]?=some (aU.getD i 0):=fun i hi=>by simp[hi]
 refine⟨⟨h.gj,h.blk,xt _ _ _ _,f1.congr fun i hi=>f2 i _ (hget i hi),g1.congr fun i hi=>?_,fun i jb hi=>?_,h.nodup,h.bt,h.bg,⟨h.len,aF,h8⟩,fun i hi=>?_⟩,?_⟩
 ·rw[Ag ag]
  obtain⟨a,b⟩:=B8 (ls:=ls) (p:=i) ag;have:=g2 (xD ls i) _ (hget _ ag);rw[b]at this;exact this
 ·obtain⟨a,t,k1,k2,k3,k4⟩:=h.ln i jb hi
  exact⟨a,t,false,k1,k2,by rw[xB,aG (cI.1 hi).1],k3,k4⟩
 ·rw[Ag ag]
  obtain⟨a,b⟩:=B8 (ls:=ls) (p:=i) ag;omega
 ·rw[h.ini,List.take_of_length_le ag]
end
end
end Go.Proofs.YtcphhbofjkenaaaGreatDoor
