import Derived.Test.YtcphhbofjkenaaaGreatDoorMy
import Derived.Lib.LaidU8
import Derived.Lib.SmallJoins
import Derived.Test.YtcphhbofjkenaaaGreatDoorM27
namespace Go.Proofs.YtcphhbofjkenaaaGreatDoor
open Go Go.RowKit Proofs.Tryz
set_option linter.unusedVariables false
set_option linter.unusedSimpArgs false
set_option maxRecDepth 100000
set_option maxHeartbeats 16000000
variable{t e st it:TypeId}{f0 f1 f2 f3:Field}{fuel g:Nat}{cs:List Value}{p:List MemPlace}{n:String}{P:Program}{W w:World}{H:Type}
section
open Go Go.RowKit Go.ChangeShapes Go.WideShapes
section
variable{H:Type}{enc:TypeId×Value→H}{P:Program}{w:World}{base:Nat}{sp:Nat→Bool}{held:Bool}
theorem str_inj{s t:ByteArray}(h:s.data.toList=t.data.toList):s=t:=by
 obtain⟨⟨s⟩⟩:=s;obtain⟨⟨t⟩⟩:=t;simp at h;rw[h]
def Aw{H:Type}(x:ByteArray×Int×Int):DataW H:=.agg [.lit (.string x.1.data.toList),.lit (.int .i64 x.2.1),.lit (.int .i64 x.2.2)]
theorem ZG{x:ByteArray×Int×Int}(he:P.underlying e=some (.struct #[f0,f1,f2]))(hs:P.underlying st=some .string)(hi:P.underlying it=some (.int .i64))
  (h0:f0.type=st∧f0.offset=0) (h1:f1.type=it∧f1.offset=1) (h2:f2.type=it∧f2.offset=2) (c0:P.cellsOf st=1) (c1:P.cellsOf it=1) (c2:P.cellsOf e=3)
  (h:DataW.trod enc P w base sp held fuel e cs=some (Aw x,p)):cs=[.string x.1,ae x.2.1,ae x.2.2]:=by
 obtain⟨y0,y1,y2,n,hx,hl,t0,t1,t2⟩:=Deep.trod_struct3 he h;rw[h0.1,h0.2,c0]at t0;rw[h1.1,h1.2,c1]at t1;rw[h2.1,h2.2,c1]at t2;rw[c2]at hl
 match cs,hl with
 |[v0,v1,v2],_=>
  obtain⟨s,e0,e1,_⟩:=DataW.trod_string hs t0;obtain⟨a,e2,e3,_⟩:=DataW.trod_int hi t1;obtain⟨b,e4,e5,_⟩:=DataW.trod_int hi t2;simp at e0 e2 e4;subst e0;subst e2;subst e4;have hd:=congrArg Prod.fst hx;simp[Aw,e1,e3,e5]at hd;obtain⟨d1,d2,d3⟩:=hd;have d1':x.1.data.toList=s.data.toList:=by simpa using d1
  rw[str_inj d1',d2,d3]
theorem Xw{n:Nat}(rows:List (ByteArray×Int×Int))(ht:P.underlying t=some (.array n e))(he:P.underlying e=some (.struct #[f0,f1,f2]))(hs:P.underlying st=some .string)(hi:P.underlying it=some (.int .i64))
  (h0:f0.type=st∧f0.offset=0) (h1:f1.type=it∧f1.offset=1) (h2:f2.type=it∧f2.offset=2) (c0:P.cellsOf st=1) (c1:P.cellsOf it=1) (c2:P.cellsOf e=3) (c3:P.cellsOf t=n*3)
  (h:DataW.trod enc P w base sp held fuel t cs=some (.agg (rows.map Aw),p)):cs=rows.flatMap fun x=>[.string x.1,ae x.2.1,ae x.2.2]:=by
 cases fuel with
 |zero=>simp[DataW.trod]at h
 |succ fuel=>
  simp only[DataW.trod,ht,c2,c3]at h
  split at h
  ·rename_i hl
   obtain⟨xs,hm,hx⟩:=Option.map_eq_some_iff.1 h
   have hxs:xs.map (·.1)=rows.map (Aw (H:=H)):=by
    have:=congrArg Prod.fst hx;simpa using this
   have hxl:xs.length=n:=by simpa using Lib.mapM_length hm
   have hrl:rows.length=n:=by
    have:=congrArg List.length hxs;simp at this;omega
   have key:∀i (hi':i<rows.length),(cs.drop (i*3)).take 3=[.string rows[i].1,ae rows[i].2.1,ae rows[i].2.2]:=fun i hi'=>by
    obtain⟨b,hb,hf⟩:=Lib.mapM_at hm i i (by simp[show i<n by omega])
    have hb1:b.1=Aw rows[i]:=by
     have h3:(xs.map (·.1))[i]?=some b.1:=by simp[hb]
     rw[hxs,iH,bE hi']at h3;simpa using h3.symm
    obtain⟨b1,b2⟩:=b;simp only at hb1;subst hb1;exact ZG he hs hi h0 h1 h2 c0 c1 c2 hf
   have hfl:(rows.flatMap fun x=>[Value.string x.1,ae x.2.1,ae x.2.2]).length=rows.length*3:=flat_length _ 3 (fun _=>rfl) rows;apply List.ext_getElem?;intro j
   by_cases hj:j<rows.length*3
   ·have hq:j / 3<rows.length:=by omega
    have hr:j % 3<3:=Nat.mod_lt _ ag;have hjj:j / 3*3+j % 3=j:=ag;have h5:=flat_get (fun x:ByteArray×Int×Int=>[Value.string x.1,ae x.2.1,ae x.2.2]) 3 (fun _=>rfl) rows (j / 3) (j % 3) hq hr;rw[hjj]at h5;rw[h5,←key (j / 3) hq,List.getElem?_take,aG hr,List.getElem?_drop,hjj]
   ·rw[jh ag,jh ag]
  ·cases h
theorem acG{ms:Array (String×TypeId)}{x:DataW H×List MemPlace}(ht:P.underlying t=some (.interface ms))(h:DataW.trod enc P w base sp held fuel t cs=some x):cs=[.nilIface]∨∃u v,cs=[.iface u v]:=by
 cases fuel with
 |zero=>simp[DataW.trod]at h
 |succ n=>
  unfold DataW.trod at h;rw[ht]at h
  split at h<;>simp_all
theorem abL{f4 f5 f6:Field}{x:DataW H×List MemPlace}(ht:P.underlying t=some (.struct #[f0,f1,f2,f3,f4,f5,f6]))(h:DataW.trod enc P w base sp held fuel t cs=some x):
  ∃y0 y1 y2 y3 y4 y5 y6 n,x.1=.agg [y0.1,y1.1,y2.1,y3.1,y4.1,y5.1,y6.1]∧cs.length=P.cellsOf t∧
   DataW.trod enc P w base sp held n f0.type ((cs.drop f0.offset).take (P.cellsOf f0.type))=some y0∧DataW.trod enc P w base sp held n f1.type ((cs.drop f1.offset).take (P.cellsOf f1.type))=some y1∧
   DataW.trod enc P w base sp held n f2.type ((cs.drop f2.offset).take (P.cellsOf f2.type))=some y2∧DataW.trod enc P w base sp held n f3.type ((cs.drop f3.offset).take (P.cellsOf f3.type))=some y3∧
   DataW.trod enc P w base sp held n f4.type ((cs.drop f4.offset).take (P.cellsOf f4.type))=some y4∧DataW.trod enc P w base sp held n f5.type ((cs.drop f5.offset).take (P.cellsOf f5.type))=some y5∧
   DataW.trod enc P w base sp held n f6.type ((cs.drop f6.offset).take (P.cellsOf f6.type))=some y6:=by
 obtain⟨xs,n,_,rfl,hl,hlen,hf⟩:=DataW.trod_struct ht h
 match xs,hlen with
 |[y0,y1,y2,y3,y4,y5,y6],_=>
  exact⟨y0,y1,y2,y3,y4,y5,y6,n,aF,hl,by simpa using hf 0 f0 rfl,by simpa using hf 1 f1 rfl,by simpa using hf 2 f2 rfl,by simpa using hf 3 f3 rfl,by simpa using hf 4 f4 rfl,by simpa using hf 5 f5 rfl,by simpa using hf 6 f6 rfl⟩
end
theorem zV:prog.cellsOf 3=1:=aP
theorem Hy:prog.cellsOf 9=1:=aP
theorem WC:prog.cellsOf 262=3:=aP
theorem Ut:prog.cellsOf 263=35*3:=aP
theorem c_op:prog.cellsOf 86=7:=aP
theorem T6:prog.cellsOf 24=1:=aP
theorem UK:prog.cellsOf 55=1:=aP
theorem PK:prog.globalNamed "forthwith/code.rows" =some 0:=aP
theorem aa4:(prog.globals[(0:Nat)]?).map (·.type)=some 263:=aP
theorem Um:prog.globalNamed "strconv.ErrSyntax" =some 1:=aP
theorem Uc:(prog.globals[(1:Nat)]?).map (·.type)=some 274:=aP
theorem abJ:prog.globalNamed "strconv.ErrRange" =some 2:=aP
theorem aaa:(prog.globals[(2:Nat)]?).map (·.type)=some 274:=aP
theorem Pa{cs:Array Value}(hg:P.globalNamed n=some g)(h:W.var? P n=some cs):∃t f,W.heap[g]?=some (.cells cs t f):=by
 unfold World.var? at h;rw[hg]at h;simp only[Option.bind_some]at h
 split at h
 ·rename_i cs' t f he
  exact⟨t,f,by rw[he];simpa using h⟩
 ·cases h
theorem LK{d:DataW Unit}(hg:prog.globalNamed n=some g)(ht:(prog.globals[g]?).map (·.type)=some 274)(h:Lib.VarReads prog W n d):A6 W g:=by
 obtain⟨g',t',cs,fuel,p,h1,h2,h3,h4⟩:=h;obtain rfl:=fy (hg.symm.trans h1);obtain rfl:=fy (ht.symm.trans h2);obtain⟨t,f,hh⟩:=Pa hg h3;rcases acG underlying274 h4 with e|⟨u,v,e⟩
 ·have hc:cs[0]?=some .nilIface:=by rw[←Array.getElem?_toList,e];rfl
  exact⟨.nilIface,by simp[World.cell?,hh,hc],aC rfl⟩
 ·have hc:cs[0]?=some (.iface u v):=by rw[←Array.getElem?_toList,e];rfl
  exact⟨.iface u v,by simp[World.cell?,hh,hc],aA ⟨u,v,rfl⟩⟩
theorem YH{l:List (String×DataW Unit)}(h:laidMet prog l W)(h1:("forthwith/code.rows",Rows.laid_forthwith_code_rows)∈l)(h2:("strconv.ErrSyntax",Rows.laid_strconv_ErrSyntax)∈l)(h3:("strconv.ErrRange",Rows.laid_strconv_ErrRange)∈l):cQ W:=by
 refine⟨?_,LK Um Uc (Lib.laidMet.reads h h2),LK abJ aaa (Lib.laidMet.reads h h3)⟩;obtain⟨g',t',cs,fuel,p,e1,e2,e3,e4⟩:=Lib.laidMet.reads h h1;obtain rfl:=fy (PK.symm.trans e1);obtain rfl:=fy (aa4.symm.trans e2);obtain⟨t,f,hh⟩:=Pa PK e3;have hc:=Xw cP underlying263 underlying262 underlying9 underlying3 ⟨rfl,rfl⟩ ⟨rfl,rfl⟩ ⟨rfl,rfl⟩ Hy zV WC Ut (by rw[e4];rfl);refine⟨t,f,?_⟩;rw[hh]
 have:cs=nH.toArray:=by
  rw[←Array.toArray_toList (xs:=cs),hc];rfl
 rw[this]
theorem AZ{d:DataW H}{l:List (DataW H)}(h:d∈l):Rows.uptoBulk d≤Rows.uptoBulkAll l:=by
 induction l with
 |nil=>cases h
 |cons x r ih=>
  simp only[Rows.uptoBulkAll];rcases er.1 h with e|e
  ·subst e;omega
  ·have:=ih e;omega
theorem aab(d:DataW H):1≤Rows.uptoBulk d:=by
 cases d with
 |lit l=>cases l<;>simp[Rows.uptoBulk]
 |nil=>simp[Rows.uptoBulk]
 |ptr d=>simp[Rows.uptoBulk]
 |slice elems spare=>simp[Rows.uptoBulk]
 |agg parts=>simp[Rows.uptoBulk]
 |iface t d=>simp[Rows.uptoBulk]
 |map entries=>simp[Rows.uptoBulk]
 |held h=>simp[Rows.uptoBulk]
theorem JS(l:List (DataW H)):l.length≤Rows.uptoBulkAll l:=by
 induction l with
 |nil=>simp[Rows.uptoBulkAll]
 |cons x r ih=>have:=aab x;simp only[Rows.uptoBulkAll,fA];omega
theorem Gd{enc:TypeId×Value→H}{α:Type}(f:α→List Value)(sz:Nat)(ht:prog.underlying t=some (.slice e))(hc:prog.cellsOf e=sz)(h0:0<sz)(hf:∀a,(f a).length=sz)
  (each:∀(fuel:Nat) (cs:List Value) (x:DataW H×List MemPlace),DataW.trod enc prog w 0 (fun _=>true) true fuel e cs=some x→∃a,cs=f a) {v:Value}  {x:DataW H×List MemPlace}
  (h:DataW.trod enc prog w 0 (fun _=>true) true fuel t [v]=some x) (hb:Rows.uptoBulk x.1≤1048576):∃a n c,∃l:List α,v=.slice a n c∧ep w.heap.size w a n c sz (l.flatMap f)∧n≤1100000:=by
 rcases Deep.open_slice ht h with ⟨h1,_⟩|⟨a,len,cap,m,n,D,Pl,h1,_,hlc,_,hm,hx,hel⟩
 ·exact⟨none,0,0,[],by simpa using h1,ep.nil _ _ _,ag⟩
 ·simp only[if_true]at hm
  have hd:x.1=.slice ((List.range len).map D) ((List.range (m - len)).map fun j=>D (len+j)):=congrArg Prod.fst hx;rw[hd]at hb;simp only[Rows.uptoBulk]at hb
  have hlen:len≤1048576:=by
   have:=JS ((List.range len).map D);simp at this;omega
  have KE:∀i,i<len→∃o:α,w.cells? 0 (a.add (i*sz)) sz=some (f o):=fun i hi=>by
   obtain⟨cs',h2,h3⟩:=hel i ag;rw[hc]at h2;obtain⟨o,ho⟩:=each _ _ _ h3;exact⟨o,by rw[h2,ho]⟩
  have:∃l:List α,l.length=len∧∀i (hi:i<l.length),w.cells? 0 (a.add (i*sz)) sz=some (f l[i]):=by
   clear hm hx hel hlc hd hb hlen h h1
   induction len with
   |zero=>exact⟨[],rfl,fun i hi=>by simp at hi⟩
   |succ q ih=>
    obtain⟨l,ho,hall⟩:=ih (fun i hi=>KE i ag);obtain⟨o,h1⟩:=KE q ag;refine⟨l++[o],by simp[ho],fun i hi=>?_⟩
    by_cases hiq:i<l.length
    ·rw[List.getElem_append_left hiq];exact hall i hiq
    ·have:i=l.length:=by simp at hi;omega
     subst this;rw[List.getElem_append_right aH];simp only[Nat.sub_self,List.getElem_cons_zero];rw[ho];exact h1
  obtain⟨l,ho,hall⟩:=this;refine⟨some a,len,cap,l,by simpa using h1,⟨by rw[flat_length f sz hf,ho],ag,aA ⟨a,rfl,fun j u hu=>?_⟩⟩,ag⟩
  have hj:j<l.length*sz:=by
   have:=(cI.1 hu).1;rw[flat_length f sz hf]at this;exact this
  have hq:j / sz<l.length:=Nat.div_lt_of_lt_mul (by rw[Nat.mul_comm];exact hj);have hr:j % sz<sz:=Nat.mod_lt _ h0;have hjj:j / sz*sz+j % sz=j:=by rw[Nat.mul_comm];exact Nat.div_add_mod j sz
  have h5:=flat_get f sz hf l (j / sz) (j % sz) hq hr;rw[hjj,hu]at h5;have h6:=(World.cells?_some (hall (j / sz) hq)).2.2 (j % sz) hr;rw[Deep.add_add,hjj,←h5]at h6;exact⟨by have:=dD w _ h6;rwa [Jc]at this,h6⟩
theorem Va{enc:TypeId×Value→H}{base:Nat}{sp:Nat→Bool}{held:Bool}{x:DataW H×List MemPlace}(ht:P.underlying t=some (.struct #[f0,f1,f2,f3]))(h:DataW.trod enc P w base sp held fuel t cs=some x):
  ∃y0 y1 y2 y3 n,cs.length=P.cellsOf t∧
   DataW.trod enc P w base sp held n f0.type ((cs.drop f0.offset).take (P.cellsOf f0.type))=some y0∧DataW.trod enc P w base sp held n f1.type ((cs.drop f1.offset).take (P.cellsOf f1.type))=some y1∧
   DataW.trod enc P w base sp held n f2.type ((cs.drop f2.offset).take (P.cellsOf f2.type))=some y2∧DataW.trod enc P w base sp held n f3.type ((cs.drop f3.offset).take (P.cellsOf f3.type))=some y3:=by
 obtain⟨xs,n,_,rfl,hl,hlen,hf⟩:=DataW.trod_struct ht h
 match xs,hlen with
 |[y0,y1,y2,y3],_=>
  exact⟨y0,y1,y2,y3,n,hl,by simpa using hf 0 f0 rfl,by simpa using hf 1 f1 rfl,by simpa using hf 2 f2 rfl,by simpa using hf 3 f3 rfl⟩
theorem Pt:prog.cellsOf 67=4:=aP
theorem Rp{enc:TypeId×Value→H}(fuel:Nat)(cs:List Value)(x:DataW H×List MemPlace)(h:DataW.trod enc prog w 0 (fun _=>true) true fuel 3 cs=some x):∃a:Int,cs=[ae a]:=by
 obtain⟨a,e,_⟩:=DataW.trod_int underlying3 h;exact⟨a,e⟩
theorem Ub{enc:TypeId×Value→H}(fuel:Nat)(cs:List Value)(x:DataW H×List MemPlace)(h:DataW.trod enc prog w 0 (fun _=>true) true fuel 67 cs=some x):∃t:TK,cs=t.cells:=by
 obtain⟨y0,y1,y2,y3,n,hl,t0,t1,t2,t3⟩:=Va underlying67 h;simp only[zV,Hy]at t0 t1 t2 t3;rw[Pt]at hl
 match cs,hl with
 |[v0,v1,v2,v3],_=>
  obtain⟨s,e0,_⟩:=DataW.trod_string underlying9 t0;obtain⟨a1,e1,_⟩:=DataW.trod_int underlying3 t1;obtain⟨a2,e2,_⟩:=DataW.trod_int underlying3 t2;obtain⟨a3,e3,_⟩:=DataW.trod_int underlying3 t3;simp at e0 e1 e2 e3;subst e0;subst e1;subst e2;subst e3;exact⟨⟨s,a1,a2,a3⟩,rfl⟩
theorem aaJ(l:List Int):l.flatMap (fun a=>[ae a])=l.map (Value.int .i64):=by
 induction l with
 |nil=>rfl
 |cons x l ih=>simp[List.flatMap_cons,ih]
theorem Xu{enc:TypeId×Value→H}{x:DataW H×List MemPlace}(h:DataW.trod enc prog w 0 (fun _=>true) true fuel 86 cs=some x)(hb:Rows.uptoBulk x.1≤1048576):
  ∃o:gM,cs=o.cells∧o.Ok∧o.At w.heap.size w:=by
 obtain⟨y0,y1,y2,y3,y4,y5,y6,n,hx,hl,t0,t1,t2,t3,t4,t5,t6⟩:=abL underlying86 h;simp only[zV,Hy,T6,UK]at t0 t1 t2 t3 t4 t5 t6;rw[c_op]at hl
 match cs,hl with
 |[v0,v1,v2,v3,v4,v5,v6],_=>
  obtain⟨a0,e0,_,_⟩:=DataW.trod_int underlying3 t0;obtain⟨a1,e1,_,w1⟩:=DataW.trod_int underlying3 t1;obtain⟨a2,e2,_,_⟩:=DataW.trod_int underlying3 t2;obtain⟨s,e3,e3',_⟩:=DataW.trod_string underlying9 t3;have fK:=hb;rw[hx]at fK;simp only[Rows.uptoBulk]at fK;have hp4:=AZ (show y4.1∈[y0.1,y1.1,y2.1,y3.1,y4.1,y5.1,y6.1] by simp);have oL:=AZ (show y5.1∈[y0.1,y1.1,y2.1,y3.1,y4.1,y5.1,y6.1] by simp);have oO:=AZ (show y6.1∈[y0.1,y1.1,y2.1,y3.1,y4.1,y5.1,y6.1] by simp);obtain⟨p1,n1,q1,ls,e4,d4,b4⟩:=Gd (fun a=>[ae a]) 1 underlying24 zV ag (fun _=>rfl) Rp (v:=v4) (by simpa using t4) ag;obtain⟨p2,n2,q2,ms,e5,d5,b5⟩:=Gd (fun a=>[ae a]) 1 underlying24 zV ag (fun _=>rfl) Rp (v:=v5) (by simpa using t5) ag;obtain⟨p3,n3,q3,ts,e6,d6,b6⟩:=Gd TK.cells 4 underlying55 Pt ag (fun _=>rfl) Ub (v:=v6) (by simpa using t6) ag;rw[aaJ]at d4 d5;simp at e0 e1 e2 e3;subst e0;subst e1;subst e2;subst e3;subst e4;subst e5;subst e6;refine⟨⟨a0,a1,a2,s,p1,n1,q1,p2,n2,q2,p3,n3,q3⟩,rfl,?_,⟨ls,ms,ts,d4,d5,d6,b4,b5,b6⟩⟩
  have hw: -9223372036854775808≤a1∧a1≤9223372036854775807:=by
   have h:IntKind.min .i64≤a1∧a1≤IntKind.max .i64:=by simpa only[Lit.wf,Bool.and_eq_true,decide_eq_true_eq]using w1
   have e1:IntKind.min .i64= -9223372036854775808:=aj;have e2:IntKind.max .i64=9223372036854775807:=aj;rw[e1,e2]at h;exact h
  refine⟨hw.1,hw.2,?_⟩;rw[hx]at hb;have h3:y3.1∈[y0.1,y1.1,y2.1,y3.1,y4.1,y5.1,y6.1]:=aF;have h4:=AZ h3;simp only[Rows.uptoBulk]at hb;have h6:Rows.uptoBulk y3.1=s.data.toList.length+1:=by rw[e3'];simp only[Rows.uptoBulk]
  have h5:s.data.toList.length=s.size:=kP
  show s.size≤1100000
  omega
theorem Wb{enc:TypeId×Value→H}{a:Option Addr}{len cap:Nat}{d:DataW H}(h:DataW.Trod enc prog w 0 (fun _=>true) true 22 (.slice a len cap) d p)(hb:Rows.uptoBulk d≤1048576):
  ∃ops,Cu w (.slice a len cap) ops∧ops.length≤1100000∧(∀o∈ops,o.Ok)∧∀o∈ops,o.At w.heap.size w:=by
 obtain⟨fuel,h⟩:=h;rcases Deep.open_slice underlying22 h with ⟨h1,_⟩|⟨a',len',cap',m,n,D,Pl,h1,_,hlc,_,hm,hx,hel⟩
 ·refine⟨[],aC ⟨by simpa [Value.cells]using h1,rfl⟩,aF,(fun o ho=>by cases ho),fun o ho=>by cases ho⟩
 ·obtain⟨rfl,rfl,rfl⟩:a=some a'∧len=len'∧cap=cap':=by simpa [Value.cells]using h1
  simp only[if_true]at hm;have hd:d=.slice ((List.range len).map D) ((List.range (m - len)).map fun j=>D (len+j)):=congrArg Prod.fst hx;rw[hd]at hb;simp only[Rows.uptoBulk]at hb
  have hlen:len≤1048576:=by
   have:=JS ((List.range len).map D);simp at this;omega
  have each:∀i,i<len→∃o:gM,w.cells? 0 (a'.add (i*7)) 7=some o.cells∧o.Ok∧o.At w.heap.size w:=fun i hi=>by
   obtain⟨cs',h2,h3⟩:=hel i ag;rw[c_op]at h2
   have hDi:Rows.uptoBulk (D i)≤1048576:=by
    have:D i∈(List.range len).map D:=List.mem_map.2 ⟨i,List.mem_range.2 hi,rfl⟩;have:=AZ this;omega
   obtain⟨o,ho,bj⟩:=Xu h3 hDi;exact⟨o,by rw[h2,ho],bj⟩
  have:∃ops:List gM,ops.length=len∧∀i (hi:i<ops.length),w.cells? 0 (a'.add (i*7)) 7=some ops[i].cells∧ops[i].Ok∧ops[i].At w.heap.size w:=by
   clear hm hx hel hlc hd hb hlen h h1
   induction len with
   |zero=>exact⟨[],rfl,fun i hi=>by simp at hi⟩
   |succ q ih=>
    obtain⟨ops,ho,hall⟩:=ih (fun i hi=>each i ag);obtain⟨o,h1,h2⟩:=each q ag;refine⟨ops++[o],by simp[ho],fun i hi=>?_⟩
    by_cases hiq:i<ops.length
    ·rw[List.getElem_append_left hiq];exact hall i hiq
    ·have:i=ops.length:=by simp at hi;omega
     subst this;rw[List.getElem_append_right aH];simp only[Nat.sub_self,List.getElem_cons_zero];rw[ho];exact⟨h1,h2⟩
  obtain⟨ops,ho,hall⟩:=this;refine⟨ops,aA ⟨a',cap,by rw[ho],fun j u hu=>?_⟩,ag,fun o hmem=>?_,fun o hmem=>?_⟩
  ·have hj:j<ops.length*7:=by
    have:=(cI.1 hu).1;rw[BJ]at this;exact this
   have hq:j / 7<ops.length:=ag;have hr:j % 7<7:=Nat.mod_lt _ ag;have hjj:j / 7*7+j % 7=j:=ag;have h5:=flat_get gM.cells 7 (fun _=>rfl) ops (j / 7) (j % 7) hq hr;rw[hjj]at h5;have h5':(ml ops)[j]?=(ops[j / 7]).cells[j % 7]?:=h5;rw[hu]at h5';have h6:=(World.cells?_some (hall (j / 7) hq).1).2.2 (j % 7) hr;rw[Deep.add_add,hjj]at h6;rw[h6,←h5']
  ·obtain⟨i,hi,rfl⟩:=List.getElem_of_mem hmem
   exact(hall i hi).2.1
  ·obtain⟨i,hi,rfl⟩:=List.getElem_of_mem hmem
   exact(hall i hi).2.2
end
end Go.Proofs.YtcphhbofjkenaaaGreatDoor
