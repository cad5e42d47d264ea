import Derived.Test.YtcphhbofjkenaaaGreatDoorMy
import Derived.Lib.QuoteLoop
import Derived.Lib.TrimUEq
import Derived.StillTailTactics
import Derived.Test.YtcphhbofjkenaaaGreatDoorM14
namespace Go.Proofs.YtcphhbofjkenaaaGreatDoor
open Go Go.RowKit Proofs.Tryz
set_option linter.unusedVariables false
set_option linter.unusedSimpArgs false
set_option maxRecDepth 100000
set_option maxHeartbeats 16000000
theorem I0{p:Prop}(h:p:=by
  have HX:=af (show R=pos by
   have:=HRR.out
   cases fu with
   |zero=>have:=wo.out;have:=HP.out;omega
   |succ fu=>rw[passF,aG HP.out,←HC.out,aG hk]at this;exact this)
  have hpi:(pos:Int)≤100000000:=adf;have hai:(at':Int)≤100000000:=Zq;have hp0:(0:Int)≤(pos:Int):=ag;go_wp2_with fail;refine bodyPost_ret (results_none rfl _ _ _) rfl ?_;have hq:=qK.out (pos+wd) (ae ((at':Int)+(pos:Int)));have hz:((at'+R:Nat):Int)=(at':Int)+(pos:Int):=by rw[HX.out];omega
  rw[hz];exact⟨rfl,hq.1,hq.2⟩):p:=h
theorem Et{p:Prop}(h:p:=by
  have hnx:∀ty,(Instr.next (ax V.heap.size) true ty).run prog (V.iter t pos)=_:=fun ty=>run_next_end V t pos ty hp
  have HX:=af (show R=t.size by
   have:=HRR.out
   cases fu with
   |zero=>exact this
   |succ fu=>rw[passF,az hp]at this;exact this)
  clear hp hpl mW;go_wp2_with fail;go_end0;have hq:=qK.out pos (ae s.size);have hz:((at'+R:Nat):Int)=(s.size:Int):=Wj;rw[hz];exact⟨rfl,hq.1,hq.2⟩):p:=h
theorem Gu{p:Prop}(h:p:=by
  go_wp2_with fail
  go_roundw
  case rel=>
   cases fu with
   |zero=>have:=wo.out;have:=HP.out;omega
   |succ fu=>
    refine⟨pos+wd,fu,rfl,?_,OT,?_⟩
    ·rw[si.out];exact IV t pos HP
    ·have:=HRR.out
     rw[passF,aG HP.out,←HC.out,az hk,←si.out]at this;exact this
  case measure=>
   have:=HW.out;have:=HP.out;simp;omega):p:=h
theorem uO{p:Prop}(h:p:=by
  simp at hR;subst hR;clear HN;go_wp2_with fail;go_ret;exact⟨rfl,HB⟩):p:=h
theorem M6{p:Prop}(h:p:=by
  go_roundw
  case rel=>
   cases fu with
   |zero=>have:=wo.out;have:=HP.out;omega
   |succ fu=>
    refine⟨pos+wd,fu,rfl,HE,OT,?_⟩;have:=HRR.out;rw[badF,aG HP.out,az (by rw[HBAD.out];exact Bool.false_ne_true),←si.out]at this;exact this
  case measure=>
   have:=HW.out;have:=HP.out;simp;omega):p:=h
theorem JV{p:Prop}(h:p:=by
  have h3:t.size=y - x:=acU;have h4:=ba_of_list hn;have h5:t.size=1:=by rw[h4];rfl
  omega):p:=h
section
open Go.RowKit
def oJ(c:Int):Bool:=c == 32||c == 9||c == 10
def qp(c:Int):Bool:=!(c == 32||c == 9||c == 10)
def qX(c:Int):Bool:=c == 10
theorem LJ(c:Int)(w:World):Calls prog 153 #[.int .i32 c] w fun e w'=>e=.returned (.bool (oJ c))∧w'=w:=by
 unfold oJ
 by_cases h1:(c == 32)=true
 ·go_enter func153,ntmps153
  go_wp2
  go_ret
  exact⟨by simp[h1],rfl⟩
 ·have h1':(c == 32)=false:=by simpa using h1
  by_cases h2:(c == 9)=true
  ·go_enter func153,ntmps153
   go_wp2
   go_ret
   exact⟨by simp[h1',h2],rfl⟩
  ·have h2':(c == 9)=false:=by simpa using h2
   go_enter func153,ntmps153
   go_wp2
   go_ret
   exact⟨by simp[h1',h2'],rfl⟩
theorem aaq(c:Int)(w:World):Calls prog 152 #[.int .i32 c] w fun e w'=>e=.returned (.bool (qp c))∧w'=w:=by
 unfold qp;go_enter func152,ntmps152;go_wp2_with fail;refine(LJ c w).mono ?_;rintro e w' ⟨rfl,rfl⟩;unfold oJ;go_wp2_with fail;go_ret;exact⟨aF,rfl⟩
theorem Zg(c:Int)(w:World):Calls prog 120 #[.int .i32 c] w fun e w'=>e=.returned (.bool (qX c))∧w'=w:=by
 unfold qX;go_enter func120,ntmps120;go_wp2;go_ret;exact⟨rfl,rfl⟩
def passF(kd:Int→Bool)(t:ByteArray):Nat→Nat→Nat
 |0,_=>t.size
 |f+1,pos=>if pos<t.size then(if kd (Utf8.decode t pos).1=true then pos else passF kd t f (pos+(Utf8.decode t pos).2))else t.size
theorem IV(t:ByteArray)(pos:Nat)(h:pos<t.size):pos+(Utf8.decode t pos).2≤t.size:=by
 rw[Lib.decode_N];have hl:=Lib.size_eq t;have:=Lib.decodeN_width_le (t.data.toList.length - pos) (t.data.toList.getD pos 0).toNat (t.data.toList.getD (pos+1) 0).toNat (t.data.toList.getD (pos+2) 0).toNat (t.data.toList.getD (pos+3) 0).toNat ag;omega
theorem VP(rb:Nat)(s:ByteArray)(at':Nat)
  (w:World) (h:at'≤s.size) (hs:s.size≤100000000) (hb:ay w rb #[.string s,ae at'] 199):
  Calls prog 119 #[ax rb,.func (.func 152) #[] #[]] w fun e w'=>e=.returned (.tuple #[])∧ay w' rb #[.string s,ae (at'+passF qp (s.extract at' s.size) (s.size - at') 0:Nat)] 199∧aq (fun k=>k=rb) w w':=by
 have c0:w.cell? (ai rb 0)=some (.string s):=hb.cell 0 _ rfl;have c1:w.cell? (ai rb 1)=some (ae at'):=hb.cell 1 _ rfl;have h1:(at':Int)≤(s.size:Int):=ag;have h0:(0:Int)≤(at':Int):=ag;obtain⟨R,hR⟩:=ak (passF qp (s.extract at' s.size) (s.size - at') 0);rw[←hR];have HR0:=af hR;clear hR;have HK:=af aaq;have HB:=af hb;have HS:=af hs;have HH:=af h;clear hb hs h;go_enter func119,ntmps119;go_wp2_with fail;go_still_tail 9,aP;go_wp2_with fail;obtain⟨V,hV⟩:=ak (w.drew:World);have aD:V.heap.size=w.heap.size:=wM;have iX:Below w.heap.size w V:=FP;obtain⟨t,ht⟩:=ak (s.extract at' s.size);have hts:t.size=s.size - at':=by rw[ht];simp
 rw[←hV,←ht];rw[←aD];have hR:R=passF qp t (s.size - at') 0:=by rw[ht];exact HR0
 have v0:=(iX.cell (p:=ai rb 0) HB.lt).trans c0;have v1:=(iX.cell (p:=ai rb 1) HB.lt).trans c1;have iY:rb<V.heap.size:=by rw[aD];exact HB.lt
 have fv1:V.frozen? (ai rb 1)=false:=(iX.frozen (p:=ai rb 1) HB.lt).trans (HB.frozen 1);have i0:∀p,(V.iter t p).cell? (ai rb 0)=some (.string s):=fun p=>(((Below.refl _ V).alloc aH _).cell (p:=ai rb 0) iY).trans v0
 have i1:∀p,(V.iter t p).cell? (ai rb 1)=some (ae at'):=fun p=>(((Below.refl _ V).alloc aH _).cell (p:=ai rb 1) iY).trans v1
 have fi1:∀p,(V.iter t p).frozen? (ai rb 1)=false:=fun p=>(((Below.refl _ V).alloc aH _).frozen (p:=ai rb 1) iY).trans fv1
 have qK:=af (fun p (u:Value)=>(show ay ((V.iter t p).setCell (ai rb 1) u) rb #[.string s,u] 199∧aq (fun k=>k=rb) w ((V.iter t p).setCell (ai rb 1) u)from⟨I6,((aq.bf (S:=fun k=>k=rb) iX).alloc _).setCell (p:=ai rb 1) rfl u⟩));have HR:=af hR;have HT:=af ht;have kR:=af hts;have HVB:=af iX;have HVS:=af aD;clear hV ht hts iX aD hR c0 c1;go_loopw[4] (fun _ wr=>∃(pos fu:Nat),wr=V.iter t pos∧pos≤t.size∧t.size≤pos+fu∧Hid (R=passF qp t fu pos)) (fun _ wr=>t.size - wr.iterPos V.heap.size)
 case atStart=>exact⟨0,s.size - at',rfl,ag,by have:=kR.out;omega,HR⟩
 case round=>
  obtain⟨pos,fu,rfl,hpl,mW,HRR⟩:=hrel
  by_cases hp:pos<t.size
  ·have hnx:∀ty,(Instr.next (ax V.heap.size) true ty).run prog (V.iter t pos)=_:=fun ty=>run_next_any V t pos ty hp
   have hwd:=Lib.decode_width_pos t pos hp;obtain⟨c,hc⟩:=ak ((Utf8.decode t pos).1);obtain⟨wd,kM⟩:=ak ((Utf8.decode t pos).2);rw[←hc,←kM]at hnx;rw[←kM]at hwd;have HC:=af hc;have si:=af kM;have HP:=af hp;have lG:=af hpl;have wo:=af mW;have HW:=af hwd;clear hc kM hp hpl mW hwd;go_wp2_with fail;refine(HK c _).mono ?_;rintro e w' ⟨rfl,rfl⟩
   by_cases hk:qp c=true
   ·exact I0
   ·have eI:qp c=false:=by simpa using hk
    exact Gu
  ·exact Et
theorem aar(rb:Nat)(s:ByteArray)(at':Nat)
  (w:World) (h:at'≤s.size) (hs:s.size≤100000000) (hb:ay w rb #[.string s,ae at'] 199):
  Calls prog 119 #[ax rb,.func (.func 153) #[] #[]] w fun e w'=>e=.returned (.tuple #[])∧ay w' rb #[.string s,ae (at'+passF oJ (s.extract at' s.size) (s.size - at') 0:Nat)] 199∧aq (fun k=>k=rb) w w':=by
 have c0:w.cell? (ai rb 0)=some (.string s):=hb.cell 0 _ rfl;have c1:w.cell? (ai rb 1)=some (ae at'):=hb.cell 1 _ rfl;have h1:(at':Int)≤(s.size:Int):=ag;have h0:(0:Int)≤(at':Int):=ag;obtain⟨R,hR⟩:=ak (passF oJ (s.extract at' s.size) (s.size - at') 0);rw[←hR];have HR0:=af hR;clear hR;have HK:=af LJ;have HB:=af hb;have HS:=af hs;have HH:=af h;clear hb hs h;go_enter func119,ntmps119;go_wp2_with fail;go_still_tail 9,aP;go_wp2_with fail;obtain⟨V,hV⟩:=ak (w.drew:World);have aD:V.heap.size=w.heap.size:=wM;have iX:Below w.heap.size w V:=FP;obtain⟨t,ht⟩:=ak (s.extract at' s.size);have hts:t.size=s.size - at':=by rw[ht];simp
 rw[←hV,←ht];rw[←aD];have hR:R=passF oJ t (s.size - at') 0:=by rw[ht];exact HR0
 have v0:=(iX.cell (p:=ai rb 0) HB.lt).trans c0;have v1:=(iX.cell (p:=ai rb 1) HB.lt).trans c1;have iY:rb<V.heap.size:=by rw[aD];exact HB.lt
 have fv1:V.frozen? (ai rb 1)=false:=(iX.frozen (p:=ai rb 1) HB.lt).trans (HB.frozen 1);have i0:∀p,(V.iter t p).cell? (ai rb 0)=some (.string s):=fun p=>(((Below.refl _ V).alloc aH _).cell (p:=ai rb 0) iY).trans v0
 have i1:∀p,(V.iter t p).cell? (ai rb 1)=some (ae at'):=fun p=>(((Below.refl _ V).alloc aH _).cell (p:=ai rb 1) iY).trans v1
 have fi1:∀p,(V.iter t p).frozen? (ai rb 1)=false:=fun p=>(((Below.refl _ V).alloc aH _).frozen (p:=ai rb 1) iY).trans fv1
 have qK:=af (fun p (u:Value)=>(show ay ((V.iter t p).setCell (ai rb 1) u) rb #[.string s,u] 199∧aq (fun k=>k=rb) w ((V.iter t p).setCell (ai rb 1) u)from⟨I6,((aq.bf (S:=fun k=>k=rb) iX).alloc _).setCell (p:=ai rb 1) rfl u⟩));have HR:=af hR;have HT:=af ht;have kR:=af hts;have HVB:=af iX;have HVS:=af aD;clear hV ht hts iX aD hR c0 c1;go_loopw[4] (fun _ wr=>∃(pos fu:Nat),wr=V.iter t pos∧pos≤t.size∧t.size≤pos+fu∧Hid (R=passF oJ t fu pos)) (fun _ wr=>t.size - wr.iterPos V.heap.size)
 case atStart=>exact⟨0,s.size - at',rfl,ag,by have:=kR.out;omega,HR⟩
 case round=>
  obtain⟨pos,fu,rfl,hpl,mW,HRR⟩:=hrel
  by_cases hp:pos<t.size
  ·have hnx:∀ty,(Instr.next (ax V.heap.size) true ty).run prog (V.iter t pos)=_:=fun ty=>run_next_any V t pos ty hp
   have hwd:=Lib.decode_width_pos t pos hp;obtain⟨c,hc⟩:=ak ((Utf8.decode t pos).1);obtain⟨wd,kM⟩:=ak ((Utf8.decode t pos).2);rw[←hc,←kM]at hnx;rw[←kM]at hwd;have HC:=af hc;have si:=af kM;have HP:=af hp;have lG:=af hpl;have wo:=af mW;have HW:=af hwd;clear hc kM hp hpl mW hwd;go_wp2_with fail;refine(HK c _).mono ?_;rintro e w' ⟨rfl,rfl⟩
   by_cases hk:oJ c=true
   ·exact I0
   ·have eI:oJ c=false:=by simpa using hk
    exact Gu
  ·exact Et
theorem UO(rb:Nat)(s:ByteArray)(at':Nat)
  (w:World) (h:at'≤s.size) (hs:s.size≤100000000) (hb:ay w rb #[.string s,ae at'] 199):
  Calls prog 119 #[ax rb,.func (.func 120) #[] #[]] w fun e w'=>e=.returned (.tuple #[])∧ay w' rb #[.string s,ae (at'+passF qX (s.extract at' s.size) (s.size - at') 0:Nat)] 199∧aq (fun k=>k=rb) w w':=by
 have c0:w.cell? (ai rb 0)=some (.string s):=hb.cell 0 _ rfl;have c1:w.cell? (ai rb 1)=some (ae at'):=hb.cell 1 _ rfl;have h1:(at':Int)≤(s.size:Int):=ag;have h0:(0:Int)≤(at':Int):=ag;obtain⟨R,hR⟩:=ak (passF qX (s.extract at' s.size) (s.size - at') 0);rw[←hR];have HR0:=af hR;clear hR;have HK:=af Zg;have HB:=af hb;have HS:=af hs;have HH:=af h;clear hb hs h;go_enter func119,ntmps119;go_wp2_with fail;go_still_tail 9,aP;go_wp2_with fail;obtain⟨V,hV⟩:=ak (w.drew:World);have aD:V.heap.size=w.heap.size:=wM;have iX:Below w.heap.size w V:=FP;obtain⟨t,ht⟩:=ak (s.extract at' s.size);have hts:t.size=s.size - at':=by rw[ht];simp
 rw[←hV,←ht];rw[←aD];have hR:R=passF qX t (s.size - at') 0:=by rw[ht];exact HR0
 have v0:=(iX.cell (p:=ai rb 0) HB.lt).trans c0;have v1:=(iX.cell (p:=ai rb 1) HB.lt).trans c1;have iY:rb<V.heap.size:=by rw[aD];exact HB.lt
 have fv1:V.frozen? (ai rb 1)=false:=(iX.frozen (p:=ai rb 1) HB.lt).trans (HB.frozen 1);have i0:∀p,(V.iter t p).cell? (ai rb 0)=some (.string s):=fun p=>(((Below.refl _ V).alloc aH _).cell (p:=ai rb 0) iY).trans v0
 have i1:∀p,(V.iter t p).cell? (ai rb 1)=some (ae at'):=fun p=>(((Below.refl _ V).alloc aH _).cell (p:=ai rb 1) iY).trans v1
 have fi1:∀p,(V.iter t p).frozen? (ai rb 1)=false:=fun p=>(((Below.refl _ V).alloc aH _).frozen (p:=ai rb 1) iY).trans fv1
 have qK:=af (fun p (u:Value)=>(show ay ((V.iter t p).setCell (ai rb 1) u) rb #[.string s,u] 199∧aq (fun k=>k=rb) w ((V.iter t p).setCell (ai rb 1) u)from⟨I6,((aq.bf (S:=fun k=>k=rb) iX).alloc _).setCell (p:=ai rb 1) rfl u⟩));have HR:=af hR;have HT:=af ht;have kR:=af hts;have HVB:=af iX;have HVS:=af aD;clear hV ht hts iX aD hR c0 c1;go_loopw[4] (fun _ wr=>∃(pos fu:Nat),wr=V.iter t pos∧pos≤t.size∧t.size≤pos+fu∧Hid (R=passF qX t fu pos)) (fun _ wr=>t.size - wr.iterPos V.heap.size)
 case atStart=>exact⟨0,s.size - at',rfl,ag,by have:=kR.out;omega,HR⟩
 case round=>
  obtain⟨pos,fu,rfl,hpl,mW,HRR⟩:=hrel
  by_cases hp:pos<t.size
  ·have hnx:∀ty,(Instr.next (ax V.heap.size) true ty).run prog (V.iter t pos)=_:=fun ty=>run_next_any V t pos ty hp
   have hwd:=Lib.decode_width_pos t pos hp;obtain⟨c,hc⟩:=ak ((Utf8.decode t pos).1);obtain⟨wd,kM⟩:=ak ((Utf8.decode t pos).2);rw[←hc,←kM]at hnx;rw[←kM]at hwd;have HC:=af hc;have si:=af kM;have HP:=af hp;have lG:=af hpl;have wo:=af mW;have HW:=af hwd;clear hc kM hp hpl mW hwd;go_wp2_with fail;refine(HK c _).mono ?_;rintro e w' ⟨rfl,rfl⟩
   by_cases hk:qX c=true
   ·exact I0
   ·have eI:qX c=false:=by simpa using hk
    exact Gu
  ·exact Et
end
section
theorem VO(t:ByteArray)(pos:Nat)(h:aJ t pos<128):Utf8.decode t pos=(aJ t pos,1):=by
 have h':(t.get! pos).toNat<128:=h;rw[Lib.decode_at,Lib.decodeN,aG h'];rfl
theorem ade(t:ByteArray)(pos:Nat)(h:128≤aJ t pos):128≤(Utf8.decode t pos).1∧∀k,k<(Utf8.decode t pos).2→128≤aJ t (pos+k):=by
 have e0:(t.get! pos).toNat=aJ t pos:=rfl;have e1:(t.get! (pos+1)).toNat=aJ t (pos+1):=rfl;have e2:(t.get! (pos+2)).toNat=aJ t (pos+2):=rfl;have e3:(t.get! (pos+3)).toNat=aJ t (pos+3):=rfl;rw[Lib.decode_at,e0,e1,e2,e3];have key:∀k,k=0→128≤aJ t (pos+k):=fun k hk=>by subst hk;exact h
 unfold Lib.decodeN
 repeat' split
 all_goals first
  |omega
  |(refine⟨iO,fun k hk=>?_⟩
    simp only at hk
    match k,hk with
    |0,_=>exact key 0 rfl
    |1,_=>omega
    |2,_=>omega
    |3,_=>omega
    |k+4,hk=>omega)
theorem Da(kd:Int→Bool)(p:Nat→Bool)(hlo:∀b:Nat,b<128→kd b=p b)(hhi:∀c b:Nat,128≤c→128≤b→kd c=p b)(t:ByteArray):
  ∀(f pos:Nat),t.size - pos≤f→pos≤t.size→passF kd t f pos=scan p t pos
 |0,pos,hf,hp=>by
  rw[passF];exact(tL ag aH (fun x h1 h2=>ag) (aC rfl)).symm
 |f+1,pos,hf,hp=>by
  rw[passF]
  by_cases h:pos<t.size
  ·rw[aG h]
   have hw:=Lib.decode_width_pos t pos h;have he:=IV t pos h;have ih:=Da kd p hlo hhi t f (pos+(Utf8.decode t pos).2) ag he;obtain⟨a1,a2,a3,a4⟩:=iP p t (pos+(Utf8.decode t pos).2) he
   by_cases hb:aJ t pos<128
   ·have hd:=VO t pos hb
    by_cases hk:kd (Utf8.decode t pos).1=true
    ·rw[aG hk]
     refine(tL aH ag (fun x h1 h2=>ag) (aA ?_)).symm;rw[hd]at hk;rw[←hlo _ hb];exact hk
    ·rw[az hk,ih]
     refine(tL ag a2 (fun x h1 h2=>?_) a4).symm
     by_cases hx:x=pos
     ·subst hx
      rw[hd]at hk;rw[←hlo _ hb];simpa using hk
     ·exact a3 x (by rw[hd];simp only;omega) h2
   ·obtain⟨d1,d2⟩:=ade t pos ag
    by_cases hk:kd (Utf8.decode t pos).1=true
    ·rw[aG hk]
     refine(tL aH ag (fun x h1 h2=>ag) (aA ?_)).symm;rw[←hhi _ _ d1 ag];exact hk
    ·rw[az hk,ih]
     refine(tL ag a2 (fun x h1 h2=>?_) a4).symm
     by_cases hx:x<pos+(Utf8.decode t pos).2
     ·have:=d2 (x - pos) ag
      rw[show pos+(x - pos)=x by omega]at this;rw[←hhi _ _ d1 this];simpa using hk
     ·exact a3 x ag h2
  ·rw[az h]
   exact(tL ag aH (fun x h1 h2=>ag) (aC rfl)).symm
theorem Ku(s:ByteArray)(a k:Nat)(h:a+k<s.size):aJ (s.extract a s.size) k=aJ s (a+k):=by
 have h1:k<(s.extract a s.size).size:=aK;rw[←tB _ _ h1,←tB _ _ h];simp[ByteArray.getElem_extract]
theorem H9(p:Nat→Bool)(s:ByteArray)(a:Nat)(h:a≤s.size):a+scan p (s.extract a s.size) 0=scan p s a:=by
 have hs:(s.extract a s.size).size=s.size - a:=aF;obtain⟨a1,a2,a3,a4⟩:=iP p (s.extract a s.size) 0 ag;rw[hs]at a2 a4;refine(tL ag ag (fun x h1 h2=>?_) ?_).symm
 ·have:=a3 (x - a) ag ag
  rw[Ku s a (x - a) ag,show a+(x - a)=x by omega]at this;exact this
 ·rcases a4 with a4|a4
  ·exact aC ag
  ·by_cases e:scan p (s.extract a s.size) 0=s.size - a
   ·exact aC ag
   ·exact aA (by rw[←Ku s a _ ag];exact a4)
theorem E5(b:Nat):oJ (b:Int)=blk b:=by
 rw[Bool.eq_iff_iff];simp only[oJ,blk,Bool.or_eq_true,beq_iff_eq];omega
theorem JZ(b:Nat):qp (b:Int)=ld b:=by
 have:=E5 b;simp only[oJ]at this;simp only[qp,ld,this]
theorem Nx(b:Nat):qX (b:Int)=dY b:=by
 rw[Bool.eq_iff_iff];simp only[qX,dY,beq_iff_eq];omega
theorem C6(b:Nat)(h:128≤b):blk b=false:=by
 rw[fO];simp only[blk,ne_eq,Bool.or_eq_true,beq_iff_eq];omega
theorem KI(b:Nat)(h:128≤b):dY b=false:=by
 rw[fO];simp only[dY,ne_eq,beq_iff_eq];omega
theorem Tn(s:ByteArray)(a:Nat)(h:a≤s.size):a+passF oJ (s.extract a s.size) (s.size - a) 0=scan blk s a:=by
 rw[Da oJ blk (fun b _=>E5 b) (fun c b hc hb=>by rw[E5,C6 c hc,C6 b hb]) _ _ _ aF ag,H9 blk s a h]
theorem VT(s:ByteArray)(a:Nat)(h:a≤s.size):a+passF qp (s.extract a s.size) (s.size - a) 0=scan ld s a:=by
 rw[Da qp ld (fun b _=>JZ b) (fun c b hc hb=>by rw[JZ];simp only[ld,C6 c hc,C6 b hb]) _ _ _ aF ag,H9 ld s a h]
theorem WY(s:ByteArray)(a:Nat)(h:a≤s.size):a+passF qX (s.extract a s.size) (s.size - a) 0=scan dY s a:=by
 rw[Da qX dY (fun b _=>Nx b) (fun c b hc hb=>by rw[Nx,KI c hc,KI b hb]) _ _ _ aF ag,H9 dY s a h]
def kZ(s:ByteArray)(a:Nat):Array Value:= #[.string s,ae a]
def cC(s:ByteArray)(a:Nat):Nat:=scan ld s a
def cX(s:ByteArray)(a:Nat):Nat:=scan blk s (scan ld s a)
theorem ay.kZ{w:World}{b:Nat}{t:TypeId}{s:ByteArray}{a:Nat}(h:ay w b (kZ s a) t):w.cell? (ai b 0)=some (.string s)∧w.cell? (ai b 1)=some (ae a):=⟨h.cell 0 _ rfl,h.cell 1 _ rfl⟩
theorem Wh(rb:Nat)(s:ByteArray)(a:Nat)(w:World)(h:a≤s.size)(hs:s.size≤100000000)(hb:ay w rb (kZ s a) 199):
  Calls prog 118 #[ax rb] w fun e w'=>e=.returned (.agg #[.string (s.extract (cC s a) (cX s a)),ae (cC s a)])∧ay w' rb (kZ s (cX s a)) 199∧aq (fun k=>k=rb) w w':=by
 have hB:=(iP ld s a h);have hE:=(iP blk s (scan ld s a) hB.2.1);obtain⟨x,hx⟩:=ak (cC s a);obtain⟨y,hy⟩:=ak (cX s a);have hxs:x≤s.size:=by rw[hx];exact hB.2.1
 have hxy:x≤y:=by rw[hx,hy];exact hE.1
 have hys:y≤s.size:=by rw[hy];exact hE.2.1
 have p1:=VT s a h;have p2:=Tn s x hxs;have hyx:scan blk s x=y:=by rw[hx,hy];rfl
 have hxa:scan ld s a=x:=by rw[hx];rfl
 rw[hxa]at p1;rw[hyx]at p2;rw[←hx,←hy];have hlt:=hb.lt;have H1:=af (VP rb s a (w.alloc (.cells #[.string ⟨#[]⟩,ae 0] 163 (0,0))) h hs (ay.alloc hb _));rw[p1]at H1;have H2:=af (fun w' (hb':ay w' rb (kZ s x) 199)=>aar rb s x w' hxs hs hb');rw[p2]at H2;have hk0:=bJ w #[.string ⟨#[]⟩,ae 0] 163;have HX:=af hxs;have HXY:=af hxy;have rD:=af hys;have HK0:=af hk0;have HS:=af hs;clear hB hE hx hy hxs hxy hys p1 p2 hyx hxa h hs hb hk0;go_enter func118,ntmps118;go_wp2_with fail;refine H1.mono ?_;rintro e w1 ⟨rfl,hb1,hc1⟩;have bA:=HK0.aB hc1 (fun e=>ag);obtain⟨c0,c1⟩:=ay.kZ (s:=s) (a:=x) hb1;have HB1:=af (show ay w1 rb (kZ s x) 199 from hb1);have iI:=af (((aq.refl (fun k=>k=rb) w).alloc _).trans hc1);have ft:=af bA;clear H1 HK0 hb1 hc1 bA;go_wp2_with fail;refine(H2 w1 HB1).mono ?_;rintro e w2 ⟨rfl,hb2,hc2⟩;have hk2:=ft.aB hc2 (fun e=>ag);clear c0 c1;obtain⟨c0,c1⟩:=ay.kZ (s:=s) (a:=y) hb2;have k0:w2.cell? (ai w.heap.size 0)=some (.string ⟨#[]⟩):=hk2.cell 0 _ rfl;have k1:w2.cell? (ai w.heap.size 1)=some (ae 0):=hk2.cell 1 _ rfl;have f0:=hk2.frozen 0;have f1:=hk2.frozen 1;have aW:=af (show ay w2 rb (kZ s y) 199 from hb2);have lB:=af (iI.trans hc2);have hx0:(0:Int)≤(x:Int):=ag;have hxy:(x:Int)≤(y:Int):=by have:=HXY.out;omega
 have hys:(y:Int)≤(s.size:Int):=by have:=rD.out;omega
 clear H2 HB1 iI ft hb2 hc2 hk2;go_wp2_with fail;go_still_tail 12,aP;go_wp2_with fail;refine bodyPost_ret (v:=.agg #[.string (s.extract x y),ae x]) (by simp[results,results118,go_sem,k0,k1]) rfl ⟨rfl,?_,?_⟩
 ·exact((aW.setOther aK _).setOther aK _)
 ·exact(lB.fz ((((aq.refl (fun k=>k=w.heap.size) w2).setCell (p:=ai w.heap.size 0) rfl _).setCell (p:=ai w.heap.size 1) rfl _)) (fun k hk e=>ag)).drew
end
section
def nextF(s:ByteArray):Nat→Nat→ByteArray×Nat×Nat
 |0,a=>(s.extract (cC s a) (cX s a),cC s a,cX s a)
 |f+1,a=>if((s.extract (cC s a) (cX s a)).toList == [92])=true then nextF s f (scan dY s (cX s a))else(s.extract (cC s a) (cX s a),cC s a,cX s a)
def lY(w:World)(rb:Nat):Nat:=match w.cell? (ai rb 1)with|some (.int _ n)=>n.toNat|_=>0
theorem rh(s:ByteArray)(a:Nat)(h:a≤s.size):a≤cC s a∧cC s a≤cX s a∧cX s a≤s.size:=by
 have hB:=(iP ld s a h);have hE:=(iP blk s (scan ld s a) hB.2.1);exact⟨hB.1,hE.1,hE.2.1⟩
theorem B0(rb:Nat)(s:ByteArray)(a:Nat)(w:World)(h:a≤s.size)(hs:s.size≤100000000)(hb:ay w rb (kZ s a) 199):
  Calls prog 78 #[ax rb] w fun e w'=>e=.returned (.agg #[.string (nextF s (s.size - a) a).1,ae (nextF s (s.size - a) a).2.1])∧ay w' rb (kZ s (nextF s (s.size - a) a).2.2) 199∧aq (fun k=>k=rb) w w':=by
 obtain⟨R,hR⟩:=ak (nextF s (s.size - a) a);rw[←hR];have hlt:=hb.lt;have HR:=af hR;have HB:=af hb;have HH:=af h;have HS:=af hs;clear hR hb h hs;go_enter func78,ntmps78;go_wp2_with fail;go_loopw[3] (fun _ wr=>∃(b f:Nat),b≤s.size∧s.size - b≤f∧Hid (R=nextF s f b)∧ay wr rb (kZ s b) 199∧ay wr w.heap.size #[.string ⟨#[]⟩,ae 0] 163∧aq (fun k=>k=rb) w wr) (fun _ wr=>s.size - lY wr rb)
 case atStart=>exact⟨a,s.size - a,HH,aH,HR,HB.alloc _,bJ w _ _,(aq.refl _ w).alloc _⟩
 case round=>
  clear HR;obtain⟨b,f,fU,hf,HR,hb,hk,hc⟩:=hrel;obtain⟨l1,l2,l3⟩:=rh s b fU;have H1:=af (Wh rb s b wr fU HS hb);have hat:lY wr rb=b:=by unfold lY;rw[(ay.kZ hb).2];simp
  have gU:=af hat;have hL:=af (fun w' (hb':ay w' rb (kZ s (cX s b)) 199)=>UO rb s (cX s b) w' l3 HS hb');rw[WY s (cX s b) l3]at hL;obtain⟨t,ht⟩:=ak (s.extract (cC s b) (cX s b));rw[←ht]at H1;obtain⟨x,hx⟩:=ak (cC s b);obtain⟨y,hy⟩:=ak (cX s b);rw[←hx,←hy]at H1;rw[←hy]at hL;have HTT:=af ht;have HX:=af hx;have HY:=af hy;have lW:=af l1;have HL2:=af l2;have tA:=af l3;have HK:=af hk;have HC:=af hc;have kI:=af fU;have HF:=af hf;clear hat ht hx hy l1 l2 l3 hk hc hb fU hf;go_wp2_with fail;refine H1.mono ?_;rintro e w1 ⟨rfl,hb1,hc1⟩;have bA:=HK.aB hc1 (fun e=>ag);have k0:w1.cell? (ai w.heap.size 0)=some (.string ⟨#[]⟩):=bA.cell 0 _ rfl;have k1:w1.cell? (ai w.heap.size 1)=some (ae 0):=bA.cell 1 _ rfl;have f0:=bA.frozen 0;have f1:=bA.frozen 1;have hl1:=bA.lt;have HB1:=af hb1;have iI:=af (HC.trans hc1);have ft:=af bA;clear H1 hb1 hc1 bA HK HC
  by_cases hn:(t.toList == [92])=true
  ·have hn2:(t.toList != [92])=false:=by simp at hn ⊢;exact hn
   go_wp2_with fail
   refine(hL _ (HB1.alloc _)).mono ?_;rintro e w2 ⟨rfl,hb2,hc2⟩;go_wp2_with fail;go_roundw
   case rel=>
    have hlt2:x<y:=by
     exact JV
    have hsp:=iP dY s y (by rw[HY.out];exact tA)
    cases f with
    |zero=>exfalso;have:=HF.out;have:=lW.out;have:=HX.out;have:=HY.out;have:=tA.out;omega
    |succ f=>
     refine⟨scan dY s y,f,hsp.2.1,?_,?_,hb2,(ft.alloc _).aB hc2 (fun e=>ag),(iI.alloc _).trans hc2⟩
     ·have:=HF.out;have:=lW.out;have:=HX.out;have:=HY.out;omega
     ·have:=HR.out
      rw[nextF,←HTT.out,aG hn,←HY.out]at this;exact this
   case measure=>
    have hlt2:x<y:=by
     exact JV
    have hsp:=iP dY s y (by rw[HY.out];exact tA)
    have e1:lY w2 rb=scan dY s y:=by
     unfold lY;rw[show w2.cell? (ai rb 1)=some (ae (scan dY s y))from hb2.cell 1 _ rfl];simp
    rw[e1,gU.out];have:=lW.out;have:=HX.out;have:=HY.out;have:=tA.out;omega
  ·have hn2:(t.toList != [92])=true:=by simp at hn ⊢;exact hn
   go_wp2_with fail
   have hRe:R=(t,x,y):=by
    have:=HR.out
    cases f with
    |zero=>rw[nextF,←HTT.out,←HX.out,←HY.out]at this;exact this
    |succ f=>rw[nextF,←HTT.out,az hn,←HX.out,←HY.out]at this;exact this
   rw[hRe];refine bodyPost_ret (v:=.agg #[.string t,ae x]) (by simp[results,results78,go_sem,k0,k1,hl1]) rfl ⟨rfl,?_,?_⟩
   ·exact((HB1.setOther aK _).setOther aK _).alloc _
   ·exact(iI.fz ((((aq.refl (fun k=>k=w.heap.size) w1).setCell (p:=ai w.heap.size 0) rfl _).setCell (p:=ai w.heap.size 1) rfl _)) (fun k hk e=>ag)).alloc _
end
section
def isBad(s:ByteArray)(pos:Nat):Bool:=((Utf8.decode s pos).1 == 65533)&&!Lib.hasPrefix (s.extract pos s.size).data.toList [239,191,189]
def badF(s:ByteArray):Nat→Nat→Option Nat
 |0,_=>none
 |f+1,pos=>if pos<s.size then(if isBad s pos=true then some pos else badF s f (pos+(Utf8.decode s pos).2))else none
def badRes:Option Nat→Value
 |some k=>.tuple #[ae k,.bool true]
 |none=>.tuple #[ae 0,.bool false]
theorem aaj(s:ByteArray)(w:World)(hs:s.size≤100000000):
  Calls prog 76 #[.string s] w fun e w'=>e=.returned (badRes (badF s s.size 0))∧Below w.heap.size w w':=by
 obtain⟨R,hR⟩:=ak (badF s s.size 0);rw[←hR];have HR:=af hR;have HS:=af hs;clear hR hs;go_enter func76,ntmps76;go_wp2_with fail;go_loopw[4] (fun _ wr=>∃(pos fu:Nat),wr=w.iter s pos∧pos≤s.size∧s.size≤pos+fu∧Hid (R=badF s fu pos)) (fun _ wr=>s.size - wr.iterPos w.heap.size)
 case atStart=>exact⟨0,s.size,rfl,ag,ag,HR⟩
 case round=>
  obtain⟨pos,fu,rfl,hpl,mW,HRR⟩:=hrel
  by_cases hp:pos<s.size
  ·have hnx:∀ty,(Instr.next (ax w.heap.size) true ty).run prog (w.iter s pos)=_:=fun ty=>run_next_any w s pos ty hp
   have hwd:=Lib.decode_width_pos s pos hp;have hend:=IV s pos hp;obtain⟨c,hc⟩:=ak (((Utf8.decode s pos).1:Int):Int);obtain⟨wd,kM⟩:=ak ((Utf8.decode s pos).2);rw[←hc,←kM]at hnx;rw[←kM]at hwd hend;have k9:(pos:Int)≤(s.size:Int):=ag;have hp0:(0:Int)≤(pos:Int):=ag;have HC:=af hc;have si:=af kM;have HP:=af hp;have lG:=af hpl;have wo:=af mW;have HW:=af hwd;have HE:=af hend;clear hc kM hp hpl mW hwd hend
   by_cases hr:(c == 65533)=true
   ·go_wp2_with fail
    refine(Tryz.strings_HasPrefix (s.extract pos s.size) ⟨#[239,191,189]⟩ _).mono ?_;rintro e w1 ⟨rfl,rfl⟩
    have hcn:((Utf8.decode s pos).1 == 65533)=true:=by
     have h1:c=65533:=vD;have h2:=HC.out;rw[beq_iff_eq];omega
    by_cases hq:Lib.hasPrefix (s.extract pos s.size).data.toList [239,191,189]=true
    ·have hq2:Lib.hasPrefix (s.extract pos s.size).data.toList (⟨#[239,191,189]⟩:ByteArray).data.toList=true:=hq
     have HBAD:=af (show isBad s pos=false by rw[isBad,hcn,hq];rfl);rw[hq2];clear hq hq2 hcn;go_wp2_with fail;exact M6
    ·have lV:Lib.hasPrefix (s.extract pos s.size).data.toList [239,191,189]=false:=by simpa using hq
     have hq2:Lib.hasPrefix (s.extract pos s.size).data.toList (⟨#[239,191,189]⟩:ByteArray).data.toList=false:=lV
     have HX:=af (show R=some pos by
      have:=HRR.out;have hb:isBad s pos=true:=by rw[isBad,hcn,lV];rfl
      cases fu with
      |zero=>have:=wo.out;have:=HP.out;omega
      |succ fu=>rw[badF,aG HP.out,aG hb]at this;exact this)
     rw[hq2];clear hq lV hq2 hcn;go_wp2_with fail;refine bodyPost_ret (v:=.tuple #[ae pos,.bool true]) (by simp[results,results76,go_sem]) rfl ⟨?_,aQ.alloc aH _⟩;rw[HX.out];rfl
   ·have hr':(c == 65533)=false:=by simpa using hr
    have HBAD:=af (show isBad s pos=false by
     have h1:((Utf8.decode s pos).1 == 65533)=false:=by
      have h2:=HC.out;have h3:¬c=65533:=vD;rw[beq_eq_false_iff_ne];omega
     rw[isBad,h1];rfl)
    go_wp2_with fail
    exact M6
  ·have hnx:∀ty,(Instr.next (ax w.heap.size) true ty).run prog (w.iter s pos)=_:=fun ty=>run_next_end w s pos ty hp
   have HX:=af (show R=none by
    have:=HRR.out
    cases fu with
    |zero=>exact this
    |succ fu=>rw[badF,az hp]at this;exact this)
   clear hp hpl mW;go_wp2_with fail;refine bodyPost_ret (v:=.tuple #[ae 0,.bool false]) (by simp[results,results76,go_sem]) rfl ⟨?_,aQ.alloc aH _⟩;rw[HX.out];rfl
end
section
def uX(s:ByteArray):Bool:=!(s.toList == [])&&decide (Lib.runeCount s≤16)&&!ck s nine&&!(numP s).2
theorem UJ(s:ByteArray):ck s nine=(s.toList == [58]||s.toList == [59]||s.toList == [118,97,114,105,97,98,108,101]||s.toList == [105,102]||s.toList == [101,108,115,101]||s.toList == [116,104,101,110]||s.toList == [100,111]||s.toList == [108,111,111,112]||s.toList == [92]):=by
 have hl:∀l:List UInt8,(⟨l.toArray⟩:ByteArray).toList=l:=lZ;have hc:∀l:List UInt8,(l == s.toList)=(s.toList == l):=fun l=>by rw[Bool.eq_iff_iff,beq_iff_eq,beq_iff_eq];exact eq_comm
 have key:∀l:List UInt8,((⟨l.toArray⟩:ByteArray).toList == s.toList)=(s.toList == l):=fun l=>by rw[hl,hc]
 simp only[ck,nine,List.any_cons,List.any_nil,Bool.or_false,key [58],key [59],key [118,97,114,105,97,98,108,101],key [105,102],key [101,108,115,101],key [116,104,101,110],key [100,111],key [108,111,111,112],key [92],Bool.or_assoc]
theorem U2(s:ByteArray)(w:World)(hs:s.size≤100000000)(ht:cQ w):
  Calls prog 154 #[.string s] w fun e w'=>e=.returned (.bool (uX s))∧Below w.heap.size w w':=by
 obtain⟨R,hR⟩:=ak (uX s);rw[←hR];have HC:=af (Tryz.utf8_RuneCountInString s w ag);have HN:=af (fun w' (hb:Below w.heap.size w w')=>Ip s w' hs (ht.below hb));have hrc:Lib.runeCount s≤s.size:=Lib.runeCount_le s;unfold uX at hR;obtain⟨n,hn⟩:=ak (Lib.runeCount s);obtain⟨q,hq⟩:=ak ((numP s).2);obtain⟨k,hk⟩:=ak ((numP s).1);rw[←hn]at HC hR hrc;rw[←hq]at HN hR;rw[←hk]at HN;have hni:(n:Int)≤100000000:=ag;clear hn hq hk ht hs hrc
 by_cases he:(s.toList == [])=true
 ·rw[he]at hR
  simp at hR;subst hR;clear HC HN;go_enter func154,ntmps154;go_wp2_with fail;go_ret;exact⟨rfl,aQ⟩
 ·have he':(s.toList == [])=false:=by simpa using he
  rw[he']at hR;clear he
  by_cases hm:16<(n:Int)
  ·have hm2:decide (n≤16)=false:=by simp;omega
   rw[hm2]at hR;simp at hR;subst hR;clear HN hm2;go_enter func154,ntmps154;go_wp2_with fail;refine HC.mono ?_;rintro e w1 ⟨rfl,pos,rfl⟩;go_wp2_with fail;go_ret;exact⟨rfl,aQ.alloc aH _⟩
  ·have hm2:decide (n≤16)=true:=by simp;omega
   rw[hm2]at hR;clear hm2;simp only[Bool.not_false,Bool.true_and,Bool.and_true]at hR;go_enter func154,ntmps154;go_wp2_with fail;refine HC.mono ?_;rintro e w1 ⟨rfl,pos,hw⟩;have hb:Below w.heap.size w w1:=by rw[hw];exact aQ.alloc aH _
   have HB:=af hb;clear hb hw HC;rw[UJ]at hR
   by_cases g0:(s.toList == [58])=true
   ·rw[g0]at hR
    exact uO
   have f0:(s.toList == [58])=false:=by simpa using g0
   rw[f0]at hR;clear g0
   by_cases g1:(s.toList == [59])=true
   ·rw[g1]at hR
    exact uO
   have f1:(s.toList == [59])=false:=by simpa using g1
   rw[f1]at hR;clear g1
   by_cases g2:(s.toList == [118,97,114,105,97,98,108,101])=true
   ·rw[g2]at hR
    exact uO
   have f2:(s.toList == [118,97,114,105,97,98,108,101])=false:=by simpa using g2
   rw[f2]at hR;clear g2
   by_cases g3:(s.toList == [105,102])=true
   ·rw[g3]at hR
    exact uO
   have f3:(s.toList == [105,102])=false:=by simpa using g3
   rw[f3]at hR;clear g3
   by_cases g4:(s.toList == [101,108,115,101])=true
   ·rw[g4]at hR
    exact uO
   have f4:(s.toList == [101,108,115,101])=false:=by simpa using g4
   rw[f4]at hR;clear g4
   by_cases g5:(s.toList == [116,104,101,110])=true
   ·rw[g5]at hR
    exact uO
   have f5:(s.toList == [116,104,101,110])=false:=by simpa using g5
   rw[f5]at hR;clear g5
   by_cases g6:(s.toList == [100,111])=true
   ·rw[g6]at hR
    exact uO
   have f6:(s.toList == [100,111])=false:=by simpa using g6
   rw[f6]at hR;clear g6
   by_cases g7:(s.toList == [108,111,111,112])=true
   ·rw[g7]at hR
    exact uO
   have f7:(s.toList == [108,111,111,112])=false:=by simpa using g7
   rw[f7]at hR;clear g7
   by_cases g8:(s.toList == [92])=true
   ·rw[g8]at hR
    exact uO
   have f8:(s.toList == [92])=false:=by simpa using g8
   rw[f8]at hR;clear g8;simp only[Bool.or_false,Bool.not_false,Bool.true_and]at hR;subst hR;go_wp2_with fail;refine(HN w1 HB).mono ?_;rintro e w2 ⟨rfl,hb2⟩;have aW:=af (HB.trans (hb2.mono HB.size));clear hb2 HN HB;go_wp2_with fail;go_ret;exact⟨rfl,aW⟩
end
end Go.Proofs.YtcphhbofjkenaaaGreatDoor
