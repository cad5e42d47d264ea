import Derived.Lib.QuoteLoop
import Derived.Lib.TrimUEq
import Derived.Lib.Walk
import Derived.StillTailTactics
import Derived.Test.YtcphhbofjkenaaaGreatDoorM16
namespace Go.Proofs.YtcphhbofjkenaaaGreatDoor
open Go Go.RowKit
set_option linter.unusedVariables false
set_option linter.unusedSimpArgs false
set_option maxRecDepth 100000
set_option maxHeartbeats 16000000
section
open Go.RowKit
def jP(c:Int):Bool:=c == 32||c == 9||c == 10
def yN(c:Int):Bool:=!(c == 32||c == 9||c == 10)
def pW(c:Int):Bool:=c == 10
theorem Ij(c:Int)(w:World):Calls Tryz.prog 153 #[.int .i32 c] w fun e w'=>e=.returned (.bool (jP c))∧w'=w:=by
 unfold jP
 by_cases h1:(c == 32)=true
 ·go_enter Tryz.func153,Tryz.ntmps153
  go_wp2
  go_ret
  exact⟨by simp[h1],rfl⟩
 ·have h1':(c == 32)=false:=by simpa using h1
  by_cases h2:(c == 9)=true
  ·go_enter Tryz.func153,Tryz.ntmps153
   go_wp2
   go_ret
   exact⟨by simp[h1',h2],rfl⟩
  ·have h2':(c == 9)=false:=by simpa using h2
   go_enter Tryz.func153,Tryz.ntmps153
   go_wp2
   go_ret
   exact⟨by simp[h1',h2'],rfl⟩
theorem abe(c:Int)(w:World):Calls Tryz.prog 152 #[.int .i32 c] w fun e w'=>e=.returned (.bool (yN c))∧w'=w:=by
 unfold yN;go_enter Tryz.func152,Tryz.ntmps152
 go_wp2_with fail
 refine(Ij c w).mono ?_;rintro e w' ⟨rfl,rfl⟩;unfold jP;go_wp2_with fail
 go_ret
 exact⟨by simp,rfl⟩
theorem PS(c:Int)(w:World):Calls Tryz.prog 120 #[.int .i32 c] w fun e w'=>e=.returned (.bool (pW c))∧w'=w:=by
 unfold pW;go_enter Tryz.func120,Tryz.ntmps120
 go_wp2
 go_ret
 exact⟨rfl,rfl⟩
def fU(kd:Int→Bool)(t:ByteArray):Nat→Nat→Nat
 |0,_=>t.size
 |f+1,pos=>if pos<t.size then(if kd (Utf8.decode t pos).1=true then pos else fU kd t f (pos+(Utf8.decode t pos).2))else t.size
theorem ji(t:ByteArray)(pos:Nat)(h:pos<t.size):pos+(Utf8.decode t pos).2≤t.size:=by
 rw[Lib.decode_N];have hl:=Lib.size_eq t;have:=Lib.decodeN_width_le (t.data.toList.length - pos) (t.data.toList.getD pos 0).toNat (t.data.toList.getD (pos+1) 0).toNat (t.data.toList.getD (pos+2) 0).toNat (t.data.toList.getD (pos+3) 0).toNat (by omega);omega
theorem CJ(rb:Nat)(s:ByteArray)(at':Nat)
  (w:World) (h:at'≤s.size) (hs:s.size≤100000000) (hb:az w rb #[.string s,.int .i64 at'] 199):
  Calls Tryz.prog 119 #[.pointer (some ⟨rb,0,none⟩),.func (.func 152) #[] #[]] w fun e w'=>e=.returned (.tuple #[])∧az w' rb #[.string s,.int .i64 (at'+fU yN (s.extract at' s.size) (s.size - at') 0:Nat)] 199∧aj (fun k=>k=rb) w w':=by
 have c0:w.cell? ⟨rb,0,none⟩=some (.string s):=hb.cell 0 _ rfl;have c1:w.cell? ⟨rb,1,none⟩=some (.int .i64 at'):=hb.cell 1 _ rfl;have h1:(at':Int)≤(s.size:Int):=by omega
 have h0:(0:Int)≤(at':Int):=by omega
 obtain⟨R,hR⟩:=exq (fU yN (s.extract at' s.size) (s.size - at') 0);rw[←hR];have HR0:=ast hR;clear hR;have HK:=ast abe;have HB:=ast hb;have HS:=ast hs;have HH:=ast h;clear hb hs h;go_enter Tryz.func119,Tryz.ntmps119
 go_wp2_with fail
 go_still_tail 9,(by kernel_rfl)
 go_wp2_with fail
 obtain⟨V,hV⟩:=exq (w.drew:World);have Oe:V.heap.size=w.heap.size:=by rw[hV];rfl
 have yw:Below w.heap.size w V:=by rw[hV];exact brq.drew
 obtain⟨t,ht⟩:=exq (s.extract at' s.size);have PT:t.size=s.size - at':=by rw[ht];simp
 rw[←hV,←ht];rw[←Oe];have hR:R=fU yN t (s.size - at') 0:=by rw[ht];exact HR0.out
 have v0:=(yw.cell (p:=⟨rb,0,none⟩) HB.out.lt).trans c0;have v1:=(yw.cell (p:=⟨rb,1,none⟩) HB.out.lt).trans c1;have PU:rb<V.heap.size:=by rw[Oe];exact HB.out.lt
 have fv1:V.frozen? ⟨rb,1,none⟩=false:=(yw.frozen (p:=⟨rb,1,none⟩) HB.out.lt).trans (HB.out.frozen 1);have i0:∀p,(V.iter t p).cell? ⟨rb,0,none⟩=some (.string s):=fun p=>(((Below.refl _ V).alloc nrq _).cell (p:=⟨rb,0,none⟩) PU).trans v0
 have i1:∀p,(V.iter t p).cell? ⟨rb,1,none⟩=some (.int .i64 at'):=fun p=>(((Below.refl _ V).alloc nrq _).cell (p:=⟨rb,1,none⟩) PU).trans v1
 have fi1:∀p,(V.iter t p).frozen? ⟨rb,1,none⟩=false:=fun p=>(((Below.refl _ V).alloc nrq _).frozen (p:=⟨rb,1,none⟩) PU).trans fv1
 have JJ:=ast (fun p (u:Value)=>(show az ((V.iter t p).setCell ⟨rb,1,none⟩ u) rb #[.string s,u] 199∧aj (fun k=>k=rb) w ((V.iter t p).setCell ⟨rb,1,none⟩ u)from⟨by have:=(((HB.out.sub yw HB.out.lt).alloc (.stringIter t p)).set (o:=1) u);simpa [World.iter]using this,((aj.au (S:=fun k=>k=rb) yw).alloc _).setCell (p:=⟨rb,1,none⟩) rfl u⟩));have HR:=ast hR;have HT:=ast ht;have Uk:=ast PT;have HVB:=ast yw;have WT:=ast Oe;clear hV ht PT yw Oe hR c0 c1;go_loopw[4] (fun _ wr=>∃(pos fu:Nat),wr=V.iter t pos∧pos≤t.size∧t.size≤pos+fu∧Hid (R=fU yN t fu pos)) (fun _ wr=>t.size - wr.iterPos V.heap.size)
 case atStart=>exact⟨0,s.size - at',rfl,by omega,by have:=Uk.out;omega,HR⟩
 case round=>
  obtain⟨pos,fu,rfl,hpl,Gt,HRR⟩:=hrel
  by_cases hp:pos<t.size
  ·have hnx:∀ty,(Instr.next (.pointer (some ⟨V.heap.size,0,none⟩)) true ty).run Tryz.prog (V.iter t pos)=_:=fun ty=>run_next_any V t pos ty hp
   have hwd:=Lib.decode_width_pos t pos hp;obtain⟨c,hc⟩:=exq ((Utf8.decode t pos).1);obtain⟨wd,oU⟩:=exq ((Utf8.decode t pos).2);rw[←hc,←oU]at hnx;rw[←oU]at hwd;have HC:=ast hc;have JC:=ast oU;have HP:=ast hp;have HPL:=ast hpl;have Ik:=ast Gt;have HW:=ast hwd;clear hc oU hp hpl Gt hwd;go_wp2_with fail
   refine(HK.out c _).mono ?_;rintro e w' ⟨rfl,rfl⟩
   by_cases hk:yN c=true
   ·have HX:=ast (show R=pos by
     have:=HRR.out
     cases fu with
     |zero=>have:=Ik.out;have:=HP.out;omega
     |succ fu=>rw[fU,if_pos HP.out,←HC.out,if_pos hk]at this;exact this)
    have WU:(pos:Int)≤100000000:=by have:=HP.out;have:=Uk.out;have:=HS.out;omega
    have hai:(at':Int)≤100000000:=by have:=HH.out;have:=HS.out;omega
    have ZG:(0:Int)≤(pos:Int):=by omega
    go_wp2_with fail
    refine bodyPost_ret (results_none rfl _ _ _) rfl ?_;have hq:=JJ.out (pos+wd) (.int .i64 ((at':Int)+(pos:Int)));have hz:((at'+R:Nat):Int)=(at':Int)+(pos:Int):=by rw[HX.out];omega
    rw[hz];exact⟨rfl,hq.1,hq.2⟩
   ·have xU:yN c=false:=by simpa using hk
    go_wp2_with fail
    go_roundw
    case rel=>
     cases fu with
     |zero=>have:=Ik.out;have:=HP.out;omega
     |succ fu=>
      refine⟨pos+wd,fu,rfl,?_,by have:=Ik.out;have:=HW.out;omega,?_⟩
      ·rw[JC.out];exact ji t pos HP.out
      ·have:=HRR.out
       rw[fU,if_pos HP.out,←HC.out,if_neg hk,←JC.out]at this;exact this
    case measure=>
     have:=HW.out;have:=HP.out;simp;omega
  ·have hnx:∀ty,(Instr.next (.pointer (some ⟨V.heap.size,0,none⟩)) true ty).run Tryz.prog (V.iter t pos)=_:=fun ty=>run_next_end V t pos ty hp
   have HX:=ast (show R=t.size by
    have:=HRR.out
    cases fu with
    |zero=>exact this
    |succ fu=>rw[fU,if_neg hp]at this;exact this)
   clear hp hpl Gt;go_wp2_with fail
   go_end0
   have hq:=JJ.out pos (.int .i64 s.size);have hz:((at'+R:Nat):Int)=(s.size:Int):=by rw[HX.out,Uk.out];have:=HH.out;omega
   rw[hz];exact⟨rfl,hq.1,hq.2⟩
theorem yO(rb:Nat)(s:ByteArray)(at':Nat)
  (w:World) (h:at'≤s.size) (hs:s.size≤100000000) (hb:az w rb #[.string s,.int .i64 at'] 199):
  Calls Tryz.prog 119 #[.pointer (some ⟨rb,0,none⟩),.func (.func 153) #[] #[]] w fun e w'=>e=.returned (.tuple #[])∧az w' rb #[.string s,.int .i64 (at'+fU jP (s.extract at' s.size) (s.size - at') 0:Nat)] 199∧aj (fun k=>k=rb) w w':=by
 have c0:w.cell? ⟨rb,0,none⟩=some (.string s):=hb.cell 0 _ rfl;have c1:w.cell? ⟨rb,1,none⟩=some (.int .i64 at'):=hb.cell 1 _ rfl;have h1:(at':Int)≤(s.size:Int):=by omega
 have h0:(0:Int)≤(at':Int):=by omega
 obtain⟨R,hR⟩:=exq (fU jP (s.extract at' s.size) (s.size - at') 0);rw[←hR];have HR0:=ast hR;clear hR;have HK:=ast Ij;have HB:=ast hb;have HS:=ast hs;have HH:=ast h;clear hb hs h;go_enter Tryz.func119,Tryz.ntmps119
 go_wp2_with fail
 go_still_tail 9,(by kernel_rfl)
 go_wp2_with fail
 obtain⟨V,hV⟩:=exq (w.drew:World);have Oe:V.heap.size=w.heap.size:=by rw[hV];rfl
 have yw:Below w.heap.size w V:=by rw[hV];exact brq.drew
 obtain⟨t,ht⟩:=exq (s.extract at' s.size);have PT:t.size=s.size - at':=by rw[ht];simp
 rw[←hV,←ht];rw[←Oe];have hR:R=fU jP t (s.size - at') 0:=by rw[ht];exact HR0.out
 have v0:=(yw.cell (p:=⟨rb,0,none⟩) HB.out.lt).trans c0;have v1:=(yw.cell (p:=⟨rb,1,none⟩) HB.out.lt).trans c1;have PU:rb<V.heap.size:=by rw[Oe];exact HB.out.lt
 have fv1:V.frozen? ⟨rb,1,none⟩=false:=(yw.frozen (p:=⟨rb,1,none⟩) HB.out.lt).trans (HB.out.frozen 1);have i0:∀p,(V.iter t p).cell? ⟨rb,0,none⟩=some (.string s):=fun p=>(((Below.refl _ V).alloc nrq _).cell (p:=⟨rb,0,none⟩) PU).trans v0
 have i1:∀p,(V.iter t p).cell? ⟨rb,1,none⟩=some (.int .i64 at'):=fun p=>(((Below.refl _ V).alloc nrq _).cell (p:=⟨rb,1,none⟩) PU).trans v1
 have fi1:∀p,(V.iter t p).frozen? ⟨rb,1,none⟩=false:=fun p=>(((Below.refl _ V).alloc nrq _).frozen (p:=⟨rb,1,none⟩) PU).trans fv1
 have JJ:=ast (fun p (u:Value)=>(show az ((V.iter t p).setCell ⟨rb,1,none⟩ u) rb #[.string s,u] 199∧aj (fun k=>k=rb) w ((V.iter t p).setCell ⟨rb,1,none⟩ u)from⟨by have:=(((HB.out.sub yw HB.out.lt).alloc (.stringIter t p)).set (o:=1) u);simpa [World.iter]using this,((aj.au (S:=fun k=>k=rb) yw).alloc _).setCell (p:=⟨rb,1,none⟩) rfl u⟩));have HR:=ast hR;have HT:=ast ht;have Uk:=ast PT;have HVB:=ast yw;have WT:=ast Oe;clear hV ht PT yw Oe hR c0 c1;go_loopw[4] (fun _ wr=>∃(pos fu:Nat),wr=V.iter t pos∧pos≤t.size∧t.size≤pos+fu∧Hid (R=fU jP t fu pos)) (fun _ wr=>t.size - wr.iterPos V.heap.size)
 case atStart=>exact⟨0,s.size - at',rfl,by omega,by have:=Uk.out;omega,HR⟩
 case round=>
  obtain⟨pos,fu,rfl,hpl,Gt,HRR⟩:=hrel
  by_cases hp:pos<t.size
  ·have hnx:∀ty,(Instr.next (.pointer (some ⟨V.heap.size,0,none⟩)) true ty).run Tryz.prog (V.iter t pos)=_:=fun ty=>run_next_any V t pos ty hp
   have hwd:=Lib.decode_width_pos t pos hp;obtain⟨c,hc⟩:=exq ((Utf8.decode t pos).1);obtain⟨wd,oU⟩:=exq ((Utf8.decode t pos).2);rw[←hc,←oU]at hnx;rw[←oU]at hwd;have HC:=ast hc;have JC:=ast oU;have HP:=ast hp;have HPL:=ast hpl;have Ik:=ast Gt;have HW:=ast hwd;clear hc oU hp hpl Gt hwd;go_wp2_with fail
   refine(HK.out c _).mono ?_;rintro e w' ⟨rfl,rfl⟩
   by_cases hk:jP c=true
   ·have HX:=ast (show R=pos by
     have:=HRR.out
     cases fu with
     |zero=>have:=Ik.out;have:=HP.out;omega
     |succ fu=>rw[fU,if_pos HP.out,←HC.out,if_pos hk]at this;exact this)
    have WU:(pos:Int)≤100000000:=by have:=HP.out;have:=Uk.out;have:=HS.out;omega
    have hai:(at':Int)≤100000000:=by have:=HH.out;have:=HS.out;omega
    have ZG:(0:Int)≤(pos:Int):=by omega
    go_wp2_with fail
    refine bodyPost_ret (results_none rfl _ _ _) rfl ?_;have hq:=JJ.out (pos+wd) (.int .i64 ((at':Int)+(pos:Int)));have hz:((at'+R:Nat):Int)=(at':Int)+(pos:Int):=by rw[HX.out];omega
    rw[hz];exact⟨rfl,hq.1,hq.2⟩
   ·have xU:jP c=false:=by simpa using hk
    go_wp2_with fail
    go_roundw
    case rel=>
     cases fu with
     |zero=>have:=Ik.out;have:=HP.out;omega
     |succ fu=>
      refine⟨pos+wd,fu,rfl,?_,by have:=Ik.out;have:=HW.out;omega,?_⟩
      ·rw[JC.out];exact ji t pos HP.out
      ·have:=HRR.out
       rw[fU,if_pos HP.out,←HC.out,if_neg hk,←JC.out]at this;exact this
    case measure=>
     have:=HW.out;have:=HP.out;simp;omega
  ·have hnx:∀ty,(Instr.next (.pointer (some ⟨V.heap.size,0,none⟩)) true ty).run Tryz.prog (V.iter t pos)=_:=fun ty=>run_next_end V t pos ty hp
   have HX:=ast (show R=t.size by
    have:=HRR.out
    cases fu with
    |zero=>exact this
    |succ fu=>rw[fU,if_neg hp]at this;exact this)
   clear hp hpl Gt;go_wp2_with fail
   go_end0
   have hq:=JJ.out pos (.int .i64 s.size);have hz:((at'+R:Nat):Int)=(s.size:Int):=by rw[HX.out,Uk.out];have:=HH.out;omega
   rw[hz];exact⟨rfl,hq.1,hq.2⟩
theorem xm(rb:Nat)(s:ByteArray)(at':Nat)
  (w:World) (h:at'≤s.size) (hs:s.size≤100000000) (hb:az w rb #[.string s,.int .i64 at'] 199):
  Calls Tryz.prog 119 #[.pointer (some ⟨rb,0,none⟩),.func (.func 120) #[] #[]] w fun e w'=>e=.returned (.tuple #[])∧az w' rb #[.string s,.int .i64 (at'+fU pW (s.extract at' s.size) (s.size - at') 0:Nat)] 199∧aj (fun k=>k=rb) w w':=by
 have c0:w.cell? ⟨rb,0,none⟩=some (.string s):=hb.cell 0 _ rfl;have c1:w.cell? ⟨rb,1,none⟩=some (.int .i64 at'):=hb.cell 1 _ rfl;have h1:(at':Int)≤(s.size:Int):=by omega
 have h0:(0:Int)≤(at':Int):=by omega
 obtain⟨R,hR⟩:=exq (fU pW (s.extract at' s.size) (s.size - at') 0);rw[←hR];have HR0:=ast hR;clear hR;have HK:=ast PS;have HB:=ast hb;have HS:=ast hs;have HH:=ast h;clear hb hs h;go_enter Tryz.func119,Tryz.ntmps119
 go_wp2_with fail
 go_still_tail 9,(by kernel_rfl)
 go_wp2_with fail
 obtain⟨V,hV⟩:=exq (w.drew:World);have Oe:V.heap.size=w.heap.size:=by rw[hV];rfl
 have yw:Below w.heap.size w V:=by rw[hV];exact brq.drew
 obtain⟨t,ht⟩:=exq (s.extract at' s.size);have PT:t.size=s.size - at':=by rw[ht];simp
 rw[←hV,←ht];rw[←Oe];have hR:R=fU pW t (s.size - at') 0:=by rw[ht];exact HR0.out
 have v0:=(yw.cell (p:=⟨rb,0,none⟩) HB.out.lt).trans c0;have v1:=(yw.cell (p:=⟨rb,1,none⟩) HB.out.lt).trans c1;have PU:rb<V.heap.size:=by rw[Oe];exact HB.out.lt
 have fv1:V.frozen? ⟨rb,1,none⟩=false:=(yw.frozen (p:=⟨rb,1,none⟩) HB.out.lt).trans (HB.out.frozen 1);have i0:∀p,(V.iter t p).cell? ⟨rb,0,none⟩=some (.string s):=fun p=>(((Below.refl _ V).alloc nrq _).cell (p:=⟨rb,0,none⟩) PU).trans v0
 have i1:∀p,(V.iter t p).cell? ⟨rb,1,none⟩=some (.int .i64 at'):=fun p=>(((Below.refl _ V).alloc nrq _).cell (p:=⟨rb,1,none⟩) PU).trans v1
 have fi1:∀p,(V.iter t p).frozen? ⟨rb,1,none⟩=false:=fun p=>(((Below.refl _ V).alloc nrq _).frozen (p:=⟨rb,1,none⟩) PU).trans fv1
 have JJ:=ast (fun p (u:Value)=>(show az ((V.iter t p).setCell ⟨rb,1,none⟩ u) rb #[.string s,u] 199∧aj (fun k=>k=rb) w ((V.iter t p).setCell ⟨rb,1,none⟩ u)from⟨by have:=(((HB.out.sub yw HB.out.lt).alloc (.stringIter t p)).set (o:=1) u);simpa [World.iter]using this,((aj.au (S:=fun k=>k=rb) yw).alloc _).setCell (p:=⟨rb,1,none⟩) rfl u⟩));have HR:=ast hR;have HT:=ast ht;have Uk:=ast PT;have HVB:=ast yw;have WT:=ast Oe;clear hV ht PT yw Oe hR c0 c1;go_loopw[4] (fun _ wr=>∃(pos fu:Nat),wr=V.iter t pos∧pos≤t.size∧t.size≤pos+fu∧Hid (R=fU pW t fu pos)) (fun _ wr=>t.size - wr.iterPos V.heap.size)
 case atStart=>exact⟨0,s.size - at',rfl,by omega,by have:=Uk.out;omega,HR⟩
 case round=>
  obtain⟨pos,fu,rfl,hpl,Gt,HRR⟩:=hrel
  by_cases hp:pos<t.size
  ·have hnx:∀ty,(Instr.next (.pointer (some ⟨V.heap.size,0,none⟩)) true ty).run Tryz.prog (V.iter t pos)=_:=fun ty=>run_next_any V t pos ty hp
   have hwd:=Lib.decode_width_pos t pos hp;obtain⟨c,hc⟩:=exq ((Utf8.decode t pos).1);obtain⟨wd,oU⟩:=exq ((Utf8.decode t pos).2);rw[←hc,←oU]at hnx;rw[←oU]at hwd;have HC:=ast hc;have JC:=ast oU;have HP:=ast hp;have HPL:=ast hpl;have Ik:=ast Gt;have HW:=ast hwd;clear hc oU hp hpl Gt hwd;go_wp2_with fail
   refine(HK.out c _).mono ?_;rintro e w' ⟨rfl,rfl⟩
   by_cases hk:pW c=true
   ·have HX:=ast (show R=pos by
     have:=HRR.out
     cases fu with
     |zero=>have:=Ik.out;have:=HP.out;omega
     |succ fu=>rw[fU,if_pos HP.out,←HC.out,if_pos hk]at this;exact this)
    have WU:(pos:Int)≤100000000:=by have:=HP.out;have:=Uk.out;have:=HS.out;omega
    have hai:(at':Int)≤100000000:=by have:=HH.out;have:=HS.out;omega
    have ZG:(0:Int)≤(pos:Int):=by omega
    go_wp2_with fail
    refine bodyPost_ret (results_none rfl _ _ _) rfl ?_;have hq:=JJ.out (pos+wd) (.int .i64 ((at':Int)+(pos:Int)));have hz:((at'+R:Nat):Int)=(at':Int)+(pos:Int):=by rw[HX.out];omega
    rw[hz];exact⟨rfl,hq.1,hq.2⟩
   ·have xU:pW c=false:=by simpa using hk
    go_wp2_with fail
    go_roundw
    case rel=>
     cases fu with
     |zero=>have:=Ik.out;have:=HP.out;omega
     |succ fu=>
      refine⟨pos+wd,fu,rfl,?_,by have:=Ik.out;have:=HW.out;omega,?_⟩
      ·rw[JC.out];exact ji t pos HP.out
      ·have:=HRR.out
       rw[fU,if_pos HP.out,←HC.out,if_neg hk,←JC.out]at this;exact this
    case measure=>
     have:=HW.out;have:=HP.out;simp;omega
  ·have hnx:∀ty,(Instr.next (.pointer (some ⟨V.heap.size,0,none⟩)) true ty).run Tryz.prog (V.iter t pos)=_:=fun ty=>run_next_end V t pos ty hp
   have HX:=ast (show R=t.size by
    have:=HRR.out
    cases fu with
    |zero=>exact this
    |succ fu=>rw[fU,if_neg hp]at this;exact this)
   clear hp hpl Gt;go_wp2_with fail
   go_end0
   have hq:=JJ.out pos (.int .i64 s.size);have hz:((at'+R:Nat):Int)=(s.size:Int):=by rw[HX.out,Uk.out];have:=HH.out;omega
   rw[hz];exact⟨rfl,hq.1,hq.2⟩
end
section
theorem PV(t:ByteArray)(pos:Nat)(h:aI t pos<128):Utf8.decode t pos=(aI t pos,1):=by
 have h':(t.get! pos).toNat<128:=h;rw[Lib.decode_at,Lib.decodeN,if_pos h'];rfl
theorem PW(t:ByteArray)(pos:Nat)(h:128≤aI t pos):128≤(Utf8.decode t pos).1∧∀k,k<(Utf8.decode t pos).2→128≤aI t (pos+k):=by
 have e0:(t.get! pos).toNat=aI t pos:=rfl;have e1:(t.get! (pos+1)).toNat=aI t (pos+1):=rfl;have e2:(t.get! (pos+2)).toNat=aI t (pos+2):=rfl;have e3:(t.get! (pos+3)).toNat=aI t (pos+3):=rfl;rw[Lib.decode_at,e0,e1,e2,e3];have key:∀k,k=0→128≤aI t (pos+k):=fun k hk=>by subst hk;exact h
 unfold Lib.decodeN
 repeat' split
 all_goals first
  |omega
  |(refine⟨by simp only;omega,fun k hk=>?_⟩
    simp only at hk
    match k,hk with
    |0,_=>exact key 0 rfl
    |1,_=>omega
    |2,_=>omega
    |3,_=>omega
    |k+4,hk=>omega)
theorem oV(kd:Int→Bool)(p:Nat→Bool)(hlo:∀b:Nat,b<128→kd b=p b)(hhi:∀c b:Nat,128≤c→128≤b→kd c=p b)(t:ByteArray):
  ∀(f pos:Nat),t.size - pos≤f→pos≤t.size→fU kd t f pos=scan p t pos
 |0,pos,hf,hp=>by
  rw[fU];exact(jJ (by omega) nrq (fun x h1 h2=>by omega) (Or.inl rfl)).symm
 |f+1,pos,hf,hp=>by
  rw[fU]
  by_cases h:pos<t.size
  ·rw[if_pos h]
   have hw:=Lib.decode_width_pos t pos h;have he:=ji t pos h;have ih:=oV kd p hlo hhi t f (pos+(Utf8.decode t pos).2) (by omega) he;obtain⟨a1,a2,a3,a4⟩:=bJ p t (pos+(Utf8.decode t pos).2) he
   by_cases hb:aI t pos<128
   ·have hd:=PV t pos hb
    by_cases hk:kd (Utf8.decode t pos).1=true
    ·rw[if_pos hk]
     refine(jJ nrq (by omega) (fun x h1 h2=>by omega) (Or.inr ?_)).symm;rw[hd]at hk;rw[←hlo _ hb];exact hk
    ·rw[if_neg hk,ih]
     refine(jJ (by omega) a2 (fun x h1 h2=>?_) a4).symm
     by_cases hx:x=pos
     ·subst hx
      rw[hd]at hk;rw[←hlo _ hb];simpa using hk
     ·exact a3 x (by rw[hd];simp only;omega) h2
   ·obtain⟨d1,d2⟩:=PW t pos (by omega)
    by_cases hk:kd (Utf8.decode t pos).1=true
    ·rw[if_pos hk]
     refine(jJ nrq (by omega) (fun x h1 h2=>by omega) (Or.inr ?_)).symm;rw[←hhi _ _ d1 (by omega)];exact hk
    ·rw[if_neg hk,ih]
     refine(jJ (by omega) a2 (fun x h1 h2=>?_) a4).symm
     by_cases hx:x<pos+(Utf8.decode t pos).2
     ·have:=d2 (x - pos) (by omega)
      rw[show pos+(x - pos)=x by omega]at this;rw[←hhi _ _ d1 this];simpa using hk
     ·exact a3 x (by omega) h2
  ·rw[if_neg h]
   exact(jJ (by omega) nrq (fun x h1 h2=>by omega) (Or.inl rfl)).symm
theorem yx(s:ByteArray)(a k:Nat)(h:a+k<s.size):aI (s.extract a s.size) k=aI s (a+k):=by
 have h1:k<(s.extract a s.size).size:=by simp;omega
 rw[←dC _ _ h1,←dC _ _ h];simp[ByteArray.getElem_extract]
theorem oW(p:Nat→Bool)(s:ByteArray)(a:Nat)(h:a≤s.size):a+scan p (s.extract a s.size) 0=scan p s a:=by
 have hs:(s.extract a s.size).size=s.size - a:=by simp
 obtain⟨a1,a2,a3,a4⟩:=bJ p (s.extract a s.size) 0 (by omega);rw[hs]at a2 a4;refine(jJ (by omega) (by omega) (fun x h1 h2=>?_) ?_).symm
 ·have:=a3 (x - a) (by omega) (by omega)
  rw[yx s a (x - a) (by omega),show a+(x - a)=x by omega]at this;exact this
 ·rcases a4 with a4|a4
  ·exact Or.inl (by omega)
  ·by_cases e:scan p (s.extract a s.size) 0=s.size - a
   ·exact Or.inl (by omega)
   ·exact Or.inr (by rw[←yx s a _ (by omega)];exact a4)
theorem tC(b:Nat):jP (b:Int)=blk b:=by
 rw[Bool.eq_iff_iff];simp only[jP,blk,Bool.or_eq_true,beq_iff_eq];omega
theorem Il(b:Nat):yN (b:Int)=Es b:=by
 have:=tC b;simp only[jP]at this;simp only[yN,Es,this]
theorem DT(b:Nat):pW (b:Int)=oD b:=by
 rw[Bool.eq_iff_iff];simp only[pW,oD,beq_iff_eq];omega
theorem E8(b:Nat)(h:128≤b):blk b=false:=by
 rw[Bool.eq_false_iff];simp only[blk,ne_eq,Bool.or_eq_true,beq_iff_eq];omega
theorem Ul(b:Nat)(h:128≤b):oD b=false:=by
 rw[Bool.eq_false_iff];simp only[oD,ne_eq,beq_iff_eq];omega
theorem KO(s:ByteArray)(a:Nat)(h:a≤s.size):a+fU jP (s.extract a s.size) (s.size - a) 0=scan blk s a:=by
 rw[oV jP blk (fun b _=>tC b) (fun c b hc hb=>by rw[tC,E8 c hc,E8 b hb]) _ _ _ (by simp) (by omega),oW blk s a h]
theorem Um(s:ByteArray)(a:Nat)(h:a≤s.size):a+fU yN (s.extract a s.size) (s.size - a) 0=scan Es s a:=by
 rw[oV yN Es (fun b _=>Il b) (fun c b hc hb=>by rw[Il];simp only[Es,E8 c hc,E8 b hb]) _ _ _ (by simp) (by omega),oW Es s a h]
theorem PX(s:ByteArray)(a:Nat)(h:a≤s.size):a+fU pW (s.extract a s.size) (s.size - a) 0=scan oD s a:=by
 rw[oV pW oD (fun b _=>DT b) (fun c b hc hb=>by rw[DT,Ul c hc,Ul b hb]) _ _ _ (by simp) (by omega),oW oD s a h]
def Fa(s:ByteArray)(a:Nat):Array Value:= #[.string s,.int .i64 a]
def dL(s:ByteArray)(a:Nat):Nat:=scan Es s a
def dY(s:ByteArray)(a:Nat):Nat:=scan blk s (scan Es s a)
theorem az.Fa{w:World}{b:Nat}{t:TypeId}{s:ByteArray}{a:Nat}(h:az w b (Fa s a) t):w.cell? ⟨b,0,none⟩=some (.string s)∧w.cell? ⟨b,1,none⟩=some (.int .i64 a):=⟨h.cell 0 _ rfl,h.cell 1 _ rfl⟩
theorem abg(rb:Nat)(s:ByteArray)(a:Nat)(w:World)(h:a≤s.size)(hs:s.size≤100000000)(hb:az w rb (Fa s a) 199):
  Calls Tryz.prog 118 #[.pointer (some ⟨rb,0,none⟩)] w fun e w'=>e=.returned (.agg #[.string (s.extract (dL s a) (dY s a)),.int .i64 (dL s a)])∧az w' rb (Fa s (dY s a)) 199∧aj (fun k=>k=rb) w w':=by
 have hB:=(bJ Es s a h);have hE:=(bJ blk s (scan Es s a) hB.2.1);obtain⟨x,hx⟩:=exq (dL s a);obtain⟨y,hy⟩:=exq (dY s a);have hxs:x≤s.size:=by rw[hx];exact hB.2.1
 have XO:x≤y:=by rw[hx,hy];exact hE.1
 have hys:y≤s.size:=by rw[hy];exact hE.2.1
 have p1:=Um s a h;have p2:=KO s x hxs;have hyx:scan blk s x=y:=by rw[hx,hy];rfl
 have hxa:scan Es s a=x:=by rw[hx];rfl
 rw[hxa]at p1;rw[hyx]at p2;rw[←hx,←hy];have hlt:=hb.lt;have H1:=ast (CJ rb s a (w.alloc (.cells #[.string ⟨#[]⟩,.int .i64 0] 163 (0,0))) h hs (az.alloc hb _));rw[p1]at H1;have H2:=ast (fun w' (hb':az w' rb (Fa s x) 199)=>yO rb s x w' hxs hs hb');rw[p2]at H2;have hk0:=ay w #[.string ⟨#[]⟩,.int .i64 0] 163;have HX:=ast hxs;have HXY:=ast XO;have ZH:=ast hys;have HK0:=ast hk0;have HS:=ast hs;clear hB hE hx hy hxs XO hys p1 p2 hyx hxa h hs hb hk0;go_enter Tryz.func118,Tryz.ntmps118
 go_wp2_with fail
 refine H1.out.mono ?_;rintro e w1 ⟨rfl,hb1,hc1⟩;have dM:=HK0.out.aA hc1 (fun e=>by omega);obtain⟨c0,c1⟩:=az.Fa (s:=s) (a:=x) hb1;have HB1:=ast (show az w1 rb (Fa s x) 199 from hb1);have BI:=ast (((aj.refl (fun k=>k=rb) w).alloc _).trans hc1);have pU:=ast dM;clear H1 HK0 hb1 hc1 dM;go_wp2_with fail
 refine(H2.out w1 HB1.out).mono ?_;rintro e w2 ⟨rfl,hb2,hc2⟩;have hk2:=pU.out.aA hc2 (fun e=>by omega);clear c0 c1;obtain⟨c0,c1⟩:=az.Fa (s:=s) (a:=y) hb2;have k0:w2.cell? ⟨w.heap.size,0,none⟩=some (.string ⟨#[]⟩):=hk2.cell 0 _ rfl;have k1:w2.cell? ⟨w.heap.size,1,none⟩=some (.int .i64 0):=hk2.cell 1 _ rfl;have f0:=hk2.frozen 0;have f1:=hk2.frozen 1;have gK:=ast (show az w2 rb (Fa s y) 199 from hb2);have Fb:=ast (BI.out.trans hc2);have hx0:(0:Int)≤(x:Int):=by omega
 have XO:(x:Int)≤(y:Int):=by have:=HXY.out;omega
 have hys:(y:Int)≤(s.size:Int):=by have:=ZH.out;omega
 clear H2 HB1 BI pU hb2 hc2 hk2;go_wp2_with fail
 go_still_tail 12,(by kernel_rfl)
 go_wp2_with fail
 refine bodyPost_ret (v:=.agg #[.string (s.extract x y),.int .i64 x]) (by simp[results,Tryz.results118,go_sem,k0,k1]) rfl ⟨rfl,?_,?_⟩
 ·exact((gK.out.setOther (by simp;omega) _).setOther (by simp;omega) _)
 ·exact(Fb.out.jG ((((aj.refl (fun k=>k=w.heap.size) w2).setCell (p:=⟨w.heap.size,0,none⟩) rfl _).setCell (p:=⟨w.heap.size,1,none⟩) rfl _)) (fun k hk e=>by omega)).drew
end
section
def dF(s:ByteArray):Nat→Nat→ByteArray×Nat×Nat
 |0,a=>(s.extract (dL s a) (dY s a),dL s a,dY s a)
 |f+1,a=>if((s.extract (dL s a) (dY s a)).toList == [92])=true then dF s f (scan oD s (dY s a))else(s.extract (dL s a) (dY s a),dL s a,dY s a)
def qP(w:World)(rb:Nat):Nat:=match w.cell? ⟨rb,1,none⟩with|some (.int _ n)=>n.toNat|_=>0
theorem kW(s:ByteArray)(a:Nat)(h:a≤s.size):a≤dL s a∧dL s a≤dY s a∧dY s a≤s.size:=by
 have hB:=(bJ Es s a h);have hE:=(bJ blk s (scan Es s a) hB.2.1);exact⟨hB.1,hE.1,hE.2.1⟩
theorem zl(rb:Nat)(s:ByteArray)(a:Nat)(w:World)(h:a≤s.size)(hs:s.size≤100000000)(hb:az w rb (Fa s a) 199):
  Calls Tryz.prog 78 #[.pointer (some ⟨rb,0,none⟩)] w fun e w'=>e=.returned (.agg #[.string (dF s (s.size - a) a).1,.int .i64 (dF s (s.size - a) a).2.1])∧az w' rb (Fa s (dF s (s.size - a) a).2.2) 199∧aj (fun k=>k=rb) w w':=by
 obtain⟨R,hR⟩:=exq (dF s (s.size - a) a);rw[←hR];have hlt:=hb.lt;have HR:=ast hR;have HB:=ast hb;have HH:=ast h;have HS:=ast hs;clear hR hb h hs;go_enter Tryz.func78,Tryz.ntmps78
 go_wp2_with fail
 go_loopw[3] (fun _ wr=>∃(b f:Nat),b≤s.size∧s.size - b≤f∧Hid (R=dF s f b)∧az wr rb (Fa s b) 199∧az wr w.heap.size #[.string ⟨#[]⟩,.int .i64 0] 163∧aj (fun k=>k=rb) w wr) (fun _ wr=>s.size - qP wr rb)
 case atStart=>exact⟨a,s.size - a,HH.out,nrq,HR,HB.out.alloc _,ay w _ _,(aj.refl _ w).alloc _⟩
 case round=>
  clear HR;obtain⟨b,f,wU,hf,HR,hb,hk,hc⟩:=hrel;obtain⟨l1,l2,l3⟩:=kW s b wU;have H1:=ast (abg rb s b wr wU HS.out hb);have hat:qP wr rb=b:=by unfold qP;rw[(az.Fa hb).2];simp
  have vw:=ast hat;have hL:=ast (fun w' (hb':az w' rb (Fa s (dY s b)) 199)=>xm rb s (dY s b) w' l3 HS.out hb');rw[PX s (dY s b) l3]at hL;obtain⟨t,ht⟩:=exq (s.extract (dL s b) (dY s b));rw[←ht]at H1;obtain⟨x,hx⟩:=exq (dL s b);obtain⟨y,hy⟩:=exq (dY s b);rw[←hx,←hy]at H1;rw[←hy]at hL;have HTT:=ast ht;have HX:=ast hx;have HY:=ast hy;have DU:=ast l1;have HL2:=ast l2;have ZI:=ast l3;have HK:=ast hk;have HC:=ast hc;have DK:=ast wU;have HF:=ast hf;clear hat ht hx hy l1 l2 l3 hk hc hb wU hf;go_wp2_with fail
  refine H1.out.mono ?_;rintro e w1 ⟨rfl,hb1,hc1⟩;have dM:=HK.out.aA hc1 (fun e=>by omega);have k0:w1.cell? ⟨w.heap.size,0,none⟩=some (.string ⟨#[]⟩):=dM.cell 0 _ rfl;have k1:w1.cell? ⟨w.heap.size,1,none⟩=some (.int .i64 0):=dM.cell 1 _ rfl;have f0:=dM.frozen 0;have f1:=dM.frozen 1;have hl1:=dM.lt;have HB1:=ast hb1;have BI:=ast (HC.out.trans hc1);have pU:=ast dM;clear H1 hb1 hc1 dM HK HC
  by_cases hn:(t.toList == [92])=true
  ·have hn2:(t.toList != [92])=false:=by simp at hn ⊢;exact hn
   go_wp2_with fail
   refine(hL.out _ (HB1.out.alloc _)).mono ?_;rintro e w2 ⟨rfl,hb2,hc2⟩;go_wp2_with fail
   go_roundw
   case rel=>
    have hlt2:x<y:=by
     have h3:t.size=y - x:=by rw[HTT.out,HX.out,HY.out];have:=ZI.out;simp;omega
     have h4:=ba_of_list hn;have h5:t.size=1:=by rw[h4];rfl
     omega
    have hsp:=bJ oD s y (by rw[HY.out];exact ZI.out)
    cases f with
    |zero=>exfalso;have:=HF.out;have:=DU.out;have:=HX.out;have:=HY.out;have:=ZI.out;omega
    |succ f=>
     refine⟨scan oD s y,f,hsp.2.1,?_,?_,hb2,(pU.out.alloc _).aA hc2 (fun e=>by omega),(BI.out.alloc _).trans hc2⟩
     ·have:=HF.out;have:=DU.out;have:=HX.out;have:=HY.out;omega
     ·have:=HR.out
      rw[dF,←HTT.out,if_pos hn,←HY.out]at this;exact this
   case measure=>
    have hlt2:x<y:=by
     have h3:t.size=y - x:=by rw[HTT.out,HX.out,HY.out];have:=ZI.out;simp;omega
     have h4:=ba_of_list hn;have h5:t.size=1:=by rw[h4];rfl
     omega
    have hsp:=bJ oD s y (by rw[HY.out];exact ZI.out)
    have e1:qP w2 rb=scan oD s y:=by
     unfold qP;rw[show w2.cell? ⟨rb,1,none⟩=some (.int .i64 (scan oD s y))from hb2.cell 1 _ rfl];simp
    rw[e1,vw.out];have:=DU.out;have:=HX.out;have:=HY.out;have:=ZI.out;omega
  ·have hn2:(t.toList != [92])=true:=by simp at hn ⊢;exact hn
   go_wp2_with fail
   have hRe:R=(t,x,y):=by
    have:=HR.out
    cases f with
    |zero=>rw[dF,←HTT.out,←HX.out,←HY.out]at this;exact this
    |succ f=>rw[dF,←HTT.out,if_neg hn,←HX.out,←HY.out]at this;exact this
   rw[hRe];refine bodyPost_ret (v:=.agg #[.string t,.int .i64 x]) (by simp[results,Tryz.results78,go_sem,k0,k1,hl1]) rfl ⟨rfl,?_,?_⟩
   ·exact((HB1.out.setOther (by simp;omega) _).setOther (by simp;omega) _).alloc _
   ·exact(BI.out.jG ((((aj.refl (fun k=>k=w.heap.size) w1).setCell (p:=⟨w.heap.size,0,none⟩) rfl _).setCell (p:=⟨w.heap.size,1,none⟩) rfl _)) (fun k hk e=>by omega)).alloc _
end
end Go.Proofs.YtcphhbofjkenaaaGreatDoor
