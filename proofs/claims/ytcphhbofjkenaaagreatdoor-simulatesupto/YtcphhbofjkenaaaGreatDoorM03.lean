import Derived.Test.YtcphhbofjkenaaaGreatDoorM00
import Derived.Test.YtcphhbofjkenaaaGreatDoorRows
import Derived.WalkLawsBesides
import Derived.WalkSpells
namespace Go.Proofs.YtcphhbofjkenaaaGreatDoor
open Go Go.RowKit Proofs.Tryz
set_option linter.unusedVariables false
set_option linter.unusedSimpArgs false
set_option maxRecDepth 100000
set_option maxHeartbeats 16000000
theorem fX{p:Prop}(h:p:=by
  go_enter func193,ntmps193
  go_wp2
  go_ret3
  exact⟨rfl,rfl⟩):p:=h
section
open Go.RowKit
theorem ZT(w:World):
  Calls prog 193 #[.string ⟨#[43]⟩] w fun e w'=>e=.returned (.tuple #[ae 2,ae 1,.bool true])∧w'=w:=by
 exact fX
theorem VU(w:World):
  Calls prog 193 #[.string ⟨#[45]⟩] w fun e w'=>e=.returned (.tuple #[ae 2,ae 1,.bool true])∧w'=w:=by
 exact fX
theorem SM(w:World):
  Calls prog 193 #[.string ⟨#[42]⟩] w fun e w'=>e=.returned (.tuple #[ae 2,ae 1,.bool true])∧w'=w:=by
 exact fX
theorem ZF(w:World):
  Calls prog 193 #[.string ⟨#[97,110,100]⟩] w fun e w'=>e=.returned (.tuple #[ae 2,ae 1,.bool true])∧w'=w:=by
 exact fX
theorem Vv(w:World):
  Calls prog 193 #[.string ⟨#[111,114]⟩] w fun e w'=>e=.returned (.tuple #[ae 2,ae 1,.bool true])∧w'=w:=by
 exact fX
theorem Zo(w:World):
  Calls prog 193 #[.string ⟨#[120,111,114]⟩] w fun e w'=>e=.returned (.tuple #[ae 2,ae 1,.bool true])∧w'=w:=by
 exact fX
theorem aaN(w:World):
  Calls prog 193 #[.string ⟨#[47]⟩] w fun e w'=>e=.returned (.tuple #[ae 2,ae 1,.bool true])∧w'=w:=by
 exact fX
theorem Th(w:World):
  Calls prog 193 #[.string ⟨#[109,111,100]⟩] w fun e w'=>e=.returned (.tuple #[ae 2,ae 1,.bool true])∧w'=w:=by
 exact fX
theorem VG(w:World):
  Calls prog 193 #[.string ⟨#[61]⟩] w fun e w'=>e=.returned (.tuple #[ae 2,ae 1,.bool true])∧w'=w:=by
 exact fX
theorem TU(w:World):
  Calls prog 193 #[.string ⟨#[60]⟩] w fun e w'=>e=.returned (.tuple #[ae 2,ae 1,.bool true])∧w'=w:=by
 exact fX
theorem VC(w:World):
  Calls prog 193 #[.string ⟨#[62]⟩] w fun e w'=>e=.returned (.tuple #[ae 2,ae 1,.bool true])∧w'=w:=by
 exact fX
theorem Sn(w:World):
  Calls prog 193 #[.string ⟨#[109,105,110]⟩] w fun e w'=>e=.returned (.tuple #[ae 2,ae 1,.bool true])∧w'=w:=by
 exact fX
theorem Xf(w:World):
  Calls prog 193 #[.string ⟨#[109,97,120]⟩] w fun e w'=>e=.returned (.tuple #[ae 2,ae 1,.bool true])∧w'=w:=by
 exact fX
theorem ac2(w:World):
  Calls prog 193 #[.string ⟨#[110,105,112]⟩] w fun e w'=>e=.returned (.tuple #[ae 2,ae 1,.bool true])∧w'=w:=by
 exact fX
theorem Yc(w:World):
  Calls prog 193 #[.string ⟨#[110,101,103,97,116,101]⟩] w fun e w'=>e=.returned (.tuple #[ae 1,ae 1,.bool true])∧w'=w:=by
 exact fX
theorem ac1(w:World):
  Calls prog 193 #[.string ⟨#[97,98,115]⟩] w fun e w'=>e=.returned (.tuple #[ae 1,ae 1,.bool true])∧w'=w:=by
 exact fX
theorem VE(w:World):
  Calls prog 193 #[.string ⟨#[48,61]⟩] w fun e w'=>e=.returned (.tuple #[ae 1,ae 1,.bool true])∧w'=w:=by
 exact fX
theorem UU(w:World):
  Calls prog 193 #[.string ⟨#[64]⟩] w fun e w'=>e=.returned (.tuple #[ae 1,ae 1,.bool true])∧w'=w:=by
 exact fX
theorem ach(w:World):
  Calls prog 193 #[.string ⟨#[100,117,112]⟩] w fun e w'=>e=.returned (.tuple #[ae 1,ae 2,.bool true])∧w'=w:=by
 exact fX
theorem Zs(w:World):
  Calls prog 193 #[.string ⟨#[100,114,111,112]⟩] w fun e w'=>e=.returned (.tuple #[ae 1,ae 0,.bool true])∧w'=w:=by
 exact fX
theorem S8(w:World):
  Calls prog 193 #[.string ⟨#[111,117,116]⟩] w fun e w'=>e=.returned (.tuple #[ae 1,ae 0,.bool true])∧w'=w:=by
 exact fX
theorem abY(w:World):
  Calls prog 193 #[.string ⟨#[115,119,97,112]⟩] w fun e w'=>e=.returned (.tuple #[ae 2,ae 2,.bool true])∧w'=w:=by
 exact fX
theorem acg(w:World):
  Calls prog 193 #[.string ⟨#[111,118,101,114]⟩] w fun e w'=>e=.returned (.tuple #[ae 2,ae 3,.bool true])∧w'=w:=by
 exact fX
theorem U3(w:World):
  Calls prog 193 #[.string ⟨#[116,117,99,107]⟩] w fun e w'=>e=.returned (.tuple #[ae 2,ae 3,.bool true])∧w'=w:=by
 exact fX
theorem Sj(w:World):
  Calls prog 193 #[.string ⟨#[114,111,116]⟩] w fun e w'=>e=.returned (.tuple #[ae 3,ae 3,.bool true])∧w'=w:=by
 exact fX
theorem acA(w:World):
  Calls prog 193 #[.string ⟨#[33]⟩] w fun e w'=>e=.returned (.tuple #[ae 2,ae 0,.bool true])∧w'=w:=by
 exact fX
theorem Tm(w:World):
  Calls prog 193 #[.string ⟨#[105,110]⟩] w fun e w'=>e=.returned (.tuple #[ae 0,ae 1,.bool true])∧w'=w:=by
 exact fX
theorem XD(w:World):
  Calls prog 193 #[.string ⟨#[105]⟩] w fun e w'=>e=.returned (.tuple #[ae 0,ae 1,.bool true])∧w'=w:=by
 exact fX
theorem V9(s:ByteArray)(w:World)(h0:(s.toList == [43])=false)(h1:(s.toList == [45])=false)(h2:(s.toList == [42])=false)(h3:(s.toList == [97,110,100])=false)(h4:(s.toList == [111,114])=false)(h5:(s.toList == [120,111,114])=false)(h6:(s.toList == [47])=false)(h7:(s.toList == [109,111,100])=false)(h8:(s.toList == [61])=false)(h9:(s.toList == [60])=false)(h10:(s.toList == [62])=false)(h11:(s.toList == [109,105,110])=false)(iW:(s.toList == [109,97,120])=false)(h13:(s.toList == [110,105,112])=false)(h14:(s.toList == [110,101,103,97,116,101])=false)(qx:(s.toList == [97,98,115])=false)(h16:(s.toList == [48,61])=false)(h17:(s.toList == [64])=false)(h18:(s.toList == [100,117,112])=false)(h19:(s.toList == [100,114,111,112])=false)(h20:(s.toList == [111,117,116])=false)(h21:(s.toList == [115,119,97,112])=false)(h22:(s.toList == [111,118,101,114])=false)(h23:(s.toList == [116,117,99,107])=false)(h24:(s.toList == [114,111,116])=false)(h25:(s.toList == [33])=false)(h26:(s.toList == [105,110])=false)(h27:(s.toList == [105])=false):
  Calls prog 193 #[.string s] w fun e w'=>e=.returned (.tuple #[ae 0,ae 0,.bool false])∧w'=w:=by
 exact fX
theorem ba_of_list{s:ByteArray}{l:List UInt8}(h:(s.toList == l)=true):s=⟨l.toArray⟩:=by
 have e:s.data.toList=l:=by rw[←Go.Lib.toList_data];simpa using h
 cases s with
 |mk d=>simp at e;subst e;simp
theorem lZ(l:List UInt8):(⟨l.toArray⟩:ByteArray).toList=l:=by rw[Go.Lib.toList_data]
theorem iF(s:ByteArray)(w:World):
  Calls prog 193 #[.string s] w fun e w'=>e=.returned (.tuple #[ae (bD s).1,ae (bD s).2.1,.bool (bD s).2.2])∧w'=w:=by
 by_cases h0:(s.toList == [43])=true
 ·rw[ba_of_list h0]
  have e:bD ⟨[43].toArray⟩=(2,1,true):=gG;rw[e];exact ZT w
 by_cases h1:(s.toList == [45])=true
 ·rw[ba_of_list h1]
  have e:bD ⟨[45].toArray⟩=(2,1,true):=gG;rw[e];exact VU w
 by_cases h2:(s.toList == [42])=true
 ·rw[ba_of_list h2]
  have e:bD ⟨[42].toArray⟩=(2,1,true):=gG;rw[e];exact SM w
 by_cases h3:(s.toList == [97,110,100])=true
 ·rw[ba_of_list h3]
  have e:bD ⟨[97,110,100].toArray⟩=(2,1,true):=gG;rw[e];exact ZF w
 by_cases h4:(s.toList == [111,114])=true
 ·rw[ba_of_list h4]
  have e:bD ⟨[111,114].toArray⟩=(2,1,true):=gG;rw[e];exact Vv w
 by_cases h5:(s.toList == [120,111,114])=true
 ·rw[ba_of_list h5]
  have e:bD ⟨[120,111,114].toArray⟩=(2,1,true):=gG;rw[e];exact Zo w
 by_cases h6:(s.toList == [47])=true
 ·rw[ba_of_list h6]
  have e:bD ⟨[47].toArray⟩=(2,1,true):=gG;rw[e];exact aaN w
 by_cases h7:(s.toList == [109,111,100])=true
 ·rw[ba_of_list h7]
  have e:bD ⟨[109,111,100].toArray⟩=(2,1,true):=gG;rw[e];exact Th w
 by_cases h8:(s.toList == [61])=true
 ·rw[ba_of_list h8]
  have e:bD ⟨[61].toArray⟩=(2,1,true):=gG;rw[e];exact VG w
 by_cases h9:(s.toList == [60])=true
 ·rw[ba_of_list h9]
  have e:bD ⟨[60].toArray⟩=(2,1,true):=gG;rw[e];exact TU w
 by_cases h10:(s.toList == [62])=true
 ·rw[ba_of_list h10]
  have e:bD ⟨[62].toArray⟩=(2,1,true):=gG;rw[e];exact VC w
 by_cases h11:(s.toList == [109,105,110])=true
 ·rw[ba_of_list h11]
  have e:bD ⟨[109,105,110].toArray⟩=(2,1,true):=gG;rw[e];exact Sn w
 by_cases iW:(s.toList == [109,97,120])=true
 ·rw[ba_of_list iW]
  have e:bD ⟨[109,97,120].toArray⟩=(2,1,true):=gG;rw[e];exact Xf w
 by_cases h13:(s.toList == [110,105,112])=true
 ·rw[ba_of_list h13]
  have e:bD ⟨[110,105,112].toArray⟩=(2,1,true):=gG;rw[e];exact ac2 w
 by_cases h14:(s.toList == [110,101,103,97,116,101])=true
 ·rw[ba_of_list h14]
  have e:bD ⟨[110,101,103,97,116,101].toArray⟩=(1,1,true):=gG;rw[e];exact Yc w
 by_cases qx:(s.toList == [97,98,115])=true
 ·rw[ba_of_list qx]
  have e:bD ⟨[97,98,115].toArray⟩=(1,1,true):=gG;rw[e];exact ac1 w
 by_cases h16:(s.toList == [48,61])=true
 ·rw[ba_of_list h16]
  have e:bD ⟨[48,61].toArray⟩=(1,1,true):=gG;rw[e];exact VE w
 by_cases h17:(s.toList == [64])=true
 ·rw[ba_of_list h17]
  have e:bD ⟨[64].toArray⟩=(1,1,true):=gG;rw[e];exact UU w
 by_cases h18:(s.toList == [100,117,112])=true
 ·rw[ba_of_list h18]
  have e:bD ⟨[100,117,112].toArray⟩=(1,2,true):=gG;rw[e];exact ach w
 by_cases h19:(s.toList == [100,114,111,112])=true
 ·rw[ba_of_list h19]
  have e:bD ⟨[100,114,111,112].toArray⟩=(1,0,true):=gG;rw[e];exact Zs w
 by_cases h20:(s.toList == [111,117,116])=true
 ·rw[ba_of_list h20]
  have e:bD ⟨[111,117,116].toArray⟩=(1,0,true):=gG;rw[e];exact S8 w
 by_cases h21:(s.toList == [115,119,97,112])=true
 ·rw[ba_of_list h21]
  have e:bD ⟨[115,119,97,112].toArray⟩=(2,2,true):=gG;rw[e];exact abY w
 by_cases h22:(s.toList == [111,118,101,114])=true
 ·rw[ba_of_list h22]
  have e:bD ⟨[111,118,101,114].toArray⟩=(2,3,true):=gG;rw[e];exact acg w
 by_cases h23:(s.toList == [116,117,99,107])=true
 ·rw[ba_of_list h23]
  have e:bD ⟨[116,117,99,107].toArray⟩=(2,3,true):=gG;rw[e];exact U3 w
 by_cases h24:(s.toList == [114,111,116])=true
 ·rw[ba_of_list h24]
  have e:bD ⟨[114,111,116].toArray⟩=(3,3,true):=gG;rw[e];exact Sj w
 by_cases h25:(s.toList == [33])=true
 ·rw[ba_of_list h25]
  have e:bD ⟨[33].toArray⟩=(2,0,true):=gG;rw[e];exact acA w
 by_cases h26:(s.toList == [105,110])=true
 ·rw[ba_of_list h26]
  have e:bD ⟨[105,110].toArray⟩=(0,1,true):=gG;rw[e];exact Tm w
 by_cases h27:(s.toList == [105])=true
 ·rw[ba_of_list h27]
  have e:bD ⟨[105].toArray⟩=(0,1,true):=gG;rw[e];exact XD w
 have e:bD s=(0,0,false):=by
  unfold bD thereL
  have:tab.find? (fun r=>r.1 == s.toList)=none:=by
   rw[List.find?_eq_none];intro r hr;simp only[tab,er,List.not_mem_nil,or_false]at hr;simp only[beq_iff_eq]at *;rcases hr with rfl|rfl|rfl|rfl|rfl|rfl|rfl|rfl|rfl|rfl|rfl|rfl|rfl|rfl|rfl|rfl|rfl|rfl|rfl|rfl|rfl|rfl|rfl|rfl|rfl|rfl|rfl|rfl<;>(intro e;simp only at e;simp_all)
  rw[this]
 rw[e];exact V9 s w (fO.2 h0) (fO.2 h1) (fO.2 h2) (fO.2 h3) (fO.2 h4) (fO.2 h5) (fO.2 h6) (fO.2 h7) (fO.2 h8) (fO.2 h9) (fO.2 h10) (fO.2 h11) (fO.2 iW) (fO.2 h13) (fO.2 h14) (fO.2 qx) (fO.2 h16) (fO.2 h17) (fO.2 h18) (fO.2 h19) (fO.2 h20) (fO.2 h21) (fO.2 h22) (fO.2 h23) (fO.2 h24) (fO.2 h25) (fO.2 h26) (fO.2 h27)
end
end Go.Proofs.YtcphhbofjkenaaaGreatDoor
