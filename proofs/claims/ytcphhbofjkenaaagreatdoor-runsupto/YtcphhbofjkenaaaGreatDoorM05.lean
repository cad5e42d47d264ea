import Derived.Test.YtcphhbofjkenaaaGreatDoorM00
import Derived.Test.YtcphhbofjkenaaaGreatDoorRows
import Derived.WalkLawsBesides
import Derived.WalkSpells
namespace Go.Proofs.YtcphhbofjkenaaaGreatDoor
open Go Go.RowKit
set_option linter.unusedVariables false
set_option linter.unusedSimpArgs false
set_option maxRecDepth 100000
set_option maxHeartbeats 16000000
section
open Go.RowKit
theorem Xh(w:World):
  Calls Tryz.prog 193 #[.string ⟨#[43]⟩] w fun e w'=>e=.returned (.tuple #[.int .i64 2,.int .i64 1,.bool true])∧w'=w:=by
 go_enter Tryz.func193,Tryz.ntmps193
 go_wp2
 go_ret3
 exact⟨rfl,rfl⟩
theorem Xi(w:World):
  Calls Tryz.prog 193 #[.string ⟨#[45]⟩] w fun e w'=>e=.returned (.tuple #[.int .i64 2,.int .i64 1,.bool true])∧w'=w:=by
 go_enter Tryz.func193,Tryz.ntmps193
 go_wp2
 go_ret3
 exact⟨rfl,rfl⟩
theorem Xj(w:World):
  Calls Tryz.prog 193 #[.string ⟨#[42]⟩] w fun e w'=>e=.returned (.tuple #[.int .i64 2,.int .i64 1,.bool true])∧w'=w:=by
 go_enter Tryz.func193,Tryz.ntmps193
 go_wp2
 go_ret3
 exact⟨rfl,rfl⟩
theorem Xk(w:World):
  Calls Tryz.prog 193 #[.string ⟨#[97,110,100]⟩] w fun e w'=>e=.returned (.tuple #[.int .i64 2,.int .i64 1,.bool true])∧w'=w:=by
 go_enter Tryz.func193,Tryz.ntmps193
 go_wp2
 go_ret3
 exact⟨rfl,rfl⟩
theorem Xl(w:World):
  Calls Tryz.prog 193 #[.string ⟨#[111,114]⟩] w fun e w'=>e=.returned (.tuple #[.int .i64 2,.int .i64 1,.bool true])∧w'=w:=by
 go_enter Tryz.func193,Tryz.ntmps193
 go_wp2
 go_ret3
 exact⟨rfl,rfl⟩
theorem Xm(w:World):
  Calls Tryz.prog 193 #[.string ⟨#[120,111,114]⟩] w fun e w'=>e=.returned (.tuple #[.int .i64 2,.int .i64 1,.bool true])∧w'=w:=by
 go_enter Tryz.func193,Tryz.ntmps193
 go_wp2
 go_ret3
 exact⟨rfl,rfl⟩
theorem Xn(w:World):
  Calls Tryz.prog 193 #[.string ⟨#[47]⟩] w fun e w'=>e=.returned (.tuple #[.int .i64 2,.int .i64 1,.bool true])∧w'=w:=by
 go_enter Tryz.func193,Tryz.ntmps193
 go_wp2
 go_ret3
 exact⟨rfl,rfl⟩
theorem Xo(w:World):
  Calls Tryz.prog 193 #[.string ⟨#[109,111,100]⟩] w fun e w'=>e=.returned (.tuple #[.int .i64 2,.int .i64 1,.bool true])∧w'=w:=by
 go_enter Tryz.func193,Tryz.ntmps193
 go_wp2
 go_ret3
 exact⟨rfl,rfl⟩
theorem Xp(w:World):
  Calls Tryz.prog 193 #[.string ⟨#[61]⟩] w fun e w'=>e=.returned (.tuple #[.int .i64 2,.int .i64 1,.bool true])∧w'=w:=by
 go_enter Tryz.func193,Tryz.ntmps193
 go_wp2
 go_ret3
 exact⟨rfl,rfl⟩
theorem Xq(w:World):
  Calls Tryz.prog 193 #[.string ⟨#[60]⟩] w fun e w'=>e=.returned (.tuple #[.int .i64 2,.int .i64 1,.bool true])∧w'=w:=by
 go_enter Tryz.func193,Tryz.ntmps193
 go_wp2
 go_ret3
 exact⟨rfl,rfl⟩
theorem Sr(w:World):
  Calls Tryz.prog 193 #[.string ⟨#[62]⟩] w fun e w'=>e=.returned (.tuple #[.int .i64 2,.int .i64 1,.bool true])∧w'=w:=by
 go_enter Tryz.func193,Tryz.ntmps193
 go_wp2
 go_ret3
 exact⟨rfl,rfl⟩
theorem Su(w:World):
  Calls Tryz.prog 193 #[.string ⟨#[109,105,110]⟩] w fun e w'=>e=.returned (.tuple #[.int .i64 2,.int .i64 1,.bool true])∧w'=w:=by
 go_enter Tryz.func193,Tryz.ntmps193
 go_wp2
 go_ret3
 exact⟨rfl,rfl⟩
theorem Sv(w:World):
  Calls Tryz.prog 193 #[.string ⟨#[109,97,120]⟩] w fun e w'=>e=.returned (.tuple #[.int .i64 2,.int .i64 1,.bool true])∧w'=w:=by
 go_enter Tryz.func193,Tryz.ntmps193
 go_wp2
 go_ret3
 exact⟨rfl,rfl⟩
theorem Sz(w:World):
  Calls Tryz.prog 193 #[.string ⟨#[110,105,112]⟩] w fun e w'=>e=.returned (.tuple #[.int .i64 2,.int .i64 1,.bool true])∧w'=w:=by
 go_enter Tryz.func193,Tryz.ntmps193
 go_wp2
 go_ret3
 exact⟨rfl,rfl⟩
theorem SA(w:World):
  Calls Tryz.prog 193 #[.string ⟨#[110,101,103,97,116,101]⟩] w fun e w'=>e=.returned (.tuple #[.int .i64 1,.int .i64 1,.bool true])∧w'=w:=by
 go_enter Tryz.func193,Tryz.ntmps193
 go_wp2
 go_ret3
 exact⟨rfl,rfl⟩
theorem SC(w:World):
  Calls Tryz.prog 193 #[.string ⟨#[97,98,115]⟩] w fun e w'=>e=.returned (.tuple #[.int .i64 1,.int .i64 1,.bool true])∧w'=w:=by
 go_enter Tryz.func193,Tryz.ntmps193
 go_wp2
 go_ret3
 exact⟨rfl,rfl⟩
theorem SE(w:World):
  Calls Tryz.prog 193 #[.string ⟨#[48,61]⟩] w fun e w'=>e=.returned (.tuple #[.int .i64 1,.int .i64 1,.bool true])∧w'=w:=by
 go_enter Tryz.func193,Tryz.ntmps193
 go_wp2
 go_ret3
 exact⟨rfl,rfl⟩
theorem SG(w:World):
  Calls Tryz.prog 193 #[.string ⟨#[64]⟩] w fun e w'=>e=.returned (.tuple #[.int .i64 1,.int .i64 1,.bool true])∧w'=w:=by
 go_enter Tryz.func193,Tryz.ntmps193
 go_wp2
 go_ret3
 exact⟨rfl,rfl⟩
theorem SH(w:World):
  Calls Tryz.prog 193 #[.string ⟨#[100,117,112]⟩] w fun e w'=>e=.returned (.tuple #[.int .i64 1,.int .i64 2,.bool true])∧w'=w:=by
 go_enter Tryz.func193,Tryz.ntmps193
 go_wp2
 go_ret3
 exact⟨rfl,rfl⟩
theorem SI(w:World):
  Calls Tryz.prog 193 #[.string ⟨#[100,114,111,112]⟩] w fun e w'=>e=.returned (.tuple #[.int .i64 1,.int .i64 0,.bool true])∧w'=w:=by
 go_enter Tryz.func193,Tryz.ntmps193
 go_wp2
 go_ret3
 exact⟨rfl,rfl⟩
theorem SK(w:World):
  Calls Tryz.prog 193 #[.string ⟨#[111,117,116]⟩] w fun e w'=>e=.returned (.tuple #[.int .i64 1,.int .i64 0,.bool true])∧w'=w:=by
 go_enter Tryz.func193,Tryz.ntmps193
 go_wp2
 go_ret3
 exact⟨rfl,rfl⟩
theorem SL(w:World):
  Calls Tryz.prog 193 #[.string ⟨#[115,119,97,112]⟩] w fun e w'=>e=.returned (.tuple #[.int .i64 2,.int .i64 2,.bool true])∧w'=w:=by
 go_enter Tryz.func193,Tryz.ntmps193
 go_wp2
 go_ret3
 exact⟨rfl,rfl⟩
theorem SN(w:World):
  Calls Tryz.prog 193 #[.string ⟨#[111,118,101,114]⟩] w fun e w'=>e=.returned (.tuple #[.int .i64 2,.int .i64 3,.bool true])∧w'=w:=by
 go_enter Tryz.func193,Tryz.ntmps193
 go_wp2
 go_ret3
 exact⟨rfl,rfl⟩
theorem SQ(w:World):
  Calls Tryz.prog 193 #[.string ⟨#[116,117,99,107]⟩] w fun e w'=>e=.returned (.tuple #[.int .i64 2,.int .i64 3,.bool true])∧w'=w:=by
 go_enter Tryz.func193,Tryz.ntmps193
 go_wp2
 go_ret3
 exact⟨rfl,rfl⟩
theorem SS(w:World):
  Calls Tryz.prog 193 #[.string ⟨#[114,111,116]⟩] w fun e w'=>e=.returned (.tuple #[.int .i64 3,.int .i64 3,.bool true])∧w'=w:=by
 go_enter Tryz.func193,Tryz.ntmps193
 go_wp2
 go_ret3
 exact⟨rfl,rfl⟩
theorem SV(w:World):
  Calls Tryz.prog 193 #[.string ⟨#[33]⟩] w fun e w'=>e=.returned (.tuple #[.int .i64 2,.int .i64 0,.bool true])∧w'=w:=by
 go_enter Tryz.func193,Tryz.ntmps193
 go_wp2
 go_ret3
 exact⟨rfl,rfl⟩
theorem SX(w:World):
  Calls Tryz.prog 193 #[.string ⟨#[105,110]⟩] w fun e w'=>e=.returned (.tuple #[.int .i64 0,.int .i64 1,.bool true])∧w'=w:=by
 go_enter Tryz.func193,Tryz.ntmps193
 go_wp2
 go_ret3
 exact⟨rfl,rfl⟩
theorem SY(w:World):
  Calls Tryz.prog 193 #[.string ⟨#[105]⟩] w fun e w'=>e=.returned (.tuple #[.int .i64 0,.int .i64 1,.bool true])∧w'=w:=by
 go_enter Tryz.func193,Tryz.ntmps193
 go_wp2
 go_ret3
 exact⟨rfl,rfl⟩
theorem S9(s:ByteArray)(w:World)(h0:(s.toList == [43])=false)(h1:(s.toList == [45])=false)(h2:(s.toList == [42])=false)(h3:(s.toList == [97,110,100])=false)(h4:(s.toList == [111,114])=false)(h5:(s.toList == [120,111,114])=false)(h6:(s.toList == [47])=false)(h7:(s.toList == [109,111,100])=false)(h8:(s.toList == [61])=false)(h9:(s.toList == [60])=false)(h10:(s.toList == [62])=false)(h11:(s.toList == [109,105,110])=false)(zh:(s.toList == [109,97,120])=false)(h13:(s.toList == [110,105,112])=false)(h14:(s.toList == [110,101,103,97,116,101])=false)(Q9:(s.toList == [97,98,115])=false)(h16:(s.toList == [48,61])=false)(h17:(s.toList == [64])=false)(h18:(s.toList == [100,117,112])=false)(h19:(s.toList == [100,114,111,112])=false)(h20:(s.toList == [111,117,116])=false)(h21:(s.toList == [115,119,97,112])=false)(h22:(s.toList == [111,118,101,114])=false)(h23:(s.toList == [116,117,99,107])=false)(h24:(s.toList == [114,111,116])=false)(h25:(s.toList == [33])=false)(h26:(s.toList == [105,110])=false)(Xr:(s.toList == [105])=false):
  Calls Tryz.prog 193 #[.string s] w fun e w'=>e=.returned (.tuple #[.int .i64 0,.int .i64 0,.bool false])∧w'=w:=by
 go_enter Tryz.func193,Tryz.ntmps193
 go_wp2
 go_ret3
 exact⟨rfl,rfl⟩
theorem ba_of_list{s:ByteArray}{l:List UInt8}(h:(s.toList == l)=true):s=⟨l.toArray⟩:=by
 have e:s.data.toList=l:=by rw[←Go.Lib.toList_data];simpa using h
 cases s with
 |mk d=>simp at e;subst e;simp
theorem aN(l:List UInt8):(⟨l.toArray⟩:ByteArray).toList=l:=by rw[Go.Lib.toList_data]
theorem bF(s:ByteArray)(w:World):
  Calls Tryz.prog 193 #[.string s] w fun e w'=>e=.returned (.tuple #[.int .i64 (ax s).1,.int .i64 (ax s).2.1,.bool (ax s).2.2])∧w'=w:=by
 by_cases h0:(s.toList == [43])=true
 ·rw[ba_of_list h0]
  have e:ax ⟨[43].toArray⟩=(2,1,true):=by rw[ax,aN];rfl
  rw[e];exact Xh w
 by_cases h1:(s.toList == [45])=true
 ·rw[ba_of_list h1]
  have e:ax ⟨[45].toArray⟩=(2,1,true):=by rw[ax,aN];rfl
  rw[e];exact Xi w
 by_cases h2:(s.toList == [42])=true
 ·rw[ba_of_list h2]
  have e:ax ⟨[42].toArray⟩=(2,1,true):=by rw[ax,aN];rfl
  rw[e];exact Xj w
 by_cases h3:(s.toList == [97,110,100])=true
 ·rw[ba_of_list h3]
  have e:ax ⟨[97,110,100].toArray⟩=(2,1,true):=by rw[ax,aN];rfl
  rw[e];exact Xk w
 by_cases h4:(s.toList == [111,114])=true
 ·rw[ba_of_list h4]
  have e:ax ⟨[111,114].toArray⟩=(2,1,true):=by rw[ax,aN];rfl
  rw[e];exact Xl w
 by_cases h5:(s.toList == [120,111,114])=true
 ·rw[ba_of_list h5]
  have e:ax ⟨[120,111,114].toArray⟩=(2,1,true):=by rw[ax,aN];rfl
  rw[e];exact Xm w
 by_cases h6:(s.toList == [47])=true
 ·rw[ba_of_list h6]
  have e:ax ⟨[47].toArray⟩=(2,1,true):=by rw[ax,aN];rfl
  rw[e];exact Xn w
 by_cases h7:(s.toList == [109,111,100])=true
 ·rw[ba_of_list h7]
  have e:ax ⟨[109,111,100].toArray⟩=(2,1,true):=by rw[ax,aN];rfl
  rw[e];exact Xo w
 by_cases h8:(s.toList == [61])=true
 ·rw[ba_of_list h8]
  have e:ax ⟨[61].toArray⟩=(2,1,true):=by rw[ax,aN];rfl
  rw[e];exact Xp w
 by_cases h9:(s.toList == [60])=true
 ·rw[ba_of_list h9]
  have e:ax ⟨[60].toArray⟩=(2,1,true):=by rw[ax,aN];rfl
  rw[e];exact Xq w
 by_cases h10:(s.toList == [62])=true
 ·rw[ba_of_list h10]
  have e:ax ⟨[62].toArray⟩=(2,1,true):=by rw[ax,aN];rfl
  rw[e];exact Sr w
 by_cases h11:(s.toList == [109,105,110])=true
 ·rw[ba_of_list h11]
  have e:ax ⟨[109,105,110].toArray⟩=(2,1,true):=by rw[ax,aN];rfl
  rw[e];exact Su w
 by_cases zh:(s.toList == [109,97,120])=true
 ·rw[ba_of_list zh]
  have e:ax ⟨[109,97,120].toArray⟩=(2,1,true):=by rw[ax,aN];rfl
  rw[e];exact Sv w
 by_cases h13:(s.toList == [110,105,112])=true
 ·rw[ba_of_list h13]
  have e:ax ⟨[110,105,112].toArray⟩=(2,1,true):=by rw[ax,aN];rfl
  rw[e];exact Sz w
 by_cases h14:(s.toList == [110,101,103,97,116,101])=true
 ·rw[ba_of_list h14]
  have e:ax ⟨[110,101,103,97,116,101].toArray⟩=(1,1,true):=by rw[ax,aN];rfl
  rw[e];exact SA w
 by_cases Q9:(s.toList == [97,98,115])=true
 ·rw[ba_of_list Q9]
  have e:ax ⟨[97,98,115].toArray⟩=(1,1,true):=by rw[ax,aN];rfl
  rw[e];exact SC w
 by_cases h16:(s.toList == [48,61])=true
 ·rw[ba_of_list h16]
  have e:ax ⟨[48,61].toArray⟩=(1,1,true):=by rw[ax,aN];rfl
  rw[e];exact SE w
 by_cases h17:(s.toList == [64])=true
 ·rw[ba_of_list h17]
  have e:ax ⟨[64].toArray⟩=(1,1,true):=by rw[ax,aN];rfl
  rw[e];exact SG w
 by_cases h18:(s.toList == [100,117,112])=true
 ·rw[ba_of_list h18]
  have e:ax ⟨[100,117,112].toArray⟩=(1,2,true):=by rw[ax,aN];rfl
  rw[e];exact SH w
 by_cases h19:(s.toList == [100,114,111,112])=true
 ·rw[ba_of_list h19]
  have e:ax ⟨[100,114,111,112].toArray⟩=(1,0,true):=by rw[ax,aN];rfl
  rw[e];exact SI w
 by_cases h20:(s.toList == [111,117,116])=true
 ·rw[ba_of_list h20]
  have e:ax ⟨[111,117,116].toArray⟩=(1,0,true):=by rw[ax,aN];rfl
  rw[e];exact SK w
 by_cases h21:(s.toList == [115,119,97,112])=true
 ·rw[ba_of_list h21]
  have e:ax ⟨[115,119,97,112].toArray⟩=(2,2,true):=by rw[ax,aN];rfl
  rw[e];exact SL w
 by_cases h22:(s.toList == [111,118,101,114])=true
 ·rw[ba_of_list h22]
  have e:ax ⟨[111,118,101,114].toArray⟩=(2,3,true):=by rw[ax,aN];rfl
  rw[e];exact SN w
 by_cases h23:(s.toList == [116,117,99,107])=true
 ·rw[ba_of_list h23]
  have e:ax ⟨[116,117,99,107].toArray⟩=(2,3,true):=by rw[ax,aN];rfl
  rw[e];exact SQ w
 by_cases h24:(s.toList == [114,111,116])=true
 ·rw[ba_of_list h24]
  have e:ax ⟨[114,111,116].toArray⟩=(3,3,true):=by rw[ax,aN];rfl
  rw[e];exact SS w
 by_cases h25:(s.toList == [33])=true
 ·rw[ba_of_list h25]
  have e:ax ⟨[33].toArray⟩=(2,0,true):=by rw[ax,aN];rfl
  rw[e];exact SV w
 by_cases h26:(s.toList == [105,110])=true
 ·rw[ba_of_list h26]
  have e:ax ⟨[105,110].toArray⟩=(0,1,true):=by rw[ax,aN];rfl
  rw[e];exact SX w
 by_cases Xr:(s.toList == [105])=true
 ·rw[ba_of_list Xr]
  have e:ax ⟨[105].toArray⟩=(0,1,true):=by rw[ax,aN];rfl
  rw[e];exact SY w
 have e:ax s=(0,0,false):=by
  unfold ax zG
  have:tab.find? (fun r=>r.1 == s.toList)=none:=by
   rw[List.find?_eq_none];intro r hr;simp only[tab,List.mem_cons,List.not_mem_nil,or_false]at hr;simp only[beq_iff_eq]at *;rcases hr with rfl|rfl|rfl|rfl|rfl|rfl|rfl|rfl|rfl|rfl|rfl|rfl|rfl|rfl|rfl|rfl|rfl|rfl|rfl|rfl|rfl|rfl|rfl|rfl|rfl|rfl|rfl|rfl<;>(intro e;simp only at e;simp_all)
  rw[this]
 rw[e];exact S9 s w (Bool.eq_false_iff.2 h0) (Bool.eq_false_iff.2 h1) (Bool.eq_false_iff.2 h2) (Bool.eq_false_iff.2 h3) (Bool.eq_false_iff.2 h4) (Bool.eq_false_iff.2 h5) (Bool.eq_false_iff.2 h6) (Bool.eq_false_iff.2 h7) (Bool.eq_false_iff.2 h8) (Bool.eq_false_iff.2 h9) (Bool.eq_false_iff.2 h10) (Bool.eq_false_iff.2 h11) (Bool.eq_false_iff.2 zh) (Bool.eq_false_iff.2 h13) (Bool.eq_false_iff.2 h14) (Bool.eq_false_iff.2 Q9) (Bool.eq_false_iff.2 h16) (Bool.eq_false_iff.2 h17) (Bool.eq_false_iff.2 h18) (Bool.eq_false_iff.2 h19) (Bool.eq_false_iff.2 h20) (Bool.eq_false_iff.2 h21) (Bool.eq_false_iff.2 h22) (Bool.eq_false_iff.2 h23) (Bool.eq_false_iff.2 h24) (Bool.eq_false_iff.2 h25) (Bool.eq_false_iff.2 h26) (Bool.eq_false_iff.2 Xr)
end
end Go.Proofs.YtcphhbofjkenaaaGreatDoor
