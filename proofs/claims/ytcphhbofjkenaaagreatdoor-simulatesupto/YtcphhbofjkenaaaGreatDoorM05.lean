import Derived.Test.YtcphhbofjkenaaaGreatDoorMz
import Derived.Test.YtcphhbofjkenaaaGreatDoorRows
import Derived.WalkLawsBesides
import Derived.WalkSpells
namespace Go.Proofs.YtcphhbofjkenaaaGreatDoor
open Go Go.RowKit Proofs.Tryz
set_option linter.unusedVariables false
set_option linter.unusedSimpArgs false
set_option maxRecDepth 100000
set_option maxHeartbeats 16000000
section
open Go.RowKit
theorem aaV(c:Int)(w:World)(h0:0≤c)(h1:c≤255):
  Calls prog 127 #[.int .u8 c] w fun e w'=>e=.returned (.bool (c == 32||c == 9||c == 10))∧w'=w:=by
 by_cases a:c=32
 ·subst a
  go_enter func127,ntmps127
  go_wp2
  go_ret
  exact⟨rfl,rfl⟩
 ·by_cases b:c=9
  ·subst b
   go_enter func127,ntmps127
   go_wp2
   go_ret
   exact⟨rfl,rfl⟩
  ·have ha:(c == 32)=false:=by simpa using a
   have hb:(c == 9)=false:=by simpa using b
   go_enter func127,ntmps127
   go_wp2
   go_ret
   exact⟨by simp[ha,hb],rfl⟩
end
end Go.Proofs.YtcphhbofjkenaaaGreatDoor
