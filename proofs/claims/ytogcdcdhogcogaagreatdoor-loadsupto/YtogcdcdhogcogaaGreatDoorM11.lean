/- The leaves: small functions of the document's answer and of the program that only reckon. -/
import Derived.Test.YtogcdcdhogcogaaGreatDoorRows
import Derived.WalkKit
import Derived.WalkLawsBesides
import Derived.WalkSpells

namespace Go.Proofs.YtogcdcdhogcogaaGreatDoor
open Go.RowKit

set_option maxHeartbeats 400000 in
theorem ref_blank (c : Int) (w : World) (h0 : 0 ≤ c) (h1 : c ≤ 255) :
    Calls Tryz.prog 115 #[.int .u8 c] w fun e w' => e = .returned (.bool (c == 32 || c == 9 || c == 10)) ∧ w' = w := by
  by_cases a : c = 32
  · subst a
    go_enter Tryz.func115, Tryz.ntmps115
    go_wp2
    go_ret
    exact ⟨rfl, rfl⟩
  · by_cases b : c = 9
    · subst b
      go_enter Tryz.func115, Tryz.ntmps115
      go_wp2
      go_ret
      exact ⟨rfl, rfl⟩
    · have ha : (c == 32) = false := by simpa using a
      have hb : (c == 9) = false := by simpa using b
      go_enter Tryz.func115, Tryz.ntmps115
      go_wp2
      go_ret
      exact ⟨by simp [ha, hb], rfl⟩

end Go.Proofs.YtogcdcdhogcogaaGreatDoor
