import Derived.Test.YtcphhbofjkenaaaGreatDoorU38
import Derived.Test.YtcphhbofjkenaaaGreatDoorT02
namespace Go.Proofs.YtcphhbofjkenaaaGreatDoor
open Go Go.RowKit
set_option linter.unusedVariables false
set_option linter.unusedSimpArgs false
section
variable {es : List PE} {code : List Int} {ws : List RW} {d : Bool} {fs : List Fr} {p q : Nat} {ls : List (Int × Int)} {cs : List Int}
end
section
variable {es : List PE} {code : List Int} {ws : List RW} {d : Bool} {fs : List Fr} {q : Nat} {m : MS} {u : MW} {t : IT}
end
section
variable {es : List PE} {code : List Int} {ws : List RW} {fs : List Fr} {m : MS} {u : MW} {n : Nat}
end
section
variable {ws : List RW} {i j : Inf} {fs fm ft : List Fr} {s : List Int} {u : MW} {P Q : List Int → Prop} {d : DC} {n : Nat}
end
section
variable {ws : List RW} {i j : Inf} {fs fm ft : List Fr} {s : List Int} {u : MW} {P Q : List Int → Prop} {c d : DC} {n : Nat} {f : Fr} {r : List Fr}
end
section
variable {ws : List RW} {l la lb : List AI} {x : AI}
end
section
variable {ws : List RW} {l la lb : List AI} {x : AI}
end
section
variable {ws : List RW} {l la lb : List AI} {x : AI} {i j : Inf} {fs fm ft : List Fr} {s : List Int} {u : MW} {c : DC}
end
section
variable {es : List PE} {code : List Int} {ws : List RW}
end
section
variable {ws : List RW} {y : RW} {l : List AI} {s : List Int} {u : MW}
end
section
variable {es : List PE} {code : List Int} {ws : List RW}
theorem areC_of {l : List Int} (h : ∀ a ∈ l, Cell a) : areC l = true := by
  unfold areC
  exact List.all_eq_true.2 fun a ha => decide_eq_true (h a ha)
end
section
variable {ws : List RW} {i j : Inf} {fs fm ft : List Fr} {s : List Int} {u : MW} {P Q : List Int → Prop} {c d : DC} {n : Nat} {V : Nat → MW}
end
section
variable {ws : List RW} {i j : Inf} {fs fm ft : List Fr} {s : List Int} {u : MW} {P Q : List Int → Prop} {c d : DC} {n : Nat} {f : Fr} {r : List Fr}
end
section
variable {ws : List RW} {l la lb : List AI} {x : AI}
end
end Go.Proofs.YtcphhbofjkenaaaGreatDoor
