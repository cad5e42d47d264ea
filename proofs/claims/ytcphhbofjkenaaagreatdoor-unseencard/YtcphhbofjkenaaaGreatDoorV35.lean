import Derived.Test.YtcphhbofjkenaaaGreatDoorV34
namespace Go.Proofs.YtcphhbofjkenaaaGreatDoor
set_option maxRecDepth 100000
set_option maxHeartbeats 16000000
open Go Go.RowKit
set_option linter.unusedVariables false
set_option linter.unusedSimpArgs false
section
variable {B : Nat} {w w' : World} {s : SX} {code : List Int} {u u' : MW} {js : List (JX × MS)}
variable {tb gn gr : Nat} {ev : Value} {jbs : List Nat} {ts : List JT} {rk : List Nat} {bs : List Bool} {es : List EV}
end
section
variable {B : Nat} {w : World} {s : SX} {code : List Int} {u : MW} {js : List (JX × MS)} {tb gn gr : Nat} {ev : Value} {jbs : List Nat} {ts : List JT} {rk : List Nat} {bs : List Bool} {es : List EV}
end
section
variable {B : Nat} {w : World} {s : SX} {code : List Int} {u : MW} {js : List (JX × MS)} {tb gn gr : Nat} {ev : Value} {jbs : List Nat} {ts : List JT} {rk : List Nat} {bs : List Bool} {es : List EV}
end
section
variable {B : Nat} {w : World} {s : SX} {code : List Int} {u : MW} {js : List (JX × MS)} {tb gn gr : Nat} {ev : Value} {jbs : List Nat} {ts : List JT} {rk : List Nat} {bs : List Bool} {es : List EV}
end
section
variable {es : List PE} {code : List Int} {ws : List RW} {n nv k L : Nat} {p : PS} {ts : List JT} {rk : List Nat}
end
section
variable {ls : List (Int × Int)} {bs : List Bool} {i : Nat}
end
section
variable {z : SP} {C : Nat → Nat} {es : List PE} {ws : List RW} {nv : Nat}
end
section
variable {z : SP} {C : Nat → Nat} {es : List PE} {ws : List RW} {nv : Nat} {ls : List (Int × Int)}
end
section
variable {i n : Nat} {per R h : Int}
end
section
variable {z : SP} {C : Nat → Nat} {es : List PE} {ws : List RW} {nv : Nat} {ls : List (Int × Int)}
end
section
variable {B : Nat} {w : World} {s : SX} {code : List Int} {u : MW} {js : List (JX × MS)} {tb gn gr : Nat} {ev : Value} {jbs : List Nat} {ts : List JT} {rk : List Nat} {bs : List Bool} {es : List EV}
end
section
variable {B : Nat} {w : World} {code : List Int} {tb gn gr : Nat} {jbs : List Nat} {ts : List JT} {rk : List Nat} {p : PS}
end
section
variable {B : Nat} {w w' : World} {s : SX} {code : List Int} {u : MW} {js : List (JX × MS)}
variable {tb gn gr n : Nat} {jbs : List Nat} {ts : List JT} {rank : Nat → Nat}
end
def unE (i : Nat) (O : List Int) (c : Nat) (e : EV) : Option Nat :=
 if e.task ≠ i then some c
 else if e.kind = 3 then (if O[c]? = some e.val then some (c + 1) else none)
 else if e.kind = 2 then (if c = O.length ∧ e.val = 0 then some 0 else none)
 else some c
def unR (i : Nat) (O : List Int) (c : Nat) : List EV → Option Nat
 | [] => some c
 | e :: r => match unE i O c e with
  | none => none
  | some c' => unR i O c' r
section
variable {i : Nat} {O : List Int}
theorem unR_app : ∀ {a b : List EV} {c c' : Nat}, unR i O c a = some c' → unR i O c (a ++ b) = unR i O c' b
 | [], b, c, c', h => by cases h; rfl
 | e :: a, b, c, c', h => by
  rw [List.cons_append, unR]
  rw [unR] at h
  cases he : unE i O c e with
  | none => rw [he] at h; cases h
  | some d => rw [he] at h; exact unR_app h
theorem un_other {k : Nat} (hk : k ≠ i) (x : Int) (c : Nat) : ∀ l, unR i O c (puts k x l) = some c
 | [] => rfl
 | v :: l => by
  have e : puts (k : Int) x (v :: l) = ⟨3, k, x, v⟩ :: puts k x l := rfl
  rw [e, unR]
  have : unE i O c ⟨3, k, x, v⟩ = some c := by
   unfold unE
   rw [if_pos (by simp only; omega)]
  rw [this]
  exact un_other hk x c l
theorem un_puts (x : Int) : ∀ (l : List Int) (c : Nat), (∀ j v, l[j]? = some v → O[c + j]? = some v) → unR i O c (puts i x l) = some (c + l.length)
 | [], c, _ => rfl
 | v :: l, c, h => by
  have e : puts (i : Int) x (v :: l) = ⟨3, i, x, v⟩ :: puts i x l := rfl
  rw [e, unR]
  have : unE i O c ⟨3, i, x, v⟩ = some (c + 1) := by
   unfold unE
   rw [if_neg (by simp), if_pos rfl, if_pos (show O[c]? = some v from h 0 v rfl)]
  rw [this]
  simp only
  rw [un_puts x l (c + 1) (fun j u hu => by rw [show c + 1 + j = c + (j + 1) by omega]; exact h (j + 1) u hu), List.length_cons, show c + 1 + l.length = c + (l.length + 1) by omega]
theorem un_rel (ts : List JT) (x : Int) (c : Nat) : ∀ f k, unR i O c (relE ts x f k) = some c
 | 0, _ => rfl
 | f + 1, k => by
  rw [relE]
  have e : unR i O c (if dueI ts k x = true then [⟨1, k, x, 0⟩] else []) = some c := by
   split
   ·have : unE i O c ⟨1, k, x, 0⟩ = some c := by
     unfold unE
     split
     ·rfl
     ·rw [if_neg (by simp), if_neg (by simp)]
    rw [unR, this]
    rfl
   ·rfl
  rw [unR_app e]
  exact un_rel ts x c f (k + 1)
end
section
variable {z : SP} {C : Nat → Nat} {es : List PE} {ws : List RW} {nv : Nat} {ls : List (Int × Int)}
theorem pend_le (z : SP) (C : Nat → Nat) (x i : Nat) : z.pend C (x + 1) i ≤ z.q C x i := by
 rw [SP.pend]
 unfold SP.q
 split
 ·split
  ·exact Nat.zero_le _
  ·exact Nat.sub_le _ _
 ·exact Nat.le_refl _
theorem pend_since (z : SP) (C : Nat → Nat) (i : Nat) : ∀ x, 0 < z.pend C x i → ∃ r, r < x ∧ dueI z.ts i r = true ∧ ∀ y, r < y → y ≤ x → 0 < z.pend C y i
 | 0, h => absurd h (by simp [SP.pend])
 | x + 1, h => by
  have hq := pend_le z C x i
  unfold SP.q at hq
  by_cases hd : dueI z.ts i x = true
  ·exact ⟨x, by omega, hd, fun y a b => by rw [show y = x + 1 by omega]; exact h⟩
  ·rw [if_neg hd] at hq
   obtain ⟨r, r1, r2, r3⟩ := pend_since z C i x (by omega)
   refine ⟨r, by omega, r2, fun y a b => ?_⟩
   rcases Nat.lt_or_ge x y with g | g
   ·rw [show y = x + 1 by omega]; exact h
   ·exact r3 y a g
theorem due_idle (h : SOk z C es ws nv) (hf : Fit8 z C ls) {i R x : Nat} {t : JT} (hi : z.ts[i]? = some t) (hR : demandT ls i R = R) (hRT : (R : Int) ≤ t.per) (hd : dueI z.ts i x = true) : (z.at_ x).bs.getD i false = false := by
 have hin : i < z.n := by rw [← h.tl]; exact (List.getElem?_eq_some_iff.1 hi).1
 rw [(job_all h x i hin).1]
 refine decide_eq_false fun hp => ?_
 obtain ⟨r, r1, r2, r3⟩ := pend_since z C i x hp
 obtain ⟨y, y1, y2, y3⟩ := in_time h hf hi hR hRT r2
 have := due_apart hi (hf.per i t hi).2 r2 hd r1
 have := r3 y y1 (by omega)
 omega
def UnI (z : SP) (i : Nat) (m0 : MS) (N : Nat) (p : PS) (c : Nat) : Prop := (p.bs.getD i false = false ∧ c = 0) ∨ (p.bs.getD i false = true ∧ ∃ j, j ≤ N ∧ p.ms[i]? = some (xS z.code m0 j) ∧ c = (xO z.code m0 j).length)
theorem unseen_at (h : SOk z C es ws nv) (hf : Fit8 z C ls) {i R N : Nat} {t : JT} (hi : z.ts[i]? = some t) (hR : demandT ls i R = R) (hRT : (R : Int) ≤ t.per) (hx : XRun z.code (beginM t.st) N) : ∀ x, ∃ c, unR i (xO z.code (beginM t.st) (N + 1)) 0 (z.at_ x).es = some c ∧ UnI z i (beginM t.st) N (z.at_ x) c
 | 0 => by
  refine ⟨0, ?_, Or.inl ⟨h.idle i, rfl⟩⟩
  have hes : (z.at_ 0).es = [] := List.length_eq_zero_iff.1 (by have := (h.simI 0).le; omega)
  rw [hes]; rfl
 | x + 1 => by
  obtain ⟨c, hc, hI⟩ := unseen_at h hf hi hR hRT hx x
  have hin : i < z.n := by rw [← h.tl]; exact (List.getElem?_eq_some_iff.1 hi).1
  have hSI := h.simI x
  have hSR := h.simR x
  have hd : decide (0 ≤ i ∧ i < 0 + z.n) = true := decide_eq_true (by omega)
  have hb : (z.rel x).bs.getD i false = ((z.at_ x).bs.getD i false || dueI z.ts i x) := by
   unfold SP.rel
   rw [rel_bs z.ts x z.n 0 _ i (by rw [hSI.l2]; exact hin), hd, Bool.true_and]
  have hm : (z.rel x).ms[i]? = if dueI z.ts i x = true then some (beginM (stI z.ts i)) else (z.at_ x).ms[i]? := by
   unfold SP.rel
   rw [rel_ms z.ts x z.n 0 _ i (by rw [hSI.l1]; exact hin), hd, Bool.true_and]
  have hst : stI z.ts i = t.st := by unfold stI; rw [hi]
  have hI2 : UnI z i (beginM t.st) N (z.rel x) c := by
   by_cases hdu : dueI z.ts i x = true
   ·have hno := due_idle h hf hi hR hRT hdu
    rcases hI with ⟨_, rfl⟩ | ⟨hb1, _⟩
    ·exact Or.inr ⟨by rw [hb, hdu, Bool.or_true], 0, Nat.zero_le _, by rw [hm, if_pos hdu, hst]; rfl, rfl⟩
    ·rw [hno] at hb1; cases hb1
   ·have hdf : dueI z.ts i x = false := by simpa using hdu
    unfold UnI
    rw [hb, hdf, Bool.or_false, hm, if_neg hdu]
    exact hI
  have hc2 : unR i (xO z.code (beginM t.st) (N + 1)) 0 ((z.at_ x).es ++ relE z.ts x z.n 0) = some c := by
   rw [unR_app hc]; exact un_rel _ _ _ _ _
  cases hr : z.run x with
  | none => exact ⟨c, by rw [z.es_idle hr]; exact hc2, by rw [z.at_idle hr]; exact hI2⟩
  | some k =>
   have hkb := turn_busy hr
   have hkn : k < z.n := by
    rw [List.getD_eq_getElem?_getD] at hkb
    rcases Nat.lt_or_ge k (z.rel x).bs.length with g | g
    ·rw [hSR.l2] at g; exact g
    ·rw [List.getElem?_eq_none g] at hkb; cases hkb
   have hkl : k < (z.rel x).ms.length := by rw [hSR.l1]; exact hkn
   by_cases hki : k = i
   ·subst hki
    rcases hI2 with ⟨hb1, _⟩ | ⟨_, j, hj, hmj, rfl⟩
    ·rw [hkb] at hb1; cases hb1
    ·have hst := hx.step hj (z.rel x).u
     rw [z.es_run hr hmj, z.at_run hr, turnQ, hmj]
     simp only
     rw [hst]
     have hou : ((z.rel x).u.put (stepM z.code (xS z.code (beginM t.st) j) noMW).2.2.outs).outs = (stepM z.code (xS z.code (beginM t.st) j) noMW).2.2.outs := by
      unfold MW.put
      rw [hSR.uo]; rfl
     simp only [hou]
     obtain ⟨q, hq⟩ := xO_le (code := z.code) (beginM t.st) (j + 1) (N - j)
     rw [show j + 1 + (N - j) = N + 1 by omega] at hq
     have hq' : xO z.code (beginM t.st) j ++ (stepM z.code (xS z.code (beginM t.st) j) noMW).2.2.outs ++ q = xO z.code (beginM t.st) (N + 1) := hq
     have hlen : (xO z.code (beginM t.st) j).length + (stepM z.code (xS z.code (beginM t.st) j) noMW).2.2.outs.length = (xO z.code (beginM t.st) (j + 1)).length := by rw [xO, List.length_append]
     have hp : unR k (xO z.code (beginM t.st) (N + 1)) 0 ((z.at_ x).es ++ relE z.ts x z.n 0 ++ puts k x (stepM z.code (xS z.code (beginM t.st) j) noMW).2.2.outs) = some (xO z.code (beginM t.st) (j + 1)).length := by
      rw [unR_app hc2, un_puts, hlen]
      intro a v hv
      rw [← hq', List.append_assoc, List.getElem?_append_right (by omega), Nat.add_sub_cancel_left, List.getElem?_append_left (List.getElem?_eq_some_iff.1 hv).1]
      exact hv
     rcases Nat.lt_or_ge j N with g | g
     ·rw [hx.go j g]
      rw [if_neg (fun e => e rfl), if_neg (fun e => e rfl), List.append_nil]
      exact ⟨_, hp, Or.inr ⟨hkb, j + 1, by omega, by simp only; rw [List.getElem?_set_self hkl], rfl⟩⟩
     ·obtain rfl : j = N := by omega
      rw [hx.fin]
      rw [if_pos (by decide), if_pos (by decide)]
      refine ⟨0, ?_, Or.inl ⟨?_, rfl⟩⟩
      ·rw [unR_app hp]
       unfold unR unE
       simp only
       rw [if_neg (by simp), if_neg (by decide), if_pos trivial, if_pos ⟨trivial, trivial⟩]
       rfl
      ·simp only [List.getD_eq_getElem?_getD]
       rw [List.getElem?_set_self (by rw [hSR.l2]; exact hkn)]; rfl
   ·have hmk : (z.rel x).ms[k]? = some (z.rel x).ms[k] := List.getElem?_eq_getElem hkl
    rw [z.es_run hr hmk, z.at_run hr, turnQ, hmk]
    simp only
    refine ⟨c, ?_, ?_⟩
    ·rw [unR_app (c' := c) (by rw [unR_app hc2]; exact un_other hki _ _ _)]
     split
     ·unfold unR unE
      simp only
      rw [if_pos (by omega)]; rfl
     ·rfl
    ·unfold UnI
     simp only
     rw [List.getElem?_set_ne hki]
     have e : (if (stepM z.code (z.rel x).ms[k] (z.rel x).u).1 ≠ 4 then (z.rel x).bs.set k false else (z.rel x).bs).getD i false = (z.rel x).bs.getD i false := by
      split
      ·simp only [List.getD_eq_getElem?_getD]
       rw [List.getElem?_set_ne hki]
      ·rfl
     rw [e]
     exact hI2
end
end Go.Proofs.YtcphhbofjkenaaaGreatDoor
