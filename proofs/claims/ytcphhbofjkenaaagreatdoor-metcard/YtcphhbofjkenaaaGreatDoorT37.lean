import Derived.Test.YtcphhbofjkenaaaGreatDoorU38
import Derived.Test.YtcphhbofjkenaaaGreatDoorT34
import Derived.Test.YtcphhbofjkenaaaGreatDoorT02
import Derived.Test.YtcphhbofjkenaaaGreatDoorT35
namespace Go.Proofs.YtcphhbofjkenaaaGreatDoor
set_option maxRecDepth 100000
set_option maxHeartbeats 16000000
open Go Go.RowKit
set_option linter.unusedVariables false
set_option linter.unusedSimpArgs false
section
variable {B : Nat} {w w' : World} {s : SX} {code : List Int} {u u' : MW} {js : List (JX × MS)}
variable {tb gn gr : Nat} {ev : Value} {jbs : List Nat} {ts : List JT} {rk : List Nat} {bs : List Bool} {es : List EV}
end
section
variable {B : Nat} {w : World} {s : SX} {code : List Int} {u : MW} {js : List (JX × MS)} {tb gn gr : Nat} {ev : Value} {jbs : List Nat} {ts : List JT} {rk : List Nat} {bs : List Bool} {es : List EV}
end
section
variable {B : Nat} {w : World} {s : SX} {code : List Int} {u : MW} {js : List (JX × MS)} {tb gn gr : Nat} {ev : Value} {jbs : List Nat} {ts : List JT} {rk : List Nat} {bs : List Bool} {es : List EV}
end
section
variable {B : Nat} {w : World} {s : SX} {code : List Int} {u : MW} {js : List (JX × MS)} {tb gn gr : Nat} {ev : Value} {jbs : List Nat} {ts : List JT} {rk : List Nat} {bs : List Bool} {es : List EV}
end
section
variable {es : List PE} {code : List Int} {ws : List RW} {n nv k L : Nat} {p : PS} {ts : List JT} {rk : List Nat}
end
section
variable {ls : List (Int × Int)} {bs : List Bool} {i : Nat}
end
section
variable {z : SP} {C : Nat → Nat} {es : List PE} {ws : List RW} {nv : Nat}
end
section
variable {z : SP} {C : Nat → Nat} {es : List PE} {ws : List RW} {nv : Nat} {ls : List (Int × Int)}
end
def pnE (i n : Nat) (per R h : Int) (s : Int × Int) (e : EV) : Option (Int × Int) :=
  if e.tick < 0 ∨ h ≤ e.tick ∨ e.task < 0 ∨ (n : Int) ≤ e.task then none
  else if e.task ≠ i then some s
  else if e.kind = 1 then (if e.tick ≠ s.1 ∨ 0 ≤ s.2 then none else some (s.1 + per, e.tick))
  else if e.kind = 2 then (if s.2 < 0 ∨ s.2 + R ≤ e.tick ∨ (e.val ≠ 0 ∧ e.val ≠ 3) then none else some (s.1, -1))
  else some s
def pnR (i n : Nat) (per R h : Int) (s : Int × Int) : List EV → Option (Int × Int)
  | [] => some s
  | e :: r => match pnE i n per R h s e with
    | none => none
    | some s' => pnR i n per R h s' r
section
variable {i n : Nat} {per R h : Int}
theorem pnR_append : ∀ (a b : List EV) (s : Int × Int), pnR i n per R h s (a ++ b) = match pnR i n per R h s a with | none => none | some s' => pnR i n per R h s' b
  | [], b, s => rfl
  | e :: a, b, s => by
    rw [List.cons_append, pnR, pnR]
    cases pnE i n per R h s e with
    | none => rfl
    | some s' => exact pnR_append a b s'
theorem pnR_app {a b : List EV} {s s' : Int × Int} (h1 : pnR i n per R h s a = some s') : pnR i n per R h s (a ++ b) = pnR i n per R h s' b := by rw [pnR_append, h1]
theorem pn_puts {k : Nat} {x : Nat} (hk : k < n) (hx : (x : Int) < h) (s : Int × Int) : ∀ l, pnR i n per R h s (puts k x l) = some s
  | [] => rfl
  | c :: l => by
    have e : puts (k : Int) (x : Int) (c :: l) = ⟨3, k, x, c⟩ :: puts k x l := rfl
    rw [e, pnR]
    have : pnE i n per R h s ⟨3, k, x, c⟩ = some s := by
      unfold pnE
      simp only
      rw [if_neg (by omega)]
      split
      · rfl
      · rw [if_neg (by decide), if_neg (by decide)]
    rw [this]
    exact pn_puts hk hx s l
theorem pn_rel (ts : List JT) {x : Nat} (hx : (x : Int) < h) : ∀ (f k : Nat) (s : Int × Int), k + f ≤ n → (k ≤ i → i < k + f → dueI ts i x = true → s.1 = x ∧ s.2 < 0) → pnR i n per R h s (relE ts x f k) = some (if (k ≤ i ∧ i < k + f) ∧ dueI ts i x = true then (s.1 + per, (x : Int)) else s)
  | 0, k, s, _, _ => by
    rw [relE, pnR, if_neg (by omega)]
  | f + 1, k, s, hn, hs => by
    rw [relE]
    by_cases hik : k = i
    · have hrest : ∀ s', pnR i n per R h s' (relE ts x f (k + 1)) = some s' := fun s' => by
        rw [pn_rel ts hx f (k + 1) s' (by omega) (fun a => by omega), if_neg (by omega)]
      rw [hik] at hrest ⊢
      by_cases hd : dueI ts i x = true
      · obtain ⟨s1, s2⟩ := hs (by omega) (by omega) hd
        have e : pnR i n per R h s [⟨1, i, x, 0⟩] = some (s.1 + per, (x : Int)) := by
          unfold pnR pnE
          simp only
          rw [if_neg (by omega), if_neg (by omega), if_pos (by decide), if_neg (by omega)]
          rfl
        rw [if_pos hd, pnR_app e, hrest, if_pos ⟨by omega, hd⟩]
      · rw [if_neg hd, List.nil_append, hrest, if_neg (fun e => hd e.2)]
    · have hrest : pnR i n per R h s (relE ts x f (k + 1)) = some (if (k + 1 ≤ i ∧ i < k + 1 + f) ∧ dueI ts i x = true then (s.1 + per, (x : Int)) else s) := pn_rel ts hx f (k + 1) s (by omega) (fun a b c => hs (by omega) (by omega) c)
      have e : pnR i n per R h s (if dueI ts k x = true then [⟨1, k, x, 0⟩] else []) = some s := by
        split
        · unfold pnR pnE
          simp only
          rw [if_neg (by omega), if_pos (by omega)]
          rfl
        · rfl
      rw [pnR_app e, hrest]
      congr 1
      have : ((k + 1 ≤ i ∧ i < k + 1 + f) ∧ dueI ts i x = true) ↔ ((k ≤ i ∧ i < k + (f + 1)) ∧ dueI ts i x = true) := by
        constructor
        · rintro ⟨a, b⟩; exact ⟨by omega, b⟩
        · rintro ⟨a, b⟩; exact ⟨by omega, b⟩
      simp only [this]
end
theorem due_iff {ts : List JT} {i : Nat} {t : JT} (ht : ts[i]? = some t) (x : Nat) : dueI ts i x = true ↔ t.off ≤ x ∧ ((x : Int) - t.off) % t.per = 0 := by
  unfold dueI
  rw [ht]
  unfold dueP
  simp only [Bool.and_eq_true, decide_eq_true_eq, beq_iff_eq]
section
variable {z : SP} {C : Nat → Nat} {es : List PE} {ws : List RW} {nv : Nat} {ls : List (Int × Int)}
structure PnI (z : SP) (C : Nat → Nat) (i : Nat) (t : JT) (x : Nat) (s : Int × Int) : Prop where
  nx : ∃ c : Nat, s.1 = t.off + t.per * c
  ge : (x : Int) ≤ s.1
  no : ∀ y : Nat, x ≤ y → (y : Int) < s.1 → dueI z.ts i y = false
  idle : z.pend C x i = 0 → s.2 = -1
  busy : 0 < z.pend C x i → ∃ r : Nat, s.2 = r ∧ r < x ∧ dueI z.ts i r = true ∧ ∀ y, r < y → y ≤ x → 0 < z.pend C y i
theorem punct (h : SOk z C es ws nv) (hf : Fit8 z C ls) {i R : Nat} {t : JT} (hi : z.ts[i]? = some t) (hR : demandT ls i R = R) (hR1 : 1 ≤ R) (hRT : (R : Int) ≤ t.per) (hoff : 0 ≤ t.off) (hh : Nat) : ∀ x, x ≤ hh → ∃ s, pnR i z.n t.per R hh (t.off, -1) (z.at_ x).es = some s ∧ PnI z C i t x s := by
  have hin : i < z.n := by rw [← h.tl]; exact (List.getElem?_eq_some_iff.1 hi).1
  obtain ⟨_, hper⟩ := hf.per i t hi
  have late : ∀ (r x : Nat), dueI z.ts i r = true → (∀ y, r < y → y ≤ x → 0 < z.pend C y i) → ¬ r + R ≤ x := fun r x hr hb hle => by
    obtain ⟨y, y1, y2, y3⟩ := in_time h hf hi hR hRT hr
    have := hb y y1 (by omega)
    omega
  intro x
  induction x with
  | zero =>
    intro _
    refine ⟨(t.off, -1), ?_, ⟨0, by simp⟩, hoff, fun y _ hy => ?_, fun _ => rfl, fun hp => absurd hp (by simp [SP.pend])⟩
    · have hes : (z.at_ 0).es = [] := List.length_eq_zero_iff.1 (by have := (h.simI 0).le; omega)
      rw [hes]; rfl
    · cases hd : dueI z.ts i y with
      | false => rfl
      | true =>
        have := ((due_iff hi y).1 hd).1
        simp only at hy
        omega
  | succ x ih =>
    intro hx
    obtain ⟨s, hs, hI⟩ := ih (by omega)
    have hJ := fun j hj => job_rel h (x := x) (i := j) hj (job_all h x j hj)
    -- released?
    have hidle : dueI z.ts i x = true → s.1 = x ∧ s.2 < 0 := fun hd => by
      have h1 : s.1 = x := by
        rcases Int.lt_or_le (x : Int) s.1 with g | g
        · have := hI.no x (Nat.le_refl _) g
          rw [hd] at this; cases this
        · have := hI.ge; omega
      refine ⟨h1, ?_⟩
      rcases Nat.eq_zero_or_pos (z.pend C x i) with g | g
      · rw [hI.idle g]; decide
      · obtain ⟨r, _, r2, r3, r4⟩ := hI.busy g
        have := due_apart hi hper r3 hd r2
        exact absurd (show r + R ≤ x by omega) (late r x r3 r4)
    obtain ⟨s1, hs1⟩ : ∃ s1, s1 = if dueI z.ts i x = true then (s.1 + t.per, (x : Int)) else s := ⟨_, rfl⟩
    have hrel : pnR i z.n t.per R hh (t.off, -1) ((z.at_ x).es ++ relE z.ts x z.n 0) = some s1 := by
      rw [pnR_app hs, pn_rel z.ts (by omega) z.n 0 s (by omega) (fun _ _ hd => hidle hd), hs1]
      congr 1
      have : ((0 ≤ i ∧ i < 0 + z.n) ∧ dueI z.ts i x = true) ↔ dueI z.ts i x = true := ⟨fun e => e.2, fun e => ⟨by omega, e⟩⟩
      simp only [this]
    -- what is known behind the releases
    have hnx : (∃ c : Nat, s1.1 = t.off + t.per * c) ∧ ((x + 1 : Nat) : Int) ≤ s1.1 ∧ ∀ y : Nat, x + 1 ≤ y → (y : Int) < s1.1 → dueI z.ts i y = false := by
      by_cases hd : dueI z.ts i x = true
      · rw [if_pos hd] at hs1
        obtain ⟨h1, _⟩ := hidle hd
        obtain ⟨c, hc⟩ := hI.nx
        rw [hs1]
        refine ⟨⟨c + 1, ?_⟩, by simp only; omega, fun y hy hlt => ?_⟩
        · simp only; rw [hc, Int.natCast_add, Int.mul_add]; omega
        · cases hdy : dueI z.ts i y with
          | false => rfl
          | true =>
            have := due_apart hi hper hd hdy (by omega)
            simp only at hlt
            omega
      · rw [if_neg hd] at hs1
        rw [hs1]
        refine ⟨hI.nx, ?_, fun y hy hlt => hI.no y (by omega) hlt⟩
        have hge := hI.ge
        rcases Int.lt_or_le (x : Int) s.1 with g | g
        · omega
        · exfalso
          obtain ⟨c, hc⟩ := hI.nx
          apply hd
          rw [due_iff hi]
          have e : (x : Int) = t.off + t.per * c := by omega
          have hc0 : 0 ≤ t.per * (c : Int) := Int.mul_nonneg (by omega) (by omega)
          refine ⟨by omega, ?_⟩
          rw [e, show t.off + t.per * (c : Int) - t.off = t.per * c by omega]
          exact Int.mul_emod_right _ _
    have hq : (z.q C x i = 0 → s1.2 = -1) ∧ (0 < z.q C x i → ∃ r : Nat, s1.2 = r ∧ r ≤ x ∧ dueI z.ts i r = true ∧ ∀ y, r < y → y ≤ x → 0 < z.pend C y i) := by
      unfold SP.q
      by_cases hd : dueI z.ts i x = true
      · rw [if_pos hd] at hs1 ⊢
        rw [hs1]
        exact ⟨fun e => absurd e (by have := h.cpos hin; omega), fun _ => ⟨x, rfl, Nat.le_refl _, hd, fun y a b => by omega⟩⟩
      · rw [if_neg hd] at hs1 ⊢
        rw [hs1]
        refine ⟨hI.idle, fun hp => ?_⟩
        obtain ⟨r, r1, r2, r3, r4⟩ := hI.busy hp
        exact ⟨r, r1, by omega, r3, r4⟩
    obtain ⟨n1, n2, n3⟩ := hnx
    have stay : z.pend C (x + 1) i = z.q C x i → PnI z C i t (x + 1) s1 := fun hpe => by
      refine ⟨n1, n2, n3, fun e => hq.1 (by omega), fun hp => ?_⟩
      obtain ⟨r, r1, r2, r3, r4⟩ := hq.2 (by omega)
      refine ⟨r, r1, by omega, r3, fun y y1 y2 => ?_⟩
      rcases Nat.lt_or_ge x y with g | g
      · rw [show y = x + 1 by omega]; exact hp
      · exact r4 y y1 g
    cases hr : z.run x with
    | none =>
      refine ⟨s1, by rw [z.es_idle hr]; exact hrel, stay ?_⟩
      rw [SP.pend, if_neg (by rw [hr]; simp)]; rfl
    | some k =>
      have hkn : k < z.n := ((turns_z h hf.len hf.rk (x + 1)).who x k (by omega) hr).1
      obtain ⟨m, fs, a, b, hp1, he, hcase⟩ := run_step h hkn hr (hJ k hkn)
      have hput : pnR i z.n t.per R hh (t.off, -1) ((z.at_ x).es ++ relE z.ts x z.n 0 ++ puts k x (stepM z.code m (z.rel x).u).2.2.outs) = some s1 := by
        rw [pnR_app hrel]; exact pn_puts hkn (by omega) s1 _
      rw [z.es_run hr a]
      rw [← he]
      by_cases hik : k = i
      · subst hik
        have hpe : z.pend C (x + 1) k = if z.end_ x ≠ 4 then 0 else z.q C x k - 1 := by rw [SP.pend, if_pos hr]; rfl
        obtain ⟨r, r1, r2, r3, r4⟩ := hq.2 hp1
        by_cases h4 : z.end_ x = 4
        · rw [if_neg (fun e => e h4), List.append_nil]
          rw [if_neg (fun e => e h4)] at hpe
          refine ⟨s1, hput, n1, n2, n3, fun e => ?_, fun hp => ⟨r, r1, by omega, r3, fun y y1 y2 => ?_⟩⟩
          · rcases hcase with e0 | e0 | ⟨_, e2, _⟩
            · rw [h4] at e0; exact absurd e0 (by decide)
            · rw [h4] at e0; exact absurd e0 (by decide)
            · omega
          · rcases Nat.lt_or_ge x y with g | g
            · rw [show y = x + 1 by omega]; exact hp
            · exact r4 y y1 g
        · rw [if_pos h4]
          rw [if_pos h4] at hpe
          refine ⟨(s1.1, -1), ?_, n1, n2, n3, fun _ => rfl, fun hp => absurd hp (by omega)⟩
          have hv : z.end_ x = 0 ∨ z.end_ x = 3 := by
            rcases hcase with e0 | e0 | ⟨e0, _⟩
            · exact Or.inl e0
            · exact Or.inr e0
            · exact absurd e0 h4
          have hnl := late r x r3 r4
          rw [pnR_app hput]
          unfold pnR pnE
          simp only
          rw [if_neg (by omega), if_neg (by omega), if_neg (by decide), if_pos (by decide), if_neg (by omega)]
          rfl
      · have hne : ¬ z.run x = some i := by rw [hr]; intro e; exact hik (Option.some.inj e)
        have hpe : z.pend C (x + 1) i = z.q C x i := by rw [SP.pend, if_neg hne]; rfl
        refine ⟨s1, ?_, stay hpe⟩
        rw [pnR_app hput]
        split
        · unfold pnR pnE
          simp only
          rw [if_neg (by omega), if_pos (by omega)]
          rfl
        · rfl
theorem punct_end (h : SOk z C es ws nv) (hf : Fit8 z C ls) {i R : Nat} {t : JT} (hi : z.ts[i]? = some t) (hR : demandT ls i R = R) (hR1 : 1 ≤ R) (hRT : (R : Int) ≤ t.per) (hoff : 0 ≤ t.off) (hh : Nat) : ∃ s, pnR i z.n t.per R hh (t.off, -1) (z.at_ hh).es = some s ∧ (hh : Int) ≤ s.1 ∧ ¬ (0 ≤ s.2 ∧ s.2 + R ≤ hh) := by
  obtain ⟨s, h1, h2⟩ := punct h hf hi hR hR1 hRT hoff hh hh (Nat.le_refl _)
  refine ⟨s, h1, h2.ge, fun ⟨a, b⟩ => ?_⟩
  rcases Nat.eq_zero_or_pos (z.pend C hh i) with g | g
  · rw [h2.idle g] at a; exact absurd a (by decide)
  · obtain ⟨r, r1, r2, r3, r4⟩ := h2.busy g
    obtain ⟨y, y1, y2, y3⟩ := in_time h hf hi hR hRT r3
    have := r4 y y1 (by omega)
    omega
end
section
variable {B : Nat} {w : World} {s : SX} {code : List Int} {u : MW} {js : List (JX × MS)} {tb gn gr : Nat} {ev : Value} {jbs : List Nat} {ts : List JT} {rk : List Nat} {bs : List Bool} {es : List EV}
end
section
variable {B : Nat} {w : World} {code : List Int} {tb gn gr : Nat} {jbs : List Nat} {ts : List JT} {rk : List Nat} {p : PS}
end
section
variable {B : Nat} {w w' : World} {s : SX} {code : List Int} {u : MW} {js : List (JX × MS)}
variable {tb gn gr n : Nat} {jbs : List Nat} {ts : List JT} {rank : Nat → Nat}
end
end Go.Proofs.YtcphhbofjkenaaaGreatDoor
