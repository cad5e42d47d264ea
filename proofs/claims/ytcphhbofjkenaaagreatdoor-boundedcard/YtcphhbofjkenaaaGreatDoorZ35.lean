import Derived.Test.YtcphhbofjkenaaaGreatDoorK21
import Derived.Test.YtcphhbofjkenaaaGreatDoorK35
import Derived.Test.YtcphhbofjkenaaaGreatDoorZ32

namespace Go.Proofs.YtcphhbofjkenaaaGreatDoor
open Go Go.RowKit
set_option linter.unusedVariables false
set_option linter.unusedSimpArgs false

section
variable {es : List PE} {code : List Int} {ws : List RW} {d : Bool} {fs : List Fr} {p q : Nat} {ls : List (Int × Int)} {cs : List Int}

end

section
variable {es : List PE} {code : List Int} {ws : List RW} {d : Bool} {fs : List Fr} {q : Nat} {m : MS} {u : MW} {t : IT}

end

section
variable {es : List PE} {code : List Int} {ws : List RW} {fs : List Fr} {m : MS} {u : MW} {n : Nat}

end

end Go.Proofs.YtcphhbofjkenaaaGreatDoor

namespace Go.Proofs.YtcphhbofjkenaaaGreatDoor
open Go Go.RowKit
set_option linter.unusedVariables false
set_option linter.unusedSimpArgs false

theorem op_len (k : Nat) (hk : k < 28) (t : Int) (s : List Int) (u : MW) (hh : hindP k s u.vars.length = 4) : ((opP k t s u).1.length : Int) = s.length + (opInf k).net := by
  obtain ⟨h1, h2, h3⟩ := hind_ok hh
  unfold opP execM
  by_cases h12 : k ≤ 12
  · have hn : ∀ k, k ≤ 12 → (opInf k).net = -1 := by decide +kernel
    rw [two_need k h12] at h1
    obtain ⟨b, a, r, rfl⟩ := stk2 h1
    simp only [if_pos h12]
    rw [hn k h12]
    simp only [List.length_cons]; omega
  · simp only [if_neg h12]
    by_cases h15 : k ≤ 15
    · have hn : ∀ k, k ≤ 15 → 12 < k → (opInf k).net = 0 := by decide +kernel
      rw [one_need k (by omega) h15] at h1
      obtain ⟨a, r, rfl⟩ := stk1 h1
      simp only [if_pos h15]
      rw [hn k h15 (by omega)]
      simp only [List.length_cons]; omega
    · simp only [if_neg h15]
      by_cases h22 : k ≤ 22
      · simp only [if_pos h22]
        exact arr_len k s (by omega) h22 h1
      · simp only [if_neg h22]
        have hc : k = 23 ∨ k = 24 ∨ k = 25 ∨ k = 26 ∨ k = 27 := by omega
        have n3 : (opInf 23).net = 0 := rfl
        have n4 : (opInf 24).net = -2 := rfl
        have n5 : (opInf 25).net = 1 := rfl
        have n6 : (opInf 26).net = -1 := rfl
        have n7 : (opInf 27).net = 1 := rfl
        rcases hc with rfl | rfl | rfl | rfl | rfl
        · obtain ⟨a, r, rfl⟩ := stk1 (s := s) h1
          rw [n3]; simp
        · obtain ⟨i, a, r, rfl⟩ := stk2 (s := s) h1
          rw [n4]; simp; omega
        · rw [n5]; simp
        · obtain ⟨a, r, rfl⟩ := stk1 (s := s) h1
          rw [n6]; simp; omega
        · rw [n7]; simp

inductive Goes (ws : List RW) : Nat → DC → DC → Prop
  | zero (c : DC) : Goes ws 0 c c
  | succ (n : Nat) (c c' : DC) (h : (dStep ws c.1 c.2.1 c.2.2).1 = 4) (hn : Goes ws n ((dStep ws c.1 c.2.1 c.2.2).2.1, (dStep ws c.1 c.2.1 c.2.2).2.2.1, (dStep ws c.1 c.2.1 c.2.2).2.2.2) c') : Goes ws (n + 1) c c'
theorem Goes.trans {ws : List RW} {n m : Nat} {a b c : DC} (h : Goes ws n a b) (h2 : Goes ws m b c) : Goes ws (n + m) a c := by
  induction h with
  | zero => rw [Nat.zero_add]; exact h2
  | succ n c c' h hn ih => rw [Nat.add_right_comm]; exact .succ _ _ _ h (ih h2)
theorem Goes.run {ws : List RW} {n : Nat} {a b : DC} (h : Goes ws n a b) : ∀ (f k : Nat), dRun ws (n + f) k a.1 a.2.1 a.2.2 = dRun ws f (k + n) b.1 b.2.1 b.2.2 := by
  induction h with
  | zero => intro f k; rw [Nat.zero_add, Nat.add_zero]
  | succ n c c' h hn ih =>
    intro f k
    rw [Nat.add_right_comm, dRun, if_pos h, ih f (k + 1), Nat.add_assoc, Nat.add_comm 1 n]
theorem Goes.less {ws : List RW} {n : Nat} {a b : DC} (h : Goes ws n a b) : ∀ (f k : Nat), f ≤ n → (dRun ws f k a.1 a.2.1 a.2.2).1 = k + f ∧ (dRun ws f k a.1 a.2.1 a.2.2).2.1 = 4 := by
  induction h with
  | zero => intro f k hf; obtain rfl : f = 0 := by omega
            exact ⟨rfl, rfl⟩
  | succ n c c' h hn ih =>
    intro f k hf
    cases f with
    | zero => exact ⟨rfl, rfl⟩
    | succ f =>
      rw [dRun, if_pos h]
      obtain ⟨e1, e2⟩ := ih f (k + 1) (by omega)
      exact ⟨by rw [e1]; omega, e2⟩

end Go.Proofs.YtcphhbofjkenaaaGreatDoor

namespace Go.Proofs.YtcphhbofjkenaaaGreatDoor
open Go Go.RowKit
set_option linter.unusedVariables false
set_option linter.unusedSimpArgs false

def Like (ws : List RW) (a b : List Fr) : Prop := (∀ s u, dStep ws a s u = dStep ws b s u) ∧ turnsP a = turnsP b
def FsOk (fs : List Fr) : Prop := ∀ f ∈ fs, Cell f.n ∧ Cell f.e
theorem Like.refl (ws : List RW) (a : List Fr) : Like ws a a := ⟨fun _ _ => rfl, rfl⟩
theorem Like.trans {ws : List RW} {a b c : List Fr} (h : Like ws a b) (k : Like ws b c) : Like ws a c := ⟨fun s u => (h.1 s u).trans (k.1 s u), h.2.trans k.2⟩
theorem turns_cell {fs : List Fr} (h : FsOk fs) : Cell (turnsP fs) := by
  induction fs with
  | nil => exact ⟨by simp [turnsP], by simp [turnsP]⟩
  | cons f r ih =>
    rw [turnsP]
    split
    · exact (h f (by simp)).1
    · exact ih (fun g hg => h g (List.mem_cons_of_mem _ hg))

def Out (ws : List RW) (i : Inf) (c : DC) (ft : List Fr) (P : List Int → Prop) : Prop :=
  (∃ (n : Nat) (fs : List Fr) (s : List Int) (u : MW), Goes ws n c (fs, s, u) ∧ Like ws fs ft ∧ FsOk fs ∧ (n : Int) ≤ i.steps ∧ (i.str = true → (n : Int) = i.steps) ∧ (s.length : Int) = c.2.1.length + i.net ∧ Wl s u ∧ P s) ∨
  (∃ (n : Nat) (d : DC), Goes ws n c d ∧ (n : Int) + 1 ≤ i.steps ∧ (dStep ws d.1 d.2.1 d.2.2).1 = 3)

section
variable {ws : List RW} {i j : Inf} {fs fm ft : List Fr} {s : List Int} {u : MW} {P Q : List Int → Prop} {d : DC} {n : Nat}

theorem Goes.head (h : Goes ws (n + 1) (fm, s, u) d) (hl : Like ws fs fm) : Goes ws (n + 1) (fs, s, u) d := by
  cases h with
  | succ n c c' h hn =>
    have e := hl.1 s u
    refine .succ n _ _ ?_ ?_
    · simp only; rw [e]; exact h
    · simp only; rw [e]; exact hn
theorem Goes.none (h : Goes ws 0 (fm, s, u) d) : d = (fm, s, u) := by cases h; rfl

theorem Out.like (hl : Like ws fs fm) (hf : FsOk fs) (h : Out ws i (fm, s, u) ft P) : Out ws i (fs, s, u) ft P := by
  rcases h with ⟨n, fs', s', u', g, l, o⟩ | ⟨n, d, g, hn, h3⟩
  · cases n with
    | zero =>
      have e := g.none
      simp only [Prod.mk.injEq] at e
      obtain ⟨rfl, rfl, rfl⟩ := e
      exact Or.inl ⟨0, fs, s', u', .zero _, hl.trans l, hf, o.2⟩
    | succ n => exact Or.inl ⟨n + 1, fs', s', u', g.head hl, l, o⟩
  · cases n with
    | zero =>
      have e := g.none
      subst e
      exact Or.inr ⟨0, (fs, s, u), .zero _, hn, by simp only at h3 ⊢; rw [hl.1]; exact h3⟩
    | succ n => exact Or.inr ⟨n + 1, d, g.head hl, hn, h3⟩

theorem Out.then (h0 : 0 ≤ i.steps) (h1 : 0 ≤ j.steps) (h2 : i.steps + j.steps ≤ 1000000001) (h : Out ws i (fs, s, u) fm P) (hk : ∀ s' u', (s'.length : Int) = s.length + i.net → Wl s' u' → P s' → Out ws j (fm, s', u') ft Q) : Out ws (i.then j) (fs, s, u) ft Q := by
  have hst : (i.then j).steps = i.steps + j.steps := by unfold Inf.then; simp only; omega
  have hnt : (i.then j).net = i.net + j.net := rfl
  have hsr : (i.then j).str = (i.str && j.str) := rfl
  rcases h with ⟨n, fs1, s1, u1, g, l, fo, a1, a2, a3, a4, a5⟩ | ⟨n, d, g, hn, h3⟩
  · simp only at a3
    rcases (hk s1 u1 a3 a4 a5).like l fo with ⟨m, fs2, s2, u2, g2, l2, fo2, b1, b2, b3, b4, b5⟩ | ⟨m, d, g2, hm, h3⟩
    · simp only at b3
      refine Or.inl ⟨n + m, fs2, s2, u2, g.trans g2, l2, fo2, by rw [hst]; omega, fun e => ?_, by simp only; rw [hnt]; omega, b4, b5⟩
      rw [hsr, Bool.and_eq_true] at e
      have := a2 e.1; have := b2 e.2
      rw [hst]; omega
    · exact Or.inr ⟨n + m, d, g.trans g2, by rw [hst]; omega, h3⟩
  · exact Or.inr ⟨n, d, g, by rw [hst]; omega, h3⟩

theorem Out.step {c : DC} {fs' : List Fr} {s' : List Int} {u' : MW} (h : dStep ws c.1 c.2.1 c.2.2 = (4, fs', s', u')) (hs : i.steps = 1) (hl : (s'.length : Int) = c.2.1.length + i.net) (hw : Wl s' u') (hf : FsOk fs') (hp : P s') : Out ws i c fs' P :=
  Or.inl ⟨1, fs', s', u', .succ 0 _ _ (by rw [h]) (by rw [h]; exact .zero _), Like.refl _ _, hf, by rw [hs]; omega, fun _ => by rw [hs]; rfl, hl, hw, hp⟩

theorem dStep_item {f : Fr} {r : List Fr} {t : IT} (h : f.its[f.i]? = some t) : dStep ws (f :: r) s u = dItem ws t ({ f with i := f.i + 1 } :: r) s u := by rw [dStep, h]

theorem out_num {f : Fr} {r : List Fr} {v : Int} (h : f.its[f.i]? = some (.num v)) (hv : Cell v) (hf : FsOk (f :: r)) (hw : Wl s u) (hs : s.length + 1 ≤ 32) : Out ws (Inf.plain 0 1) (f :: r, s, u) ({ f with i := f.i + 1 } :: r) (fun s' => s' = v :: s) := by
  refine Out.step (fs' := { f with i := f.i + 1 } :: r) (s' := v :: s) (u' := u) ?_ rfl ?_ ⟨?_, hw.v, hw.i, by simpa using hs⟩ ?_ rfl
  · simp only
    rw [dStep_item h]
    show dPut v _ s u = _
    unfold dPut
    rw [if_neg (by omega)]
  · simp [Inf.plain]
  · simp only [List.mem_cons, forall_eq_or_imp]; exact ⟨hv, hw.s⟩
  · intro g hg
    rcases List.mem_cons.1 hg with rfl | hg
    · exact hf f (by simp)
    · exact hf g (List.mem_cons_of_mem _ hg)
end

end Go.Proofs.YtcphhbofjkenaaaGreatDoor

namespace Go.Proofs.YtcphhbofjkenaaaGreatDoor
open Go Go.RowKit
set_option linter.unusedVariables false
set_option linter.unusedSimpArgs false

theorem hind_34 {k : Nat} {s : List Int} {n : Nat} (h1 : (opInf k).need ≤ s.length) (h2 : (s.length : Int) + (opInf k).net ≤ 32) : hindP k s n = 4 ∨ hindP k s n = 3 := by
  unfold hindP
  rw [if_neg (by omega)]
  split
  · exact Or.inr rfl
  · rw [if_neg (by omega)]; exact Or.inl rfl

section
variable {ws : List RW} {i j : Inf} {fs fm ft : List Fr} {s : List Int} {u : MW} {P Q : List Int → Prop} {c d : DC} {n : Nat} {f : Fr} {r : List Fr}

theorem FsOk.step (hf : FsOk (f :: r)) : FsOk ({ f with i := f.i + 1 } :: r) := by
  intro g hg
  rcases List.mem_cons.1 hg with rfl | hg
  · exact hf f (by simp)
  · exact hf g (List.mem_cons_of_mem _ hg)
theorem FsOk.cons {g : Fr} (hn : Cell g.n ∧ Cell g.e) (hf : FsOk fs) : FsOk (g :: fs) := by
  intro x hx
  rcases List.mem_cons.1 hx with rfl | hx
  · exact hn
  · exact hf x hx
theorem cell0 : Cell 0 := ⟨by omega, by omega⟩

theorem out_op {t : ByteArray} {k : Nat} (h : f.its[f.i]? = some (.op t)) (hk : opFind t = some k) (hf : FsOk (f :: r)) (hw : Wl s u) (hn : (Inf.plain (thereS t).1 (thereS t).2.1).need ≤ s.length) (hh : (s.length : Int) + (Inf.plain (thereS t).1 (thereS t).2.1).high ≤ 32) :
    Out ws (Inf.plain (thereS t).1 (thereS t).2.1) (f :: r, s, u) ({ f with i := f.i + 1 } :: r) (fun _ => True) := by
  have hk28 := (there_some hk).2.1
  have e := there_inf hk
  rw [← e] at hn hh ⊢
  have hst : (opInf k).steps = 1 := rfl
  have hhi : (opInf k).net ≤ (opInf k).high := by unfold opInf; simp only; omega
  have hd : dStep ws (f :: r) s u = dWord k ({ f with i := f.i + 1 } :: r) s u := by
    rw [dStep_item h]
    show dWord ((opFind t).getD 0) _ s u = _
    rw [hk]; rfl
  rcases hind_34 (n := u.vars.length) hn (by omega) with hv | hv
  · have hx := exec_op k hk28 0 (n := turnsP ({ f with i := f.i + 1 } :: r)) (m := ⟨s, [(turnsP ({ f with i := f.i + 1 } :: r), 0)], [], 0⟩) (u := u) hv hw (fun _ => ⟨rfl, turns_cell hf.step⟩)
    refine Out.step (fs' := { f with i := f.i + 1 } :: r) (s' := (opP k (turnsP ({ f with i := f.i + 1 } :: r)) s u).1) (u' := (opP k (turnsP ({ f with i := f.i + 1 } :: r)) s u).2) ?_ hst ?_ hx.2.1 hf.step trivial
    · simp only
      rw [hd]; unfold dWord; rw [if_neg (fun e => e hv)]
    · exact op_len k hk28 _ s u hv
  · refine Or.inr ⟨0, _, .zero _, by rw [hst]; omega, ?_⟩
    simp only
    rw [hd]; unfold dWord; rw [if_pos (by rw [hv]; decide)]; exact hv

theorem out_var {k : Nat} {x : RW} (h : f.its[f.i]? = some (.own k)) (hk : ws[k]? = some x) (hx : 0 ≤ x.var) (hv : Cell x.var) (hf : FsOk (f :: r)) (hw : Wl s u) (hs : s.length + 1 ≤ 32) : Out ws (Inf.plain 0 1) (f :: r, s, u) ({ f with i := f.i + 1 } :: r) (fun _ => True) := by
  refine Out.step (fs' := { f with i := f.i + 1 } :: r) (s' := x.var :: s) (u' := u) ?_ rfl ?_ ⟨?_, hw.v, hw.i, by simpa using hs⟩ hf.step trivial
  · simp only
    rw [dStep_item h]
    unfold dItem
    simp only [hk]
    rw [if_pos hx]
    unfold dPut
    rw [if_neg (by omega)]
  · simp [Inf.plain]
  · simp only [List.mem_cons, forall_eq_or_imp]; exact ⟨hv, hw.s⟩

theorem Out.ahead {fs' : List Fr} (h : dStep ws c.1 c.2.1 c.2.2 = (4, fs', c.2.1, c.2.2)) (h2 : i.steps + 1 ≤ 1000000001) (ho : Out ws i (fs', c.2.1, c.2.2) ft P) : Out ws i.more c ft P := by
  have hst : i.more.steps = i.steps + 1 := by unfold Inf.more; simp only; omega
  have g1 : ∀ {n : Nat} {d : DC}, Goes ws n (fs', c.2.1, c.2.2) d → Goes ws (n + 1) c d := fun g => .succ _ _ _ (by rw [h]) (by rw [h]; exact g)
  rcases ho with ⟨n, fs1, s1, u1, g, l, fo, a1, a2, a3, a4, a5⟩ | ⟨n, d, g, hn, h3⟩
  · exact Or.inl ⟨n + 1, fs1, s1, u1, g1 g, l, fo, by rw [hst]; omega, fun e => by have := a2 e; rw [hst]; omega, a3, a4, a5⟩
  · exact Or.inr ⟨n + 1, d, g1 g, by rw [hst]; omega, h3⟩
theorem Out.behind {fm ft : List Fr} (hm : ∀ s u, dStep ws fm s u = (4, ft, s, u)) (hfo : ∀ fs, FsOk fs → Like ws fs fm → FsOk ft) (h2 : i.steps + 1 ≤ 1000000001) (ho : Out ws i c fm P) : Out ws i.more c ft P := by
  have hst : i.more.steps = i.steps + 1 := by unfold Inf.more; simp only; omega
  rcases ho with ⟨n, fs1, s1, u1, g, l, fo, a1, a2, a3, a4, a5⟩ | ⟨n, d, g, hn, h3⟩
  · have e : dStep ws fs1 s1 u1 = (4, ft, s1, u1) := by rw [l.1, hm]
    exact Or.inl ⟨n + 1, ft, s1, u1, g.trans (.succ 0 _ _ (by simp only; rw [e]) (by simp only; rw [e]; exact .zero _)), Like.refl _ _, hfo fs1 fo l, by rw [hst]; omega, fun e => by have := a2 e; rw [hst]; omega, a3, a4, a5⟩
  · exact Or.inr ⟨n, d, g, by rw [hst]; omega, h3⟩
theorem Out.weak (hs : i.steps ≤ j.steps) (hn : j.net = i.net) (hr : j.str = true → i.str = true ∧ j.steps = i.steps) (hp : ∀ s, P s → Q s) (ho : Out ws i c ft P) : Out ws j c ft Q := by
  rcases ho with ⟨n, fs1, s1, u1, g, l, fo, a1, a2, a3, a4, a5⟩ | ⟨n, d, g, hn', h3⟩
  · exact Or.inl ⟨n, fs1, s1, u1, g, l, fo, by omega, fun e => by rw [(hr e).2]; exact a2 (hr e).1, by rw [hn]; exact a3, a4, hp _ a5⟩
  · exact Or.inr ⟨n, d, g, by omega, h3⟩
theorem Out.to (hl : Like ws fm ft) (ho : Out ws i c fm P) : Out ws i c ft P := by
  rcases ho with ⟨n, fs1, s1, u1, g, l, o⟩ | h
  · exact Or.inl ⟨n, fs1, s1, u1, g, l.trans hl, o⟩
  · exact Or.inr h

theorem like_done {g : Fr} {r : List Fr} (hb : g.beh = 0) (hi : g.its[g.i]? = none) : Like ws (g :: r) r := by
  refine ⟨fun s u => ?_, ?_⟩
  · rw [dStep, hi]; simp only; rw [if_pos hb]
  · rw [turnsP, if_neg (by omega)]

def WordOk (ws : List RW) (x : RW) : Prop := ∀ (g : Fr) (r : List Fr) (s : List Int) (u : MW), FsOk (g :: r) → Wl s u → x.inf.need ≤ s.length → (s.length : Int) + x.inf.high ≤ 32 → x.inf.steps ≤ 1000000 → Out ws x.inf (⟨x.its, 0, 3, 0, 0⟩ :: g :: r, s, u) (g :: r) (fun _ => True)
theorem out_own {k : Nat} {x : RW} (h : f.its[f.i]? = some (.own k)) (hk : ws[k]? = some x) (hx : x.var < 0) (ho : WordOk ws x) (hf : FsOk (f :: r)) (hw : Wl s u) (h1 : x.inf.need ≤ s.length) (h2 : (s.length : Int) + x.inf.high ≤ 32) (h3 : x.inf.steps ≤ 1000000) : Out ws x.inf.more (f :: r, s, u) ({ f with i := f.i + 1 } :: r) (fun _ => True) := by
  refine Out.ahead (fs' := ⟨x.its, 0, 3, 0, 0⟩ :: { f with i := f.i + 1 } :: r) ?_ (by omega) (ho _ _ s u hf.step hw h1 h2 h3)
  simp only
  rw [dStep_item h]
  unfold dItem
  simp only [hk]
  rw [if_neg (by omega)]
end

end Go.Proofs.YtcphhbofjkenaaaGreatDoor

namespace Go.Proofs.YtcphhbofjkenaaaGreatDoor
open Go Go.RowKit
set_option linter.unusedVariables false
set_option linter.unusedSimpArgs false

def lastNum (l : List AI) : Option Int :=
  match l.reverse with
  | ⟨some b, _, _⟩ :: _ => some b
  | _ => none
def Tops (l : List AI) (s : List Int) : Prop := (∀ a, lastNum l = some a → ∃ q, s = a :: q) ∧ (∀ a b, lastTwo l = some (a, b) → ∃ q, s = b :: a :: q)
theorem tops_num {l : List AI} {s : List Int} {v : Int} {i : Inf} {t : IT} (h : Tops l s) : Tops (l ++ [⟨some v, i, t⟩]) (v :: s) := by
  refine ⟨fun a e => ?_, fun a b e => ?_⟩
  · simp [lastNum] at e
    exact ⟨s, by rw [e]⟩
  · unfold lastTwo at e
    rw [List.reverse_append, List.reverse_singleton, List.singleton_append] at e
    cases hl : l.reverse with
    | nil => rw [hl] at e; simp at e
    | cons x q =>
      rw [hl] at e
      obtain ⟨xn, xi, xt⟩ := x
      cases xn with
      | none => simp at e
      | some w =>
        simp at e
        obtain ⟨rfl, rfl⟩ := e
        obtain ⟨q2, hq⟩ := h.1 w (by unfold lastNum; rw [hl])
        exact ⟨q2, by rw [hq]⟩
theorem tops_none {l : List AI} {s : List Int} {i : Inf} {t : IT} : Tops (l ++ [⟨none, i, t⟩]) s :=
  ⟨fun a e => by simp [lastNum] at e, fun a b e => by simp [lastTwo] at e⟩

def ItemIs (ws : List RW) (l : List AI) (x : AI) : Prop := ∀ (f : Fr) (r : List Fr) (s : List Int) (u : MW), f.its[f.i]? = some x.tree → FsOk (f :: r) → Wl s u → Tops l s → x.inf.need ≤ s.length → (s.length : Int) + x.inf.high ≤ 32 → x.inf.steps ≤ 1000000 → Out ws x.inf (f :: r, s, u) ({ f with i := f.i + 1 } :: r) (Tops (l ++ [x]))
def ListOk (ws : List RW) (l : List AI) : Prop := ∀ (its rest : List IT) (i0 beh : Nat) (nn ee : Int) (r : List Fr) (s : List Int) (u : MW), its.drop i0 = trees l ++ rest → FsOk (⟨its, i0, beh, nn, ee⟩ :: r) → Wl s u → (infL l).need ≤ s.length → (s.length : Int) + (infL l).high ≤ 32 → (infL l).steps ≤ 1000000 → Out ws (infL l) (⟨its, i0, beh, nn, ee⟩ :: r, s, u) (⟨its, i0 + l.length, beh, nn, ee⟩ :: r) (Tops l)

section
variable {ws : List RW} {l la lb : List AI} {x : AI}

theorem list_nil : ListOk ws [] := by
  intro its rest i0 beh nn ee r s u hd hf hw h1 h2 h3
  exact Or.inl ⟨0, _, s, u, .zero _, by simpa using Like.refl ws _, hf, by simp [infL_nil, Inf.zero], fun _ => by simp [infL_nil, Inf.zero], by simp [infL_nil, Inf.zero], hw, fun a e => by simp [lastNum] at e, fun a b e => by simp [lastTwo] at e⟩

theorem list_snoc (hl : ListOk ws l) (h0 : 0 ≤ (infL l).steps) (h1 : 0 ≤ x.inf.steps) (hx : ItemIs ws l x) : ListOk ws (l ++ [x]) := by
  intro its rest i0 beh nn ee r s u hd hf hw k1 k2 k3
  rw [infL_snoc] at k1 k2 k3 ⊢
  have hst : (infL l).steps + x.inf.steps ≤ 1000000 := by unfold Inf.then at k3; simp only at k3; omega
  unfold Inf.then at k1 k2
  simp only at k1 k2
  have hdl : its.drop i0 = trees l ++ (x.tree :: rest) := by rw [hd]; unfold trees; simp
  have hit : its[i0 + l.length]? = some x.tree := by
    have e : (its.drop i0)[l.length]? = some x.tree := by
      rw [hdl, List.getElem?_append_right (by simp [trees])]
      simp [trees]
    rw [List.getElem?_drop] at e
    exact e
  have hff : FsOk (⟨its, i0 + l.length, beh, nn, ee⟩ :: r) := by
    intro g hg
    rcases List.mem_cons.1 hg with rfl | hg
    · exact hf ⟨its, i0, beh, nn, ee⟩ (by simp)
    · exact hf g (List.mem_cons_of_mem _ hg)
  have := Out.then (j := x.inf) h0 h1 (by omega) (hl its (x.tree :: rest) i0 beh nn ee r s u hdl hf hw (by omega) (by omega) (by omega)) (fun s' u' e hw' ht => hx ⟨its, i0 + l.length, beh, nn, ee⟩ r s' u' hit hff hw' ht (by omega) (by omega) (by omega))
  rw [List.length_append, List.length_singleton, ← Nat.add_assoc]
  exact this

theorem item_num {v : Int} (hv : Cell v) : ItemIs ws l ⟨some v, Inf.plain 0 1, .num v⟩ := by
  intro f r s u h hf hw ht h1 h2 h3
  refine Out.weak (Int.le_refl _) rfl (fun e => ⟨e, rfl⟩) (fun s' e => ?_) (out_num h hv hf hw (by simp [Inf.plain] at h2; omega))
  rw [e]; exact tops_num ht

theorem item_iff (ha : ListOk ws la) (hn : (infL la).net = 0) (hs0 : 0 ≤ (infL la).steps) : ItemIs ws l ⟨none, (Inf.plain 1 0).then ((infL la).ways Inf.zero), .iff (trees la)⟩ := by
  intro f r s u h hf hw ht h1 h2 h3
  simp only [Inf.then, Inf.plain, Inf.ways, Inf.zero] at h1 h2 h3
  cases s with
  | nil => simp at h1; omega
  | cons x q =>
    simp only [List.length_cons] at h1 h2
    have hwt := hw.tail
    refine Out.weak (Int.le_refl _) rfl (fun e => ⟨e, rfl⟩) (fun _ _ => tops_none) (P := fun _ => True) ?_
    by_cases hx : x = 0
    · refine Out.then (P := fun s' => True) (fm := { f with i := f.i + 1 } :: r) (by simp [Inf.plain]) (by simp only [Inf.ways, Inf.zero]; omega) (by simp only [Inf.plain, Inf.ways, Inf.zero]; omega) ?_ (fun s' u' e hw' _ => ?_)
      · refine Out.to (like_done (g := ⟨[], 0, 0, 0, 0⟩) rfl rfl) (Out.step (s' := q) (u' := u) ?_ rfl ?_ hwt (FsOk.cons ⟨cell0, cell0⟩ hf.step) trivial)
        · simp only
          rw [dStep_item h]; unfold dItem; simp only; rw [if_pos hx]
        · simp [Inf.plain]; omega
      · exact Or.inl ⟨0, _, s', u', .zero _, Like.refl _ _, hf.step, by simp only [Inf.ways, Inf.zero]; omega, fun e => by simp [Inf.ways] at e, by simp only [Inf.ways]; omega, hw', trivial⟩
    · refine Out.then (P := fun s' => s' = q) (fm := ⟨trees la, 0, 0, 0, 0⟩ :: { f with i := f.i + 1 } :: r) (by simp [Inf.plain]) (by simp only [Inf.ways, Inf.zero]; omega) (by simp only [Inf.plain, Inf.ways, Inf.zero]; omega) ?_ (fun s' u' e hw' he => ?_)
      · refine Out.step (s' := q) (u' := u) ?_ rfl ?_ hwt (FsOk.cons ⟨cell0, cell0⟩ hf.step) rfl
        · simp only
          rw [dStep_item h]; unfold dItem; simp only; rw [if_neg hx]
        · simp [Inf.plain]; omega
      · subst he
        have := ha (trees la) [] 0 0 0 0 ({ f with i := f.i + 1 } :: r) s' u' (by simp) (FsOk.cons ⟨cell0, cell0⟩ hf.step) hw' (by omega) (by omega) (by omega)
        have h2 := Out.to (like_done (ws := ws) (g := ⟨trees la, 0 + la.length, 0, 0, 0⟩) (r := { f with i := f.i + 1 } :: r) rfl (by simp [trees])) this
        exact Out.weak (i := infL la) (j := (infL la).ways Inf.zero) (by simp only [Inf.ways, Inf.zero]; omega) rfl (fun e => by simp [Inf.ways] at e) (fun _ _ => trivial) h2
end

end Go.Proofs.YtcphhbofjkenaaaGreatDoor

namespace Go.Proofs.YtcphhbofjkenaaaGreatDoor
open Go Go.RowKit
set_option linter.unusedVariables false
set_option linter.unusedSimpArgs false

section
variable {ws : List RW} {l la lb : List AI} {x : AI}

theorem list_all (ha : ListOk ws la) {beh : Nat} {nn ee : Int} {r : List Fr} {s : List Int} {u : MW} (hc : Cell nn ∧ Cell ee) (hf : FsOk r) (hw : Wl s u) (h1 : (infL la).need ≤ s.length) (h2 : (s.length : Int) + (infL la).high ≤ 32) (h3 : (infL la).steps ≤ 1000000) : Out ws (infL la) (⟨trees la, 0, beh, nn, ee⟩ :: r, s, u) (⟨trees la, la.length, beh, nn, ee⟩ :: r) (fun _ => True) := by
  have := ha (trees la) [] 0 beh nn ee r s u (by simp) (FsOk.cons hc hf) hw h1 h2 h3
  rw [Nat.zero_add] at this
  exact Out.weak (Int.le_refl _) rfl (fun e => ⟨e, rfl⟩) (fun _ _ => trivial) this

theorem item_els (ha : ListOk ws la) (hb : ListOk ws lb) (hn : (infL la).net = (infL lb).net) (hs0 : 0 ≤ (infL la).steps) (hs1 : 0 ≤ (infL lb).steps) : ItemIs ws l ⟨none, (Inf.plain 1 0).then ((infL la).more.ways (infL lb)), .els (trees la) (trees lb)⟩ := by
  intro f r s u h hf hw ht h1 h2 h3
  simp only [Inf.then, Inf.plain, Inf.ways, Inf.more] at h1 h2 h3
  cases s with
  | nil => simp at h1; omega
  | cons x q =>
    simp only [List.length_cons] at h1 h2
    have hwt := hw.tail
    refine Out.weak (Int.le_refl _) rfl (fun e => ⟨e, rfl⟩) (fun _ _ => tops_none) (P := fun _ => True) ?_
    by_cases hx : x = 0
    · refine Out.then (P := fun s' => s' = q) (fm := ⟨trees lb, 0, 0, 0, 0⟩ :: { f with i := f.i + 1 } :: r) (by simp [Inf.plain]) (by simp only [Inf.ways, Inf.more]; omega) (by simp only [Inf.plain, Inf.ways, Inf.more]; omega) ?_ (fun s' u' e hw' he => ?_)
      · refine Out.step (s' := q) (u' := u) ?_ rfl ?_ hwt (FsOk.cons ⟨cell0, cell0⟩ hf.step) rfl
        · simp only
          rw [dStep_item h]; unfold dItem; simp only; rw [if_pos hx]
        · simp [Inf.plain]; omega
      · subst he
        have := list_all hb (beh := 0) ⟨cell0, cell0⟩ hf.step hw' (by omega) (by omega) (by omega)
        have h2 := Out.to (like_done (ws := ws) (g := ⟨trees lb, lb.length, 0, 0, 0⟩) (r := { f with i := f.i + 1 } :: r) rfl (by simp [trees])) this
        exact Out.weak (i := infL lb) (j := (infL la).more.ways (infL lb)) (by simp only [Inf.ways, Inf.more]; omega) hn (fun e => by simp [Inf.ways] at e) (fun _ _ => trivial) h2
    · refine Out.then (P := fun s' => s' = q) (fm := ⟨trees la, 0, 1, 0, 0⟩ :: { f with i := f.i + 1 } :: r) (by simp [Inf.plain]) (by simp only [Inf.ways, Inf.more]; omega) (by simp only [Inf.plain, Inf.ways, Inf.more]; omega) ?_ (fun s' u' e hw' he => ?_)
      · refine Out.step (s' := q) (u' := u) ?_ rfl ?_ hwt (FsOk.cons ⟨cell0, cell0⟩ hf.step) rfl
        · simp only
          rw [dStep_item h]; unfold dItem; simp only; rw [if_neg hx]
        · simp [Inf.plain]; omega
      · subst he
        have := list_all ha (beh := 1) ⟨cell0, cell0⟩ hf.step hw' (by omega) (by omega) (by omega)
        have h2 := Out.behind (ft := { f with i := f.i + 1 } :: r) (fun s u => by rw [dStep]; simp [trees]) (fun _ _ _ => hf.step) (by omega) this
        exact Out.weak (i := (infL la).more) (j := (infL la).more.ways (infL lb)) (by simp only [Inf.ways]; omega) rfl (fun e => by simp [Inf.ways] at e) (fun _ _ => trivial) h2

theorem out_loop (ha : ListOk ws la) (hn : (infL la).net = 0) (hs0 : 0 ≤ (infL la).steps) {r : List Fr} (hf : FsOk r) (a : Int) (hca : Cell a) : ∀ (k : Nat) (n : Int) (s : List Int) (u : MW), n + (k + 1) = a → Cell n → Wl s u → (infL la).need ≤ s.length → (s.length : Int) + (infL la).high ≤ 32 → ((k : Int) + 1) * ((infL la).steps + 1) ≤ 1000000 →
    Out ws ⟨0, 0, 0, ((k : Int) + 1) * ((infL la).steps + 1), (infL la).str⟩ (⟨trees la, 0, 2, n, a⟩ :: r, s, u) r (fun _ => True)
  | 0, n, s, u, e, hcn, hw, h1, h2, h3 => by
    simp only [Int.natCast_zero, Int.zero_add, Int.one_mul] at e h3 ⊢
    have := list_all ha (beh := 2) ⟨hcn, hca⟩ hf hw h1 h2 (by omega)
    have h2 := Out.behind (ft := r) (fun s u => by rw [dStep]; simp [trees]; omega) (fun _ _ _ => hf) (by omega) this
    refine Out.weak (i := (infL la).more) (by simp only [Inf.more]; omega) (by simp only [Inf.more]; omega) (fun e => ⟨e, by simp only [Inf.more]; omega⟩) (fun _ _ => trivial) h2
  | k + 1, n, s, u, e, hcn, hw, h1, h2, h3 => by
    have hm : (((k + 1 : Nat) : Int) + 1) * ((infL la).steps + 1) = ((k : Int) + 1) * ((infL la).steps + 1) + ((infL la).steps + 1) := by
      rw [Int.natCast_add, Int.add_mul, Int.natCast_one, Int.one_mul]
    have hk0 : 0 ≤ ((k : Int) + 1) * ((infL la).steps + 1) := Int.mul_nonneg (by omega) (by omega)
    rw [hm] at h3 ⊢
    obtain ⟨c1, c2⟩ := hcn
    obtain ⟨c3, c4⟩ := hca
    have hcn1 : Cell (n + 1) := ⟨by omega, by omega⟩
    have t1 := list_all ha (beh := 2) ⟨⟨c1, c2⟩, ⟨c3, c4⟩⟩ hf hw h1 h2 (by omega)
    have t2 := Out.behind (ft := ⟨trees la, 0, 2, n + 1, a⟩ :: r) (fun s u => by rw [dStep]; simp [trees]; omega) (fun _ _ _ => FsOk.cons ⟨hcn1, ⟨c3, c4⟩⟩ hf) (by omega) t1
    have t3 := Out.then (j := ⟨0, 0, 0, ((k : Int) + 1) * ((infL la).steps + 1), (infL la).str⟩) (ft := r) (Q := fun _ => True) (by simp only [Inf.more]; omega) hk0 (by simp only [Inf.more]; omega) t2 (fun s' u' e' hw' _ => by
      have e2 : (s'.length : Int) = s.length := by rw [e']; simp only [Inf.more]; omega
      exact out_loop ha hn hs0 hf a ⟨c3, c4⟩ k (n + 1) s' u' (by omega) hcn1 hw' (by omega) (by omega) (by omega))
    refine Out.weak ?_ ?_ ?_ (fun _ _ => trivial) t3
    · simp only [Inf.then, Inf.more]; omega
    · simp only [Inf.then, Inf.more]; omega
    · simp only [Inf.then, Inf.more, Bool.and_self]; exact fun e => ⟨e, by omega⟩

theorem item_doo {a b : Int} (ha : ListOk ws la) (hab : lastTwo l = some (a, b)) (hn : (infL la).net = 0) (hs0 : 0 ≤ (infL la).steps) : ItemIs ws l ⟨none, (Inf.plain 2 0).then ((infL la).times (max 0 (a - b))), .doo (trees la)⟩ := by
  intro f r s u h hf hw ht h1 h2 h3
  obtain ⟨q, rfl⟩ := ht.2 a b hab
  have hwt := hw.tail.tail
  have hca := hw.s a (by simp)
  have hcb := hw.s b (by simp)
  refine Out.weak (Int.le_refl _) rfl (fun e => ⟨e, rfl⟩) (fun _ _ => tops_none) (P := fun _ => True) ?_
  by_cases hlt : b < a
  · obtain ⟨k, hk⟩ : ∃ k : Nat, a - b = (k : Int) + 1 := ⟨(a - b - 1).toNat, by omega⟩
    have hmx : max 0 (a - b) = (k : Int) + 1 := by omega
    have htm : (infL la).times ((k : Int) + 1) = ⟨(infL la).need, (infL la).net, (infL la).high, min (((k : Int) + 1) * min ((infL la).steps + 1) 1000000001) 1000000001, (infL la).str⟩ := by unfold Inf.times; rw [if_neg (by omega)]
    rw [hmx, htm] at h1 h2 h3 ⊢
    simp only [Inf.then, Inf.plain, List.length_cons] at h1 h2 h3
    have hge : min ((infL la).steps + 1) 1000000001 ≤ ((k : Int) + 1) * min ((infL la).steps + 1) 1000000001 := by
      have : (1 : Int) * min ((infL la).steps + 1) 1000000001 ≤ ((k : Int) + 1) * min ((infL la).steps + 1) 1000000001 := Int.mul_le_mul_of_nonneg_right (by omega) (by omega)
      omega
    have hmin : min ((infL la).steps + 1) 1000000001 = (infL la).steps + 1 := by omega
    rw [hmin] at h3 ⊢
    have hk0 : 0 ≤ ((k : Int) + 1) * ((infL la).steps + 1) := Int.mul_nonneg (by omega) (by omega)
    have hm2 : min (((k : Int) + 1) * ((infL la).steps + 1)) 1000000001 = ((k : Int) + 1) * ((infL la).steps + 1) := by omega
    rw [hm2] at h3 ⊢
    refine Out.then (P := fun s' => s' = q) (fm := ⟨trees la, 0, 2, b, a⟩ :: { f with i := f.i + 1 } :: r) (by simp [Inf.plain]) hk0 (by simp only [Inf.plain]; omega) ?_ (fun s' u' e hw' he => ?_)
    · refine Out.step (s' := q) (u' := u) ?_ rfl ?_ hwt (FsOk.cons ⟨hcb, hca⟩ hf.step) rfl
      · simp only
        rw [dStep_item h]; unfold dItem; simp only; rw [if_pos hlt]
      · simp [Inf.plain]; omega
    · subst he
      have := out_loop ha hn hs0 hf.step a hca k b s' u' (by omega) hcb hw' (by omega) (by omega) (by omega)
      exact Out.weak (i := ⟨0, 0, 0, ((k : Int) + 1) * ((infL la).steps + 1), (infL la).str⟩) (Int.le_refl _) hn (fun e => ⟨e, rfl⟩) (fun _ _ => trivial) this
  · have hmx : max 0 (a - b) = 0 := by omega
    have htm : (infL la).times 0 = ⟨0, 0, 0, 0, (infL la).str⟩ := by unfold Inf.times; rw [if_pos rfl]
    rw [hmx, htm] at h1 h2 h3 ⊢
    refine Out.then (P := fun s' => True) (fm := { f with i := f.i + 1 } :: r) (by simp [Inf.plain]) (Int.le_refl _) (by simp [Inf.plain]) ?_ (fun s' u' e hw' _ => ?_)
    · refine Out.step (s' := q) (u' := u) ?_ rfl ?_ hwt hf.step trivial
      · simp only
        rw [dStep_item h]; unfold dItem; simp only; rw [if_neg hlt]
      · simp [Inf.plain]; omega
    · exact Or.inl ⟨0, _, s', u', .zero _, Like.refl _ _, hf.step, Int.le_refl _, fun _ => rfl, by simp, hw', trivial⟩
end

end Go.Proofs.YtcphhbofjkenaaaGreatDoor

namespace Go.Proofs.YtcphhbofjkenaaaGreatDoor
open Go Go.RowKit
set_option linter.unusedVariables false
set_option linter.unusedSimpArgs false

def Lack (ws : List RW) (i : Inf) (c : DC) : Prop := ∃ (n : Nat) (d : DC), Goes ws n c d ∧ (n : Int) + 1 ≤ i.steps ∧ 1 ≤ (dStep ws d.1 d.2.1 d.2.2).1 ∧ (dStep ws d.1 d.2.1 d.2.2).1 ≤ 3

def ItemLack (ws : List RW) (l : List AI) (x : AI) : Prop := x.inf.str = true → ∀ (f : Fr) (r : List Fr) (s : List Int) (u : MW), f.its[f.i]? = some x.tree → FsOk (f :: r) → Wl s u → Tops l s → (s.length : Int) < x.inf.need → (s.length : Int) + x.inf.high ≤ 32 → x.inf.steps ≤ 1000000 → Lack ws x.inf (f :: r, s, u)
def ListLack (ws : List RW) (l : List AI) : Prop := (infL l).str = true → ∀ (its rest : List IT) (i0 beh : Nat) (nn ee : Int) (r : List Fr) (s : List Int) (u : MW), its.drop i0 = trees l ++ rest → FsOk (⟨its, i0, beh, nn, ee⟩ :: r) → Wl s u → (s.length : Int) < (infL l).need → (s.length : Int) + (infL l).high ≤ 32 → (infL l).steps ≤ 1000000 → Lack ws (infL l) (⟨its, i0, beh, nn, ee⟩ :: r, s, u)

section
variable {ws : List RW} {l la lb : List AI} {x : AI} {i j : Inf} {fs fm ft : List Fr} {s : List Int} {u : MW} {c : DC}

theorem Lack.weak (h : Lack ws i c) (hs : i.steps ≤ j.steps) : Lack ws j c := by
  obtain ⟨n, d, g, a, b⟩ := h
  exact ⟨n, d, g, by omega, b⟩
theorem Lack.like (h : Lack ws i (fm, s, u)) (hl : Like ws fs fm) : Lack ws i (fs, s, u) := by
  obtain ⟨n, d, g, a, b⟩ := h
  cases n with
  | zero =>
    have e := g.none
    subst e
    exact ⟨0, (fs, s, u), .zero _, a, by simp only at b ⊢; rw [hl.1]; exact b⟩
  | succ n => exact ⟨n + 1, d, g.head hl, a, b⟩
theorem Lack.ahead {fs' : List Fr} {s' : List Int} {u' : MW} (h : dStep ws c.1 c.2.1 c.2.2 = (4, fs', s', u')) (hs : i.steps + 1 ≤ j.steps) (hk : Lack ws i (fs', s', u')) : Lack ws j c := by
  obtain ⟨n, d, g, a, b⟩ := hk
  exact ⟨n + 1, d, .succ _ _ _ (by rw [h]) (by rw [h]; exact g), by omega, b⟩

theorem lack_nil : ListLack ws [] := by
  intro _ its rest i0 beh nn ee r s u hd hf hw h1
  simp [infL_nil, Inf.zero] at h1; omega

theorem lack_snoc (hl : ListOk ws l) (hk : ListLack ws l) (h0 : 0 ≤ (infL l).steps) (h1 : 0 ≤ x.inf.steps) (hx : ItemLack ws l x) : ListLack ws (l ++ [x]) := by
  intro hstr its rest i0 beh nn ee r s u hd hf hw k1 k2 k3
  rw [infL_snoc] at hstr k1 k2 k3 ⊢
  have hst : (infL l).steps + x.inf.steps ≤ 1000000 := by unfold Inf.then at k3; simp only at k3; omega
  have hsum : ((infL l).then x.inf).steps = (infL l).steps + x.inf.steps := by unfold Inf.then; simp only; omega
  unfold Inf.then at k1 k2 hstr
  simp only [Bool.and_eq_true] at k1 k2 hstr
  have hdl : its.drop i0 = trees l ++ (x.tree :: rest) := by rw [hd]; unfold trees; simp
  by_cases hlow : (s.length : Int) < (infL l).need
  · exact (hk hstr.1 its (x.tree :: rest) i0 beh nn ee r s u hdl hf hw hlow (by omega) (by omega)).weak (by omega)
  · have hit : its[i0 + l.length]? = some x.tree := by
      have e : (its.drop i0)[l.length]? = some x.tree := by
        rw [hdl, List.getElem?_append_right (by simp [trees])]
        simp [trees]
      rw [List.getElem?_drop] at e
      exact e
    have hff : FsOk (⟨its, i0 + l.length, beh, nn, ee⟩ :: r) := by
      intro g hg
      rcases List.mem_cons.1 hg with rfl | hg
      · exact hf ⟨its, i0, beh, nn, ee⟩ (by simp)
      · exact hf g (List.mem_cons_of_mem _ hg)
    rcases hl its (x.tree :: rest) i0 beh nn ee r s u hdl hf hw (by omega) (by omega) (by omega) with ⟨n, fs1, s1, u1, g, lk, fo, a1, a2, a3, a4, a5⟩ | ⟨n, d, g, hn, h3⟩
    · simp only at a3
      have hL := (hx hstr.2 ⟨its, i0 + l.length, beh, nn, ee⟩ r s1 u1 hit hff a4 a5 (by omega) (by omega) (by omega)).like lk
      obtain ⟨m, d, g2, b1, b2⟩ := hL
      exact ⟨n + m, d, g.trans g2, by omega, b2⟩
    · exact ⟨n, d, g, by omega, by omega, by omega⟩

theorem lack_num {v : Int} {t : IT} : ItemLack ws l ⟨some v, Inf.plain 0 1, t⟩ := by
  intro _ f r s u h hf hw ht h1
  simp [Inf.plain] at h1; omega
theorem lack_if {t : IT} (p q : Inf) : ItemLack ws l ⟨none, (Inf.plain 1 0).then (p.ways q), t⟩ := by
  intro e
  simp [Inf.then, Inf.ways] at e

theorem lack_doo {a b : Int} (ha : ListLack ws la) (hab : lastTwo l = some (a, b)) (hs0 : 0 ≤ (infL la).steps) : ItemLack ws l ⟨none, (Inf.plain 2 0).then ((infL la).times (max 0 (a - b))), .doo (trees la)⟩ := by
  intro hstr f r s u h hf hw ht h1 h2 h3
  obtain ⟨q, rfl⟩ := ht.2 a b hab
  have hwt := hw.tail.tail
  have hca := hw.s a (by simp)
  have hcb := hw.s b (by simp)
  by_cases hlt : b < a
  · obtain ⟨k, hk⟩ : ∃ k : Nat, a - b = (k : Int) + 1 := ⟨(a - b - 1).toNat, by omega⟩
    have hmx : max 0 (a - b) = (k : Int) + 1 := by omega
    have htm : (infL la).times ((k : Int) + 1) = ⟨(infL la).need, (infL la).net, (infL la).high, min (((k : Int) + 1) * min ((infL la).steps + 1) 1000000001) 1000000001, (infL la).str⟩ := by unfold Inf.times; rw [if_neg (by omega)]
    rw [hmx, htm] at h1 h2 h3 hstr ⊢
    have hge : min ((infL la).steps + 1) 1000000001 ≤ ((k : Int) + 1) * min ((infL la).steps + 1) 1000000001 := by
      have : (1 : Int) * min ((infL la).steps + 1) 1000000001 ≤ ((k : Int) + 1) * min ((infL la).steps + 1) 1000000001 := Int.mul_le_mul_of_nonneg_right (by omega) (by omega)
      omega
    simp only [Inf.then, Inf.plain, List.length_cons, Bool.true_and] at h1 h2 h3 hstr
    refine Lack.ahead (i := infL la) (fs' := ⟨trees la, 0, 2, b, a⟩ :: { f with i := f.i + 1 } :: r) (s' := q) (u' := u) ?_ ?_ (ha hstr (trees la) [] 0 2 b a _ q u (by simp) (FsOk.cons ⟨hcb, hca⟩ hf.step) hwt (by omega) (by omega) (by omega))
    · simp only
      rw [dStep_item h]; unfold dItem; simp only; rw [if_pos hlt]
    · simp only [Inf.then, Inf.plain]; omega
  · have hmx : max 0 (a - b) = 0 := by omega
    have htm : (infL la).times 0 = ⟨0, 0, 0, 0, (infL la).str⟩ := by unfold Inf.times; rw [if_pos rfl]
    rw [hmx, htm] at h1
    simp only [Inf.then, Inf.plain, List.length_cons] at h1
    omega

theorem hind_1 {k : Nat} {s : List Int} {n : Nat} (h1 : (s.length : Int) < (opInf k).need) : hindP k s n = 1 := by
  unfold hindP
  rw [if_pos (by omega)]
theorem lack_op {t : ByteArray} {k : Nat} (hk : opFind t = some k) : ItemLack ws l ⟨none, Inf.plain (thereS t).1 (thereS t).2.1, .op t⟩ := by
  intro _ f r s u h hf hw ht h1 h2 h3
  have e := there_inf hk
  simp only at h1 h2 h3 h ⊢
  rw [← e] at h1 ⊢
  have hv := hind_1 (n := u.vars.length) h1
  have hd : dStep ws (f :: r) s u = (1, { f with i := f.i + 1 } :: r, s, u) := by
    rw [dStep_item h]
    show dWord ((opFind t).getD 0) _ s u = _
    rw [hk]
    show dWord k _ s u = _
    unfold dWord; rw [if_pos (by rw [hv]; decide), hv]
  exact ⟨0, _, .zero _, by show ((0 : Nat) : Int) + 1 ≤ 1; omega, by simp only; rw [hd]; exact Int.le_refl _, by simp only; rw [hd]; show (1 : Int) ≤ 3; omega⟩

theorem item_op {t : ByteArray} {k : Nat} (hk : opFind t = some k) : ItemIs ws l ⟨none, Inf.plain (thereS t).1 (thereS t).2.1, .op t⟩ := by
  intro f r s u h hf hw ht h1 h2 h3
  exact Out.weak (Int.le_refl _) rfl (fun e => ⟨e, rfl⟩) (fun _ _ => tops_none) (out_op h hk hf hw h1 h2)

structure OwnOk (ws : List RW) (x : RW) (l : List AI) : Prop where
  its : x.its = trees l
  inf : x.inf = wInf l
  ok : ListOk ws l
  lack : ListLack ws l
  s0 : 0 ≤ (infL l).steps

theorem OwnOk.word {x : RW} {l : List AI} (h : OwnOk ws x l) : WordOk ws x := by
  intro g r s u hf hw h1 h2 h3
  rw [h.inf] at h1 h2 h3 ⊢
  rw [h.its]
  simp only [wInf] at h1 h2 h3
  have t1 := list_all h.ok (beh := 3) ⟨cell0, cell0⟩ hf hw h1 h2 (by omega)
  have t2 := Out.behind (ft := g :: r) (fun s u => by rw [dStep]; simp [trees]) (fun _ _ _ => hf) (by omega) t1
  exact Out.weak (i := (infL l).more) (by simp only [Inf.more, wInf]; omega) rfl (fun e => ⟨e, by simp only [Inf.more, wInf]; omega⟩) (fun _ _ => trivial) t2

theorem item_own {k : Nat} {x : RW} {lx : List AI} (hk : ws[k]? = some x) (hx : x.var < 0) (ho : OwnOk ws x lx) : ItemIs ws l ⟨none, x.inf.more, .own k⟩ := by
  intro f r s u h hf hw ht h1 h2 h3
  have hs := ho.s0
  have hi := ho.inf
  have h3' : x.inf.steps ≤ 1000000 := by simp only [Inf.more] at h3; omega
  exact Out.weak (Int.le_refl _) rfl (fun e => ⟨e, rfl⟩) (fun _ _ => tops_none) (out_own h hk hx ho.word hf hw h1 h2 h3')
theorem lack_own {k : Nat} {x : RW} {lx : List AI} (hk : ws[k]? = some x) (hx : x.var < 0) (ho : OwnOk ws x lx) : ItemLack ws l ⟨none, x.inf.more, .own k⟩ := by
  intro hstr f r s u h hf hw ht h1 h2 h3
  have hs := ho.s0
  have hi := ho.inf
  simp only at hstr h1 h2 h3 h ⊢
  rw [hi] at hstr h1 h2 h3 ⊢
  simp only [Inf.more, wInf] at hstr h1 h2 h3
  refine Lack.ahead (i := infL lx) (fs' := ⟨trees lx, 0, 3, 0, 0⟩ :: { f with i := f.i + 1 } :: r) (s' := s) (u' := u) ?_ ?_ (ho.lack hstr (trees lx) [] 0 3 0 0 _ s u (by simp) (FsOk.cons ⟨cell0, cell0⟩ hf.step) hw h1 h2 (by omega))
  · simp only
    rw [dStep_item h]; unfold dItem; simp only [hk]; rw [if_neg (by omega), ho.its]
  · simp only [Inf.more, wInf]; omega
theorem item_var {k : Nat} {x : RW} (hk : ws[k]? = some x) (hx : 0 ≤ x.var) (hv : Cell x.var) : ItemIs ws l ⟨none, Inf.plain 0 1, .own k⟩ := by
  intro f r s u h hf hw ht h1 h2 h3
  exact Out.weak (Int.le_refl _) rfl (fun e => ⟨e, rfl⟩) (fun _ _ => tops_none) (out_var h hk hx hv hf hw (by simp [Inf.plain] at h2; omega))
theorem lack_var {k : Nat} : ItemLack ws l ⟨none, Inf.plain 0 1, .own k⟩ := by
  intro _ f r s u h hf hw ht h1
  simp [Inf.plain] at h1; omega
end

end Go.Proofs.YtcphhbofjkenaaaGreatDoor

namespace Go.Proofs.YtcphhbofjkenaaaGreatDoor
open Go Go.RowKit
set_option linter.unusedVariables false
set_option linter.unusedSimpArgs false

section
variable {es : List PE} {code : List Int} {ws : List RW}

end

end Go.Proofs.YtcphhbofjkenaaaGreatDoor

namespace Go.Proofs.YtcphhbofjkenaaaGreatDoor
open Go Go.RowKit
set_option linter.unusedVariables false
set_option linter.unusedSimpArgs false

theorem bd_ok {ws0 ws : List RW} {l : List AI} (hp : ∀ (k : Nat) (x : RW), ws0[k]? = some x → ws[k]? = some x ∧ (0 ≤ x.var → Cell x.var) ∧ (x.var < 0 → ∃ l, OwnOk ws x l)) (h : Bd ws0 l) : ListOk ws l ∧ ListLack ws l ∧ 0 ≤ (infL l).steps := by
  have fin : ∀ {l : List AI} {x : AI}, (ListOk ws l ∧ ListLack ws l ∧ 0 ≤ (infL l).steps) → 0 ≤ x.inf.steps → ItemIs ws l x → ItemLack ws l x → ListOk ws (l ++ [x]) ∧ ListLack ws (l ++ [x]) ∧ 0 ≤ (infL (l ++ [x])).steps := fun ⟨a, b, c⟩ h0 h1 h2 =>
    ⟨list_snoc a c h0 h1, lack_snoc a b c h0 h2, by rw [infL_snoc]; simp only [Inf.then]; omega⟩
  induction h with
  | nil => exact ⟨list_nil, lack_nil, by simp [infL_nil, Inf.zero]⟩
  | num l n hl hn ih => exact fin ih (by simp [Inf.plain]) (item_num ⟨by omega, by omega⟩) lack_num
  | word l t loops hl h ih =>
    unfold wordI wordT
    by_cases hf : 0 ≤ findW ws0 t
    · rw [if_pos hf, if_pos hf]
      have hlk := (lastK_lt (nameAt ws0) t ws0.length).1
      have hlt : (findW ws0 t).toNat < ws0.length := by have : findW ws0 t < ws0.length := hlk; omega
      have hx : ws0[(findW ws0 t).toNat]? = some ws0[(findW ws0 t).toNat] := List.getElem?_eq_getElem hlt
      obtain ⟨e1, e2, e3⟩ := hp _ _ hx
      rw [hx]
      simp only
      unfold ownInf
      by_cases hv : 0 ≤ (ws0[(findW ws0 t).toNat]).var
      · rw [if_pos hv]
        exact fin ih (by simp [Inf.plain]) (item_var e1 hv (e2 hv)) lack_var
      · rw [if_neg hv]
        obtain ⟨lx, ho⟩ := e3 (by omega)
        have hs := ho.s0
        have hi := ho.inf
        exact fin ih (by simp only [Inf.more]; rw [hi]; simp only [wInf]; omega) (item_own e1 (by omega) ho) (lack_own e1 (by omega) ho)
    · rw [if_neg hf, if_neg hf]
      unfold wordE at h
      rw [if_neg hf] at h
      cases hk : opFind t with
      | none => rw [there_none hk] at h; simp at h
      | some k => exact fin ih (by simp [Inf.plain]) (item_op hk) (lack_op hk)
  | iff l la hl ha hn ih iha => exact fin ih (by simp only [Inf.then, Inf.plain, Inf.ways, Inf.zero]; omega) (item_iff iha.1 hn iha.2.2) (lack_if _ _)
  | els l la lb hl ha hb hn ih iha ihb => exact fin ih (by have := iha.2.2; simp only [Inf.then, Inf.plain, Inf.ways, Inf.more]; omega) (item_els iha.1 ihb.1 hn iha.2.2 ihb.2.2) (lack_if _ _)
  | doo l la a b hl hab h ha hn ih iha =>
    have h0 := iha.2.2
    have hp : 0 ≤ max 0 (a - b) * min ((infL la).steps + 1) 1000000001 := Int.mul_nonneg (by omega) (by omega)
    exact fin ih (by simp only [Inf.then, Inf.plain]; unfold Inf.times; split <;> simp only <;> omega) (item_doo iha.1 hab hn h0) (lack_doo iha.2.1 hab h0)

theorem last_of {ws : List RW} {x y : RW} {k : Nat} (h : (ws ++ [x])[k]? = some y) : ws[k]? = some y ∨ y = x := by
  by_cases hk : k < ws.length
  · rw [List.getElem?_append_left hk] at h; exact Or.inl h
  · rw [List.getElem?_append_right (by omega)] at h
    have h0 : k - ws.length = 0 := by have := (List.getElem?_eq_some_iff.1 h).1; simp at this; omega
    rw [h0] at h
    exact Or.inr (by simpa using h.symm)
theorem app_of {ws : List RW} {x y : RW} {k : Nat} (h : ws[k]? = some y) : (ws ++ [x])[k]? = some y := by
  rw [List.getElem?_append_left (List.getElem?_eq_some_iff.1 h).1]; exact h
theorem WsB.ok {ws0 ws : List RW} (h : WsB ws0) (hp : ∀ (k : Nat) (x : RW), ws0[k]? = some x → ws[k]? = some x) : ∀ (k : Nat) (x : RW), ws0[k]? = some x → ws[k]? = some x ∧ (0 ≤ x.var → Cell x.var) ∧ (x.var < 0 → ∃ l, OwnOk ws x l) := by
  induction h with
  | nil => intro k x h; simp at h
  | var ws1 y h hx hc ih =>
    intro k x hk
    rcases last_of hk with h1 | rfl
    · exact ih (fun k x h => hp k x (app_of h)) k x h1
    · exact ⟨hp _ _ hk, fun _ => hc, fun e => by omega⟩
  | word ws1 y l h hb hv h1 h2 ih =>
    intro k x hk
    rcases last_of hk with h1 | rfl
    · exact ih (fun k x h => hp k x (app_of h)) k x h1
    · obtain ⟨b1, b2, b3⟩ := bd_ok (ih (fun k x h => hp k x (app_of h))) hb
      exact ⟨hp _ _ hk, fun e => by omega, fun _ => ⟨l, h1, h2, b1, b2, b3⟩⟩

section
variable {ws : List RW} {y : RW} {l : List AI} {s : List Int} {u : MW}

theorem run_bounds (ho : OwnOk ws y l) (hw : Wl s u) (h1 : y.inf.need ≤ s.length) (h2 : (s.length : Int) + y.inf.high ≤ 32) (h3 : y.inf.steps ≤ 1000000) : ∃ (n : Nat) (e : Int) (s' : List Int) (u' : MW), (e = 0 ∨ e = 3) ∧ (n : Int) + 1 ≤ y.inf.steps ∧ (e = 0 → (s'.length : Int) = s.length + y.inf.net ∧ (y.inf.str = true → (n : Int) + 1 = y.inf.steps)) ∧ (∀ f, n + 1 ≤ f → dRun ws f 0 [⟨y.its, 0, 3, 0, 0⟩] s u = (n + 1, e, s', u')) ∧ (∀ f, f ≤ n → (dRun ws f 0 [⟨y.its, 0, 3, 0, 0⟩] s u).1 = f ∧ (dRun ws f 0 [⟨y.its, 0, 3, 0, 0⟩] s u).2.1 = 4) := by
  rw [ho.inf] at h1 h2 h3 ⊢
  rw [ho.its]
  simp only [wInf] at h1 h2 h3 ⊢
  have hlate : ∀ {n : Nat} {d : DC} (g : Goes ws n ([⟨trees l, 0, 3, 0, 0⟩], s, u) d) (f : Nat), f ≤ n → (dRun ws f 0 [⟨trees l, 0, 3, 0, 0⟩] s u).1 = f ∧ (dRun ws f 0 [⟨trees l, 0, 3, 0, 0⟩] s u).2.1 = 4 := fun g f hf => by
    have := g.less f 0 hf
    rw [Nat.zero_add] at this
    exact this
  have hend : ∀ {n : Nat} {d : DC} (g : Goes ws n ([⟨trees l, 0, 3, 0, 0⟩], s, u) d) (hne : (dStep ws d.1 d.2.1 d.2.2).1 ≠ 4) (f : Nat), n + 1 ≤ f → dRun ws f 0 [⟨trees l, 0, 3, 0, 0⟩] s u = (n + 1, (dStep ws d.1 d.2.1 d.2.2).1, (dStep ws d.1 d.2.1 d.2.2).2.2.1, (dStep ws d.1 d.2.1 d.2.2).2.2.2) := fun {n d} g hne f hf => by
    obtain ⟨f', rfl⟩ : ∃ f', f = n + (f' + 1) := ⟨f - n - 1, by omega⟩
    have := g.run (f' + 1) 0
    simp only at this
    rw [this, Nat.zero_add, dRun, if_neg hne]
  rcases list_all ho.ok (r := []) (beh := 3) ⟨cell0, cell0⟩ (by intro f hf; simp at hf) hw h1 h2 (by omega) with ⟨n, fs, s', u', g, lk, fo, a1, a2, a3, a4, a5⟩ | ⟨n, d, g, hn, hd⟩
  · have e : dStep ws fs s' u' = (0, [], s', u') := by rw [lk.1, dStep]; simp [trees]
    refine ⟨n, 0, s', u', Or.inl rfl, by omega, fun _ => ⟨a3, fun h => by have := a2 h; omega⟩, fun f hf => ?_, hlate g⟩
    rw [hend g (by simp only; rw [e]; show (0 : Int) ≠ 4; decide) f hf]
    simp only
    rw [e]
  · refine ⟨n, 3, (dStep ws d.1 d.2.1 d.2.2).2.2.1, (dStep ws d.1 d.2.1 d.2.2).2.2.2, Or.inr rfl, by omega, (fun e => absurd e (by decide)), (fun f hf => ?_), hlate g⟩
    rw [hend g (by rw [hd]; decide) f hf, hd]

theorem run_lacks (ho : OwnOk ws y l) (hw : Wl s u) (hs : y.inf.str = true) (h1 : (s.length : Int) < y.inf.need) (h2 : (s.length : Int) + y.inf.high ≤ 32) (h3 : y.inf.steps ≤ 1000000) (f : Nat) (hf : 1000000 ≤ f) : 1 ≤ (dRun ws f 0 [⟨y.its, 0, 3, 0, 0⟩] s u).2.1 ∧ (dRun ws f 0 [⟨y.its, 0, 3, 0, 0⟩] s u).2.1 ≤ 3 := by
  rw [ho.inf] at hs h1 h2 h3
  rw [ho.its]
  simp only [wInf] at hs h1 h2 h3
  obtain ⟨n, d, g, hn, b1, b2⟩ := ho.lack hs (trees l) [] 0 3 0 0 [] s u (by simp) (FsOk.cons ⟨cell0, cell0⟩ (by intro f hf; simp at hf)) hw h1 h2 (by omega)
  obtain ⟨f', rfl⟩ : ∃ f', f = n + (f' + 1) := ⟨f - n - 1, by omega⟩
  have := g.run (f' + 1) 0
  simp only at this
  rw [this, dRun, if_neg (by omega)]
  exact ⟨b1, b2⟩
end

end Go.Proofs.YtcphhbofjkenaaaGreatDoor

namespace Go.Proofs.YtcphhbofjkenaaaGreatDoor
open Go Go.RowKit
set_option linter.unusedVariables false
set_option linter.unusedSimpArgs false

section
variable {es : List PE} {code : List Int} {ws : List RW}

theorem found {nv nt : Int} (hk : Alk es code ws) (hi : LInv es nv nt code) (hb : WsB ws) (x : ByteArray) : (findI ws x).2 = 3 ∨ ((findI ws x).2 = 0 ∧ ∃ (k : Nat) (y : RW) (l : List AI), findW ws x = k ∧ ws[k]? = some y ∧ (findI ws x).1 = y.inf ∧ OwnOk ws y l ∧ y.inf.Nn ∧ y.inf.Wt 1 ∧ 1 ≤ y.inf.steps ∧ y.inf.steps ≤ 1000000000) := by
  rcases start_both hk.coded hk.toAlike x with ⟨_, e2⟩ | ⟨k, p, q, y, e1, e2, e3, e4, e5, _⟩
  · exact Or.inl e2
  · right
    obtain ⟨_, _, h3⟩ := hb.ok (fun _ _ h => h) k y e2
    obtain ⟨l, hl⟩ := h3 (by omega)
    have hkw := (List.getElem?_eq_some_iff.1 e2).1
    have hke : k < es.length := by rw [hk.len]; exact hkw
    have hx : es[k]? = some es[k] := List.getElem?_eq_getElem hke
    have hu := hk.use k _ _ hx e2
    have hv : (es[k]).var = false := by
      cases hv : (es[k]).var with
      | false => rfl
      | true => have := (hu.1 hv).2; omega
    obtain ⟨_, h4, h5, h6, h7⟩ := hu.2 hv
    refine ⟨e5, k, y, l, e1, e2, ?_, hl, h5, by rw [← h4]; exact hi.w _ (List.getElem_mem hke), h6, h7⟩
    unfold findI
    rw [if_neg (by omega), e1]
    simp only [Int.toNat_natCast, e2]
    rw [if_neg (by omega)]

theorem areC_of {l : List Int} (h : ∀ a ∈ l, Cell a) : areC l = true := by
  unfold areC
  exact List.all_eq_true.2 fun a ha => decide_eq_true (h a ha)
theorem mayR_of {st ins : List Int} {f : Int} (h1 : st.length ≤ 32) (h2 : ∀ a ∈ st, Cell a) (h3 : ∀ a ∈ ins, Cell a) (h4 : 0 ≤ f) (h5 : f ≤ 1000000) : mayR st ins f = true := by
  simp [mayR, areC_of h2, areC_of h3, h1, h4, h5]
theorem wl_of {st ins : List Int} {nv : Nat} (h1 : st.length ≤ 32) (h2 : ∀ a ∈ st, Cell a) (h3 : ∀ a ∈ ins, Cell a) : Wl st.reverse ⟨List.replicate nv 0, [], ins⟩ :=
  ⟨fun a ha => h2 a (by simpa using ha), fun a ha => by rw [(List.mem_replicate.1 ha).2]; exact ⟨by omega, by omega⟩, h3, by simpa using h1⟩

theorem bounded_run {x : ByteArray} {k : Nat} {y : RW} {l : List AI} (e1 : findW ws x = k) (e2 : ws[k]? = some y) (ho : OwnOk ws y l) (nv : Nat) {st ins : List Int} (h2 : ∀ a ∈ st, Cell a) (h3 : ∀ a ∈ ins, Cell a) (n0 : 0 ≤ y.inf.high) (n1 : y.inf.need ≤ st.length) (n2 : (st.length : Int) + y.inf.high ≤ 32) (n3 : y.inf.steps ≤ 1000000) :
    ∃ (n : Nat) (e : Int) (s' : List Int) (u' : MW), (e = 0 ∨ e = 3) ∧ (n : Int) + 1 ≤ y.inf.steps ∧ (e = 0 → (s'.length : Int) = st.length + y.inf.net ∧ (y.inf.str = true → (n : Int) + 1 = y.inf.steps)) ∧ (∀ f, n + 1 ≤ f → runD ws nv x st ins f = (n + 1, e, s', u')) ∧ ((runD ws nv x st ins n).1 = n ∧ (runD ws nv x st ins n).2.1 = 4) := by
  obtain ⟨n, e, s', u', a1, a2, a3, a4, a5⟩ := run_bounds ho (wl_of (nv := nv) (by omega) h2 h3) (by simpa using n1) (by simpa using n2) n3
  refine ⟨n, e, s', u', a1, a2, fun h => ?_, fun f hf => ?_, ?_⟩
  · have := a3 h
    simpa using this
  · rw [runD_at e1 e2]; exact a4 f hf
  · rw [runD_at e1 e2]; exact a5 n (Nat.le_refl _)

theorem bounded_lack {x : ByteArray} {k : Nat} {y : RW} {l : List AI} (e1 : findW ws x = k) (e2 : ws[k]? = some y) (ho : OwnOk ws y l) (nv : Nat) {st ins : List Int} (h2 : ∀ a ∈ st, Cell a) (h3 : ∀ a ∈ ins, Cell a) (n0 : 0 ≤ y.inf.high) (hs : y.inf.str = true) (n1 : (st.length : Int) < y.inf.need) (n2 : (st.length : Int) + y.inf.high ≤ 32) (n3 : y.inf.steps ≤ 1000000) :
    1 ≤ (runD ws nv x st ins 1000000).2.1 ∧ (runD ws nv x st ins 1000000).2.1 ≤ 3 := by
  rw [runD_at e1 e2]
  exact run_lacks ho (wl_of (nv := nv) (by omega) h2 h3) hs (by simpa using n1) (by simpa using n2) n3 1000000 (Nat.le_refl _)

end

end Go.Proofs.YtcphhbofjkenaaaGreatDoor
