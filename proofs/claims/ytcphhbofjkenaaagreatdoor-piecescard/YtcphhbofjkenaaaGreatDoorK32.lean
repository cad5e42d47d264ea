import Derived.BigQuiet
import Derived.Test.YtcphhbofjkenaaaGreatDoorK26
import Derived.Test.YtcphhbofjkenaaaGreatDoorK29
import Derived.Test.YtcphhbofjkenaaaGreatDoorK31

namespace Go.Proofs.YtcphhbofjkenaaaGreatDoor
open Go Go.RowKit
set_option linter.unusedVariables false
set_option linter.unusedSimpArgs false

structure Fr where
  its : List IT
  i : Nat
  beh : Nat
  n : Int
  e : Int
structure DM where
  fs : List (Value × Fr)
  stk : List Int
  done : Bool
  ed : Int
structure DX where
  mb : Nat
  wp : Nat
  fv : Value
  tv : Value
  cv : Value
  iv : Value
  ov : Value
  full : List Int
  tk : Nat
section
variable {B : Nat} {w w' : World} {sb : Nat} {F : Nat → Prop} {x : DX} {m m' : DM} {u u' : MW}

end

end Go.Proofs.YtcphhbofjkenaaaGreatDoor

namespace Go.Proofs.YtcphhbofjkenaaaGreatDoor
open Go Go.RowKit
set_option linter.unusedVariables false
set_option linter.unusedSimpArgs false

section
variable {B : Nat} {w w' : World} {sb : Nat} {F : Nat → Prop} {x : DX} {m m' : DM} {u u' : MW}

end

end Go.Proofs.YtcphhbofjkenaaaGreatDoor

namespace Go.Proofs.YtcphhbofjkenaaaGreatDoor
open Go Go.RowKit
set_option linter.unusedVariables false
set_option linter.unusedSimpArgs false
attribute [local go_sem] quietG

section
variable {B : Nat} {w w' : World} {sb : Nat} {F : Nat → Prop} {x : DX} {m m' : DM} {u u' : MW}

end

end Go.Proofs.YtcphhbofjkenaaaGreatDoor

namespace Go.Proofs.YtcphhbofjkenaaaGreatDoor
open Go Go.RowKit
set_option linter.unusedVariables false
set_option linter.unusedSimpArgs false
attribute [local go_sem] quietG

section
variable {B : Nat} {w w' : World} {sb : Nat} {F : Nat → Prop} {x : DX} {m m' : DM} {u u' : MW}

end

end Go.Proofs.YtcphhbofjkenaaaGreatDoor

namespace Go.Proofs.YtcphhbofjkenaaaGreatDoor
open Go Go.RowKit
set_option linter.unusedVariables false
set_option linter.unusedSimpArgs false
attribute [local go_sem] quietG

def opP (k : Nat) (n : Int) (s : List Int) (u : MW) : List Int × MW := ((execM k 0 ⟨s, [(n, 0)], [], 0⟩ u).2.1.stk, (execM k 0 ⟨s, [(n, 0)], [], 0⟩ u).2.2)

section
variable {B : Nat} {w w' : World} {sb : Nat} {F : Nat → Prop} {x : DX} {m m' : DM} {u u' : MW}

end

end Go.Proofs.YtcphhbofjkenaaaGreatDoor

namespace Go.Proofs.YtcphhbofjkenaaaGreatDoor
open Go Go.RowKit
set_option linter.unusedVariables false
set_option linter.unusedSimpArgs false

def turnsP : List Fr → Int
  | [] => 0
  | f :: r => if f.beh = 2 then f.n else turnsP r
abbrev DR := Int × List Fr × List Int × MW
def dPut (v : Int) (fs : List Fr) (s : List Int) (u : MW) : DR := if 32 < s.length + 1 then (2, fs, s, u) else (4, fs, v :: s, u)
def dWord (k : Nat) (fs : List Fr) (s : List Int) (u : MW) : DR := if hindP k s u.vars.length ≠ 4 then (hindP k s u.vars.length, fs, s, u) else (4, fs, (opP k (turnsP fs) s u).1, (opP k (turnsP fs) s u).2)
def dItem (ws : List RW) (t : IT) (fs : List Fr) (s : List Int) (u : MW) : DR :=
  match t with
  | .num v => dPut v fs s u
  | .op b => dWord ((opFind b).getD 0) fs s u
  | .own k => match ws[k]? with
    | some o => if 0 ≤ o.var then dPut o.var fs s u else (4, ⟨o.its, 0, 3, 0, 0⟩ :: fs, s, u)
    | none => (4, fs, s, u)
  | .doo a => match s with
    | x :: y :: r => (4, if x < y then ⟨a, 0, 2, x, y⟩ :: fs else fs, r, u)
    | _ => (1, fs, s, u)
  | .iff a => match s with
    | x :: r => (4, (if x = 0 then ⟨[], 0, 0, 0, 0⟩ else ⟨a, 0, 0, 0, 0⟩) :: fs, r, u)
    | [] => (1, fs, s, u)
  | .els a b => match s with
    | x :: r => (4, (if x = 0 then ⟨b, 0, 0, 0, 0⟩ else ⟨a, 0, 1, 0, 0⟩) :: fs, r, u)
    | [] => (1, fs, s, u)
def dStep (ws : List RW) : List Fr → List Int → MW → DR
  | [], s, u => (0, [], s, u)
  | f :: r, s, u =>
    match f.its[f.i]? with
    | some t => dItem ws t ({ f with i := f.i + 1 } :: r) s u
    | none =>
      if f.beh = 0 then dStep ws r s u
      else if f.beh = 1 then (4, r, s, u)
      else if f.beh = 2 then (4, if f.e ≤ f.n + 1 then r else { f with n := f.n + 1, i := 0 } :: r, s, u)
      else (if r = [] then 0 else 4, r, s, u)
def dRun (ws : List RW) : Nat → Nat → List Fr → List Int → MW → Nat × Int × List Int × MW
  | 0, n, fs, s, u => (n, 4, s, u)
  | f + 1, n, fs, s, u => if (dStep ws fs s u).1 = 4 then dRun ws f (n + 1) (dStep ws fs s u).2.1 (dStep ws fs s u).2.2.1 (dStep ws fs s u).2.2.2 else (n + 1, (dStep ws fs s u).1, (dStep ws fs s u).2.2.1, (dStep ws fs s u).2.2.2)

inductive Rel (es : List PE) (code : List Int) : Bool → List Fr → Nat → List (Int × Int) → List Int → Prop
  | last (f : Fr) (p q : Nat) (hb : f.beh = 3 ∧ f.its.length ≤ code.length) (hc : CList es code false (f.its.drop f.i) p q) (h1 : code[q]? = some 34) : Rel es code false [f] p [] []
  | word (d : Bool) (f g : Fr) (r : List Fr) (p q p2 : Nat) (ls : List (Int × Int)) (cs : List Int) (hb : f.beh = 3 ∧ f.its.length ≤ code.length) (hc : CList es code false (f.its.drop f.i) p q) (h1 : code[q]? = some 34) (hp : p2 ≤ code.length) (hr : Rel es code d (g :: r) p2 ls cs) : Rel es code false (f :: g :: r) p ls (cs ++ [(p2 : Int)])
  | none (d : Bool) (f : Fr) (r : List Fr) (p q : Nat) (ls : List (Int × Int)) (cs : List Int) (hb : f.beh = 0 ∧ f.its.length ≤ code.length) (hc : CList es code d (f.its.drop f.i) p q) (hr : Rel es code d r q ls cs) : Rel es code d (f :: r) p ls cs
  | els (d : Bool) (f : Fr) (r : List Fr) (p q p2 : Nat) (ls : List (Int × Int)) (cs : List Int) (hb : f.beh = 1 ∧ f.its.length ≤ code.length) (hc : CList es code d (f.its.drop f.i) p q) (h1 : code[q]? = some 30) (h2 : code[q + 1]? = some (p2 : Int)) (hp : p2 ≤ code.length) (hr : Rel es code d r p2 ls cs) : Rel es code d (f :: r) p ls cs
  | loop (d : Bool) (f : Fr) (r : List Fr) (p q p0 : Nat) (ls : List (Int × Int)) (cs : List Int) (hb : f.beh = 2 ∧ f.its.length ≤ code.length) (hc : CList es code true (f.its.drop f.i) p q) (h1 : code[q]? = some 32) (h2 : code[q + 1]? = some (p0 : Int)) (hp : p0 ≤ code.length) (h3 : CList es code true f.its p0 q) (hn : Cell f.n ∧ Cell f.e ∧ f.n < f.e) (hr : Rel es code d r (q + 2) ls cs) : Rel es code true (f :: r) p (ls ++ [(f.n, f.e)]) cs

section
variable {es : List PE} {code : List Int} {ws : List RW} {d : Bool} {fs : List Fr} {p q : Nat} {ls : List (Int × Int)} {cs : List Int}

theorem Rel.turns (h : Rel es code d fs p ls cs) : d = true → ∃ l e, ls = l ++ [(turnsP fs, e)] ∧ Cell (turnsP fs) := by
  induction h with
  | last => intro h; cases h
  | word => intro h; cases h
  | none d f r p q ls cs hb hc hr ih =>
    intro hd
    have e : turnsP (f :: r) = turnsP r := by rw [turnsP, if_neg (by omega)]
    rw [e]; exact ih hd
  | els d f r p q p2 ls cs hb hc h1 h2 hp hr ih =>
    intro hd
    have e : turnsP (f :: r) = turnsP r := by rw [turnsP, if_neg (by omega)]
    rw [e]; exact ih hd
  | loop d f r p q p0 ls cs hb hc h1 h2 hp h3 hn hr ih =>
    intro _
    have e : turnsP (f :: r) = f.n := by rw [turnsP, if_pos hb.1]
    rw [e]; exact ⟨ls, f.e, rfl, hn.1⟩
theorem Rel.turnsC (h : Rel es code d fs p ls cs) : Cell (turnsP fs) := by
  induction h with
  | last f p q hb => rw [turnsP, if_neg (by omega)]; simp [turnsP, Cell]
  | word d f g r p q p2 ls cs hb hc h1 hp hr ih => rw [turnsP, if_neg (by omega)]; exact ih
  | none d f r p q ls cs hb hc hr ih => rw [turnsP, if_neg (by omega)]; exact ih
  | els d f r p q p2 ls cs hb hc h1 h2 hp hr ih => rw [turnsP, if_neg (by omega)]; exact ih
  | loop d f r p q p0 ls cs hb hc h1 h2 hp h3 hn hr ih => rw [turnsP, if_pos hb.1]; exact hn.1
theorem Rel.call (h : Rel es code d fs p ls cs) : ∀ (l : List Int) (x : Int), cs = l ++ [x] → ∃ n : Nat, x = n ∧ n ≤ code.length := by
  induction h with
  | last => intro l x h; simp at h
  | word d f g r p q p2 ls cs hb hc h1 hp hr ih =>
    intro l x h
    have := List.append_inj_right' h rfl
    simp only [List.cons.injEq, and_true] at this
    exact ⟨p2, this.symm, hp⟩
  | none d f r p q ls cs hb hc hr ih => exact ih
  | els d f r p q p2 ls cs hb hc h1 h2 hp hr ih => exact ih
  | loop d f r p q p0 ls cs hb hc h1 h2 hp h3 hn hr ih => exact ih
theorem Rel.ne (h : Rel es code d fs p ls cs) : fs ≠ [] := by cases h <;> simp

theorem CList.most {l : List IT} (h : CList es code d l p q) (hp : p ≤ code.length) : l.length ≤ code.length := by
  have hq := h.le hp
  obtain ⟨ps, h1, h2, h3⟩ := h
  have key : ∀ j, j ≤ l.length → p + j ≤ ps j := by
    intro j
    induction j with
    | zero => intro _; omega
    | succ j ih =>
      intro hj
      have := (h3 j l[j] (List.getElem?_eq_getElem (by omega))).le.1
      have := ih (by omega)
      omega
  have := key l.length (Nat.le_refl _)
  omega
theorem CList.nil_inv (h : CList es code d [] p q) : p = q := by
  obtain ⟨ps, h1, h2, _⟩ := h
  rw [← h1, ← h2]; rfl
theorem CList.cons_inv {t : IT} {l : List IT} (h : CList es code d (t :: l) p q) : ∃ p', CItem es code d t p p' ∧ CList es code d l p' q := by
  obtain ⟨ps, h1, h2, h3⟩ := h
  refine ⟨ps 1, ?_, fun i => ps (i + 1), rfl, h2, fun i x hx => h3 (i + 1) x (by simpa using hx)⟩
  rw [← h1]; exact h3 0 t rfl
theorem CList.next {l : List IT} {i : Nat} {t : IT} (h : CList es code d (l.drop i) p q) (ht : l[i]? = some t) : ∃ p', CItem es code d t p p' ∧ CList es code d (l.drop (i + 1)) p' q := by
  obtain ⟨hi, he⟩ := List.getElem?_eq_some_iff.1 ht
  rw [List.drop_eq_getElem_cons hi, he] at h
  exact h.cons_inv
theorem CList.done {l : List IT} {i : Nat} (h : CList es code d (l.drop i) p q) (ht : l[i]? = none) : p = q := by
  rw [List.drop_eq_nil_of_le (List.getElem?_eq_none_iff.1 ht)] at h
  exact h.nil_inv

theorem Rel.next {f : Fr} {r : List Fr} {t : IT} (h : Rel es code d (f :: r) p ls cs) (ht : f.its[f.i]? = some t) : ∃ q, CItem es code d t p q ∧ Rel es code d ({ f with i := f.i + 1 } :: r) q ls cs := by
  generalize hfs : f :: r = fs at h
  cases h with
  | last f' p q hb hc h1 =>
    obtain ⟨rfl, rfl⟩ : f = f' ∧ r = [] := by simpa using hfs
    obtain ⟨p', k1, k2⟩ := hc.next ht
    exact ⟨p', k1, .last _ p' q hb k2 h1⟩
  | word d f' g r' p q p2 ls cs hb hc h1 hp hr =>
    obtain ⟨rfl, rfl⟩ : f = f' ∧ r = g :: r' := by simpa using hfs
    obtain ⟨p', k1, k2⟩ := hc.next ht
    exact ⟨p', k1, .word d _ g r' p' q p2 ls cs hb k2 h1 hp hr⟩
  | none d f' r' p q ls cs hb hc hr =>
    obtain ⟨rfl, rfl⟩ : f = f' ∧ r = r' := by simpa using hfs
    obtain ⟨p', k1, k2⟩ := hc.next ht
    exact ⟨p', k1, .none d _ r p' q ls cs hb k2 hr⟩
  | els d f' r' p q p2 ls cs hb hc h1 h2 hp hr =>
    obtain ⟨rfl, rfl⟩ : f = f' ∧ r = r' := by simpa using hfs
    obtain ⟨p', k1, k2⟩ := hc.next ht
    exact ⟨p', k1, .els d _ r p' q p2 ls cs hb k2 h1 h2 hp hr⟩
  | loop d f' r' p q p0 ls cs hb hc h1 h2 hp h3 hn hr =>
    obtain ⟨rfl, rfl⟩ : f = f' ∧ r = r' := by simpa using hfs
    obtain ⟨p', k1, k2⟩ := hc.next ht
    exact ⟨p', k1, .loop d { f with i := f.i + 1 } r p' q p0 ls cs hb k2 h1 h2 hp h3 hn hr⟩
end

theorem hind28 (s : List Int) (n : Nat) : hindP 28 s n = if 32 < s.length + 1 then 2 else 4 := by
  have e1 : (opInf 28).need = 0 := rfl
  have e2 : (opInf 28).net = 1 := rfl
  unfold hindP
  rw [e1, e2, if_neg (by omega), if_neg (by omega)]
  by_cases h : 32 < s.length + 1
  · rw [if_pos (by omega), if_pos h]
  · rw [if_neg (by omega), if_neg h]
theorem hind29 (s : List Int) (n : Nat) (h : s.length ≤ 32) : hindP 29 s n = if s.length < 1 then 1 else 4 := by
  have e1 : (opInf 29).need = 1 := rfl
  have e2 : (opInf 29).net = -1 := rfl
  unfold hindP
  rw [e1, e2]
  by_cases h1 : s.length < 1
  · rw [if_pos (by omega), if_pos h1]
  · rw [if_neg (by omega), if_neg (by omega), if_neg (by omega), if_neg h1]
theorem hind31 (s : List Int) (n : Nat) (h : s.length ≤ 32) : hindP 31 s n = if s.length < 2 then 1 else 4 := by
  have e1 : (opInf 31).need = 2 := rfl
  have e2 : (opInf 31).net = -2 := rfl
  unfold hindP
  rw [e1, e2]
  by_cases h1 : s.length < 2
  · rw [if_pos (by omega), if_pos h1]
  · rw [if_neg (by omega), if_neg (by omega), if_neg (by omega), if_neg h1]
theorem hind0 (k : Nat) (hk : k = 30 ∨ k = 32 ∨ k = 33 ∨ k = 34) (s : List Int) (n : Nat) (h : s.length ≤ 32) : hindP k s n = 4 := by
  have e1 : (opInf k).need = 0 := by rcases hk with rfl | rfl | rfl | rfl <;> rfl
  have e2 : (opInf k).net = 0 := by rcases hk with rfl | rfl | rfl | rfl <;> rfl
  unfold hindP
  rw [e1, e2, if_neg (by omega), if_neg (by omega), if_neg (by omega)]

theorem step_at {code : List Int} {m : MS} {k : Nat} (u : MW) (h : code[m.at_]? = some (k : Int)) : stepM code m u = if hindP k m.stk u.vars.length ≠ 4 then (hindP k m.stk u.vars.length, m, u) else execM k (code.getD (m.at_ + 1) 0) m u := by
  have : (code.getD m.at_ 0).toNat = k := by rw [List.getD_eq_getElem?_getD, h]; simp
  unfold stepM
  rw [this]

theorem two_cell (k : Nat) (hk : k ≤ 12) {a b : Int} (ha : Cell a) (hb : Cell b) : Cell (twoP k a b) := by rw [← rtwo_eq k hk ha hb]; exact w32_cell _
theorem one_cell (k : Nat) {a : Int} (ha : Cell a) : Cell (oneP k a) := by
  unfold oneP
  split
  · exact flag_cell _
  · split
    · exact w32_cell _
    · exact ha
theorem arr_cell (k : Nat) (s : List Int) (h : ∀ a ∈ s, Cell a) : ∀ a ∈ arrP k s, Cell a := by
  unfold arrP
  split
  · repeat' split
    all_goals simp_all
  · repeat' split
    all_goals simp_all
  · split
    all_goals simp_all
  · exact h
theorem arr_len (k : Nat) (s : List Int) (h1 : 16 ≤ k) (h2 : k ≤ 22) (hn : (opInf k).need ≤ s.length) : ((arrP k s).length : Int) = s.length + (opInf k).net := by
  have hc : k = 16 ∨ k = 17 ∨ k = 18 ∨ k = 19 ∨ k = 20 ∨ k = 21 ∨ k = 22 := by omega
  have a1 : (opInf 16).need = 1 ∧ (opInf 16).net = 1 := ⟨rfl, rfl⟩
  have a2 : (opInf 17).need = 1 ∧ (opInf 17).net = -1 := ⟨rfl, rfl⟩
  have a3 : (opInf 18).need = 2 ∧ (opInf 18).net = 0 := ⟨rfl, rfl⟩
  have a4 : (opInf 19).need = 2 ∧ (opInf 19).net = 1 := ⟨rfl, rfl⟩
  have a5 : (opInf 20).need = 3 ∧ (opInf 20).net = 0 := ⟨rfl, rfl⟩
  have a6 : (opInf 21).need = 2 ∧ (opInf 21).net = -1 := ⟨rfl, rfl⟩
  have a7 : (opInf 22).need = 2 ∧ (opInf 22).net = 1 := ⟨rfl, rfl⟩
  rcases s with _ | ⟨c, _ | ⟨b, _ | ⟨a, s⟩⟩⟩
  · rcases hc with rfl | rfl | rfl | rfl | rfl | rfl | rfl <;> simp_all
  · rcases hc with rfl | rfl | rfl | rfl | rfl | rfl | rfl <;> simp_all [arrP]
  · rcases hc with rfl | rfl | rfl | rfl | rfl | rfl | rfl <;> simp_all [arrP]
  · rcases hc with rfl | rfl | rfl | rfl | rfl | rfl | rfl <;> simp_all [arrP] <;> omega

structure Wl (st : List Int) (u : MW) : Prop where
  s : ∀ a ∈ st, Cell a
  v : ∀ a ∈ u.vars, Cell a
  i : ∀ a ∈ u.ins, Cell a
  l : st.length ≤ 32

theorem getD_cell {l : List Int} {i : Nat} (h : ∀ a ∈ l, Cell a) : Cell (l.getD i 0) := by
  rw [List.getD_eq_getElem?_getD]
  cases hi : l[i]? with
  | none => simp [Cell]
  | some y => exact h y (List.mem_of_getElem? hi)
theorem headD_cell {l : List Int} (h : ∀ a ∈ l, Cell a) : Cell (l.headD 0) := by
  cases l with
  | nil => simp [Cell]
  | cons a r => exact h a (by simp)

theorem exec_op (k : Nat) (hk : k < 28) (v : Int) {n : Int} {m : MS} {u : MW} (hh : hindP k m.stk u.vars.length = 4) (h : Wl m.stk u) (hn : k = 27 → (m.loops.getLastD (0, 0)).1 = n ∧ Cell n) :
    execM k v m u = (4, { m with stk := (opP k n m.stk u).1, at_ := m.at_ + 1 }, (opP k n m.stk u).2) ∧ Wl (opP k n m.stk u).1 (opP k n m.stk u).2 ∧ (opP k n m.stk u).2.outs.length ≤ u.outs.length + 1 ∧ (opP k n m.stk u).2.vars.length = u.vars.length ∧ (opP k n m.stk u).2.ins.length ≤ u.ins.length := by
  obtain ⟨h1, h2, h3⟩ := hind_ok hh
  obtain ⟨s, ls, cs, at_⟩ := m
  simp only at *
  obtain ⟨c1, c2, c3, c4⟩ := h
  unfold opP execM
  by_cases h12 : k ≤ 12
  · rw [two_need k h12] at h1
    obtain ⟨b, a, r, rfl⟩ := stk2 h1
    simp only [if_pos h12]
    simp only [List.mem_cons, forall_eq_or_imp, List.length_cons] at c1 c4
    refine ⟨by first | rfl | trivial | simp, ⟨?_, c2, c3, by simp; omega⟩, by simp, by first | rfl | trivial | simp, by first | exact Nat.le_refl _ | trivial | simp⟩
    simp only [List.mem_cons, forall_eq_or_imp]
    exact ⟨two_cell k h12 c1.2.1 c1.1, c1.2.2⟩
  · simp only [if_neg h12]
    by_cases h15 : k ≤ 15
    · rw [one_need k (by omega) h15] at h1
      obtain ⟨a, r, rfl⟩ := stk1 h1
      simp only [if_pos h15]
      simp only [List.mem_cons, forall_eq_or_imp, List.length_cons] at c1 c4
      refine ⟨by first | rfl | trivial | simp, ⟨?_, c2, c3, by simp; omega⟩, by simp, by first | rfl | trivial | simp, by first | exact Nat.le_refl _ | trivial | simp⟩
      simp only [List.mem_cons, forall_eq_or_imp]
      exact ⟨one_cell k c1.1, c1.2⟩
    · simp only [if_neg h15]
      by_cases h22 : k ≤ 22
      · simp only [if_pos h22]
        have := arr_len k s (by omega) h22 h1
        exact ⟨by first | rfl | trivial | simp, ⟨arr_cell k s c1, c2, c3, by omega⟩, by simp, by first | rfl | trivial | simp, by first | exact Nat.le_refl _ | trivial | simp⟩
      · simp only [if_neg h22]
        have hc : k = 23 ∨ k = 24 ∨ k = 25 ∨ k = 26 ∨ k = 27 := by omega
        rcases hc with rfl | rfl | rfl | rfl | rfl
        · obtain ⟨a, r, rfl⟩ := stk1 (s := s) h1
          simp only [List.mem_cons, forall_eq_or_imp, List.length_cons] at c1 c4
          refine ⟨by first | rfl | trivial | simp, ⟨?_, c2, c3, by simp; omega⟩, by simp, by first | rfl | trivial | simp, by first | exact Nat.le_refl _ | trivial | simp⟩
          simp only [List.mem_cons, forall_eq_or_imp, if_true]
          exact ⟨getD_cell c2, c1.2⟩
        · obtain ⟨i, a, r, rfl⟩ := stk2 (s := s) h1
          simp only [List.mem_cons, forall_eq_or_imp, List.length_cons] at c1 c4
          refine ⟨by first | rfl | trivial | simp, ⟨c1.2.2, fun y hy => ?_, c3, by simp; omega⟩, by simp, by simp, by first | exact Nat.le_refl _ | trivial | simp⟩
          rcases List.mem_or_eq_of_mem_set hy with e | e
          · exact c2 y e
          · rw [e]; exact c1.2.1
        · have e2 : (opInf 25).net = 1 := rfl
          rw [e2] at h2
          refine ⟨by first | rfl | trivial | simp, ⟨?_, c2, fun y hy => c3 y (List.mem_of_mem_tail hy), by simp; omega⟩, by simp, by first | rfl | trivial | simp, by simp⟩
          simp only [show (25 : Nat) ≠ 23 by decide, show (25 : Nat) ≠ 24 by decide, if_false, if_true, List.mem_cons, forall_eq_or_imp]
          exact ⟨headD_cell c3, c1⟩
        · obtain ⟨a, r, rfl⟩ := stk1 (s := s) h1
          simp only [List.mem_cons, forall_eq_or_imp, List.length_cons] at c1 c4
          exact ⟨by first | rfl | trivial | simp, ⟨c1.2, c2, c3, by simp; omega⟩, by simp, by first | rfl | trivial | simp, by first | exact Nat.le_refl _ | trivial | simp⟩
        · have e2 : (opInf 27).net = 1 := rfl
          rw [e2] at h2
          obtain ⟨n1, n2⟩ := hn rfl
          refine ⟨?_, ⟨?_, c2, c3, by simp; omega⟩, by simp, by first | rfl | trivial | simp, by first | exact Nat.le_refl _ | trivial | simp⟩
          · rw [List.getLastD_eq_getLast?] at n1
            simp [n1]
          · simp only [show (27 : Nat) ≠ 23 by decide, show (27 : Nat) ≠ 24 by decide, show (27 : Nat) ≠ 25 by decide, show (27 : Nat) ≠ 26 by decide, if_false, if_true, List.mem_cons, forall_eq_or_imp]
            exact ⟨by simpa using n2, c1⟩

structure Conc (es : List PE) (code : List Int) (D : DR) (fs : List Fr) (m : MS) (x : MW) : Prop where
  op : ∃ k : Nat, k < 35 ∧ code[m.at_]? = some (k : Int)
  opd : ∀ k : Nat, code[m.at_]? = some (k : Int) → 28 ≤ k → k ≤ 33 → ∃ v, code[m.at_ + 1]? = some v ∧ (k ≠ 28 → ∃ n : Nat, v = n ∧ n ≤ code.length)
  loop : ∀ k : Nat, code[m.at_]? = some (k : Int) → (k = 27 ∨ k = 32) → ∃ l a b, m.loops = l ++ [(a, b)] ∧ -9000000000 ≤ a ∧ a ≤ 9000000000
  e : (stepM code m x).1 = D.1
  s : (stepM code m x).2.1.stk = D.2.2.1
  u : (stepM code m x).2.2 = D.2.2.2
  nx : D.1 = 4 → ∃ d, Rel es code d D.2.1 (stepM code m x).2.1.at_ (stepM code m x).2.1.loops (stepM code m x).2.1.calls
  l1 : (stepM code m x).2.1.loops.length ≤ m.loops.length + 1
  l2 : (stepM code m x).2.1.calls.length ≤ m.calls.length + 1
  l3 : D.2.2.2.outs.length ≤ x.outs.length + 1
  l4 : D.2.1.length ≤ fs.length + 1
  l5 : D.2.2.2.vars.length = x.vars.length
  wl : Wl D.2.2.1 D.2.2.2

section
variable {es : List PE} {code : List Int} {ws : List RW} {d : Bool} {fs : List Fr} {q : Nat} {m : MS} {u : MW} {t : IT}

theorem getD_some {l : List Int} {i : Nat} {v : Int} (h : l[i]? = some v) : l.getD i 0 = v := by rw [List.getD_eq_getElem?_getD, h]; rfl

theorem Conc.of {k : Nat} {D : DR} {r : Int × MS × MW} (hk : k < 35) (h1 : code[m.at_]? = some (k : Int)) (ho : 28 ≤ k → k ≤ 33 → ∃ v, code[m.at_ + 1]? = some v ∧ (k ≠ 28 → ∃ n : Nat, v = n ∧ n ≤ code.length)) (hl : k = 27 ∨ k = 32 → ∃ l a b, m.loops = l ++ [(a, b)] ∧ -9000000000 ≤ a ∧ a ≤ 9000000000) (hst : stepM code m u = r)
    (e : r.1 = D.1 ∧ r.2.1.stk = D.2.2.1 ∧ r.2.2 = D.2.2.2) (nx : D.1 = 4 → ∃ d, Rel es code d D.2.1 r.2.1.at_ r.2.1.loops r.2.1.calls) (l : r.2.1.loops.length ≤ m.loops.length + 1 ∧ r.2.1.calls.length ≤ m.calls.length + 1 ∧ D.2.2.2.outs.length ≤ u.outs.length + 1 ∧ D.2.1.length ≤ fs.length + 1 ∧ D.2.2.2.vars.length = u.vars.length) (wl : Wl D.2.2.1 D.2.2.2) : Conc es code D fs m u := by
  have hu : ∀ j : Nat, code[m.at_]? = some (j : Int) → j = k := fun j hj => by rw [h1] at hj; simp only [Option.some.injEq] at hj; omega
  subst hst
  exact ⟨⟨k, hk, h1⟩, fun j hj => by rw [hu j hj]; exact ho, fun j hj => by rw [hu j hj]; exact hl, e.1, e.2.1, e.2.2, nx, l.1, l.2.1, l.2.2.1, l.2.2.2.1, l.2.2.2.2, wl⟩

theorem conc_put {v : Int} (hr : Rel es code d fs (m.at_ + 2) m.loops m.calls) (hw : Wl m.stk u) (h1 : code[m.at_]? = some 28) (h2 : code[m.at_ + 1]? = some v) (hv : Cell v) : Conc es code (dPut v fs m.stk u) fs m u := by
  have h1' : code[m.at_]? = some ((28 : Nat) : Int) := h1
  have hst := step_at u h1'
  rw [hind28, getD_some h2] at hst
  unfold dPut
  by_cases h : 32 < m.stk.length + 1
  · rw [if_pos h] at hst ⊢
    exact .of (r := (2, m, u)) (by decide) h1' (fun _ _ => ⟨v, h2, fun e => absurd rfl e⟩) (by omega) hst ⟨rfl, rfl, rfl⟩ (fun e => by simp at e) (by simp) hw
  · rw [if_neg h] at hst ⊢
    refine .of (r := (4, { m with stk := v :: m.stk, at_ := m.at_ + 2 }, u)) (by decide) h1' (fun _ _ => ⟨v, h2, fun e => absurd rfl e⟩) (by omega) hst ⟨rfl, rfl, rfl⟩ (fun _ => ⟨d, hr⟩) (by simp) ⟨?_, hw.v, hw.i, by simp; omega⟩
    simp only [List.mem_cons, forall_eq_or_imp]; exact ⟨hv, hw.s⟩

theorem Wl.tail {x : Int} {r : List Int} (hw : Wl (x :: r) u) : Wl r u := ⟨fun a ha => hw.s a (List.mem_cons_of_mem _ ha), hw.v, hw.i, by have := hw.l; simp at this; omega⟩

theorem conc_item (hc : Coded es code ws) (ha : Alike es ws) (hi : CItem es code d t m.at_ q) (hr : Rel es code d fs q m.loops m.calls) (hw : Wl m.stk u) : Conc es code (dItem ws t fs m.stk u) fs m u := by
  have hle := hi.le
  have hl32 := hw.l
  generalize hp : m.at_ = p at hi hle
  cases hi with
  | num d n p h h1 h2 =>
    subst hp
    exact conc_put hr hw h1 h2 h
  | op d s k p h h1 h2 =>
    subst hp
    have hk := (there_some h).2.1
    have hlo : k = 27 ∨ k = 32 → ∃ l a b, m.loops = l ++ [(a, b)] ∧ -9000000000 ≤ a ∧ a ≤ 9000000000 := fun hc => by
      obtain ⟨l, e, e1, b1, b2⟩ := hr.turns (h2 (by omega))
      exact ⟨l, _, e, e1, by omega, by omega⟩
    have hst := step_at u h1
    show Conc es code (dWord ((opFind s).getD 0) fs m.stk u) fs m u
    unfold dWord
    rw [h]
    simp only [Option.getD_some]
    by_cases hh : hindP k m.stk u.vars.length = 4
    · rw [if_neg (fun e => e hh)] at hst ⊢
      obtain ⟨e1, e2, e3, e4, e5⟩ := exec_op k hk (code.getD (m.at_ + 1) 0) (n := turnsP fs) hh hw (fun hk27 => by
        obtain ⟨l, e, e1, e2⟩ := hr.turns (h2 hk27)
        exact ⟨by rw [e1, List.getLastD_concat], e2⟩)
      rw [e1] at hst
      exact .of (by omega) h1 (by omega) hlo hst ⟨rfl, rfl, rfl⟩ (fun _ => ⟨d, hr⟩) ⟨by simp, by simp, e3, by simp, e4⟩ e2
    · rw [if_pos hh] at hst ⊢
      exact .of (by omega) h1 (by omega) hlo hst ⟨rfl, rfl, rfl⟩ (fun e => absurd e hh) (by simp) hw
  | var d k x p h hv h1 h2 =>
    subst hp
    have hkl : k < ws.length := by have := (List.getElem?_eq_some_iff.1 h).1; rw [ha.len] at this; exact this
    have hy : ws[k]? = some ws[k] := List.getElem?_eq_getElem hkl
    obtain ⟨e1, e2⟩ := (ha.use k x ws[k] h hy).1 hv
    obtain ⟨b1, b2⟩ := hc.v k x h hv
    unfold dItem
    simp only [hy]
    rw [if_pos e2, e1]
    exact conc_put hr hw h1 h2 ⟨by omega, by omega⟩
  | own d k x p h hv h1 h2 =>
    subst hp
    have hkl : k < ws.length := by have := (List.getElem?_eq_some_iff.1 h).1; rw [ha.len] at this; exact this
    have hy : ws[k]? = some ws[k] := List.getElem?_eq_getElem hkl
    obtain ⟨e1, _⟩ := (ha.use k x ws[k] h hy).2 hv
    obtain ⟨p', q', k1, k2, k3, k4⟩ := hc.w k x ws[k] h hy hv
    have h1' : code[m.at_]? = some ((33 : Nat) : Int) := h1
    have hst := step_at u h1'
    rw [hind0 33 (by decide) _ _ hl32, getD_some h2, k1] at hst
    unfold dItem
    simp only [hy]
    rw [if_neg (by omega)]
    refine .of (r := (4, { m with calls := m.calls ++ [((m.at_ + 2 : Nat) : Int)], at_ := p' }, u)) (by decide) h1' (fun _ _ => ⟨_, h2, fun _ => ⟨p', k1, k2⟩⟩) (by omega) (by rw [hst]; simp [execM]) ⟨rfl, rfl, rfl⟩ (fun _ => ⟨false, ?_⟩) (by simp) hw
    obtain ⟨g, r, rfl⟩ : ∃ g r, fs = g :: r := by
      cases fs with
      | nil => exact absurd rfl hr.ne
      | cons g r => exact ⟨g, r, rfl⟩
    exact .word d _ g r p' q' _ _ _ ⟨rfl, k3.most k2⟩ (by simpa using k3) k4 hle.2 hr
  | iff d a p q ps h1 h2 h3 h4 h5 =>
    subst hp
    have h1' : code[m.at_]? = some ((29 : Nat) : Int) := h1
    have hst := step_at u h1'
    rw [hind29 _ _ hl32, getD_some h2] at hst
    have hca : CList es code d a (m.at_ + 2) q := ⟨ps, h3, h4, h5⟩
    have ham := hca.most (by have := code_lt h2; omega)
    have ho : 28 ≤ 29 → 29 ≤ 33 → ∃ v, code[m.at_ + 1]? = some v ∧ (29 ≠ 28 → ∃ n : Nat, v = n ∧ n ≤ code.length) := fun _ _ => ⟨_, h2, fun _ => ⟨q, rfl, hle.2⟩⟩
    obtain ⟨s, ls, cs, at_⟩ := m
    simp only at *
    unfold dItem
    cases s with
    | nil => exact .of (r := (1, ⟨[], ls, cs, at_⟩, u)) (by decide) h1' ho (by omega) (by rw [hst]; rfl) ⟨rfl, rfl, rfl⟩ (fun e => by simp at e) (by simp) hw
    | cons x r =>
      refine .of (r := (4, ⟨r, ls, cs, if x = 0 then q else at_ + 2⟩, u)) (by decide) h1' ho (by omega) (by rw [hst]; simp [execM]) ⟨rfl, rfl, rfl⟩ (fun _ => ⟨d, ?_⟩) (by simp) hw.tail
      by_cases hx : x = 0
      · simp only [if_pos hx]
        exact .none d _ fs q q ls cs ⟨rfl, by simp⟩ (by simpa using CList.nil es code d q) hr
      · simp only [if_neg hx]
        exact .none d _ fs _ q ls cs ⟨rfl, ham⟩ (by simpa using hca) hr
  | els d a b p q0 q ps qs h1 h2 h3 h4 h5 k1 k2 k3 k4 k5 =>
    subst hp
    have hq2 : q0 + 2 ≤ code.length := by have := code_lt k2; omega
    have hcb : CList es code d b (q0 + 2) q := ⟨qs, k3, k4, k5⟩
    have hca : CList es code d a (m.at_ + 2) q0 := ⟨ps, h3, h4, h5⟩
    have ham := hca.most (by have := code_lt h2; omega)
    have h1' : code[m.at_]? = some ((29 : Nat) : Int) := h1
    have hst := step_at u h1'
    rw [hind29 _ _ hl32, getD_some h2] at hst
    have ho : 28 ≤ 29 → 29 ≤ 33 → ∃ v, code[m.at_ + 1]? = some v ∧ (29 ≠ 28 → ∃ n : Nat, v = n ∧ n ≤ code.length) := fun _ _ => ⟨_, h2, fun _ => ⟨q0 + 2, rfl, hq2⟩⟩
    obtain ⟨s, ls, cs, at_⟩ := m
    simp only at *
    unfold dItem
    cases s with
    | nil => exact .of (r := (1, ⟨[], ls, cs, at_⟩, u)) (by decide) h1' ho (by omega) (by rw [hst]; rfl) ⟨rfl, rfl, rfl⟩ (fun e => by simp at e) (by simp) hw
    | cons x r =>
      refine .of (r := (4, ⟨r, ls, cs, if x = 0 then q0 + 2 else at_ + 2⟩, u)) (by decide) h1' ho (by omega) (by rw [hst]; simp [execM]; split <;> omega) ⟨rfl, rfl, rfl⟩ (fun _ => ⟨d, ?_⟩) (by simp) hw.tail
      by_cases hx : x = 0
      · simp only [if_pos hx]
        exact .none d _ fs (q0 + 2) q ls cs ⟨rfl, hcb.most hq2⟩ (by simpa using hcb) hr
      · simp only [if_neg hx]
        exact .els d _ fs _ q0 q ls cs ⟨rfl, ham⟩ (by simpa using hca) k1 k2 hle.2 hr
  | doo d a p q0 ps h1 h2 h3 h4 h5 k1 k2 =>
    subst hp
    have hca : CList es code true a (m.at_ + 2) q0 := ⟨ps, h3, h4, h5⟩
    have h1' : code[m.at_]? = some ((31 : Nat) : Int) := h1
    have hst := step_at u h1'
    rw [hind31 _ _ hl32, getD_some h2] at hst
    have hat2 : m.at_ + 2 ≤ code.length := by have := code_lt h2; omega
    have ho : 28 ≤ 31 → 31 ≤ 33 → ∃ v, code[m.at_ + 1]? = some v ∧ (31 ≠ 28 → ∃ n : Nat, v = n ∧ n ≤ code.length) := fun _ _ => ⟨_, h2, fun _ => ⟨q0 + 2, rfl, hle.2⟩⟩
    obtain ⟨s, ls, cs, at_⟩ := m
    simp only at *
    unfold dItem
    rcases s with _ | ⟨x, _ | ⟨y, r⟩⟩
    · exact .of (r := (1, ⟨[], ls, cs, at_⟩, u)) (by decide) h1' ho (by omega) (by rw [hst]; rfl) ⟨rfl, rfl, rfl⟩ (fun e => by simp at e) (by simp) hw
    · exact .of (r := (1, ⟨[x], ls, cs, at_⟩, u)) (by decide) h1' ho (by omega) (by rw [hst]; rfl) ⟨rfl, rfl, rfl⟩ (fun e => by simp at e) (by simp) hw
    · have hst' : stepM code ⟨x :: y :: r, ls, cs, at_⟩ u = (4, if x < y then ⟨r, ls ++ [(x, y)], cs, at_ + 2⟩ else ⟨r, ls, cs, q0 + 2⟩, u) := by rw [hst]; simp [execM]; split <;> simp; omega
      have hws := hw.s
      simp only [List.mem_cons, forall_eq_or_imp] at hws
      by_cases hxy : x < y
      · simp only [if_pos hxy] at hst' ⊢
        exact .of (by decide) h1' ho (by omega) hst' ⟨rfl, rfl, rfl⟩ (fun _ => ⟨true, .loop d ⟨a, 0, 2, x, y⟩ fs _ q0 (at_ + 2) ls cs ⟨rfl, hca.most hat2⟩ (by simpa using hca) k1 k2 hat2 hca ⟨hws.1, hws.2.1, hxy⟩ hr⟩) (by simp) hw.tail.tail
      · simp only [if_neg hxy] at hst' ⊢
        exact .of (by decide) h1' ho (by omega) hst' ⟨rfl, rfl, rfl⟩ (fun _ => ⟨d, hr⟩) (by simp) hw.tail.tail

theorem Conc.more {D : DR} {f : Fr} (h : Conc es code D fs m u) : Conc es code D (f :: fs) m u :=
  ⟨h.op, h.opd, h.loop, h.e, h.s, h.u, h.nx, h.l1, h.l2, h.l3, Nat.le_trans h.l4 (by simp), h.l5, h.wl⟩

theorem Conc.len {D : DR} {fs2 : List Fr} (h : Conc es code D fs m u) (hl : fs.length ≤ fs2.length) : Conc es code D fs2 m u :=
  ⟨h.op, h.opd, h.loop, h.e, h.s, h.u, h.nx, h.l1, h.l2, h.l3, Nat.le_trans h.l4 (by omega), h.l5, h.wl⟩

theorem conc_step (hc : Coded es code ws) (ha : Alike es ws) {p : Nat} {ls : List (Int × Int)} {cs : List Int} (hr : Rel es code d fs p ls cs) : ∀ m : MS, m.at_ = p → m.loops = ls → m.calls = cs → Wl m.stk u → Conc es code (dStep ws fs m.stk u) fs m u := by
  have key : ∀ {d : Bool} {f : Fr} {r : List Fr} {t : IT} {m : MS}, Rel es code d (f :: r) m.at_ m.loops m.calls → f.its[f.i]? = some t → Wl m.stk u → Conc es code (dItem ws t ({ f with i := f.i + 1 } :: r) m.stk u) (f :: r) m u := fun h ht hw => by
    obtain ⟨q', k1, k2⟩ := h.next ht
    exact (conc_item hc ha k1 k2 hw).len (by simp)
  induction hr with
  | last f p q hb h1 h2 =>
    intro m e1 e2 e3 hw
    subst e1
    rw [dStep]
    cases ht : f.its[f.i]? with
    | some t => exact key (by rw [e2, e3]; exact .last f m.at_ q hb h1 h2) ht hw
    | none =>
      obtain rfl := h1.done ht
      have h1' : code[m.at_]? = some ((34 : Nat) : Int) := h2
      have hst := step_at u h1'
      rw [hind0 34 (by decide) _ _ hw.l] at hst
      simp only
      rw [if_neg (by omega), if_neg (by omega), if_neg (by omega)]
      simp only [if_true]
      exact .of (r := (0, { m with at_ := m.at_ + 1 }, u)) (by decide) h1' (by omega) (by omega) (by rw [hst]; simp [execM, e3]) ⟨rfl, rfl, rfl⟩ (fun e => by simp at e) (by simp) hw
  | word d f g r p q p2 ls cs hb h1 h2 hp hr ih =>
    intro m e1 e2 e3 hw
    subst e1
    rw [dStep]
    cases ht : f.its[f.i]? with
    | some t => exact key (by rw [e2, e3]; exact .word d f g r m.at_ q p2 ls cs hb h1 h2 hp hr) ht hw
    | none =>
      obtain rfl := h1.done ht
      have h1' : code[m.at_]? = some ((34 : Nat) : Int) := h2
      have hst := step_at u h1'
      rw [hind0 34 (by decide) _ _ hw.l] at hst
      simp only
      rw [if_neg (by omega), if_neg (by omega), if_neg (by omega)]
      simp only [reduceCtorEq, if_false]
      exact .of (r := (4, { m with calls := cs, at_ := p2 }, u)) (by decide) h1' (by omega) (by omega) (by rw [hst]; simp [execM, e3]) ⟨rfl, rfl, rfl⟩ (fun _ => ⟨d, by simp only; rw [e2]; exact hr⟩) (by rw [e3]; simp; omega) hw
  | none d f r p q ls cs hb h1 hr ih =>
    intro m e1 e2 e3 hw
    subst e1
    rw [dStep]
    cases ht : f.its[f.i]? with
    | some t => exact key (by rw [e2, e3]; exact .none d f r m.at_ q ls cs hb h1 hr) ht hw
    | none =>
      obtain rfl := h1.done ht
      simp only
      rw [if_pos hb.1]
      exact (ih m rfl e2 e3 hw).more
  | els d f r p q p2 ls cs hb h1 h2 h3 hp hr ih =>
    intro m e1 e2 e3 hw
    subst e1
    rw [dStep]
    cases ht : f.its[f.i]? with
    | some t => exact key (by rw [e2, e3]; exact .els d f r m.at_ q p2 ls cs hb h1 h2 h3 hp hr) ht hw
    | none =>
      obtain rfl := h1.done ht
      have h1' : code[m.at_]? = some ((30 : Nat) : Int) := h2
      have hst := step_at u h1'
      rw [hind0 30 (by decide) _ _ hw.l, getD_some h3] at hst
      simp only
      rw [if_neg (by omega), if_pos hb.1]
      exact .of (r := (4, { m with at_ := p2 }, u)) (by decide) h1' (fun _ _ => ⟨_, h3, fun _ => ⟨p2, rfl, hp⟩⟩) (by omega) (by rw [hst]; simp [execM]) ⟨rfl, rfl, rfl⟩ (fun _ => ⟨d, by simp only; rw [e2, e3]; exact hr⟩) (by simp; omega) hw
  | loop d f r p q p0 ls cs hb h1 h2 h3 hp h4 hn hr ih =>
    intro m e1 e2 e3 hw
    subst e1
    rw [dStep]
    cases ht : f.its[f.i]? with
    | some t => exact key (by rw [e2, e3]; exact .loop d f r m.at_ q p0 ls cs hb h1 h2 h3 hp h4 hn hr) ht hw
    | none =>
      obtain rfl := h1.done ht
      have h1' : code[m.at_]? = some ((32 : Nat) : Int) := h2
      have hst := step_at u h1'
      rw [hind0 32 (by decide) _ _ hw.l, getD_some h3] at hst
      have hst' : stepM code m u = (4, if f.n + 1 < f.e then { m with loops := ls ++ [(f.n + 1, f.e)], at_ := p0 } else { m with loops := ls, at_ := m.at_ + 2 }, u) := by rw [hst]; simp [execM, e2]
      obtain ⟨⟨n1, n2⟩, ⟨n3, n4⟩, n5⟩ := hn
      simp only
      rw [if_neg (by omega), if_neg (by omega), if_pos hb.1]
      have ho : 28 ≤ 32 → 32 ≤ 33 → ∃ v, code[m.at_ + 1]? = some v ∧ (32 ≠ 28 → ∃ n : Nat, v = n ∧ n ≤ code.length) := fun _ _ => ⟨_, h3, fun _ => ⟨p0, rfl, hp⟩⟩
      have hlo : 32 = 27 ∨ 32 = 32 → ∃ l a b, m.loops = l ++ [(a, b)] ∧ -9000000000 ≤ a ∧ a ≤ 9000000000 := fun _ => ⟨ls, f.n, f.e, e2, by omega, by omega⟩
      by_cases hne : f.n + 1 < f.e
      · rw [if_pos hne] at hst'
        rw [if_neg (by omega)]
        exact .of (by decide) h1' ho hlo hst' ⟨rfl, rfl, rfl⟩ (fun _ => ⟨true, by simp only; rw [e3]; exact .loop d { f with n := f.n + 1, i := 0 } r p0 m.at_ p0 ls cs hb (by simpa using h4) h2 h3 hp h4 ⟨⟨by simp only; omega, by simp only; omega⟩, ⟨n3, n4⟩, hne⟩ hr⟩) (by rw [e2]; simp) hw
      · rw [if_neg hne] at hst'
        rw [if_pos (by omega)]
        exact .of (by decide) h1' ho hlo hst' ⟨rfl, rfl, rfl⟩ (fun _ => ⟨d, by simp only; rw [e3]; exact hr⟩) (by rw [e2]; simp; omega) hw
end

structure Sim (es : List PE) (code : List Int) (n : Nat) (fs : List Fr) (m : MS) (u : MW) : Prop where
  rel : ∃ d, Rel es code d fs m.at_ m.loops m.calls
  wl : Wl m.stk u
  l1 : m.loops.length ≤ n
  l2 : m.calls.length ≤ n
  l3 : u.outs.length ≤ n
  l4 : fs.length ≤ n + 1

section
variable {es : List PE} {code : List Int} {ws : List RW} {fs : List Fr} {m : MS} {u : MW} {n : Nat}

theorem Sim.ok (hc : Coded es code ws) (ha : Alike es ws) (h : Sim es code n fs m u) (hn : n ≤ 1000000) : StepOk code m u := by
  obtain ⟨d, hr⟩ := h.rel
  have hcc := conc_step (u := u) hc ha hr m rfl rfl rfl h.wl
  have := h.l1
  have := h.l2
  have := h.l3
  exact ⟨hcc.op, h.wl.s, hcc.opd, hcc.loop, hr.call, by omega, by omega, by omega⟩
theorem Sim.step (hc : Coded es code ws) (ha : Alike es ws) (h : Sim es code n fs m u) : (stepM code m u).1 = (dStep ws fs m.stk u).1 ∧ (stepM code m u).2.1.stk = (dStep ws fs m.stk u).2.2.1 ∧ (stepM code m u).2.2 = (dStep ws fs m.stk u).2.2.2 ∧ ((dStep ws fs m.stk u).1 = 4 → Sim es code (n + 1) (dStep ws fs m.stk u).2.1 (stepM code m u).2.1 (stepM code m u).2.2) := by
  obtain ⟨d, hr⟩ := h.rel
  have hcc := conc_step (u := u) hc ha hr m rfl rfl rfl h.wl
  have h1 := h.l1
  have h2 := h.l2
  have h3 := h.l3
  have h4 := h.l4
  have k1 := hcc.l1
  have k2 := hcc.l2
  have k3 := hcc.l3
  have k4 := hcc.l4
  refine ⟨hcc.e, hcc.s, hcc.u, fun e => ⟨hcc.nx e, ?_, by omega, by omega, by rw [hcc.u]; omega, by omega⟩⟩
  rw [hcc.s, hcc.u]; exact hcc.wl
theorem run_len (hc : Coded es code ws) (ha : Alike es ws) : ∀ (f n : Nat) (fs : List Fr) (m : MS) (u : MW), Sim es code n fs m u → (dRun ws f n fs m.stk u).2.2.2.outs.length ≤ n + f ∧ (dRun ws f n fs m.stk u).2.2.1.length ≤ 32 ∧ (dRun ws f n fs m.stk u).2.2.2.vars.length = u.vars.length
  | 0, n, fs, m, u, h => ⟨h.l3, h.wl.l, rfl⟩
  | f + 1, n, fs, m, u, h => by
    obtain ⟨h1, h2, h3, h4⟩ := h.step hc ha
    obtain ⟨d, hr⟩ := h.rel
    have hcc := conc_step (u := u) hc ha hr m rfl rfl rfl h.wl
    have k3 := hcc.l3
    have h3' := h.l3
    rw [dRun]
    by_cases he : (dStep ws fs m.stk u).1 = 4
    · rw [if_pos he, ← h2, ← h3]
      obtain ⟨a, b, c⟩ := run_len hc ha f (n + 1) _ _ _ (h4 he)
      refine ⟨by omega, b, ?_⟩
      rw [c, h3]; exact hcc.l5
    · rw [if_neg he]
      exact ⟨by simp only; omega, hcc.wl.l, hcc.l5⟩
theorem run_eq (hc : Coded es code ws) (ha : Alike es ws) : ∀ (f n : Nat) (fs : List Fr) (m : MS) (u : MW), Sim es code n fs m u → (runM code f n m u).1 = (dRun ws f n fs m.stk u).1 ∧ (runM code f n m u).2.1 = (dRun ws f n fs m.stk u).2.1 ∧ (runM code f n m u).2.2.1.stk = (dRun ws f n fs m.stk u).2.2.1 ∧ (runM code f n m u).2.2.2 = (dRun ws f n fs m.stk u).2.2.2
  | 0, n, fs, m, u, _ => ⟨rfl, rfl, rfl, rfl⟩
  | f + 1, n, fs, m, u, h => by
    obtain ⟨h1, h2, h3, h4⟩ := h.step hc ha
    rw [runM, dRun, h1]
    by_cases he : (dStep ws fs m.stk u).1 = 4
    · rw [if_pos he, if_pos he, ← h2, ← h3]
      exact run_eq hc ha f (n + 1) _ _ _ (h4 he)
    · rw [if_neg he, if_neg he]
      exact ⟨rfl, rfl, h2, h3⟩
end

end Go.Proofs.YtcphhbofjkenaaaGreatDoor
