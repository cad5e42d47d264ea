import Derived.Test.YtcphhbofjkenaaaGreatDoorU29
import Derived.Test.YtcphhbofjkenaaaGreatDoorU30
namespace Go.Proofs.YtcphhbofjkenaaaGreatDoor
open Go Go.RowKit
set_option linter.unusedVariables false
set_option linter.unusedSimpArgs false
def turnsP : List Fr → Int
 | [] => 0
 | f :: r => if f.beh = 2 then f.n else turnsP r
abbrev DR := Int × List Fr × List Int × MW
def dPut (v : Int) (fs : List Fr) (s : List Int) (u : MW) : DR := if 32 < s.length + 1 then (2, fs, s, u) else (4, fs, v :: s, u)
def dWord (k : Nat) (fs : List Fr) (s : List Int) (u : MW) : DR := if hindP k s u.vars.length ≠ 4 then (hindP k s u.vars.length, fs, s, u) else (4, fs, (opP k (turnsP fs) s u).1, (opP k (turnsP fs) s u).2)
def dItem (ws : List RW) (t : IT) (fs : List Fr) (s : List Int) (u : MW) : DR :=
 match t with
 | .num v => dPut v fs s u
 | .op b => dWord ((opFind b).getD 0) fs s u
 | .own k => match ws[k]? with
  | some o => if 0 ≤ o.var then dPut o.var fs s u else (4, ⟨o.its, 0, 3, 0, 0⟩ :: fs, s, u)
  | none => (4, fs, s, u)
 | .doo a => match s with
  | x :: y :: r => (4, if x < y then ⟨a, 0, 2, x, y⟩ :: fs else fs, r, u)
  | _ => (1, fs, s, u)
 | .iff a => match s with
  | x :: r => (4, (if x = 0 then ⟨[], 0, 0, 0, 0⟩ else ⟨a, 0, 0, 0, 0⟩) :: fs, r, u)
  | [] => (1, fs, s, u)
 | .els a b => match s with
  | x :: r => (4, (if x = 0 then ⟨b, 0, 0, 0, 0⟩ else ⟨a, 0, 1, 0, 0⟩) :: fs, r, u)
  | [] => (1, fs, s, u)
def dStep (ws : List RW) : List Fr → List Int → MW → DR
 | [], s, u => (0, [], s, u)
 | f :: r, s, u =>
  match f.its[f.i]? with
  | some t => dItem ws t ({ f with i := f.i + 1 } :: r) s u
  | none =>
   if f.beh = 0 then dStep ws r s u
   else if f.beh = 1 then (4, r, s, u)
   else if f.beh = 2 then (4, if f.e ≤ f.n + 1 then r else { f with n := f.n + 1, i := 0 } :: r, s, u)
   else (if r = [] then 0 else 4, r, s, u)
def dRun (ws : List RW) : Nat → Nat → List Fr → List Int → MW → Nat × Int × List Int × MW
 | 0, n, fs, s, u => (n, 4, s, u)
 | f + 1, n, fs, s, u => if (dStep ws fs s u).1 = 4 then dRun ws f (n + 1) (dStep ws fs s u).2.1 (dStep ws fs s u).2.2.1 (dStep ws fs s u).2.2.2 else (n + 1, (dStep ws fs s u).1, (dStep ws fs s u).2.2.1, (dStep ws fs s u).2.2.2)
inductive Rel (es : List PE) (code : List Int) : Bool → List Fr → Nat → List (Int × Int) → List Int → Prop
 | last (f : Fr) (p q : Nat) (hb : f.beh = 3 ∧ f.its.length ≤ code.length) (hc : CList es code false (f.its.drop f.i) p q) (h1 : code[q]? = some 34) : Rel es code false [f] p [] []
 | word (d : Bool) (f g : Fr) (r : List Fr) (p q p2 : Nat) (ls : List (Int × Int)) (cs : List Int) (hb : f.beh = 3 ∧ f.its.length ≤ code.length) (hc : CList es code false (f.its.drop f.i) p q) (h1 : code[q]? = some 34) (hp : p2 ≤ code.length) (hr : Rel es code d (g :: r) p2 ls cs) : Rel es code false (f :: g :: r) p ls (cs ++ [(p2 : Int)])
 | none (d : Bool) (f : Fr) (r : List Fr) (p q : Nat) (ls : List (Int × Int)) (cs : List Int) (hb : f.beh = 0 ∧ f.its.length ≤ code.length) (hc : CList es code d (f.its.drop f.i) p q) (hr : Rel es code d r q ls cs) : Rel es code d (f :: r) p ls cs
 | els (d : Bool) (f : Fr) (r : List Fr) (p q p2 : Nat) (ls : List (Int × Int)) (cs : List Int) (hb : f.beh = 1 ∧ f.its.length ≤ code.length) (hc : CList es code d (f.its.drop f.i) p q) (h1 : code[q]? = some 30) (h2 : code[q + 1]? = some (p2 : Int)) (hp : p2 ≤ code.length) (hr : Rel es code d r p2 ls cs) : Rel es code d (f :: r) p ls cs
 | loop (d : Bool) (f : Fr) (r : List Fr) (p q p0 : Nat) (ls : List (Int × Int)) (cs : List Int) (hb : f.beh = 2 ∧ f.its.length ≤ code.length) (hc : CList es code true (f.its.drop f.i) p q) (h1 : code[q]? = some 32) (h2 : code[q + 1]? = some (p0 : Int)) (hp : p0 ≤ code.length) (h3 : CList es code true f.its p0 q) (hn : Cell f.n ∧ Cell f.e ∧ f.n < f.e) (hr : Rel es code d r (q + 2) ls cs) : Rel es code true (f :: r) p (ls ++ [(f.n, f.e)]) cs
section
variable {es : List PE} {code : List Int} {ws : List RW} {d : Bool} {fs : List Fr} {p q : Nat} {ls : List (Int × Int)} {cs : List Int}
theorem Rel.turns (h : Rel es code d fs p ls cs) : d = true → ∃ l e, ls = l ++ [(turnsP fs, e)] ∧ Cell (turnsP fs) := by
 induction h with
 | last => intro h; cases h
 | word => intro h; cases h
 | none d f r p q ls cs hb hc hr ih =>
  intro hd
  have e : turnsP (f :: r) = turnsP r := by rw [turnsP, if_neg (by omega)]
  rw [e]; exact ih hd
 | els d f r p q p2 ls cs hb hc h1 h2 hp hr ih =>
  intro hd
  have e : turnsP (f :: r) = turnsP r := by rw [turnsP, if_neg (by omega)]
  rw [e]; exact ih hd
 | loop d f r p q p0 ls cs hb hc h1 h2 hp h3 hn hr ih =>
  intro _
  have e : turnsP (f :: r) = f.n := by rw [turnsP, if_pos hb.1]
  rw [e]; exact ⟨ls, f.e, rfl, hn.1⟩
theorem Rel.turnsC (h : Rel es code d fs p ls cs) : Cell (turnsP fs) := by
 induction h with
 | last f p q hb => rw [turnsP, if_neg (by omega)]; simp [turnsP, Cell]
 | word d f g r p q p2 ls cs hb hc h1 hp hr ih => rw [turnsP, if_neg (by omega)]; exact ih
 | none d f r p q ls cs hb hc hr ih => rw [turnsP, if_neg (by omega)]; exact ih
 | els d f r p q p2 ls cs hb hc h1 h2 hp hr ih => rw [turnsP, if_neg (by omega)]; exact ih
 | loop d f r p q p0 ls cs hb hc h1 h2 hp h3 hn hr ih => rw [turnsP, if_pos hb.1]; exact hn.1
theorem Rel.call (h : Rel es code d fs p ls cs) : ∀ (l : List Int) (x : Int), cs = l ++ [x] → ∃ n : Nat, x = n ∧ n ≤ code.length := by
 induction h with
 | last => intro l x h; simp at h
 | word d f g r p q p2 ls cs hb hc h1 hp hr ih =>
  intro l x h
  have := List.append_inj_right' h rfl
  simp only [List.cons.injEq, and_true] at this
  exact ⟨p2, this.symm, hp⟩
 | none d f r p q ls cs hb hc hr ih => exact ih
 | els d f r p q p2 ls cs hb hc h1 h2 hp hr ih => exact ih
 | loop d f r p q p0 ls cs hb hc h1 h2 hp h3 hn hr ih => exact ih
theorem Rel.ne (h : Rel es code d fs p ls cs) : fs ≠ [] := by cases h <;> simp
theorem CList.most {l : List IT} (h : CList es code d l p q) (hp : p ≤ code.length) : l.length ≤ code.length := by
 have hq := h.le hp
 obtain ⟨ps, h1, h2, h3⟩ := h
 have key : ∀ j, j ≤ l.length → p + j ≤ ps j := by
  intro j
  induction j with
  | zero => intro _; omega
  | succ j ih =>
   intro hj
   have := (h3 j l[j] (List.getElem?_eq_getElem (by omega))).le.1
   have := ih (by omega)
   omega
 have := key l.length (Nat.le_refl _)
 omega
theorem CList.nil_inv (h : CList es code d [] p q) : p = q := by
 obtain ⟨ps, h1, h2, _⟩ := h
 rw [← h1, ← h2]; rfl
theorem CList.cons_inv {t : IT} {l : List IT} (h : CList es code d (t :: l) p q) : ∃ p', CItem es code d t p p' ∧ CList es code d l p' q := by
 obtain ⟨ps, h1, h2, h3⟩ := h
 refine ⟨ps 1, ?_, fun i => ps (i + 1), rfl, h2, fun i x hx => h3 (i + 1) x (by simpa using hx)⟩
 rw [← h1]; exact h3 0 t rfl
theorem CList.next {l : List IT} {i : Nat} {t : IT} (h : CList es code d (l.drop i) p q) (ht : l[i]? = some t) : ∃ p', CItem es code d t p p' ∧ CList es code d (l.drop (i + 1)) p' q := by
 obtain ⟨hi, he⟩ := List.getElem?_eq_some_iff.1 ht
 rw [List.drop_eq_getElem_cons hi, he] at h
 exact h.cons_inv
theorem CList.done {l : List IT} {i : Nat} (h : CList es code d (l.drop i) p q) (ht : l[i]? = none) : p = q := by
 rw [List.drop_eq_nil_of_le (List.getElem?_eq_none_iff.1 ht)] at h
 exact h.nil_inv
theorem Rel.next {f : Fr} {r : List Fr} {t : IT} (h : Rel es code d (f :: r) p ls cs) (ht : f.its[f.i]? = some t) : ∃ q, CItem es code d t p q ∧ Rel es code d ({ f with i := f.i + 1 } :: r) q ls cs := by
 generalize hfs : f :: r = fs at h
 cases h with
 | last f' p q hb hc h1 =>
  obtain ⟨rfl, rfl⟩ : f = f' ∧ r = [] := by simpa using hfs
  obtain ⟨p', k1, k2⟩ := hc.next ht
  exact ⟨p', k1, .last _ p' q hb k2 h1⟩
 | word d f' g r' p q p2 ls cs hb hc h1 hp hr =>
  obtain ⟨rfl, rfl⟩ : f = f' ∧ r = g :: r' := by simpa using hfs
  obtain ⟨p', k1, k2⟩ := hc.next ht
  exact ⟨p', k1, .word d _ g r' p' q p2 ls cs hb k2 h1 hp hr⟩
 | none d f' r' p q ls cs hb hc hr =>
  obtain ⟨rfl, rfl⟩ : f = f' ∧ r = r' := by simpa using hfs
  obtain ⟨p', k1, k2⟩ := hc.next ht
  exact ⟨p', k1, .none d _ r p' q ls cs hb k2 hr⟩
 | els d f' r' p q p2 ls cs hb hc h1 h2 hp hr =>
  obtain ⟨rfl, rfl⟩ : f = f' ∧ r = r' := by simpa using hfs
  obtain ⟨p', k1, k2⟩ := hc.next ht
  exact ⟨p', k1, .els d _ r p' q p2 ls cs hb k2 h1 h2 hp hr⟩
 | loop d f' r' p q p0 ls cs hb hc h1 h2 hp h3 hn hr =>
  obtain ⟨rfl, rfl⟩ : f = f' ∧ r = r' := by simpa using hfs
  obtain ⟨p', k1, k2⟩ := hc.next ht
  exact ⟨p', k1, .loop d { f with i := f.i + 1 } r p' q p0 ls cs hb k2 h1 h2 hp h3 hn hr⟩
end
theorem hind28 (s : List Int) (n : Nat) : hindP 28 s n = if 32 < s.length + 1 then 2 else 4 := by
 have e1 : (opInf 28).need = 0 := rfl
 have e2 : (opInf 28).net = 1 := rfl
 unfold hindP
 rw [e1, e2, if_neg (by omega), if_neg (by omega)]
 by_cases h : 32 < s.length + 1
 ·rw [if_pos (by omega), if_pos h]
 ·rw [if_neg (by omega), if_neg h]
theorem hind29 (s : List Int) (n : Nat) (h : s.length ≤ 32) : hindP 29 s n = if s.length < 1 then 1 else 4 := by
 have e1 : (opInf 29).need = 1 := rfl
 have e2 : (opInf 29).net = -1 := rfl
 unfold hindP
 rw [e1, e2]
 by_cases h1 : s.length < 1
 ·rw [if_pos (by omega), if_pos h1]
 ·rw [if_neg (by omega), if_neg (by omega), if_neg (by omega), if_neg h1]
theorem hind31 (s : List Int) (n : Nat) (h : s.length ≤ 32) : hindP 31 s n = if s.length < 2 then 1 else 4 := by
 have e1 : (opInf 31).need = 2 := rfl
 have e2 : (opInf 31).net = -2 := rfl
 unfold hindP
 rw [e1, e2]
 by_cases h1 : s.length < 2
 ·rw [if_pos (by omega), if_pos h1]
 ·rw [if_neg (by omega), if_neg (by omega), if_neg (by omega), if_neg h1]
theorem hind0 (k : Nat) (hk : k = 30 ∨ k = 32 ∨ k = 33 ∨ k = 34) (s : List Int) (n : Nat) (h : s.length ≤ 32) : hindP k s n = 4 := by
 have e1 : (opInf k).need = 0 := by rcases hk with rfl | rfl | rfl | rfl <;> rfl
 have e2 : (opInf k).net = 0 := by rcases hk with rfl | rfl | rfl | rfl <;> rfl
 unfold hindP
 rw [e1, e2, if_neg (by omega), if_neg (by omega), if_neg (by omega)]
theorem step_at {code : List Int} {m : MS} {k : Nat} (u : MW) (h : code[m.at_]? = some (k : Int)) : stepM code m u = if hindP k m.stk u.vars.length ≠ 4 then (hindP k m.stk u.vars.length, m, u) else execM k (code.getD (m.at_ + 1) 0) m u := by
 have : (code.getD m.at_ 0).toNat = k := by rw [List.getD_eq_getElem?_getD, h]; simp
 unfold stepM
 rw [this]
theorem two_cell (k : Nat) (hk : k ≤ 12) {a b : Int} (ha : Cell a) (hb : Cell b) : Cell (twoP k a b) := by rw [← rtwo_eq k hk ha hb]; exact w32_cell _
theorem one_cell (k : Nat) {a : Int} (ha : Cell a) : Cell (oneP k a) := by
 unfold oneP
 split
 ·exact flag_cell _
 ·split
  ·exact w32_cell _
  ·exact ha
theorem arr_cell (k : Nat) (s : List Int) (h : ∀ a ∈ s, Cell a) : ∀ a ∈ arrP k s, Cell a := by
 unfold arrP
 split
 ·repeat' split
  all_goals simp_all
 ·repeat' split
  all_goals simp_all
 ·split
  all_goals simp_all
 ·exact h
theorem arr_len (k : Nat) (s : List Int) (h1 : 16 ≤ k) (h2 : k ≤ 22) (hn : (opInf k).need ≤ s.length) : ((arrP k s).length : Int) = s.length + (opInf k).net := by
 have hc : k = 16 ∨ k = 17 ∨ k = 18 ∨ k = 19 ∨ k = 20 ∨ k = 21 ∨ k = 22 := by omega
 have a1 : (opInf 16).need = 1 ∧ (opInf 16).net = 1 := ⟨rfl, rfl⟩
 have a2 : (opInf 17).need = 1 ∧ (opInf 17).net = -1 := ⟨rfl, rfl⟩
 have a3 : (opInf 18).need = 2 ∧ (opInf 18).net = 0 := ⟨rfl, rfl⟩
 have a4 : (opInf 19).need = 2 ∧ (opInf 19).net = 1 := ⟨rfl, rfl⟩
 have a5 : (opInf 20).need = 3 ∧ (opInf 20).net = 0 := ⟨rfl, rfl⟩
 have a6 : (opInf 21).need = 2 ∧ (opInf 21).net = -1 := ⟨rfl, rfl⟩
 have a7 : (opInf 22).need = 2 ∧ (opInf 22).net = 1 := ⟨rfl, rfl⟩
 rcases s with _ | ⟨c, _ | ⟨b, _ | ⟨a, s⟩⟩⟩
 ·rcases hc with rfl | rfl | rfl | rfl | rfl | rfl | rfl <;> simp_all
 ·rcases hc with rfl | rfl | rfl | rfl | rfl | rfl | rfl <;> simp_all [arrP]
 ·rcases hc with rfl | rfl | rfl | rfl | rfl | rfl | rfl <;> simp_all [arrP]
 ·rcases hc with rfl | rfl | rfl | rfl | rfl | rfl | rfl <;> simp_all [arrP] <;> omega
structure Wl (st : List Int) (u : MW) : Prop where
 s : ∀ a ∈ st, Cell a
 v : ∀ a ∈ u.vars, Cell a
 i : ∀ a ∈ u.ins, Cell a
 l : st.length ≤ 32
theorem getD_cell {l : List Int} {i : Nat} (h : ∀ a ∈ l, Cell a) : Cell (l.getD i 0) := by
 rw [List.getD_eq_getElem?_getD]
 cases hi : l[i]? with
 | none => simp [Cell]
 | some y => exact h y (List.mem_of_getElem? hi)
theorem headD_cell {l : List Int} (h : ∀ a ∈ l, Cell a) : Cell (l.headD 0) := by
 cases l with
 | nil => simp [Cell]
 | cons a r => exact h a (by simp)
theorem exec_op (k : Nat) (hk : k < 28) (v : Int) {n : Int} {m : MS} {u : MW} (hh : hindP k m.stk u.vars.length = 4) (h : Wl m.stk u) (hn : k = 27 → (m.loops.getLastD (0, 0)).1 = n ∧ Cell n) :
  execM k v m u = (4, { m with stk := (opP k n m.stk u).1, at_ := m.at_ + 1 }, (opP k n m.stk u).2) ∧ Wl (opP k n m.stk u).1 (opP k n m.stk u).2 ∧ (opP k n m.stk u).2.outs.length ≤ u.outs.length + 1 ∧ (opP k n m.stk u).2.vars.length = u.vars.length ∧ (opP k n m.stk u).2.ins.length ≤ u.ins.length := by
 obtain ⟨h1, h2, h3⟩ := hind_ok hh
 obtain ⟨s, ls, cs, at_⟩ := m
 simp only at *
 obtain ⟨c1, c2, c3, c4⟩ := h
 unfold opP execM
 by_cases h12 : k ≤ 12
 ·rw [two_need k h12] at h1
  obtain ⟨b, a, r, rfl⟩ := stk2 h1
  simp only [if_pos h12]
  simp only [List.mem_cons, forall_eq_or_imp, List.length_cons] at c1 c4
  refine ⟨by first | rfl | trivial | simp, ⟨?_, c2, c3, by simp; omega⟩, by simp, by first | rfl | trivial | simp, by first | exact Nat.le_refl _ | trivial | simp⟩
  simp only [List.mem_cons, forall_eq_or_imp]
  exact ⟨two_cell k h12 c1.2.1 c1.1, c1.2.2⟩
 ·simp only [if_neg h12]
  by_cases h15 : k ≤ 15
  ·rw [one_need k (by omega) h15] at h1
   obtain ⟨a, r, rfl⟩ := stk1 h1
   simp only [if_pos h15]
   simp only [List.mem_cons, forall_eq_or_imp, List.length_cons] at c1 c4
   refine ⟨by first | rfl | trivial | simp, ⟨?_, c2, c3, by simp; omega⟩, by simp, by first | rfl | trivial | simp, by first | exact Nat.le_refl _ | trivial | simp⟩
   simp only [List.mem_cons, forall_eq_or_imp]
   exact ⟨one_cell k c1.1, c1.2⟩
  ·simp only [if_neg h15]
   by_cases h22 : k ≤ 22
   ·simp only [if_pos h22]
    have := arr_len k s (by omega) h22 h1
    exact ⟨by first | rfl | trivial | simp, ⟨arr_cell k s c1, c2, c3, by omega⟩, by simp, by first | rfl | trivial | simp, by first | exact Nat.le_refl _ | trivial | simp⟩
   ·simp only [if_neg h22]
    have hc : k = 23 ∨ k = 24 ∨ k = 25 ∨ k = 26 ∨ k = 27 := by omega
    rcases hc with rfl | rfl | rfl | rfl | rfl
    ·obtain ⟨a, r, rfl⟩ := stk1 (s := s) h1
     simp only [List.mem_cons, forall_eq_or_imp, List.length_cons] at c1 c4
     refine ⟨by first | rfl | trivial | simp, ⟨?_, c2, c3, by simp; omega⟩, by simp, by first | rfl | trivial | simp, by first | exact Nat.le_refl _ | trivial | simp⟩
     simp only [List.mem_cons, forall_eq_or_imp, if_true]
     exact ⟨getD_cell c2, c1.2⟩
    ·obtain ⟨i, a, r, rfl⟩ := stk2 (s := s) h1
     simp only [List.mem_cons, forall_eq_or_imp, List.length_cons] at c1 c4
     refine ⟨by first | rfl | trivial | simp, ⟨c1.2.2, fun y hy => ?_, c3, by simp; omega⟩, by simp, by simp, by first | exact Nat.le_refl _ | trivial | simp⟩
     rcases List.mem_or_eq_of_mem_set hy with e | e
     ·exact c2 y e
     ·rw [e]; exact c1.2.1
    ·have e2 : (opInf 25).net = 1 := rfl
     rw [e2] at h2
     refine ⟨by first | rfl | trivial | simp, ⟨?_, c2, fun y hy => c3 y (List.mem_of_mem_tail hy), by simp; omega⟩, by simp, by first | rfl | trivial | simp, by simp⟩
     simp only [show (25 : Nat) ≠ 23 by decide, show (25 : Nat) ≠ 24 by decide, if_false, if_true, List.mem_cons, forall_eq_or_imp]
     exact ⟨headD_cell c3, c1⟩
    ·obtain ⟨a, r, rfl⟩ := stk1 (s := s) h1
     simp only [List.mem_cons, forall_eq_or_imp, List.length_cons] at c1 c4
     exact ⟨by first | rfl | trivial | simp, ⟨c1.2, c2, c3, by simp; omega⟩, by simp, by first | rfl | trivial | simp, by first | exact Nat.le_refl _ | trivial | simp⟩
    ·have e2 : (opInf 27).net = 1 := rfl
     rw [e2] at h2
     obtain ⟨n1, n2⟩ := hn rfl
     refine ⟨?_, ⟨?_, c2, c3, by simp; omega⟩, by simp, by first | rfl | trivial | simp, by first | exact Nat.le_refl _ | trivial | simp⟩
     ·rw [List.getLastD_eq_getLast?] at n1
      simp [n1]
     ·simp only [show (27 : Nat) ≠ 23 by decide, show (27 : Nat) ≠ 24 by decide, show (27 : Nat) ≠ 25 by decide, show (27 : Nat) ≠ 26 by decide, if_false, if_true, List.mem_cons, forall_eq_or_imp]
      exact ⟨by simpa using n2, c1⟩
structure Conc (es : List PE) (code : List Int) (D : DR) (fs : List Fr) (m : MS) (x : MW) : Prop where
 op : ∃ k : Nat, k < 35 ∧ code[m.at_]? = some (k : Int)
 opd : ∀ k : Nat, code[m.at_]? = some (k : Int) → 28 ≤ k → k ≤ 33 → ∃ v, code[m.at_ + 1]? = some v ∧ (k ≠ 28 → ∃ n : Nat, v = n ∧ n ≤ code.length)
 loop : ∀ k : Nat, code[m.at_]? = some (k : Int) → (k = 27 ∨ k = 32) → ∃ l a b, m.loops = l ++ [(a, b)] ∧ -9000000000 ≤ a ∧ a ≤ 9000000000
 e : (stepM code m x).1 = D.1
 s : (stepM code m x).2.1.stk = D.2.2.1
 u : (stepM code m x).2.2 = D.2.2.2
 nx : D.1 = 4 → ∃ d, Rel es code d D.2.1 (stepM code m x).2.1.at_ (stepM code m x).2.1.loops (stepM code m x).2.1.calls
 l1 : (stepM code m x).2.1.loops.length ≤ m.loops.length + 1
 l2 : (stepM code m x).2.1.calls.length ≤ m.calls.length + 1
 l3 : D.2.2.2.outs.length ≤ x.outs.length + 1
 l4 : D.2.1.length ≤ fs.length + 1
 l5 : D.2.2.2.vars.length = x.vars.length
 wl : Wl D.2.2.1 D.2.2.2
section
variable {es : List PE} {code : List Int} {ws : List RW} {d : Bool} {fs : List Fr} {q : Nat} {m : MS} {u : MW} {t : IT}
theorem getD_some {l : List Int} {i : Nat} {v : Int} (h : l[i]? = some v) : l.getD i 0 = v := by rw [List.getD_eq_getElem?_getD, h]; rfl
theorem Conc.of {k : Nat} {D : DR} {r : Int × MS × MW} (hk : k < 35) (h1 : code[m.at_]? = some (k : Int)) (ho : 28 ≤ k → k ≤ 33 → ∃ v, code[m.at_ + 1]? = some v ∧ (k ≠ 28 → ∃ n : Nat, v = n ∧ n ≤ code.length)) (hl : k = 27 ∨ k = 32 → ∃ l a b, m.loops = l ++ [(a, b)] ∧ -9000000000 ≤ a ∧ a ≤ 9000000000) (hst : stepM code m u = r)
  (e : r.1 = D.1 ∧ r.2.1.stk = D.2.2.1 ∧ r.2.2 = D.2.2.2) (nx : D.1 = 4 → ∃ d, Rel es code d D.2.1 r.2.1.at_ r.2.1.loops r.2.1.calls) (l : r.2.1.loops.length ≤ m.loops.length + 1 ∧ r.2.1.calls.length ≤ m.calls.length + 1 ∧ D.2.2.2.outs.length ≤ u.outs.length + 1 ∧ D.2.1.length ≤ fs.length + 1 ∧ D.2.2.2.vars.length = u.vars.length) (wl : Wl D.2.2.1 D.2.2.2) : Conc es code D fs m u := by
 have hu : ∀ j : Nat, code[m.at_]? = some (j : Int) → j = k := fun j hj => by rw [h1] at hj; simp only [Option.some.injEq] at hj; omega
 subst hst
 exact ⟨⟨k, hk, h1⟩, fun j hj => by rw [hu j hj]; exact ho, fun j hj => by rw [hu j hj]; exact hl, e.1, e.2.1, e.2.2, nx, l.1, l.2.1, l.2.2.1, l.2.2.2.1, l.2.2.2.2, wl⟩
theorem conc_put {v : Int} (hr : Rel es code d fs (m.at_ + 2) m.loops m.calls) (hw : Wl m.stk u) (h1 : code[m.at_]? = some 28) (h2 : code[m.at_ + 1]? = some v) (hv : Cell v) : Conc es code (dPut v fs m.stk u) fs m u := by
 have h1' : code[m.at_]? = some ((28 : Nat) : Int) := h1
 have hst := step_at u h1'
 rw [hind28, getD_some h2] at hst
 unfold dPut
 by_cases h : 32 < m.stk.length + 1
 ·rw [if_pos h] at hst ⊢
  exact .of (r := (2, m, u)) (by decide) h1' (fun _ _ => ⟨v, h2, fun e => absurd rfl e⟩) (by omega) hst ⟨rfl, rfl, rfl⟩ (fun e => by simp at e) (by simp) hw
 ·rw [if_neg h] at hst ⊢
  refine .of (r := (4, { m with stk := v :: m.stk, at_ := m.at_ + 2 }, u)) (by decide) h1' (fun _ _ => ⟨v, h2, fun e => absurd rfl e⟩) (by omega) hst ⟨rfl, rfl, rfl⟩ (fun _ => ⟨d, hr⟩) (by simp) ⟨?_, hw.v, hw.i, by simp; omega⟩
  simp only [List.mem_cons, forall_eq_or_imp]; exact ⟨hv, hw.s⟩
theorem Wl.tail {x : Int} {r : List Int} (hw : Wl (x :: r) u) : Wl r u := ⟨fun a ha => hw.s a (List.mem_cons_of_mem _ ha), hw.v, hw.i, by have := hw.l; simp at this; omega⟩
theorem conc_item (hc : Coded es code ws) (ha : Alike es ws) (hi : CItem es code d t m.at_ q) (hr : Rel es code d fs q m.loops m.calls) (hw : Wl m.stk u) : Conc es code (dItem ws t fs m.stk u) fs m u := by
 have hle := hi.le
 have hl32 := hw.l
 generalize hp : m.at_ = p at hi hle
 cases hi with
 | num d n p h h1 h2 =>
  subst hp
  exact conc_put hr hw h1 h2 h
 | op d s k p h h1 h2 =>
  subst hp
  have hk := (there_some h).2.1
  have hlo : k = 27 ∨ k = 32 → ∃ l a b, m.loops = l ++ [(a, b)] ∧ -9000000000 ≤ a ∧ a ≤ 9000000000 := fun hc => by
   obtain ⟨l, e, e1, b1, b2⟩ := hr.turns (h2 (by omega))
   exact ⟨l, _, e, e1, by omega, by omega⟩
  have hst := step_at u h1
  show Conc es code (dWord ((opFind s).getD 0) fs m.stk u) fs m u
  unfold dWord
  rw [h]
  simp only [Option.getD_some]
  by_cases hh : hindP k m.stk u.vars.length = 4
  ·rw [if_neg (fun e => e hh)] at hst ⊢
   obtain ⟨e1, e2, e3, e4, e5⟩ := exec_op k hk (code.getD (m.at_ + 1) 0) (n := turnsP fs) hh hw (fun hk27 => by
    obtain ⟨l, e, e1, e2⟩ := hr.turns (h2 hk27)
    exact ⟨by rw [e1, List.getLastD_concat], e2⟩)
   rw [e1] at hst
   exact .of (by omega) h1 (by omega) hlo hst ⟨rfl, rfl, rfl⟩ (fun _ => ⟨d, hr⟩) ⟨by simp, by simp, e3, by simp, e4⟩ e2
  ·rw [if_pos hh] at hst ⊢
   exact .of (by omega) h1 (by omega) hlo hst ⟨rfl, rfl, rfl⟩ (fun e => absurd e hh) (by simp) hw
 | var d k x p h hv h1 h2 =>
  subst hp
  have hkl : k < ws.length := by have := (List.getElem?_eq_some_iff.1 h).1; rw [ha.len] at this; exact this
  have hy : ws[k]? = some ws[k] := List.getElem?_eq_getElem hkl
  obtain ⟨e1, e2⟩ := (ha.use k x ws[k] h hy).1 hv
  obtain ⟨b1, b2⟩ := hc.v k x h hv
  unfold dItem
  simp only [hy]
  rw [if_pos e2, e1]
  exact conc_put hr hw h1 h2 ⟨by omega, by omega⟩
 | own d k x p h hv h1 h2 =>
  subst hp
  have hkl : k < ws.length := by have := (List.getElem?_eq_some_iff.1 h).1; rw [ha.len] at this; exact this
  have hy : ws[k]? = some ws[k] := List.getElem?_eq_getElem hkl
  obtain ⟨e1, _⟩ := (ha.use k x ws[k] h hy).2 hv
  obtain ⟨p', q', k1, k2, k3, k4⟩ := hc.w k x ws[k] h hy hv
  have h1' : code[m.at_]? = some ((33 : Nat) : Int) := h1
  have hst := step_at u h1'
  rw [hind0 33 (by decide) _ _ hl32, getD_some h2, k1] at hst
  unfold dItem
  simp only [hy]
  rw [if_neg (by omega)]
  refine .of (r := (4, { m with calls := m.calls ++ [((m.at_ + 2 : Nat) : Int)], at_ := p' }, u)) (by decide) h1' (fun _ _ => ⟨_, h2, fun _ => ⟨p', k1, k2⟩⟩) (by omega) (by rw [hst]; simp [execM]) ⟨rfl, rfl, rfl⟩ (fun _ => ⟨false, ?_⟩) (by simp) hw
  obtain ⟨g, r, rfl⟩ : ∃ g r, fs = g :: r := by
   cases fs with
   | nil => exact absurd rfl hr.ne
   | cons g r => exact ⟨g, r, rfl⟩
  exact .word d _ g r p' q' _ _ _ ⟨rfl, k3.most k2⟩ (by simpa using k3) k4 hle.2 hr
 | iff d a p q ps h1 h2 h3 h4 h5 =>
  subst hp
  have h1' : code[m.at_]? = some ((29 : Nat) : Int) := h1
  have hst := step_at u h1'
  rw [hind29 _ _ hl32, getD_some h2] at hst
  have hca : CList es code d a (m.at_ + 2) q := ⟨ps, h3, h4, h5⟩
  have ham := hca.most (by have := code_lt h2; omega)
  have ho : 28 ≤ 29 → 29 ≤ 33 → ∃ v, code[m.at_ + 1]? = some v ∧ (29 ≠ 28 → ∃ n : Nat, v = n ∧ n ≤ code.length) := fun _ _ => ⟨_, h2, fun _ => ⟨q, rfl, hle.2⟩⟩
  obtain ⟨s, ls, cs, at_⟩ := m
  simp only at *
  unfold dItem
  cases s with
  | nil => exact .of (r := (1, ⟨[], ls, cs, at_⟩, u)) (by decide) h1' ho (by omega) (by rw [hst]; rfl) ⟨rfl, rfl, rfl⟩ (fun e => by simp at e) (by simp) hw
  | cons x r =>
   refine .of (r := (4, ⟨r, ls, cs, if x = 0 then q else at_ + 2⟩, u)) (by decide) h1' ho (by omega) (by rw [hst]; simp [execM]) ⟨rfl, rfl, rfl⟩ (fun _ => ⟨d, ?_⟩) (by simp) hw.tail
   by_cases hx : x = 0
   ·simp only [if_pos hx]
    exact .none d _ fs q q ls cs ⟨rfl, by simp⟩ (by simpa using CList.nil es code d q) hr
   ·simp only [if_neg hx]
    exact .none d _ fs _ q ls cs ⟨rfl, ham⟩ (by simpa using hca) hr
 | els d a b p q0 q ps qs h1 h2 h3 h4 h5 k1 k2 k3 k4 k5 =>
  subst hp
  have hq2 : q0 + 2 ≤ code.length := by have := code_lt k2; omega
  have hcb : CList es code d b (q0 + 2) q := ⟨qs, k3, k4, k5⟩
  have hca : CList es code d a (m.at_ + 2) q0 := ⟨ps, h3, h4, h5⟩
  have ham := hca.most (by have := code_lt h2; omega)
  have h1' : code[m.at_]? = some ((29 : Nat) : Int) := h1
  have hst := step_at u h1'
  rw [hind29 _ _ hl32, getD_some h2] at hst
  have ho : 28 ≤ 29 → 29 ≤ 33 → ∃ v, code[m.at_ + 1]? = some v ∧ (29 ≠ 28 → ∃ n : Nat, v = n ∧ n ≤ code.length) := fun _ _ => ⟨_, h2, fun _ => ⟨q0 + 2, rfl, hq2⟩⟩
  obtain ⟨s, ls, cs, at_⟩ := m
  simp only at *
  unfold dItem
  cases s with
  | nil => exact .of (r := (1, ⟨[], ls, cs, at_⟩, u)) (by decide) h1' ho (by omega) (by rw [hst]; rfl) ⟨rfl, rfl, rfl⟩ (fun e => by simp at e) (by simp) hw
  | cons x r =>
   refine .of (r := (4, ⟨r, ls, cs, if x = 0 then q0 + 2 else at_ + 2⟩, u)) (by decide) h1' ho (by omega) (by rw [hst]; simp [execM]; split <;> omega) ⟨rfl, rfl, rfl⟩ (fun _ => ⟨d, ?_⟩) (by simp) hw.tail
   by_cases hx : x = 0
   ·simp only [if_pos hx]
    exact .none d _ fs (q0 + 2) q ls cs ⟨rfl, hcb.most hq2⟩ (by simpa using hcb) hr
   ·simp only [if_neg hx]
    exact .els d _ fs _ q0 q ls cs ⟨rfl, ham⟩ (by simpa using hca) k1 k2 hle.2 hr
 | doo d a p q0 ps h1 h2 h3 h4 h5 k1 k2 =>
  subst hp
  have hca : CList es code true a (m.at_ + 2) q0 := ⟨ps, h3, h4, h5⟩
  have h1' : code[m.at_]? = some ((31 : Nat) : Int) := h1
  have hst := step_at u h1'
  rw [hind31 _ _ hl32, getD_some h2] at hst
  have hat2 : m.at_ + 2 ≤ code.length := by have := code_lt h2; omega
  have ho : 28 ≤ 31 → 31 ≤ 33 → ∃ v, code[m.at_ + 1]? = some v ∧ (31 ≠ 28 → ∃ n : Nat, v = n ∧ n ≤ code.length) := fun _ _ => ⟨_, h2, fun _ => ⟨q0 + 2, rfl, hle.2⟩⟩
  obtain ⟨s, ls, cs, at_⟩ := m
  simp only at *
  unfold dItem
  rcases s with _ | ⟨x, _ | ⟨y, r⟩⟩
  ·exact .of (r := (1, ⟨[], ls, cs, at_⟩, u)) (by decide) h1' ho (by omega) (by rw [hst]; rfl) ⟨rfl, rfl, rfl⟩ (fun e => by simp at e) (by simp) hw
  ·exact .of (r := (1, ⟨[x], ls, cs, at_⟩, u)) (by decide) h1' ho (by omega) (by rw [hst]; rfl) ⟨rfl, rfl, rfl⟩ (fun e => by simp at e) (by simp) hw
  ·have hst' : stepM code ⟨x :: y :: r, ls, cs, at_⟩ u = (4, if x < y then ⟨r, ls ++ [(x, y)], cs, at_ + 2⟩ else ⟨r, ls, cs, q0 + 2⟩, u) := by rw [hst]; simp [execM]; split <;> simp; omega
   have hws := hw.s
   simp only [List.mem_cons, forall_eq_or_imp] at hws
   by_cases hxy : x < y
   ·simp only [if_pos hxy] at hst' ⊢
    exact .of (by decide) h1' ho (by omega) hst' ⟨rfl, rfl, rfl⟩ (fun _ => ⟨true, .loop d ⟨a, 0, 2, x, y⟩ fs _ q0 (at_ + 2) ls cs ⟨rfl, hca.most hat2⟩ (by simpa using hca) k1 k2 hat2 hca ⟨hws.1, hws.2.1, hxy⟩ hr⟩) (by simp) hw.tail.tail
   ·simp only [if_neg hxy] at hst' ⊢
    exact .of (by decide) h1' ho (by omega) hst' ⟨rfl, rfl, rfl⟩ (fun _ => ⟨d, hr⟩) (by simp) hw.tail.tail
theorem Conc.more {D : DR} {f : Fr} (h : Conc es code D fs m u) : Conc es code D (f :: fs) m u :=
 ⟨h.op, h.opd, h.loop, h.e, h.s, h.u, h.nx, h.l1, h.l2, h.l3, Nat.le_trans h.l4 (by simp), h.l5, h.wl⟩
theorem Conc.len {D : DR} {fs2 : List Fr} (h : Conc es code D fs m u) (hl : fs.length ≤ fs2.length) : Conc es code D fs2 m u :=
 ⟨h.op, h.opd, h.loop, h.e, h.s, h.u, h.nx, h.l1, h.l2, h.l3, Nat.le_trans h.l4 (by omega), h.l5, h.wl⟩
theorem conc_step (hc : Coded es code ws) (ha : Alike es ws) {p : Nat} {ls : List (Int × Int)} {cs : List Int} (hr : Rel es code d fs p ls cs) : ∀ m : MS, m.at_ = p → m.loops = ls → m.calls = cs → Wl m.stk u → Conc es code (dStep ws fs m.stk u) fs m u := by
 have key : ∀ {d : Bool} {f : Fr} {r : List Fr} {t : IT} {m : MS}, Rel es code d (f :: r) m.at_ m.loops m.calls → f.its[f.i]? = some t → Wl m.stk u → Conc es code (dItem ws t ({ f with i := f.i + 1 } :: r) m.stk u) (f :: r) m u := fun h ht hw => by
  obtain ⟨q', k1, k2⟩ := h.next ht
  exact (conc_item hc ha k1 k2 hw).len (by simp)
 induction hr with
 | last f p q hb h1 h2 =>
  intro m e1 e2 e3 hw
  subst e1
  rw [dStep]
  cases ht : f.its[f.i]? with
  | some t => exact key (by rw [e2, e3]; exact .last f m.at_ q hb h1 h2) ht hw
  | none =>
   obtain rfl := h1.done ht
   have h1' : code[m.at_]? = some ((34 : Nat) : Int) := h2
   have hst := step_at u h1'
   rw [hind0 34 (by decide) _ _ hw.l] at hst
   simp only
   rw [if_neg (by omega), if_neg (by omega), if_neg (by omega)]
   simp only [if_true]
   exact .of (r := (0, { m with at_ := m.at_ + 1 }, u)) (by decide) h1' (by omega) (by omega) (by rw [hst]; simp [execM, e3]) ⟨rfl, rfl, rfl⟩ (fun e => by simp at e) (by simp) hw
 | word d f g r p q p2 ls cs hb h1 h2 hp hr ih =>
  intro m e1 e2 e3 hw
  subst e1
  rw [dStep]
  cases ht : f.its[f.i]? with
  | some t => exact key (by rw [e2, e3]; exact .word d f g r m.at_ q p2 ls cs hb h1 h2 hp hr) ht hw
  | none =>
   obtain rfl := h1.done ht
   have h1' : code[m.at_]? = some ((34 : Nat) : Int) := h2
   have hst := step_at u h1'
   rw [hind0 34 (by decide) _ _ hw.l] at hst
   simp only
   rw [if_neg (by omega), if_neg (by omega), if_neg (by omega)]
   simp only [reduceCtorEq, if_false]
   exact .of (r := (4, { m with calls := cs, at_ := p2 }, u)) (by decide) h1' (by omega) (by omega) (by rw [hst]; simp [execM, e3]) ⟨rfl, rfl, rfl⟩ (fun _ => ⟨d, by simp only; rw [e2]; exact hr⟩) (by rw [e3]; simp; omega) hw
 | none d f r p q ls cs hb h1 hr ih =>
  intro m e1 e2 e3 hw
  subst e1
  rw [dStep]
  cases ht : f.its[f.i]? with
  | some t => exact key (by rw [e2, e3]; exact .none d f r m.at_ q ls cs hb h1 hr) ht hw
  | none =>
   obtain rfl := h1.done ht
   simp only
   rw [if_pos hb.1]
   exact (ih m rfl e2 e3 hw).more
 | els d f r p q p2 ls cs hb h1 h2 h3 hp hr ih =>
  intro m e1 e2 e3 hw
  subst e1
  rw [dStep]
  cases ht : f.its[f.i]? with
  | some t => exact key (by rw [e2, e3]; exact .els d f r m.at_ q p2 ls cs hb h1 h2 h3 hp hr) ht hw
  | none =>
   obtain rfl := h1.done ht
   have h1' : code[m.at_]? = some ((30 : Nat) : Int) := h2
   have hst := step_at u h1'
   rw [hind0 30 (by decide) _ _ hw.l, getD_some h3] at hst
   simp only
   rw [if_neg (by omega), if_pos hb.1]
   exact .of (r := (4, { m with at_ := p2 }, u)) (by decide) h1' (fun _ _ => ⟨_, h3, fun _ => ⟨p2, rfl, hp⟩⟩) (by omega) (by rw [hst]; simp [execM]) ⟨rfl, rfl, rfl⟩ (fun _ => ⟨d, by simp only; rw [e2, e3]; exact hr⟩) (by simp; omega) hw
 | loop d f r p q p0 ls cs hb h1 h2 h3 hp h4 hn hr ih =>
  intro m e1 e2 e3 hw
  subst e1
  rw [dStep]
  cases ht : f.its[f.i]? with
  | some t => exact key (by rw [e2, e3]; exact .loop d f r m.at_ q p0 ls cs hb h1 h2 h3 hp h4 hn hr) ht hw
  | none =>
   obtain rfl := h1.done ht
   have h1' : code[m.at_]? = some ((32 : Nat) : Int) := h2
   have hst := step_at u h1'
   rw [hind0 32 (by decide) _ _ hw.l, getD_some h3] at hst
   have hst' : stepM code m u = (4, if f.n + 1 < f.e then { m with loops := ls ++ [(f.n + 1, f.e)], at_ := p0 } else { m with loops := ls, at_ := m.at_ + 2 }, u) := by rw [hst]; simp [execM, e2]
   obtain ⟨⟨n1, n2⟩, ⟨n3, n4⟩, n5⟩ := hn
   simp only
   rw [if_neg (by omega), if_neg (by omega), if_pos hb.1]
   have ho : 28 ≤ 32 → 32 ≤ 33 → ∃ v, code[m.at_ + 1]? = some v ∧ (32 ≠ 28 → ∃ n : Nat, v = n ∧ n ≤ code.length) := fun _ _ => ⟨_, h3, fun _ => ⟨p0, rfl, hp⟩⟩
   have hlo : 32 = 27 ∨ 32 = 32 → ∃ l a b, m.loops = l ++ [(a, b)] ∧ -9000000000 ≤ a ∧ a ≤ 9000000000 := fun _ => ⟨ls, f.n, f.e, e2, by omega, by omega⟩
   by_cases hne : f.n + 1 < f.e
   ·rw [if_pos hne] at hst'
    rw [if_neg (by omega)]
    exact .of (by decide) h1' ho hlo hst' ⟨rfl, rfl, rfl⟩ (fun _ => ⟨true, by simp only; rw [e3]; exact .loop d { f with n := f.n + 1, i := 0 } r p0 m.at_ p0 ls cs hb (by simpa using h4) h2 h3 hp h4 ⟨⟨by simp only; omega, by simp only; omega⟩, ⟨n3, n4⟩, hne⟩ hr⟩) (by rw [e2]; simp) hw
   ·rw [if_neg hne] at hst'
    rw [if_pos (by omega)]
    exact .of (by decide) h1' ho hlo hst' ⟨rfl, rfl, rfl⟩ (fun _ => ⟨d, by simp only; rw [e3]; exact hr⟩) (by rw [e2]; simp; omega) hw
end
structure Sim (es : List PE) (code : List Int) (n : Nat) (fs : List Fr) (m : MS) (u : MW) : Prop where
 rel : ∃ d, Rel es code d fs m.at_ m.loops m.calls
 wl : Wl m.stk u
 l1 : m.loops.length ≤ n
 l2 : m.calls.length ≤ n
 l3 : u.outs.length ≤ n
 l4 : fs.length ≤ n + 1
section
variable {es : List PE} {code : List Int} {ws : List RW} {fs : List Fr} {m : MS} {u : MW} {n : Nat}
theorem Sim.ok (hc : Coded es code ws) (ha : Alike es ws) (h : Sim es code n fs m u) (hn : n ≤ 1000000) : StepOk code m u := by
 obtain ⟨d, hr⟩ := h.rel
 have hcc := conc_step (u := u) hc ha hr m rfl rfl rfl h.wl
 have := h.l1
 have := h.l2
 have := h.l3
 exact ⟨hcc.op, h.wl.s, hcc.opd, hcc.loop, hr.call, by omega, by omega, by omega⟩
theorem Sim.step (hc : Coded es code ws) (ha : Alike es ws) (h : Sim es code n fs m u) : (stepM code m u).1 = (dStep ws fs m.stk u).1 ∧ (stepM code m u).2.1.stk = (dStep ws fs m.stk u).2.2.1 ∧ (stepM code m u).2.2 = (dStep ws fs m.stk u).2.2.2 ∧ ((dStep ws fs m.stk u).1 = 4 → Sim es code (n + 1) (dStep ws fs m.stk u).2.1 (stepM code m u).2.1 (stepM code m u).2.2) := by
 obtain ⟨d, hr⟩ := h.rel
 have hcc := conc_step (u := u) hc ha hr m rfl rfl rfl h.wl
 have h1 := h.l1
 have h2 := h.l2
 have h3 := h.l3
 have h4 := h.l4
 have k1 := hcc.l1
 have k2 := hcc.l2
 have k3 := hcc.l3
 have k4 := hcc.l4
 refine ⟨hcc.e, hcc.s, hcc.u, fun e => ⟨hcc.nx e, ?_, by omega, by omega, by rw [hcc.u]; omega, by omega⟩⟩
 rw [hcc.s, hcc.u]; exact hcc.wl
theorem run_len (hc : Coded es code ws) (ha : Alike es ws) : ∀ (f n : Nat) (fs : List Fr) (m : MS) (u : MW), Sim es code n fs m u → (dRun ws f n fs m.stk u).2.2.2.outs.length ≤ n + f ∧ (dRun ws f n fs m.stk u).2.2.1.length ≤ 32 ∧ (dRun ws f n fs m.stk u).2.2.2.vars.length = u.vars.length
 | 0, n, fs, m, u, h => ⟨h.l3, h.wl.l, rfl⟩
 | f + 1, n, fs, m, u, h => by
  obtain ⟨h1, h2, h3, h4⟩ := h.step hc ha
  obtain ⟨d, hr⟩ := h.rel
  have hcc := conc_step (u := u) hc ha hr m rfl rfl rfl h.wl
  have k3 := hcc.l3
  have h3' := h.l3
  rw [dRun]
  by_cases he : (dStep ws fs m.stk u).1 = 4
  ·rw [if_pos he, ← h2, ← h3]
   obtain ⟨a, b, c⟩ := run_len hc ha f (n + 1) _ _ _ (h4 he)
   refine ⟨by omega, b, ?_⟩
   rw [c, h3]; exact hcc.l5
  ·rw [if_neg he]
   exact ⟨by simp only; omega, hcc.wl.l, hcc.l5⟩
theorem run_eq (hc : Coded es code ws) (ha : Alike es ws) : ∀ (f n : Nat) (fs : List Fr) (m : MS) (u : MW), Sim es code n fs m u → (runM code f n m u).1 = (dRun ws f n fs m.stk u).1 ∧ (runM code f n m u).2.1 = (dRun ws f n fs m.stk u).2.1 ∧ (runM code f n m u).2.2.1.stk = (dRun ws f n fs m.stk u).2.2.1 ∧ (runM code f n m u).2.2.2 = (dRun ws f n fs m.stk u).2.2.2
 | 0, n, fs, m, u, _ => ⟨rfl, rfl, rfl, rfl⟩
 | f + 1, n, fs, m, u, h => by
  obtain ⟨h1, h2, h3, h4⟩ := h.step hc ha
  rw [runM, dRun, h1]
  by_cases he : (dStep ws fs m.stk u).1 = 4
  ·rw [if_pos he, if_pos he, ← h2, ← h3]
   exact run_eq hc ha f (n + 1) _ _ _ (h4 he)
  ·rw [if_neg he, if_neg he]
   exact ⟨rfl, rfl, h2, h3⟩
end
theorem op_len (k : Nat) (hk : k < 28) (t : Int) (s : List Int) (u : MW) (hh : hindP k s u.vars.length = 4) : ((opP k t s u).1.length : Int) = s.length + (opInf k).net := by
 obtain ⟨h1, h2, h3⟩ := hind_ok hh
 unfold opP execM
 by_cases h12 : k ≤ 12
 ·have hn : ∀ k, k ≤ 12 → (opInf k).net = -1 := by decide +kernel
  rw [two_need k h12] at h1
  obtain ⟨b, a, r, rfl⟩ := stk2 h1
  simp only [if_pos h12]
  rw [hn k h12]
  simp only [List.length_cons]; omega
 ·simp only [if_neg h12]
  by_cases h15 : k ≤ 15
  ·have hn : ∀ k, k ≤ 15 → 12 < k → (opInf k).net = 0 := by decide +kernel
   rw [one_need k (by omega) h15] at h1
   obtain ⟨a, r, rfl⟩ := stk1 h1
   simp only [if_pos h15]
   rw [hn k h15 (by omega)]
   simp only [List.length_cons]; omega
  ·simp only [if_neg h15]
   by_cases h22 : k ≤ 22
   ·simp only [if_pos h22]
    exact arr_len k s (by omega) h22 h1
   ·simp only [if_neg h22]
    have hc : k = 23 ∨ k = 24 ∨ k = 25 ∨ k = 26 ∨ k = 27 := by omega
    have n3 : (opInf 23).net = 0 := rfl
    have n4 : (opInf 24).net = -2 := rfl
    have n5 : (opInf 25).net = 1 := rfl
    have n6 : (opInf 26).net = -1 := rfl
    have n7 : (opInf 27).net = 1 := rfl
    rcases hc with rfl | rfl | rfl | rfl | rfl
    ·obtain ⟨a, r, rfl⟩ := stk1 (s := s) h1
     rw [n3]; simp
    ·obtain ⟨i, a, r, rfl⟩ := stk2 (s := s) h1
     rw [n4]; simp; omega
    ·rw [n5]; simp
    ·obtain ⟨a, r, rfl⟩ := stk1 (s := s) h1
     rw [n6]; simp; omega
    ·rw [n7]; simp
abbrev DC := List Fr × List Int × MW
inductive Goes (ws : List RW) : Nat → DC → DC → Prop
 | zero (c : DC) : Goes ws 0 c c
 | succ (n : Nat) (c c' : DC) (h : (dStep ws c.1 c.2.1 c.2.2).1 = 4) (hn : Goes ws n ((dStep ws c.1 c.2.1 c.2.2).2.1, (dStep ws c.1 c.2.1 c.2.2).2.2.1, (dStep ws c.1 c.2.1 c.2.2).2.2.2) c') : Goes ws (n + 1) c c'
theorem Goes.trans {ws : List RW} {n m : Nat} {a b c : DC} (h : Goes ws n a b) (h2 : Goes ws m b c) : Goes ws (n + m) a c := by
 induction h with
 | zero => rw [Nat.zero_add]; exact h2
 | succ n c c' h hn ih => rw [Nat.add_right_comm]; exact .succ _ _ _ h (ih h2)
def Like (ws : List RW) (a b : List Fr) : Prop := (∀ s u, dStep ws a s u = dStep ws b s u) ∧ turnsP a = turnsP b
def FsOk (fs : List Fr) : Prop := ∀ f ∈ fs, Cell f.n ∧ Cell f.e
theorem Like.refl (ws : List RW) (a : List Fr) : Like ws a a := ⟨fun _ _ => rfl, rfl⟩
theorem Like.trans {ws : List RW} {a b c : List Fr} (h : Like ws a b) (k : Like ws b c) : Like ws a c := ⟨fun s u => (h.1 s u).trans (k.1 s u), h.2.trans k.2⟩
theorem turns_cell {fs : List Fr} (h : FsOk fs) : Cell (turnsP fs) := by
 induction fs with
 | nil => exact ⟨by simp [turnsP], by simp [turnsP]⟩
 | cons f r ih =>
  rw [turnsP]
  split
  ·exact (h f (by simp)).1
  ·exact ih (fun g hg => h g (List.mem_cons_of_mem _ hg))
def Out (ws : List RW) (i : Inf) (c : DC) (ft : List Fr) (P : List Int → Prop) : Prop :=
 (∃ (n : Nat) (fs : List Fr) (s : List Int) (u : MW), Goes ws n c (fs, s, u) ∧ Like ws fs ft ∧ FsOk fs ∧ (n : Int) ≤ i.steps ∧ (i.str = true → (n : Int) = i.steps) ∧ (s.length : Int) = c.2.1.length + i.net ∧ Wl s u ∧ P s) ∨
 (∃ (n : Nat) (d : DC), Goes ws n c d ∧ (n : Int) + 1 ≤ i.steps ∧ (dStep ws d.1 d.2.1 d.2.2).1 = 3)
section
variable {ws : List RW} {i j : Inf} {fs fm ft : List Fr} {s : List Int} {u : MW} {P Q : List Int → Prop} {d : DC} {n : Nat}
theorem Goes.head (h : Goes ws (n + 1) (fm, s, u) d) (hl : Like ws fs fm) : Goes ws (n + 1) (fs, s, u) d := by
 cases h with
 | succ n c c' h hn =>
  have e := hl.1 s u
  refine .succ n _ _ ?_ ?_
  ·simp only; rw [e]; exact h
  ·simp only; rw [e]; exact hn
theorem Goes.none (h : Goes ws 0 (fm, s, u) d) : d = (fm, s, u) := by cases h; rfl
theorem Out.like (hl : Like ws fs fm) (hf : FsOk fs) (h : Out ws i (fm, s, u) ft P) : Out ws i (fs, s, u) ft P := by
 rcases h with ⟨n, fs', s', u', g, l, o⟩ | ⟨n, d, g, hn, h3⟩
 ·cases n with
  | zero =>
   have e := g.none
   simp only [Prod.mk.injEq] at e
   obtain ⟨rfl, rfl, rfl⟩ := e
   exact Or.inl ⟨0, fs, s', u', .zero _, hl.trans l, hf, o.2⟩
  | succ n => exact Or.inl ⟨n + 1, fs', s', u', g.head hl, l, o⟩
 ·cases n with
  | zero =>
   have e := g.none
   subst e
   exact Or.inr ⟨0, (fs, s, u), .zero _, hn, by simp only at h3 ⊢; rw [hl.1]; exact h3⟩
  | succ n => exact Or.inr ⟨n + 1, d, g.head hl, hn, h3⟩
theorem Out.then (h0 : 0 ≤ i.steps) (h1 : 0 ≤ j.steps) (h2 : i.steps + j.steps ≤ 1000000001) (h : Out ws i (fs, s, u) fm P) (hk : ∀ s' u', (s'.length : Int) = s.length + i.net → Wl s' u' → P s' → Out ws j (fm, s', u') ft Q) : Out ws (i.then j) (fs, s, u) ft Q := by
 have hst : (i.then j).steps = i.steps + j.steps := by unfold Inf.then; simp only; omega
 have hnt : (i.then j).net = i.net + j.net := rfl
 have hsr : (i.then j).str = (i.str && j.str) := rfl
 rcases h with ⟨n, fs1, s1, u1, g, l, fo, a1, a2, a3, a4, a5⟩ | ⟨n, d, g, hn, h3⟩
 ·simp only at a3
  rcases (hk s1 u1 a3 a4 a5).like l fo with ⟨m, fs2, s2, u2, g2, l2, fo2, b1, b2, b3, b4, b5⟩ | ⟨m, d, g2, hm, h3⟩
  ·simp only at b3
   refine Or.inl ⟨n + m, fs2, s2, u2, g.trans g2, l2, fo2, by rw [hst]; omega, fun e => ?_, by simp only; rw [hnt]; omega, b4, b5⟩
   rw [hsr, Bool.and_eq_true] at e
   have := a2 e.1; have := b2 e.2
   rw [hst]; omega
  ·exact Or.inr ⟨n + m, d, g.trans g2, by rw [hst]; omega, h3⟩
 ·exact Or.inr ⟨n, d, g, by rw [hst]; omega, h3⟩
theorem Out.step {c : DC} {fs' : List Fr} {s' : List Int} {u' : MW} (h : dStep ws c.1 c.2.1 c.2.2 = (4, fs', s', u')) (hs : i.steps = 1) (hl : (s'.length : Int) = c.2.1.length + i.net) (hw : Wl s' u') (hf : FsOk fs') (hp : P s') : Out ws i c fs' P :=
 Or.inl ⟨1, fs', s', u', .succ 0 _ _ (by rw [h]) (by rw [h]; exact .zero _), Like.refl _ _, hf, by rw [hs]; omega, fun _ => by rw [hs]; rfl, hl, hw, hp⟩
theorem dStep_item {f : Fr} {r : List Fr} {t : IT} (h : f.its[f.i]? = some t) : dStep ws (f :: r) s u = dItem ws t ({ f with i := f.i + 1 } :: r) s u := by rw [dStep, h]
theorem out_num {f : Fr} {r : List Fr} {v : Int} (h : f.its[f.i]? = some (.num v)) (hv : Cell v) (hf : FsOk (f :: r)) (hw : Wl s u) (hs : s.length + 1 ≤ 32) : Out ws (Inf.plain 0 1) (f :: r, s, u) ({ f with i := f.i + 1 } :: r) (fun s' => s' = v :: s) := by
 refine Out.step (fs' := { f with i := f.i + 1 } :: r) (s' := v :: s) (u' := u) ?_ rfl ?_ ⟨?_, hw.v, hw.i, by simpa using hs⟩ ?_ rfl
 ·simp only
  rw [dStep_item h]
  show dPut v _ s u = _
  unfold dPut
  rw [if_neg (by omega)]
 ·simp [Inf.plain]
 ·simp only [List.mem_cons, forall_eq_or_imp]; exact ⟨hv, hw.s⟩
 ·intro g hg
  rcases List.mem_cons.1 hg with rfl | hg
  ·exact hf f (by simp)
  ·exact hf g (List.mem_cons_of_mem _ hg)
end
theorem hind_34 {k : Nat} {s : List Int} {n : Nat} (h1 : (opInf k).need ≤ s.length) (h2 : (s.length : Int) + (opInf k).net ≤ 32) : hindP k s n = 4 ∨ hindP k s n = 3 := by
 unfold hindP
 rw [if_neg (by omega)]
 split
 ·exact Or.inr rfl
 ·rw [if_neg (by omega)]; exact Or.inl rfl
section
variable {ws : List RW} {i j : Inf} {fs fm ft : List Fr} {s : List Int} {u : MW} {P Q : List Int → Prop} {c d : DC} {n : Nat} {f : Fr} {r : List Fr}
theorem FsOk.step (hf : FsOk (f :: r)) : FsOk ({ f with i := f.i + 1 } :: r) := by
 intro g hg
 rcases List.mem_cons.1 hg with rfl | hg
 ·exact hf f (by simp)
 ·exact hf g (List.mem_cons_of_mem _ hg)
theorem FsOk.cons {g : Fr} (hn : Cell g.n ∧ Cell g.e) (hf : FsOk fs) : FsOk (g :: fs) := by
 intro x hx
 rcases List.mem_cons.1 hx with rfl | hx
 ·exact hn
 ·exact hf x hx
theorem cell0 : Cell 0 := ⟨by omega, by omega⟩
theorem out_op {t : ByteArray} {k : Nat} (h : f.its[f.i]? = some (.op t)) (hk : opFind t = some k) (hf : FsOk (f :: r)) (hw : Wl s u) (hn : (Inf.plain (thereS t).1 (thereS t).2.1).need ≤ s.length) (hh : (s.length : Int) + (Inf.plain (thereS t).1 (thereS t).2.1).high ≤ 32) :
  Out ws (Inf.plain (thereS t).1 (thereS t).2.1) (f :: r, s, u) ({ f with i := f.i + 1 } :: r) (fun _ => True) := by
 have hk28 := (there_some hk).2.1
 have e := there_inf hk
 rw [← e] at hn hh ⊢
 have hst : (opInf k).steps = 1 := rfl
 have hhi : (opInf k).net ≤ (opInf k).high := by unfold opInf; simp only; omega
 have hd : dStep ws (f :: r) s u = dWord k ({ f with i := f.i + 1 } :: r) s u := by
  rw [dStep_item h]
  show dWord ((opFind t).getD 0) _ s u = _
  rw [hk]; rfl
 rcases hind_34 (n := u.vars.length) hn (by omega) with hv | hv
 ·have hx := exec_op k hk28 0 (n := turnsP ({ f with i := f.i + 1 } :: r)) (m := ⟨s, [(turnsP ({ f with i := f.i + 1 } :: r), 0)], [], 0⟩) (u := u) hv hw (fun _ => ⟨rfl, turns_cell hf.step⟩)
  refine Out.step (fs' := { f with i := f.i + 1 } :: r) (s' := (opP k (turnsP ({ f with i := f.i + 1 } :: r)) s u).1) (u' := (opP k (turnsP ({ f with i := f.i + 1 } :: r)) s u).2) ?_ hst ?_ hx.2.1 hf.step trivial
  ·simp only
   rw [hd]; unfold dWord; rw [if_neg (fun e => e hv)]
  ·exact op_len k hk28 _ s u hv
 ·refine Or.inr ⟨0, _, .zero _, by rw [hst]; omega, ?_⟩
  simp only
  rw [hd]; unfold dWord; rw [if_pos (by rw [hv]; decide)]; exact hv
theorem out_var {k : Nat} {x : RW} (h : f.its[f.i]? = some (.own k)) (hk : ws[k]? = some x) (hx : 0 ≤ x.var) (hv : Cell x.var) (hf : FsOk (f :: r)) (hw : Wl s u) (hs : s.length + 1 ≤ 32) : Out ws (Inf.plain 0 1) (f :: r, s, u) ({ f with i := f.i + 1 } :: r) (fun _ => True) := by
 refine Out.step (fs' := { f with i := f.i + 1 } :: r) (s' := x.var :: s) (u' := u) ?_ rfl ?_ ⟨?_, hw.v, hw.i, by simpa using hs⟩ hf.step trivial
 ·simp only
  rw [dStep_item h]
  unfold dItem
  simp only [hk]
  rw [if_pos hx]
  unfold dPut
  rw [if_neg (by omega)]
 ·simp [Inf.plain]
 ·simp only [List.mem_cons, forall_eq_or_imp]; exact ⟨hv, hw.s⟩
theorem Out.ahead {fs' : List Fr} (h : dStep ws c.1 c.2.1 c.2.2 = (4, fs', c.2.1, c.2.2)) (h2 : i.steps + 1 ≤ 1000000001) (ho : Out ws i (fs', c.2.1, c.2.2) ft P) : Out ws i.more c ft P := by
 have hst : i.more.steps = i.steps + 1 := by unfold Inf.more; simp only; omega
 have g1 : ∀ {n : Nat} {d : DC}, Goes ws n (fs', c.2.1, c.2.2) d → Goes ws (n + 1) c d := fun g => .succ _ _ _ (by rw [h]) (by rw [h]; exact g)
 rcases ho with ⟨n, fs1, s1, u1, g, l, fo, a1, a2, a3, a4, a5⟩ | ⟨n, d, g, hn, h3⟩
 ·exact Or.inl ⟨n + 1, fs1, s1, u1, g1 g, l, fo, by rw [hst]; omega, fun e => by have := a2 e; rw [hst]; omega, a3, a4, a5⟩
 ·exact Or.inr ⟨n + 1, d, g1 g, by rw [hst]; omega, h3⟩
theorem Out.behind {fm ft : List Fr} (hm : ∀ s u, dStep ws fm s u = (4, ft, s, u)) (hfo : ∀ fs, FsOk fs → Like ws fs fm → FsOk ft) (h2 : i.steps + 1 ≤ 1000000001) (ho : Out ws i c fm P) : Out ws i.more c ft P := by
 have hst : i.more.steps = i.steps + 1 := by unfold Inf.more; simp only; omega
 rcases ho with ⟨n, fs1, s1, u1, g, l, fo, a1, a2, a3, a4, a5⟩ | ⟨n, d, g, hn, h3⟩
 ·have e : dStep ws fs1 s1 u1 = (4, ft, s1, u1) := by rw [l.1, hm]
  exact Or.inl ⟨n + 1, ft, s1, u1, g.trans (.succ 0 _ _ (by simp only; rw [e]) (by simp only; rw [e]; exact .zero _)), Like.refl _ _, hfo fs1 fo l, by rw [hst]; omega, fun e => by have := a2 e; rw [hst]; omega, a3, a4, a5⟩
 ·exact Or.inr ⟨n, d, g, by rw [hst]; omega, h3⟩
theorem Out.weak (hs : i.steps ≤ j.steps) (hn : j.net = i.net) (hr : j.str = true → i.str = true ∧ j.steps = i.steps) (hp : ∀ s, P s → Q s) (ho : Out ws i c ft P) : Out ws j c ft Q := by
 rcases ho with ⟨n, fs1, s1, u1, g, l, fo, a1, a2, a3, a4, a5⟩ | ⟨n, d, g, hn', h3⟩
 ·exact Or.inl ⟨n, fs1, s1, u1, g, l, fo, by omega, fun e => by rw [(hr e).2]; exact a2 (hr e).1, by rw [hn]; exact a3, a4, hp _ a5⟩
 ·exact Or.inr ⟨n, d, g, by omega, h3⟩
theorem Out.to (hl : Like ws fm ft) (ho : Out ws i c fm P) : Out ws i c ft P := by
 rcases ho with ⟨n, fs1, s1, u1, g, l, o⟩ | h
 ·exact Or.inl ⟨n, fs1, s1, u1, g, l.trans hl, o⟩
 ·exact Or.inr h
theorem like_done {g : Fr} {r : List Fr} (hb : g.beh = 0) (hi : g.its[g.i]? = none) : Like ws (g :: r) r := by
 refine ⟨fun s u => ?_, ?_⟩
 ·rw [dStep, hi]; simp only; rw [if_pos hb]
 ·rw [turnsP, if_neg (by omega)]
def WordOk (ws : List RW) (x : RW) : Prop := ∀ (g : Fr) (r : List Fr) (s : List Int) (u : MW), FsOk (g :: r) → Wl s u → x.inf.need ≤ s.length → (s.length : Int) + x.inf.high ≤ 32 → x.inf.steps ≤ 1000000 → Out ws x.inf (⟨x.its, 0, 3, 0, 0⟩ :: g :: r, s, u) (g :: r) (fun _ => True)
theorem out_own {k : Nat} {x : RW} (h : f.its[f.i]? = some (.own k)) (hk : ws[k]? = some x) (hx : x.var < 0) (ho : WordOk ws x) (hf : FsOk (f :: r)) (hw : Wl s u) (h1 : x.inf.need ≤ s.length) (h2 : (s.length : Int) + x.inf.high ≤ 32) (h3 : x.inf.steps ≤ 1000000) : Out ws x.inf.more (f :: r, s, u) ({ f with i := f.i + 1 } :: r) (fun _ => True) := by
 refine Out.ahead (fs' := ⟨x.its, 0, 3, 0, 0⟩ :: { f with i := f.i + 1 } :: r) ?_ (by omega) (ho _ _ s u hf.step hw h1 h2 h3)
 simp only
 rw [dStep_item h]
 unfold dItem
 simp only [hk]
 rw [if_neg (by omega)]
end
def lastNum (l : List AI) : Option Int :=
 match l.reverse with
 | ⟨some b, _, _⟩ :: _ => some b
 | _ => none
def Tops (l : List AI) (s : List Int) : Prop := (∀ a, lastNum l = some a → ∃ q, s = a :: q) ∧ (∀ a b, lastTwo l = some (a, b) → ∃ q, s = b :: a :: q)
theorem tops_num {l : List AI} {s : List Int} {v : Int} {i : Inf} {t : IT} (h : Tops l s) : Tops (l ++ [⟨some v, i, t⟩]) (v :: s) := by
 refine ⟨fun a e => ?_, fun a b e => ?_⟩
 ·simp [lastNum] at e
  exact ⟨s, by rw [e]⟩
 ·unfold lastTwo at e
  rw [List.reverse_append, List.reverse_singleton, List.singleton_append] at e
  cases hl : l.reverse with
  | nil => rw [hl] at e; simp at e
  | cons x q =>
   rw [hl] at e
   obtain ⟨xn, xi, xt⟩ := x
   cases xn with
   | none => simp at e
   | some w =>
    simp at e
    obtain ⟨rfl, rfl⟩ := e
    obtain ⟨q2, hq⟩ := h.1 w (by unfold lastNum; rw [hl])
    exact ⟨q2, by rw [hq]⟩
theorem tops_none {l : List AI} {s : List Int} {i : Inf} {t : IT} : Tops (l ++ [⟨none, i, t⟩]) s :=
 ⟨fun a e => by simp [lastNum] at e, fun a b e => by simp [lastTwo] at e⟩
def ItemIs (ws : List RW) (l : List AI) (x : AI) : Prop := ∀ (f : Fr) (r : List Fr) (s : List Int) (u : MW), f.its[f.i]? = some x.tree → FsOk (f :: r) → Wl s u → Tops l s → x.inf.need ≤ s.length → (s.length : Int) + x.inf.high ≤ 32 → x.inf.steps ≤ 1000000 → Out ws x.inf (f :: r, s, u) ({ f with i := f.i + 1 } :: r) (Tops (l ++ [x]))
def ListOk (ws : List RW) (l : List AI) : Prop := ∀ (its rest : List IT) (i0 beh : Nat) (nn ee : Int) (r : List Fr) (s : List Int) (u : MW), its.drop i0 = trees l ++ rest → FsOk (⟨its, i0, beh, nn, ee⟩ :: r) → Wl s u → (infL l).need ≤ s.length → (s.length : Int) + (infL l).high ≤ 32 → (infL l).steps ≤ 1000000 → Out ws (infL l) (⟨its, i0, beh, nn, ee⟩ :: r, s, u) (⟨its, i0 + l.length, beh, nn, ee⟩ :: r) (Tops l)
section
variable {ws : List RW} {l la lb : List AI} {x : AI}
theorem list_nil : ListOk ws [] := by
 intro its rest i0 beh nn ee r s u hd hf hw h1 h2 h3
 exact Or.inl ⟨0, _, s, u, .zero _, by simpa using Like.refl ws _, hf, by simp [infL_nil, Inf.zero], fun _ => by simp [infL_nil, Inf.zero], by simp [infL_nil, Inf.zero], hw, fun a e => by simp [lastNum] at e, fun a b e => by simp [lastTwo] at e⟩
theorem list_snoc (hl : ListOk ws l) (h0 : 0 ≤ (infL l).steps) (h1 : 0 ≤ x.inf.steps) (hx : ItemIs ws l x) : ListOk ws (l ++ [x]) := by
 intro its rest i0 beh nn ee r s u hd hf hw k1 k2 k3
 rw [infL_snoc] at k1 k2 k3 ⊢
 have hst : (infL l).steps + x.inf.steps ≤ 1000000 := by unfold Inf.then at k3; simp only at k3; omega
 unfold Inf.then at k1 k2
 simp only at k1 k2
 have hdl : its.drop i0 = trees l ++ (x.tree :: rest) := by rw [hd]; unfold trees; simp
 have hit : its[i0 + l.length]? = some x.tree := by
  have e : (its.drop i0)[l.length]? = some x.tree := by
   rw [hdl, List.getElem?_append_right (by simp [trees])]
   simp [trees]
  rw [List.getElem?_drop] at e
  exact e
 have hff : FsOk (⟨its, i0 + l.length, beh, nn, ee⟩ :: r) := by
  intro g hg
  rcases List.mem_cons.1 hg with rfl | hg
  ·exact hf ⟨its, i0, beh, nn, ee⟩ (by simp)
  ·exact hf g (List.mem_cons_of_mem _ hg)
 have := Out.then (j := x.inf) h0 h1 (by omega) (hl its (x.tree :: rest) i0 beh nn ee r s u hdl hf hw (by omega) (by omega) (by omega)) (fun s' u' e hw' ht => hx ⟨its, i0 + l.length, beh, nn, ee⟩ r s' u' hit hff hw' ht (by omega) (by omega) (by omega))
 rw [List.length_append, List.length_singleton, ← Nat.add_assoc]
 exact this
theorem item_num {v : Int} (hv : Cell v) : ItemIs ws l ⟨some v, Inf.plain 0 1, .num v⟩ := by
 intro f r s u h hf hw ht h1 h2 h3
 refine Out.weak (Int.le_refl _) rfl (fun e => ⟨e, rfl⟩) (fun s' e => ?_) (out_num h hv hf hw (by simp [Inf.plain] at h2; omega))
 rw [e]; exact tops_num ht
theorem item_iff (ha : ListOk ws la) (hn : (infL la).net = 0) (hs0 : 0 ≤ (infL la).steps) : ItemIs ws l ⟨none, (Inf.plain 1 0).then ((infL la).ways Inf.zero), .iff (trees la)⟩ := by
 intro f r s u h hf hw ht h1 h2 h3
 simp only [Inf.then, Inf.plain, Inf.ways, Inf.zero] at h1 h2 h3
 cases s with
 | nil => simp at h1; omega
 | cons x q =>
  simp only [List.length_cons] at h1 h2
  have hwt := hw.tail
  refine Out.weak (Int.le_refl _) rfl (fun e => ⟨e, rfl⟩) (fun _ _ => tops_none) (P := fun _ => True) ?_
  by_cases hx : x = 0
  ·refine Out.then (P := fun s' => True) (fm := { f with i := f.i + 1 } :: r) (by simp [Inf.plain]) (by simp only [Inf.ways, Inf.zero]; omega) (by simp only [Inf.plain, Inf.ways, Inf.zero]; omega) ?_ (fun s' u' e hw' _ => ?_)
   ·refine Out.to (like_done (g := ⟨[], 0, 0, 0, 0⟩) rfl rfl) (Out.step (s' := q) (u' := u) ?_ rfl ?_ hwt (FsOk.cons ⟨cell0, cell0⟩ hf.step) trivial)
    ·simp only
     rw [dStep_item h]; unfold dItem; simp only; rw [if_pos hx]
    ·simp [Inf.plain]; omega
   ·exact Or.inl ⟨0, _, s', u', .zero _, Like.refl _ _, hf.step, by simp only [Inf.ways, Inf.zero]; omega, fun e => by simp [Inf.ways] at e, by simp only [Inf.ways]; omega, hw', trivial⟩
  ·refine Out.then (P := fun s' => s' = q) (fm := ⟨trees la, 0, 0, 0, 0⟩ :: { f with i := f.i + 1 } :: r) (by simp [Inf.plain]) (by simp only [Inf.ways, Inf.zero]; omega) (by simp only [Inf.plain, Inf.ways, Inf.zero]; omega) ?_ (fun s' u' e hw' he => ?_)
   ·refine Out.step (s' := q) (u' := u) ?_ rfl ?_ hwt (FsOk.cons ⟨cell0, cell0⟩ hf.step) rfl
    ·simp only
     rw [dStep_item h]; unfold dItem; simp only; rw [if_neg hx]
    ·simp [Inf.plain]; omega
   ·subst he
    have := ha (trees la) [] 0 0 0 0 ({ f with i := f.i + 1 } :: r) s' u' (by simp) (FsOk.cons ⟨cell0, cell0⟩ hf.step) hw' (by omega) (by omega) (by omega)
    have h2 := Out.to (like_done (ws := ws) (g := ⟨trees la, 0 + la.length, 0, 0, 0⟩) (r := { f with i := f.i + 1 } :: r) rfl (by simp [trees])) this
    exact Out.weak (i := infL la) (j := (infL la).ways Inf.zero) (by simp only [Inf.ways, Inf.zero]; omega) rfl (fun e => by simp [Inf.ways] at e) (fun _ _ => trivial) h2
end
section
variable {ws : List RW} {l la lb : List AI} {x : AI}
theorem list_all (ha : ListOk ws la) {beh : Nat} {nn ee : Int} {r : List Fr} {s : List Int} {u : MW} (hc : Cell nn ∧ Cell ee) (hf : FsOk r) (hw : Wl s u) (h1 : (infL la).need ≤ s.length) (h2 : (s.length : Int) + (infL la).high ≤ 32) (h3 : (infL la).steps ≤ 1000000) : Out ws (infL la) (⟨trees la, 0, beh, nn, ee⟩ :: r, s, u) (⟨trees la, la.length, beh, nn, ee⟩ :: r) (fun _ => True) := by
 have := ha (trees la) [] 0 beh nn ee r s u (by simp) (FsOk.cons hc hf) hw h1 h2 h3
 rw [Nat.zero_add] at this
 exact Out.weak (Int.le_refl _) rfl (fun e => ⟨e, rfl⟩) (fun _ _ => trivial) this
theorem item_els (ha : ListOk ws la) (hb : ListOk ws lb) (hn : (infL la).net = (infL lb).net) (hs0 : 0 ≤ (infL la).steps) (hs1 : 0 ≤ (infL lb).steps) : ItemIs ws l ⟨none, (Inf.plain 1 0).then ((infL la).more.ways (infL lb)), .els (trees la) (trees lb)⟩ := by
 intro f r s u h hf hw ht h1 h2 h3
 simp only [Inf.then, Inf.plain, Inf.ways, Inf.more] at h1 h2 h3
 cases s with
 | nil => simp at h1; omega
 | cons x q =>
  simp only [List.length_cons] at h1 h2
  have hwt := hw.tail
  refine Out.weak (Int.le_refl _) rfl (fun e => ⟨e, rfl⟩) (fun _ _ => tops_none) (P := fun _ => True) ?_
  by_cases hx : x = 0
  ·refine Out.then (P := fun s' => s' = q) (fm := ⟨trees lb, 0, 0, 0, 0⟩ :: { f with i := f.i + 1 } :: r) (by simp [Inf.plain]) (by simp only [Inf.ways, Inf.more]; omega) (by simp only [Inf.plain, Inf.ways, Inf.more]; omega) ?_ (fun s' u' e hw' he => ?_)
   ·refine Out.step (s' := q) (u' := u) ?_ rfl ?_ hwt (FsOk.cons ⟨cell0, cell0⟩ hf.step) rfl
    ·simp only
     rw [dStep_item h]; unfold dItem; simp only; rw [if_pos hx]
    ·simp [Inf.plain]; omega
   ·subst he
    have := list_all hb (beh := 0) ⟨cell0, cell0⟩ hf.step hw' (by omega) (by omega) (by omega)
    have h2 := Out.to (like_done (ws := ws) (g := ⟨trees lb, lb.length, 0, 0, 0⟩) (r := { f with i := f.i + 1 } :: r) rfl (by simp [trees])) this
    exact Out.weak (i := infL lb) (j := (infL la).more.ways (infL lb)) (by simp only [Inf.ways, Inf.more]; omega) hn (fun e => by simp [Inf.ways] at e) (fun _ _ => trivial) h2
  ·refine Out.then (P := fun s' => s' = q) (fm := ⟨trees la, 0, 1, 0, 0⟩ :: { f with i := f.i + 1 } :: r) (by simp [Inf.plain]) (by simp only [Inf.ways, Inf.more]; omega) (by simp only [Inf.plain, Inf.ways, Inf.more]; omega) ?_ (fun s' u' e hw' he => ?_)
   ·refine Out.step (s' := q) (u' := u) ?_ rfl ?_ hwt (FsOk.cons ⟨cell0, cell0⟩ hf.step) rfl
    ·simp only
     rw [dStep_item h]; unfold dItem; simp only; rw [if_neg hx]
    ·simp [Inf.plain]; omega
   ·subst he
    have := list_all ha (beh := 1) ⟨cell0, cell0⟩ hf.step hw' (by omega) (by omega) (by omega)
    have h2 := Out.behind (ft := { f with i := f.i + 1 } :: r) (fun s u => by rw [dStep]; simp [trees]) (fun _ _ _ => hf.step) (by omega) this
    exact Out.weak (i := (infL la).more) (j := (infL la).more.ways (infL lb)) (by simp only [Inf.ways]; omega) rfl (fun e => by simp [Inf.ways] at e) (fun _ _ => trivial) h2
theorem out_loop (ha : ListOk ws la) (hn : (infL la).net = 0) (hs0 : 0 ≤ (infL la).steps) {r : List Fr} (hf : FsOk r) (a : Int) (hca : Cell a) : ∀ (k : Nat) (n : Int) (s : List Int) (u : MW), n + (k + 1) = a → Cell n → Wl s u → (infL la).need ≤ s.length → (s.length : Int) + (infL la).high ≤ 32 → ((k : Int) + 1) * ((infL la).steps + 1) ≤ 1000000 →
  Out ws ⟨0, 0, 0, ((k : Int) + 1) * ((infL la).steps + 1), (infL la).str⟩ (⟨trees la, 0, 2, n, a⟩ :: r, s, u) r (fun _ => True)
 | 0, n, s, u, e, hcn, hw, h1, h2, h3 => by
  simp only [Int.natCast_zero, Int.zero_add, Int.one_mul] at e h3 ⊢
  have := list_all ha (beh := 2) ⟨hcn, hca⟩ hf hw h1 h2 (by omega)
  have h2 := Out.behind (ft := r) (fun s u => by rw [dStep]; simp [trees]; omega) (fun _ _ _ => hf) (by omega) this
  refine Out.weak (i := (infL la).more) (by simp only [Inf.more]; omega) (by simp only [Inf.more]; omega) (fun e => ⟨e, by simp only [Inf.more]; omega⟩) (fun _ _ => trivial) h2
 | k + 1, n, s, u, e, hcn, hw, h1, h2, h3 => by
  have hm : (((k + 1 : Nat) : Int) + 1) * ((infL la).steps + 1) = ((k : Int) + 1) * ((infL la).steps + 1) + ((infL la).steps + 1) := by
   rw [Int.natCast_add, Int.add_mul, Int.natCast_one, Int.one_mul]
  have hk0 : 0 ≤ ((k : Int) + 1) * ((infL la).steps + 1) := Int.mul_nonneg (by omega) (by omega)
  rw [hm] at h3 ⊢
  obtain ⟨c1, c2⟩ := hcn
  obtain ⟨c3, c4⟩ := hca
  have hcn1 : Cell (n + 1) := ⟨by omega, by omega⟩
  have t1 := list_all ha (beh := 2) ⟨⟨c1, c2⟩, ⟨c3, c4⟩⟩ hf hw h1 h2 (by omega)
  have t2 := Out.behind (ft := ⟨trees la, 0, 2, n + 1, a⟩ :: r) (fun s u => by rw [dStep]; simp [trees]; omega) (fun _ _ _ => FsOk.cons ⟨hcn1, ⟨c3, c4⟩⟩ hf) (by omega) t1
  have t3 := Out.then (j := ⟨0, 0, 0, ((k : Int) + 1) * ((infL la).steps + 1), (infL la).str⟩) (ft := r) (Q := fun _ => True) (by simp only [Inf.more]; omega) hk0 (by simp only [Inf.more]; omega) t2 (fun s' u' e' hw' _ => by
   have e2 : (s'.length : Int) = s.length := by rw [e']; simp only [Inf.more]; omega
   exact out_loop ha hn hs0 hf a ⟨c3, c4⟩ k (n + 1) s' u' (by omega) hcn1 hw' (by omega) (by omega) (by omega))
  refine Out.weak ?_ ?_ ?_ (fun _ _ => trivial) t3
  ·simp only [Inf.then, Inf.more]; omega
  ·simp only [Inf.then, Inf.more]; omega
  ·simp only [Inf.then, Inf.more, Bool.and_self]; exact fun e => ⟨e, by omega⟩
theorem item_doo {a b : Int} (ha : ListOk ws la) (hab : lastTwo l = some (a, b)) (hn : (infL la).net = 0) (hs0 : 0 ≤ (infL la).steps) : ItemIs ws l ⟨none, (Inf.plain 2 0).then ((infL la).times (max 0 (a - b))), .doo (trees la)⟩ := by
 intro f r s u h hf hw ht h1 h2 h3
 obtain ⟨q, rfl⟩ := ht.2 a b hab
 have hwt := hw.tail.tail
 have hca := hw.s a (by simp)
 have hcb := hw.s b (by simp)
 refine Out.weak (Int.le_refl _) rfl (fun e => ⟨e, rfl⟩) (fun _ _ => tops_none) (P := fun _ => True) ?_
 by_cases hlt : b < a
 ·obtain ⟨k, hk⟩ : ∃ k : Nat, a - b = (k : Int) + 1 := ⟨(a - b - 1).toNat, by omega⟩
  have hmx : max 0 (a - b) = (k : Int) + 1 := by omega
  have htm : (infL la).times ((k : Int) + 1) = ⟨(infL la).need, (infL la).net, (infL la).high, min (((k : Int) + 1) * min ((infL la).steps + 1) 1000000001) 1000000001, (infL la).str⟩ := by unfold Inf.times; rw [if_neg (by omega)]
  rw [hmx, htm] at h1 h2 h3 ⊢
  simp only [Inf.then, Inf.plain, List.length_cons] at h1 h2 h3
  have hge : min ((infL la).steps + 1) 1000000001 ≤ ((k : Int) + 1) * min ((infL la).steps + 1) 1000000001 := by
   have : (1 : Int) * min ((infL la).steps + 1) 1000000001 ≤ ((k : Int) + 1) * min ((infL la).steps + 1) 1000000001 := Int.mul_le_mul_of_nonneg_right (by omega) (by omega)
   omega
  have hmin : min ((infL la).steps + 1) 1000000001 = (infL la).steps + 1 := by omega
  rw [hmin] at h3 ⊢
  have hk0 : 0 ≤ ((k : Int) + 1) * ((infL la).steps + 1) := Int.mul_nonneg (by omega) (by omega)
  have hm2 : min (((k : Int) + 1) * ((infL la).steps + 1)) 1000000001 = ((k : Int) + 1) * ((infL la).steps + 1) := by omega
  rw [hm2] at h3 ⊢
  refine Out.then (P := fun s' => s' = q) (fm := ⟨trees la, 0, 2, b, a⟩ :: { f with i := f.i + 1 } :: r) (by simp [Inf.plain]) hk0 (by simp only [Inf.plain]; omega) ?_ (fun s' u' e hw' he => ?_)
  ·refine Out.step (s' := q) (u' := u) ?_ rfl ?_ hwt (FsOk.cons ⟨hcb, hca⟩ hf.step) rfl
   ·simp only
    rw [dStep_item h]; unfold dItem; simp only; rw [if_pos hlt]
   ·simp [Inf.plain]; omega
  ·subst he
   have := out_loop ha hn hs0 hf.step a hca k b s' u' (by omega) hcb hw' (by omega) (by omega) (by omega)
   exact Out.weak (i := ⟨0, 0, 0, ((k : Int) + 1) * ((infL la).steps + 1), (infL la).str⟩) (Int.le_refl _) hn (fun e => ⟨e, rfl⟩) (fun _ _ => trivial) this
 ·have hmx : max 0 (a - b) = 0 := by omega
  have htm : (infL la).times 0 = ⟨0, 0, 0, 0, (infL la).str⟩ := by unfold Inf.times; rw [if_pos rfl]
  rw [hmx, htm] at h1 h2 h3 ⊢
  refine Out.then (P := fun s' => True) (fm := { f with i := f.i + 1 } :: r) (by simp [Inf.plain]) (Int.le_refl _) (by simp [Inf.plain]) ?_ (fun s' u' e hw' _ => ?_)
  ·refine Out.step (s' := q) (u' := u) ?_ rfl ?_ hwt hf.step trivial
   ·simp only
    rw [dStep_item h]; unfold dItem; simp only; rw [if_neg hlt]
   ·simp [Inf.plain]; omega
  ·exact Or.inl ⟨0, _, s', u', .zero _, Like.refl _ _, hf.step, Int.le_refl _, fun _ => rfl, by simp, hw', trivial⟩
end
def Lack (ws : List RW) (i : Inf) (c : DC) : Prop := ∃ (n : Nat) (d : DC), Goes ws n c d ∧ (n : Int) + 1 ≤ i.steps ∧ 1 ≤ (dStep ws d.1 d.2.1 d.2.2).1 ∧ (dStep ws d.1 d.2.1 d.2.2).1 ≤ 3
def ItemLack (ws : List RW) (l : List AI) (x : AI) : Prop := x.inf.str = true → ∀ (f : Fr) (r : List Fr) (s : List Int) (u : MW), f.its[f.i]? = some x.tree → FsOk (f :: r) → Wl s u → Tops l s → (s.length : Int) < x.inf.need → (s.length : Int) + x.inf.high ≤ 32 → x.inf.steps ≤ 1000000 → Lack ws x.inf (f :: r, s, u)
def ListLack (ws : List RW) (l : List AI) : Prop := (infL l).str = true → ∀ (its rest : List IT) (i0 beh : Nat) (nn ee : Int) (r : List Fr) (s : List Int) (u : MW), its.drop i0 = trees l ++ rest → FsOk (⟨its, i0, beh, nn, ee⟩ :: r) → Wl s u → (s.length : Int) < (infL l).need → (s.length : Int) + (infL l).high ≤ 32 → (infL l).steps ≤ 1000000 → Lack ws (infL l) (⟨its, i0, beh, nn, ee⟩ :: r, s, u)
section
variable {ws : List RW} {l la lb : List AI} {x : AI} {i j : Inf} {fs fm ft : List Fr} {s : List Int} {u : MW} {c : DC}
theorem Lack.weak (h : Lack ws i c) (hs : i.steps ≤ j.steps) : Lack ws j c := by
 obtain ⟨n, d, g, a, b⟩ := h
 exact ⟨n, d, g, by omega, b⟩
theorem Lack.like (h : Lack ws i (fm, s, u)) (hl : Like ws fs fm) : Lack ws i (fs, s, u) := by
 obtain ⟨n, d, g, a, b⟩ := h
 cases n with
 | zero =>
  have e := g.none
  subst e
  exact ⟨0, (fs, s, u), .zero _, a, by simp only at b ⊢; rw [hl.1]; exact b⟩
 | succ n => exact ⟨n + 1, d, g.head hl, a, b⟩
theorem Lack.ahead {fs' : List Fr} {s' : List Int} {u' : MW} (h : dStep ws c.1 c.2.1 c.2.2 = (4, fs', s', u')) (hs : i.steps + 1 ≤ j.steps) (hk : Lack ws i (fs', s', u')) : Lack ws j c := by
 obtain ⟨n, d, g, a, b⟩ := hk
 exact ⟨n + 1, d, .succ _ _ _ (by rw [h]) (by rw [h]; exact g), by omega, b⟩
theorem lack_nil : ListLack ws [] := by
 intro _ its rest i0 beh nn ee r s u hd hf hw h1
 simp [infL_nil, Inf.zero] at h1; omega
theorem lack_snoc (hl : ListOk ws l) (hk : ListLack ws l) (h0 : 0 ≤ (infL l).steps) (h1 : 0 ≤ x.inf.steps) (hx : ItemLack ws l x) : ListLack ws (l ++ [x]) := by
 intro hstr its rest i0 beh nn ee r s u hd hf hw k1 k2 k3
 rw [infL_snoc] at hstr k1 k2 k3 ⊢
 have hst : (infL l).steps + x.inf.steps ≤ 1000000 := by unfold Inf.then at k3; simp only at k3; omega
 have hsum : ((infL l).then x.inf).steps = (infL l).steps + x.inf.steps := by unfold Inf.then; simp only; omega
 unfold Inf.then at k1 k2 hstr
 simp only [Bool.and_eq_true] at k1 k2 hstr
 have hdl : its.drop i0 = trees l ++ (x.tree :: rest) := by rw [hd]; unfold trees; simp
 by_cases hlow : (s.length : Int) < (infL l).need
 ·exact (hk hstr.1 its (x.tree :: rest) i0 beh nn ee r s u hdl hf hw hlow (by omega) (by omega)).weak (by omega)
 ·have hit : its[i0 + l.length]? = some x.tree := by
   have e : (its.drop i0)[l.length]? = some x.tree := by
    rw [hdl, List.getElem?_append_right (by simp [trees])]
    simp [trees]
   rw [List.getElem?_drop] at e
   exact e
  have hff : FsOk (⟨its, i0 + l.length, beh, nn, ee⟩ :: r) := by
   intro g hg
   rcases List.mem_cons.1 hg with rfl | hg
   ·exact hf ⟨its, i0, beh, nn, ee⟩ (by simp)
   ·exact hf g (List.mem_cons_of_mem _ hg)
  rcases hl its (x.tree :: rest) i0 beh nn ee r s u hdl hf hw (by omega) (by omega) (by omega) with ⟨n, fs1, s1, u1, g, lk, fo, a1, a2, a3, a4, a5⟩ | ⟨n, d, g, hn, h3⟩
  ·simp only at a3
   have hL := (hx hstr.2 ⟨its, i0 + l.length, beh, nn, ee⟩ r s1 u1 hit hff a4 a5 (by omega) (by omega) (by omega)).like lk
   obtain ⟨m, d, g2, b1, b2⟩ := hL
   exact ⟨n + m, d, g.trans g2, by omega, b2⟩
  ·exact ⟨n, d, g, by omega, by omega, by omega⟩
theorem lack_num {v : Int} {t : IT} : ItemLack ws l ⟨some v, Inf.plain 0 1, t⟩ := by
 intro _ f r s u h hf hw ht h1
 simp [Inf.plain] at h1; omega
theorem lack_if {t : IT} (p q : Inf) : ItemLack ws l ⟨none, (Inf.plain 1 0).then (p.ways q), t⟩ := by
 intro e
 simp [Inf.then, Inf.ways] at e
theorem lack_doo {a b : Int} (ha : ListLack ws la) (hab : lastTwo l = some (a, b)) (hs0 : 0 ≤ (infL la).steps) : ItemLack ws l ⟨none, (Inf.plain 2 0).then ((infL la).times (max 0 (a - b))), .doo (trees la)⟩ := by
 intro hstr f r s u h hf hw ht h1 h2 h3
 obtain ⟨q, rfl⟩ := ht.2 a b hab
 have hwt := hw.tail.tail
 have hca := hw.s a (by simp)
 have hcb := hw.s b (by simp)
 by_cases hlt : b < a
 ·obtain ⟨k, hk⟩ : ∃ k : Nat, a - b = (k : Int) + 1 := ⟨(a - b - 1).toNat, by omega⟩
  have hmx : max 0 (a - b) = (k : Int) + 1 := by omega
  have htm : (infL la).times ((k : Int) + 1) = ⟨(infL la).need, (infL la).net, (infL la).high, min (((k : Int) + 1) * min ((infL la).steps + 1) 1000000001) 1000000001, (infL la).str⟩ := by unfold Inf.times; rw [if_neg (by omega)]
  rw [hmx, htm] at h1 h2 h3 hstr ⊢
  have hge : min ((infL la).steps + 1) 1000000001 ≤ ((k : Int) + 1) * min ((infL la).steps + 1) 1000000001 := by
   have : (1 : Int) * min ((infL la).steps + 1) 1000000001 ≤ ((k : Int) + 1) * min ((infL la).steps + 1) 1000000001 := Int.mul_le_mul_of_nonneg_right (by omega) (by omega)
   omega
  simp only [Inf.then, Inf.plain, List.length_cons, Bool.true_and] at h1 h2 h3 hstr
  refine Lack.ahead (i := infL la) (fs' := ⟨trees la, 0, 2, b, a⟩ :: { f with i := f.i + 1 } :: r) (s' := q) (u' := u) ?_ ?_ (ha hstr (trees la) [] 0 2 b a _ q u (by simp) (FsOk.cons ⟨hcb, hca⟩ hf.step) hwt (by omega) (by omega) (by omega))
  ·simp only
   rw [dStep_item h]; unfold dItem; simp only; rw [if_pos hlt]
  ·simp only [Inf.then, Inf.plain]; omega
 ·have hmx : max 0 (a - b) = 0 := by omega
  have htm : (infL la).times 0 = ⟨0, 0, 0, 0, (infL la).str⟩ := by unfold Inf.times; rw [if_pos rfl]
  rw [hmx, htm] at h1
  simp only [Inf.then, Inf.plain, List.length_cons] at h1
  omega
theorem hind_1 {k : Nat} {s : List Int} {n : Nat} (h1 : (s.length : Int) < (opInf k).need) : hindP k s n = 1 := by
 unfold hindP
 rw [if_pos (by omega)]
theorem lack_op {t : ByteArray} {k : Nat} (hk : opFind t = some k) : ItemLack ws l ⟨none, Inf.plain (thereS t).1 (thereS t).2.1, .op t⟩ := by
 intro _ f r s u h hf hw ht h1 h2 h3
 have e := there_inf hk
 simp only at h1 h2 h3 h ⊢
 rw [← e] at h1 ⊢
 have hv := hind_1 (n := u.vars.length) h1
 have hd : dStep ws (f :: r) s u = (1, { f with i := f.i + 1 } :: r, s, u) := by
  rw [dStep_item h]
  show dWord ((opFind t).getD 0) _ s u = _
  rw [hk]
  show dWord k _ s u = _
  unfold dWord; rw [if_pos (by rw [hv]; decide), hv]
 exact ⟨0, _, .zero _, by show ((0 : Nat) : Int) + 1 ≤ 1; omega, by simp only; rw [hd]; exact Int.le_refl _, by simp only; rw [hd]; show (1 : Int) ≤ 3; omega⟩
theorem item_op {t : ByteArray} {k : Nat} (hk : opFind t = some k) : ItemIs ws l ⟨none, Inf.plain (thereS t).1 (thereS t).2.1, .op t⟩ := by
 intro f r s u h hf hw ht h1 h2 h3
 exact Out.weak (Int.le_refl _) rfl (fun e => ⟨e, rfl⟩) (fun _ _ => tops_none) (out_op h hk hf hw h1 h2)
structure OwnOk (ws : List RW) (x : RW) (l : List AI) : Prop where
 its : x.its = trees l
 inf : x.inf = wInf l
 ok : ListOk ws l
 lack : ListLack ws l
 s0 : 0 ≤ (infL l).steps
theorem OwnOk.word {x : RW} {l : List AI} (h : OwnOk ws x l) : WordOk ws x := by
 intro g r s u hf hw h1 h2 h3
 rw [h.inf] at h1 h2 h3 ⊢
 rw [h.its]
 simp only [wInf] at h1 h2 h3
 have t1 := list_all h.ok (beh := 3) ⟨cell0, cell0⟩ hf hw h1 h2 (by omega)
 have t2 := Out.behind (ft := g :: r) (fun s u => by rw [dStep]; simp [trees]) (fun _ _ _ => hf) (by omega) t1
 exact Out.weak (i := (infL l).more) (by simp only [Inf.more, wInf]; omega) rfl (fun e => ⟨e, by simp only [Inf.more, wInf]; omega⟩) (fun _ _ => trivial) t2
theorem item_own {k : Nat} {x : RW} {lx : List AI} (hk : ws[k]? = some x) (hx : x.var < 0) (ho : OwnOk ws x lx) : ItemIs ws l ⟨none, x.inf.more, .own k⟩ := by
 intro f r s u h hf hw ht h1 h2 h3
 have hs := ho.s0
 have hi := ho.inf
 have h3' : x.inf.steps ≤ 1000000 := by simp only [Inf.more] at h3; omega
 exact Out.weak (Int.le_refl _) rfl (fun e => ⟨e, rfl⟩) (fun _ _ => tops_none) (out_own h hk hx ho.word hf hw h1 h2 h3')
theorem lack_own {k : Nat} {x : RW} {lx : List AI} (hk : ws[k]? = some x) (hx : x.var < 0) (ho : OwnOk ws x lx) : ItemLack ws l ⟨none, x.inf.more, .own k⟩ := by
 intro hstr f r s u h hf hw ht h1 h2 h3
 have hs := ho.s0
 have hi := ho.inf
 simp only at hstr h1 h2 h3 h ⊢
 rw [hi] at hstr h1 h2 h3 ⊢
 simp only [Inf.more, wInf] at hstr h1 h2 h3
 refine Lack.ahead (i := infL lx) (fs' := ⟨trees lx, 0, 3, 0, 0⟩ :: { f with i := f.i + 1 } :: r) (s' := s) (u' := u) ?_ ?_ (ho.lack hstr (trees lx) [] 0 3 0 0 _ s u (by simp) (FsOk.cons ⟨cell0, cell0⟩ hf.step) hw h1 h2 (by omega))
 ·simp only
  rw [dStep_item h]; unfold dItem; simp only [hk]; rw [if_neg (by omega), ho.its]
 ·simp only [Inf.more, wInf]; omega
theorem item_var {k : Nat} {x : RW} (hk : ws[k]? = some x) (hx : 0 ≤ x.var) (hv : Cell x.var) : ItemIs ws l ⟨none, Inf.plain 0 1, .own k⟩ := by
 intro f r s u h hf hw ht h1 h2 h3
 exact Out.weak (Int.le_refl _) rfl (fun e => ⟨e, rfl⟩) (fun _ _ => tops_none) (out_var h hk hx hv hf hw (by simp [Inf.plain] at h2; omega))
theorem lack_var {k : Nat} : ItemLack ws l ⟨none, Inf.plain 0 1, .own k⟩ := by
 intro _ f r s u h hf hw ht h1
 simp [Inf.plain] at h1; omega
end
def runC (ws : List RW) (s : ByteArray) (st ins : List Int) (f : Int) : Int := if (findI ws s).2 ≠ 0 then 3 else if mayR st ins f then 0 else 1
def runD (ws : List RW) (nv : Nat) (s : ByteArray) (st ins : List Int) (f : Nat) : Nat × Int × List Int × MW :=
 dRun ws f 0 [⟨((ws[(findW ws s).toNat]?).map RW.its).getD [], 0, 3, 0, 0⟩] st.reverse ⟨List.replicate nv 0, [], ins⟩
def RunPost (w : World) (c : Int) (D : Nat × Int × List Int × MW) (e : Ending) (w' : World) : Prop :=
 ((c ≠ 0 ∧ e = .returned (.tuple #[out0, .int .i64 c])) ∨ (c = 0 ∧ ∃ xv ov vv, e = .returned (.tuple #[outV xv ov vv D.1 D.2.1, .int .i64 0]) ∧ RunOut w.heap.size w' xv ov vv ⟨D.2.2.1, [], [], 0⟩ D.2.2.2)) ∧ Below w.heap.size w w'
section
variable {es : List PE} {code : List Int} {ws : List RW}
theorem start_both (hc : Coded es code ws) (ha : Alike es ws) (s : ByteArray) :
  (startOf (lastP es s es.length) = none ∧ (findI ws s).2 = 3) ∨ ∃ (k p q : Nat) (y : RW), findW ws s = (k : Int) ∧ ws[k]? = some y ∧ y.var = -1 ∧ startOf (lastP es s es.length) = some (p : Int) ∧ (findI ws s).2 = 0 ∧ p < code.length ∧ CList es code false y.its p q ∧ code[q]? = some 34 := by
 rw [last_findW ha.names s]
 have hlk := lastK_lt (nameAt ws) s ws.length
 have hf : -1 ≤ findW ws s ∧ findW ws s < ws.length := ⟨hlk.2, hlk.1⟩
 by_cases h0 : 0 ≤ findW ws s
 ·obtain ⟨k, hk⟩ : ∃ k : Nat, findW ws s = k := ⟨(findW ws s).toNat, by omega⟩
  rw [if_pos h0]
  rw [hk] at hf ⊢
  have hkl : k < ws.length := by omega
  have hke : k < es.length := by rw [ha.len]; exact hkl
  have hx : es[k]? = some es[k] := List.getElem?_eq_getElem hke
  have hy : ws[k]? = some ws[k] := List.getElem?_eq_getElem hkl
  have hg : es.getD (k : Int).toNat PE.zero = es[k] := by simp [hke]
  rw [hg]
  have hfi : (findI ws s).2 = if 0 ≤ (ws[k]).var then 3 else 0 := by
   unfold findI
   rw [if_neg (by omega), hk]
   simp only [Int.toNat_natCast, hy]
   split <;> rfl
  cases hv : (es[k]).var with
  | true =>
   obtain ⟨_, e2⟩ := (ha.use k _ _ hx hy).1 hv
   left
   refine ⟨by simp [startOf, hv], ?_⟩
   rw [hfi, if_pos e2]
  | false =>
   obtain ⟨e1, _⟩ := (ha.use k _ _ hx hy).2 hv
   obtain ⟨p, q, k1, k2, k3, k4⟩ := hc.w k _ _ hx hy hv
   right
   have hpq := k3.le k2
   have hq := code_lt k4
   refine ⟨k, p, q, ws[k], rfl, hy, e1, by simp [startOf, hv, k1], ?_, by omega, k3, k4⟩
   rw [hfi, if_neg (by omega)]
 ·left
  rw [if_neg h0]
  refine ⟨rfl, ?_⟩
  unfold findI
  rw [if_pos (by omega)]
theorem areC_cell {l : List Int} (h : areC l = true) : ∀ a ∈ l, Cell a := by
 intro a ha
 unfold areC at h
 exact of_decide_eq_true (List.all_eq_true.1 h a ha)
theorem sim_begin {y : RW} {p q nv : Nat} {st ins : List Int} {f : Int} (h1 : CList es code false y.its p q) (hp : p ≤ code.length) (h2 : code[q]? = some 34) (hm : mayR st ins f = true) : Sim es code 0 [⟨y.its, 0, 3, 0, 0⟩] ⟨st.reverse, [], [], p⟩ ⟨List.replicate nv 0, [], ins⟩ := by
 simp only [mayR, Bool.and_eq_true, decide_eq_true_eq] at hm
 obtain ⟨m1, m2, m3, _, _⟩ := hm
 refine ⟨⟨false, .last _ p q ⟨rfl, h1.most hp⟩ (by simpa using h1) h2⟩, ⟨fun a ha => areC_cell m2 a (by simpa using ha), fun a ha => ?_, areC_cell m3, by simpa using m1⟩, Nat.le_refl _, Nat.le_refl _, Nat.le_refl _, Nat.le_refl _⟩
 rw [(List.mem_replicate.1 ha).2]; exact ⟨by omega, by omega⟩
end
theorem forth_runD {w : World} {bb : Nat} {ev cv : Value} {es : List PE} {nv nt : Int} {code : List Int} {ws : List RW} {B : Nat} {sv iv : Value} {st ins : List Int} (s : ByteArray) (f : Int) (h : PSys w bb ev cv es nv nt code) (hi : LInv es nv nt code) (ht : Tab w) (hk : Alk es code ws)
  (hs : InsAt B w sv st) (hj : InsAt B w iv ins) (hB : B ≤ w.heap.size) (hl : st.length ≤ 17592186043904) (hl2 : ins.length ≤ 17592186043904) :
  Calls Tryz.prog 21 #[.pointer (some ⟨bb, 0, none⟩), .string s, sv, iv, .int .i64 f] w (RunPost w (runC ws s st ins f) (runD ws nv.toNat s st ins f.toNat)) := by
 rcases start_both hk.coded hk.toAlike s with ⟨e1, e2⟩ | ⟨k, p, q, y, e1, e2, e3, e4, e5, e6, e7, e8⟩
 ·refine (forth_run_no s f h hi hs hj hB hl hl2 (Or.inl e1)).mono ?_
  rintro e w' ⟨rfl, hb⟩
  rw [if_pos e1]
  have hc : runC ws s st ins f = 3 := by unfold runC; rw [if_pos (by omega)]
  rw [hc]
  exact ⟨Or.inl ⟨by decide, rfl⟩, hb⟩
 ·by_cases hm : mayR st ins f = true
  ·have hc : runC ws s st ins f = 0 := by unfold runC; rw [if_neg (by omega), if_pos hm]
   rw [hc]
   have hm' := hm
   simp only [mayR, Bool.and_eq_true, decide_eq_true_eq] at hm'
   obtain ⟨_, _, _, f0, f1⟩ := hm'
   obtain ⟨n, rfl⟩ : ∃ n : Nat, f = n := ⟨f.toNat, by omega⟩
   have hsim := sim_begin (nv := nv.toNat) e7 (by omega) e8 hm
   refine (forth_run s n h hi ht hs hj hB hl hl2 e4 hm e6 (fun j m u => ∃ fs, Sim es code j fs m u) ⟨_, hsim⟩ ?_).mono ?_
   ·rintro j m u hjn ⟨fs, hS⟩
    refine ⟨hS.ok hk.coded hk.toAlike (by omega), fun he => ?_⟩
    obtain ⟨h1, h2, h3, h4⟩ := hS.step hk.coded hk.toAlike
    exact ⟨_, h4 (h1 ▸ he)⟩
   ·rintro e w' ⟨xv, ov, vv, rfl, hro, hb⟩
    obtain ⟨r1, r2, r3, r4⟩ := run_eq hk.coded hk.toAlike n 0 _ _ _ hsim
    have hD : runD ws nv.toNat s st ins (n : Int).toNat = dRun ws n 0 [⟨y.its, 0, 3, 0, 0⟩] st.reverse ⟨List.replicate nv.toNat 0, [], ins⟩ := by
     unfold runD
     rw [e1]
     simp only [Int.toNat_natCast, e2, Option.map_some, Option.getD_some]
    rw [hD]
    refine ⟨Or.inr ⟨rfl, xv, ov, vv, by rw [r1, r2], ?_⟩, hb⟩
    rw [← r4]
    exact ⟨by rw [← r3]; exact hro.s, hro.o, hro.v, hro.so, hro.ov⟩
  ·have hm' : mayR st ins f = false := by simpa using hm
   refine (forth_run_no s f h hi hs hj hB hl hl2 (Or.inr hm')).mono ?_
   rintro e w' ⟨rfl, hb⟩
   rw [if_neg (by rw [e4]; simp)]
   have hc : runC ws s st ins f = 1 := by unfold runC; rw [if_neg (by omega), if_neg hm]
   rw [hc]
   exact ⟨Or.inl ⟨by decide, rfl⟩, hb⟩
theorem bd_ok {ws0 ws : List RW} {l : List AI} (hp : ∀ (k : Nat) (x : RW), ws0[k]? = some x → ws[k]? = some x ∧ (0 ≤ x.var → Cell x.var) ∧ (x.var < 0 → ∃ l, OwnOk ws x l)) (h : Bd ws0 l) : ListOk ws l ∧ ListLack ws l ∧ 0 ≤ (infL l).steps := by
 have fin : ∀ {l : List AI} {x : AI}, (ListOk ws l ∧ ListLack ws l ∧ 0 ≤ (infL l).steps) → 0 ≤ x.inf.steps → ItemIs ws l x → ItemLack ws l x → ListOk ws (l ++ [x]) ∧ ListLack ws (l ++ [x]) ∧ 0 ≤ (infL (l ++ [x])).steps := fun ⟨a, b, c⟩ h0 h1 h2 =>
  ⟨list_snoc a c h0 h1, lack_snoc a b c h0 h2, by rw [infL_snoc]; simp only [Inf.then]; omega⟩
 induction h with
 | nil => exact ⟨list_nil, lack_nil, by simp [infL_nil, Inf.zero]⟩
 | num l n hl hn ih => exact fin ih (by simp [Inf.plain]) (item_num ⟨by omega, by omega⟩) lack_num
 | word l t loops hl h ih =>
  unfold wordI wordT
  by_cases hf : 0 ≤ findW ws0 t
  ·rw [if_pos hf, if_pos hf]
   have hlk := (lastK_lt (nameAt ws0) t ws0.length).1
   have hlt : (findW ws0 t).toNat < ws0.length := by have : findW ws0 t < ws0.length := hlk; omega
   have hx : ws0[(findW ws0 t).toNat]? = some ws0[(findW ws0 t).toNat] := List.getElem?_eq_getElem hlt
   obtain ⟨e1, e2, e3⟩ := hp _ _ hx
   rw [hx]
   simp only
   unfold ownInf
   by_cases hv : 0 ≤ (ws0[(findW ws0 t).toNat]).var
   ·rw [if_pos hv]
    exact fin ih (by simp [Inf.plain]) (item_var e1 hv (e2 hv)) lack_var
   ·rw [if_neg hv]
    obtain ⟨lx, ho⟩ := e3 (by omega)
    have hs := ho.s0
    have hi := ho.inf
    exact fin ih (by simp only [Inf.more]; rw [hi]; simp only [wInf]; omega) (item_own e1 (by omega) ho) (lack_own e1 (by omega) ho)
  ·rw [if_neg hf, if_neg hf]
   unfold wordE at h
   rw [if_neg hf] at h
   cases hk : opFind t with
   | none => rw [there_none hk] at h; simp at h
   | some k => exact fin ih (by simp [Inf.plain]) (item_op hk) (lack_op hk)
 | iff l la hl ha hn ih iha => exact fin ih (by simp only [Inf.then, Inf.plain, Inf.ways, Inf.zero]; omega) (item_iff iha.1 hn iha.2.2) (lack_if _ _)
 | els l la lb hl ha hb hn ih iha ihb => exact fin ih (by have := iha.2.2; simp only [Inf.then, Inf.plain, Inf.ways, Inf.more]; omega) (item_els iha.1 ihb.1 hn iha.2.2 ihb.2.2) (lack_if _ _)
 | doo l la a b hl hab h ha hn ih iha =>
  have h0 := iha.2.2
  have hp : 0 ≤ max 0 (a - b) * min ((infL la).steps + 1) 1000000001 := Int.mul_nonneg (by omega) (by omega)
  exact fin ih (by simp only [Inf.then, Inf.plain]; unfold Inf.times; split <;> simp only <;> omega) (item_doo iha.1 hab hn h0) (lack_doo iha.2.1 hab h0)
inductive WsB : List RW → Prop
 | nil : WsB []
 | var (ws : List RW) (x : RW) (h : WsB ws) (hx : 0 ≤ x.var) (hc : Cell x.var) : WsB (ws ++ [x])
 | word (ws : List RW) (x : RW) (l : List AI) (h : WsB ws) (hb : Bd ws l) (hv : x.var = -1) (h1 : x.its = trees l) (h2 : x.inf = wInf l) : WsB (ws ++ [x])
theorem last_of {ws : List RW} {x y : RW} {k : Nat} (h : (ws ++ [x])[k]? = some y) : ws[k]? = some y ∨ y = x := by
 by_cases hk : k < ws.length
 ·rw [List.getElem?_append_left hk] at h; exact Or.inl h
 ·rw [List.getElem?_append_right (by omega)] at h
  have h0 : k - ws.length = 0 := by have := (List.getElem?_eq_some_iff.1 h).1; simp at this; omega
  rw [h0] at h
  exact Or.inr (by simpa using h.symm)
theorem app_of {ws : List RW} {x y : RW} {k : Nat} (h : ws[k]? = some y) : (ws ++ [x])[k]? = some y := by
 rw [List.getElem?_append_left (List.getElem?_eq_some_iff.1 h).1]; exact h
theorem WsB.ok {ws0 ws : List RW} (h : WsB ws0) (hp : ∀ (k : Nat) (x : RW), ws0[k]? = some x → ws[k]? = some x) : ∀ (k : Nat) (x : RW), ws0[k]? = some x → ws[k]? = some x ∧ (0 ≤ x.var → Cell x.var) ∧ (x.var < 0 → ∃ l, OwnOk ws x l) := by
 induction h with
 | nil => intro k x h; simp at h
 | var ws1 y h hx hc ih =>
  intro k x hk
  rcases last_of hk with h1 | rfl
  ·exact ih (fun k x h => hp k x (app_of h)) k x h1
  ·exact ⟨hp _ _ hk, fun _ => hc, fun e => by omega⟩
 | word ws1 y l h hb hv h1 h2 ih =>
  intro k x hk
  rcases last_of hk with h1 | rfl
  ·exact ih (fun k x h => hp k x (app_of h)) k x h1
  ·obtain ⟨b1, b2, b3⟩ := bd_ok (ih (fun k x h => hp k x (app_of h))) hb
   exact ⟨hp _ _ hk, fun e => by omega, fun _ => ⟨l, h1, h2, b1, b2, b3⟩⟩
theorem ld_ws {s : ByteArray} {toks : List Tk} (ht : toks = toksAt s 0) {R : (Int × Int) × List PE × Int × Int × List Int} : ∀ (g I a f : Nat) (es : List PE) (nv nt : Int) (code : List Int) (ws : List RW), toks.length - I ≤ g → LD s toks R I a f es nv nt code ws → WsB ws → ∃ ws', Alk R.2.1 R.2.2.2.2 ws' ∧ WsB ws' ∧ WsOk ws' := by
 intro g
 induction g with
 | zero =>
  intro I a f es nv nt code ws hg h hb
  have hle := h.le
  have e := h.done (by omega)
  rw [e]
  exact ⟨ws, h.alike, hb, h.ok⟩
 | succ g ih =>
  intro I a f es nv nt code ws hg h hb
  by_cases hI : I < toks.length
  ·cases h1 : ((tokS toks I).toList == [118, 97, 114, 105, 97, 98, 108, 101]) with
   | true =>
    by_cases hE : vrE ws nv (tokS toks (I + 1)) = 0
    ·obtain ⟨a', f', es', h'⟩ := h.var_ok ht hI h1 hE
     have v0 := h.inv.v0
     have v1 := h.inv.v1
     exact ih (I + 2) a' f' es' _ _ _ _ (by omega) h' (.var _ _ hb v0 ⟨by simp only; omega, by simp only; omega⟩)
    ·rw [h.var_err ht hI h1 hE]
     exact ⟨ws, h.alike, hb, h.ok⟩
   | false =>
    cases h2 : ((tokS toks I).toList == [58]) with
    | true =>
     cases hE : pColon ws nt toks s.size (toks.length + 1) (I + 1) with
     | inr E =>
      rw [h.word_err ht hI h1 h2 _ (Nat.le_refl _) hE]
      exact ⟨ws, h.alike, hb, h.ok⟩
     | inl p =>
      obtain ⟨t, l, I'⟩ := p
      obtain ⟨hlt, a', f', es', code', h'⟩ := h.word_ok ht hI h1 h2 _ (Nat.le_refl _) hE (v := .slice none 0 0) ⟨_, _, _, rfl⟩
      have hbd : Bd ws l := by
       unfold pColon at hE
       split at hE
       ·cases hE
       ·split at hE
        ·cases hE
        ·split at hE
         ·cases hE
         ·rename_i l2 t2 I2 hp
          split at hE
          ·cases hE
          ·split at hE
           ·cases hE
           ·simp only [Sum.inl.injEq, Prod.mk.injEq] at hE
            rw [← hE.2.1]
            exact pItems_bd ws toks _ _ _ _ _ _ _ _ _ hp .nil
      exact ih I' a' f' es' _ _ _ _ (by omega) h' (.word _ _ l hb hbd rfl rfl rfl)
    | false =>
     rw [h.bad ht hI h1 h2]
     exact ⟨ws, h.alike, hb, h.ok⟩
  ·have e := h.done hI
   rw [e]
   exact ⟨ws, h.alike, hb, h.ok⟩
theorem load_ws {es : List PE} {nv nt : Int} {code : List Int} {ws : List RW} (s : ByteArray) (hA : Alk es code ws) (hL : LInv es nv nt code) (hw : WsOk ws) (hb : WsB ws) : ∃ ws', Alk (loadR s es nv nt code).2.1 (loadR s es nv nt code).2.2.2.2 ws' ∧ WsB ws' ∧ WsOk ws' := by
 unfold loadR
 cases hbad : badF s s.size 0 with
 | some k => exact ⟨ws, hA, hb, hw⟩
 | none =>
  exact ld_ws (s := s) rfl _ 0 0 (s.size + 1) es nv nt code ws (Nat.le_refl _) ⟨⟨Nat.zero_le _, rfl, hbad⟩, Nat.zero_le _, hA, hL, rfl, by omega, hw⟩ hb
section
variable {ws : List RW} {y : RW} {l : List AI} {s : List Int} {u : MW}
end
section
variable {es : List PE} {code : List Int} {ws : List RW}
theorem found {nv nt : Int} (hk : Alk es code ws) (hi : LInv es nv nt code) (hb : WsB ws) (x : ByteArray) : (findI ws x).2 = 3 ∨ ((findI ws x).2 = 0 ∧ ∃ (k : Nat) (y : RW) (l : List AI), findW ws x = k ∧ ws[k]? = some y ∧ (findI ws x).1 = y.inf ∧ OwnOk ws y l ∧ y.inf.Nn ∧ y.inf.Wt 1 ∧ 1 ≤ y.inf.steps ∧ y.inf.steps ≤ 1000000000) := by
 rcases start_both hk.coded hk.toAlike x with ⟨_, e2⟩ | ⟨k, p, q, y, e1, e2, e3, e4, e5, _⟩
 ·exact Or.inl e2
 ·right
  obtain ⟨_, _, h3⟩ := hb.ok (fun _ _ h => h) k y e2
  obtain ⟨l, hl⟩ := h3 (by omega)
  have hkw := (List.getElem?_eq_some_iff.1 e2).1
  have hke : k < es.length := by rw [hk.len]; exact hkw
  have hx : es[k]? = some es[k] := List.getElem?_eq_getElem hke
  have hu := hk.use k _ _ hx e2
  have hv : (es[k]).var = false := by
   cases hv : (es[k]).var with
   | false => rfl
   | true => have := (hu.1 hv).2; omega
  obtain ⟨_, h4, h5, h6, h7⟩ := hu.2 hv
  refine ⟨e5, k, y, l, e1, e2, ?_, hl, h5, by rw [← h4]; exact hi.w _ (List.getElem_mem hke), h6, h7⟩
  unfold findI
  rw [if_neg (by omega), e1]
  simp only [Int.toNat_natCast, e2]
  rw [if_neg (by omega)]
theorem runD_at {x : ByteArray} {k : Nat} {y : RW} (e1 : findW ws x = k) (e2 : ws[k]? = some y) (nv : Nat) (st ins : List Int) (f : Nat) : runD ws nv x st ins f = dRun ws f 0 [⟨y.its, 0, 3, 0, 0⟩] st.reverse ⟨List.replicate nv 0, [], ins⟩ := by
 unfold runD
 rw [e1]
 simp only [Int.toNat_natCast, e2, Option.map_some, Option.getD_some]
theorem runD_runM (hk : Alk es code ws) {x : ByteArray} {st ins : List Int} {f : Int} (h0 : (findI ws x).2 = 0) (hm : mayR st ins f = true) (nv : Nat) : ∃ p : Nat, startOf (lastP es x es.length) = some (p : Int) ∧
  (runM code f.toNat 0 ⟨st.reverse, [], [], p⟩ ⟨List.replicate nv 0, [], ins⟩).1 = (runD ws nv x st ins f.toNat).1 ∧ (runM code f.toNat 0 ⟨st.reverse, [], [], p⟩ ⟨List.replicate nv 0, [], ins⟩).2.1 = (runD ws nv x st ins f.toNat).2.1 ∧ (runM code f.toNat 0 ⟨st.reverse, [], [], p⟩ ⟨List.replicate nv 0, [], ins⟩).2.2.2 = (runD ws nv x st ins f.toNat).2.2.2 ∧
  (runD ws nv x st ins f.toNat).2.2.1.length ≤ 32 ∧ (runD ws nv x st ins f.toNat).2.2.2.outs.length ≤ 1000000 ∧ (runD ws nv x st ins f.toNat).2.2.2.vars.length = nv := by
 rcases start_both hk.coded hk.toAlike x with ⟨_, e2⟩ | ⟨k, p, q, y, e1, e2, e3, e4, e5, e6, e7, e8⟩
 ·omega
 ·have hsim := sim_begin (nv := nv) e7 (by omega) e8 hm
  obtain ⟨a, b, c⟩ := run_len hk.coded hk.toAlike f.toNat 0 _ _ _ hsim
  obtain ⟨r1, r2, r3, r4⟩ := run_eq hk.coded hk.toAlike f.toNat 0 _ _ _ hsim
  rw [← runD_at e1 e2] at a b c r1 r2 r4
  simp only [mayR, Bool.and_eq_true, decide_eq_true_eq] at hm
  obtain ⟨_, _, _, f0, f1⟩ := hm
  exact ⟨p, e4, r1, r2, r4, b, Nat.le_trans a (by omega), by rw [c]; simp⟩
end
def VOk (V : Nat → MW) : Prop := ∀ k, (∀ a ∈ (V k).vars, Cell a) ∧ ∀ a ∈ (V k).ins, Cell a
def shV (V : Nat → MW) (k : Nat) : Nat → MW := fun j => V (k + j)
theorem VOk.sh {V : Nat → MW} (h : VOk V) (k : Nat) : VOk (shV V k) := fun j => h (k + j)
theorem shV_sh (V : Nat → MW) (a b : Nat) : shV (shV V a) b = shV V (a + b) := by funext j; unfold shV; rw [Nat.add_assoc]
theorem shV_zero (V : Nat → MW) : shV V 0 = V := by funext j; unfold shV; rw [Nat.zero_add]
inductive GoesV (ws : List RW) : (Nat → MW) → Nat → DC → DC → Prop
 | zero (V : Nat → MW) (c : DC) : GoesV ws V 0 c c
 | succ (V : Nat → MW) (n : Nat) (c c' : DC) (h : (dStep ws c.1 c.2.1 c.2.2).1 = 4) (hn : GoesV ws (shV V 1) n ((dStep ws c.1 c.2.1 c.2.2).2.1, (dStep ws c.1 c.2.1 c.2.2).2.2.1, V 0) c') : GoesV ws V (n + 1) c c'
theorem GoesV.trans {ws : List RW} {V : Nat → MW} {n m : Nat} {a b c : DC} (h : GoesV ws V n a b) (h2 : GoesV ws (shV V n) m b c) : GoesV ws V (n + m) a c := by
 induction h with
 | zero V => rw [Nat.zero_add]; rw [shV_zero] at h2; exact h2
 | succ V n c c' h hn ih =>
  rw [Nat.add_right_comm]
  refine .succ _ _ _ _ h (ih ?_)
  rw [shV_sh, Nat.add_comm 1 n]; exact h2
def OutU (ws : List RW) (i : Inf) (c : DC) (ft : List Fr) (P : List Int → Prop) : Prop := ∀ V, VOk V →
 (∃ (n : Nat) (fs : List Fr) (s : List Int) (u : MW), GoesV ws V n c (fs, s, u) ∧ Like ws fs ft ∧ FsOk fs ∧ (n : Int) ≤ i.steps ∧ (i.str = true → (n : Int) = i.steps) ∧ (s.length : Int) = c.2.1.length + i.net ∧ Wl s u ∧ P s) ∨
 (∃ (n : Nat) (d : DC), GoesV ws V n c d ∧ (n : Int) + 1 ≤ i.steps ∧ (dStep ws d.1 d.2.1 d.2.2).1 = 3)
section
variable {ws : List RW} {i j : Inf} {fs fm ft : List Fr} {s : List Int} {u : MW} {P Q : List Int → Prop} {c d : DC} {n : Nat} {V : Nat → MW}
theorem GoesV.head (h : GoesV ws V (n + 1) (fm, s, u) d) (hl : Like ws fs fm) : GoesV ws V (n + 1) (fs, s, u) d := by
 cases h with
 | succ _ n c c' h hn =>
  have e := hl.1 s u
  refine .succ _ n _ _ ?_ ?_
  ·simp only; rw [e]; exact h
  ·simp only; rw [e]; exact hn
theorem GoesV.none (h : GoesV ws V 0 (fm, s, u) d) : d = (fm, s, u) := by cases h; rfl
theorem OutU.like (hl : Like ws fs fm) (hf : FsOk fs) (h : OutU ws i (fm, s, u) ft P) : OutU ws i (fs, s, u) ft P := by
 intro V hV
 rcases h V hV with ⟨n, fs', s', u', g, l, o⟩ | ⟨n, d, g, hn, h3⟩
 ·cases n with
  | zero =>
   have e := g.none
   simp only [Prod.mk.injEq] at e
   obtain ⟨rfl, rfl, rfl⟩ := e
   exact Or.inl ⟨0, fs, s', u', .zero _ _, hl.trans l, hf, o.2⟩
  | succ n => exact Or.inl ⟨n + 1, fs', s', u', g.head hl, l, o⟩
 ·cases n with
  | zero =>
   have e := g.none
   subst e
   exact Or.inr ⟨0, (fs, s, u), .zero _ _, hn, by simp only at h3 ⊢; rw [hl.1]; exact h3⟩
  | succ n => exact Or.inr ⟨n + 1, d, g.head hl, hn, h3⟩
theorem OutU.then (h0 : 0 ≤ i.steps) (h1 : 0 ≤ j.steps) (h2 : i.steps + j.steps ≤ 1000000001) (h : OutU ws i (fs, s, u) fm P) (hk : ∀ s' u', (s'.length : Int) = s.length + i.net → Wl s' u' → P s' → OutU ws j (fm, s', u') ft Q) : OutU ws (i.then j) (fs, s, u) ft Q := by
 intro V hV
 have hst : (i.then j).steps = i.steps + j.steps := by unfold Inf.then; simp only; omega
 have hnt : (i.then j).net = i.net + j.net := rfl
 have hsr : (i.then j).str = (i.str && j.str) := rfl
 rcases h V hV with ⟨n, fs1, s1, u1, g, l, fo, a1, a2, a3, a4, a5⟩ | ⟨n, d, g, hn, h3⟩
 ·simp only at a3
  rcases ((hk s1 u1 a3 a4 a5).like l fo) (shV V n) (hV.sh n) with ⟨m, fs2, s2, u2, g2, l2, fo2, b1, b2, b3, b4, b5⟩ | ⟨m, d, g2, hm, h3⟩
  ·simp only at b3
   refine Or.inl ⟨n + m, fs2, s2, u2, g.trans g2, l2, fo2, by rw [hst]; omega, fun e => ?_, by simp only; rw [hnt]; omega, b4, b5⟩
   rw [hsr, Bool.and_eq_true] at e
   have := a2 e.1; have := b2 e.2
   rw [hst]; omega
  ·exact Or.inr ⟨n + m, d, g.trans g2, by rw [hst]; omega, h3⟩
 ·exact Or.inr ⟨n, d, g, by rw [hst]; omega, h3⟩
theorem OutU.step {fs' : List Fr} {s' : List Int} {u' : MW} (h : dStep ws c.1 c.2.1 c.2.2 = (4, fs', s', u')) (hs : i.steps = 1) (hl : (s'.length : Int) = c.2.1.length + i.net) (hw : Wl s' u') (hf : FsOk fs') (hp : P s') : OutU ws i c fs' P := fun V hV =>
 Or.inl ⟨1, fs', s', V 0, .succ V 0 _ _ (by rw [h]) (by rw [h]; exact .zero _ _), Like.refl _ _, hf, by rw [hs]; omega, fun _ => by rw [hs]; rfl, hl, ⟨hw.s, (hV 0).1, (hV 0).2, hw.l⟩, hp⟩
theorem OutU.zero (h0 : 0 ≤ i.steps) (hs : i.str = true → i.steps = 0) (hn : i.net = 0) (hw : Wl s u) (hf : FsOk fs) (hp : P s) : OutU ws i (fs, s, u) fs P := fun V hV =>
 Or.inl ⟨0, fs, s, u, .zero _ _, Like.refl _ _, hf, h0, fun e => by rw [hs e]; rfl, by simp only; rw [hn]; omega, hw, hp⟩
theorem OutU.bad (h0 : 1 ≤ i.steps) (h : (dStep ws c.1 c.2.1 c.2.2).1 = 3) : OutU ws i c ft P := fun V hV => Or.inr ⟨0, c, .zero _ _, by omega, h⟩
theorem OutU.ahead {fs' : List Fr} (h : dStep ws c.1 c.2.1 c.2.2 = (4, fs', c.2.1, c.2.2)) (h2 : i.steps + 1 ≤ 1000000001) (hw : Wl c.2.1 c.2.2) (ho : ∀ u, Wl c.2.1 u → OutU ws i (fs', c.2.1, u) ft P) : OutU ws i.more c ft P := by
 intro V hV
 have hst : i.more.steps = i.steps + 1 := by unfold Inf.more; simp only; omega
 have g1 : ∀ {n : Nat} {d : DC}, GoesV ws (shV V 1) n (fs', c.2.1, V 0) d → GoesV ws V (n + 1) c d := fun g => .succ _ _ _ _ (by rw [h]) (by rw [h]; exact g)
 rcases ho (V 0) ⟨hw.s, (hV 0).1, (hV 0).2, hw.l⟩ (shV V 1) (hV.sh 1) with ⟨n, fs1, s1, u1, g, l, fo, a1, a2, a3, a4, a5⟩ | ⟨n, d, g, hn, h3⟩
 ·exact Or.inl ⟨n + 1, fs1, s1, u1, g1 g, l, fo, by rw [hst]; omega, fun e => by have := a2 e; rw [hst]; omega, a3, a4, a5⟩
 ·exact Or.inr ⟨n + 1, d, g1 g, by rw [hst]; omega, h3⟩
theorem OutU.behind {fm ft : List Fr} (hm : ∀ s u, dStep ws fm s u = (4, ft, s, u)) (hfo : ∀ fs, FsOk fs → Like ws fs fm → FsOk ft) (h2 : i.steps + 1 ≤ 1000000001) (ho : OutU ws i c fm P) : OutU ws i.more c ft P := by
 intro V hV
 have hst : i.more.steps = i.steps + 1 := by unfold Inf.more; simp only; omega
 rcases ho V hV with ⟨n, fs1, s1, u1, g, l, fo, a1, a2, a3, a4, a5⟩ | ⟨n, d, g, hn, h3⟩
 ·have e : dStep ws fs1 s1 u1 = (4, ft, s1, u1) := by rw [l.1, hm]
  exact Or.inl ⟨n + 1, ft, s1, shV V n 0, g.trans (.succ _ 0 _ _ (by simp only; rw [e]) (by simp only; rw [e]; exact .zero _ _)), Like.refl _ _, hfo fs1 fo l, by rw [hst]; omega, fun e => by have := a2 e; rw [hst]; omega, a3, ⟨a4.s, (hV.sh n 0).1, (hV.sh n 0).2, a4.l⟩, a5⟩
 ·exact Or.inr ⟨n, d, g, by rw [hst]; omega, h3⟩
theorem OutU.weak (hs : i.steps ≤ j.steps) (hn : j.net = i.net) (hr : j.str = true → i.str = true ∧ j.steps = i.steps) (hp : ∀ s, P s → Q s) (ho : OutU ws i c ft P) : OutU ws j c ft Q := by
 intro V hV
 rcases ho V hV with ⟨n, fs1, s1, u1, g, l, fo, a1, a2, a3, a4, a5⟩ | ⟨n, d, g, hn', h3⟩
 ·exact Or.inl ⟨n, fs1, s1, u1, g, l, fo, by omega, fun e => by rw [(hr e).2]; exact a2 (hr e).1, by rw [hn]; exact a3, a4, hp _ a5⟩
 ·exact Or.inr ⟨n, d, g, by omega, h3⟩
theorem OutU.to (hl : Like ws fm ft) (ho : OutU ws i c fm P) : OutU ws i c ft P := by
 intro V hV
 rcases ho V hV with ⟨n, fs1, s1, u1, g, l, o⟩ | h
 ·exact Or.inl ⟨n, fs1, s1, u1, g, l.trans hl, o⟩
 ·exact Or.inr h
end
section
variable {ws : List RW} {i j : Inf} {fs fm ft : List Fr} {s : List Int} {u : MW} {P Q : List Int → Prop} {c d : DC} {n : Nat} {f : Fr} {r : List Fr}
theorem outU_num {f : Fr} {r : List Fr} {v : Int} (h : f.its[f.i]? = some (.num v)) (hv : Cell v) (hf : FsOk (f :: r)) (hw : Wl s u) (hs : s.length + 1 ≤ 32) : OutU ws (Inf.plain 0 1) (f :: r, s, u) ({ f with i := f.i + 1 } :: r) (fun s' => s' = v :: s) := by
 refine OutU.step (fs' := { f with i := f.i + 1 } :: r) (s' := v :: s) (u' := u) ?_ rfl ?_ ⟨?_, hw.v, hw.i, by simpa using hs⟩ ?_ rfl
 ·simp only
  rw [dStep_item h]
  show dPut v _ s u = _
  unfold dPut
  rw [if_neg (by omega)]
 ·simp [Inf.plain]
 ·simp only [List.mem_cons, forall_eq_or_imp]; exact ⟨hv, hw.s⟩
 ·intro g hg
  rcases List.mem_cons.1 hg with rfl | hg
  ·exact hf f (by simp)
  ·exact hf g (List.mem_cons_of_mem _ hg)
theorem outU_op {t : ByteArray} {k : Nat} (h : f.its[f.i]? = some (.op t)) (hk : opFind t = some k) (hf : FsOk (f :: r)) (hw : Wl s u) (hn : (Inf.plain (thereS t).1 (thereS t).2.1).need ≤ s.length) (hh : (s.length : Int) + (Inf.plain (thereS t).1 (thereS t).2.1).high ≤ 32) :
  OutU ws (Inf.plain (thereS t).1 (thereS t).2.1) (f :: r, s, u) ({ f with i := f.i + 1 } :: r) (fun _ => True) := by
 have hk28 := (there_some hk).2.1
 have e := there_inf hk
 rw [← e] at hn hh ⊢
 have hst : (opInf k).steps = 1 := rfl
 have hhi : (opInf k).net ≤ (opInf k).high := by unfold opInf; simp only; omega
 have hd : dStep ws (f :: r) s u = dWord k ({ f with i := f.i + 1 } :: r) s u := by
  rw [dStep_item h]
  show dWord ((opFind t).getD 0) _ s u = _
  rw [hk]; rfl
 rcases hind_34 (n := u.vars.length) hn (by omega) with hv | hv
 ·have hx := exec_op k hk28 0 (n := turnsP ({ f with i := f.i + 1 } :: r)) (m := ⟨s, [(turnsP ({ f with i := f.i + 1 } :: r), 0)], [], 0⟩) (u := u) hv hw (fun _ => ⟨rfl, turns_cell hf.step⟩)
  refine OutU.step (fs' := { f with i := f.i + 1 } :: r) (s' := (opP k (turnsP ({ f with i := f.i + 1 } :: r)) s u).1) (u' := (opP k (turnsP ({ f with i := f.i + 1 } :: r)) s u).2) ?_ hst ?_ hx.2.1 hf.step trivial
  ·simp only
   rw [hd]; unfold dWord; rw [if_neg (fun e => e hv)]
  ·exact op_len k hk28 _ s u hv
 ·refine OutU.bad (by rw [hst]; omega) ?_
  simp only
  rw [hd]; unfold dWord; rw [if_pos (by rw [hv]; decide)]; exact hv
theorem outU_var {k : Nat} {x : RW} (h : f.its[f.i]? = some (.own k)) (hk : ws[k]? = some x) (hx : 0 ≤ x.var) (hv : Cell x.var) (hf : FsOk (f :: r)) (hw : Wl s u) (hs : s.length + 1 ≤ 32) : OutU ws (Inf.plain 0 1) (f :: r, s, u) ({ f with i := f.i + 1 } :: r) (fun _ => True) := by
 refine OutU.step (fs' := { f with i := f.i + 1 } :: r) (s' := x.var :: s) (u' := u) ?_ rfl ?_ ⟨?_, hw.v, hw.i, by simpa using hs⟩ hf.step trivial
 ·simp only
  rw [dStep_item h]
  unfold dItem
  simp only [hk]
  rw [if_pos hx]
  unfold dPut
  rw [if_neg (by omega)]
 ·simp [Inf.plain]
 ·simp only [List.mem_cons, forall_eq_or_imp]; exact ⟨hv, hw.s⟩
def WordU (ws : List RW) (x : RW) : Prop := ∀ (g : Fr) (r : List Fr) (s : List Int) (u : MW), FsOk (g :: r) → Wl s u → x.inf.need ≤ s.length → (s.length : Int) + x.inf.high ≤ 32 → x.inf.steps ≤ 1000000 → OutU ws x.inf (⟨x.its, 0, 3, 0, 0⟩ :: g :: r, s, u) (g :: r) (fun _ => True)
theorem outU_own {k : Nat} {x : RW} (h : f.its[f.i]? = some (.own k)) (hk : ws[k]? = some x) (hx : x.var < 0) (ho : WordU ws x) (hf : FsOk (f :: r)) (hw : Wl s u) (h1 : x.inf.need ≤ s.length) (h2 : (s.length : Int) + x.inf.high ≤ 32) (h3 : x.inf.steps ≤ 1000000) : OutU ws x.inf.more (f :: r, s, u) ({ f with i := f.i + 1 } :: r) (fun _ => True) := by
 refine OutU.ahead (fs' := ⟨x.its, 0, 3, 0, 0⟩ :: { f with i := f.i + 1 } :: r) ?_ (by omega) hw (fun u hw => ho _ _ s u hf.step hw h1 h2 h3)
 simp only
 rw [dStep_item h]
 unfold dItem
 simp only [hk]
 rw [if_neg (by omega)]
end
def ItemU (ws : List RW) (l : List AI) (x : AI) : Prop := ∀ (f : Fr) (r : List Fr) (s : List Int) (u : MW), f.its[f.i]? = some x.tree → FsOk (f :: r) → Wl s u → Tops l s → x.inf.need ≤ s.length → (s.length : Int) + x.inf.high ≤ 32 → x.inf.steps ≤ 1000000 → OutU ws x.inf (f :: r, s, u) ({ f with i := f.i + 1 } :: r) (Tops (l ++ [x]))
def ListU (ws : List RW) (l : List AI) : Prop := ∀ (its rest : List IT) (i0 beh : Nat) (nn ee : Int) (r : List Fr) (s : List Int) (u : MW), its.drop i0 = trees l ++ rest → FsOk (⟨its, i0, beh, nn, ee⟩ :: r) → Wl s u → (infL l).need ≤ s.length → (s.length : Int) + (infL l).high ≤ 32 → (infL l).steps ≤ 1000000 → OutU ws (infL l) (⟨its, i0, beh, nn, ee⟩ :: r, s, u) (⟨its, i0 + l.length, beh, nn, ee⟩ :: r) (Tops l)
section
variable {ws : List RW} {l la lb : List AI} {x : AI}
theorem listU_nil : ListU ws [] := by
 intro its rest i0 beh nn ee r s u hd hf hw h1 h2 h3
 exact OutU.zero (by simp [infL_nil, Inf.zero]) (fun _ => by simp [infL_nil, Inf.zero]) (by simp [infL_nil, Inf.zero]) hw hf ⟨fun a e => by simp [lastNum] at e, fun a b e => by simp [lastTwo] at e⟩
theorem listU_snoc (hl : ListU ws l) (h0 : 0 ≤ (infL l).steps) (h1 : 0 ≤ x.inf.steps) (hx : ItemU ws l x) : ListU ws (l ++ [x]) := by
 intro its rest i0 beh nn ee r s u hd hf hw k1 k2 k3
 rw [infL_snoc] at k1 k2 k3 ⊢
 have hst : (infL l).steps + x.inf.steps ≤ 1000000 := by unfold Inf.then at k3; simp only at k3; omega
 unfold Inf.then at k1 k2
 simp only at k1 k2
 have hdl : its.drop i0 = trees l ++ (x.tree :: rest) := by rw [hd]; unfold trees; simp
 have hit : its[i0 + l.length]? = some x.tree := by
  have e : (its.drop i0)[l.length]? = some x.tree := by
   rw [hdl, List.getElem?_append_right (by simp [trees])]
   simp [trees]
  rw [List.getElem?_drop] at e
  exact e
 have hff : FsOk (⟨its, i0 + l.length, beh, nn, ee⟩ :: r) := by
  intro g hg
  rcases List.mem_cons.1 hg with rfl | hg
  ·exact hf ⟨its, i0, beh, nn, ee⟩ (by simp)
  ·exact hf g (List.mem_cons_of_mem _ hg)
 have := OutU.then (j := x.inf) h0 h1 (by omega) (hl its (x.tree :: rest) i0 beh nn ee r s u hdl hf hw (by omega) (by omega) (by omega)) (fun s' u' e hw' ht => hx ⟨its, i0 + l.length, beh, nn, ee⟩ r s' u' hit hff hw' ht (by omega) (by omega) (by omega))
 rw [List.length_append, List.length_singleton, ← Nat.add_assoc]
 exact this
theorem itemU_num {v : Int} (hv : Cell v) : ItemU ws l ⟨some v, Inf.plain 0 1, .num v⟩ := by
 intro f r s u h hf hw ht h1 h2 h3
 refine OutU.weak (Int.le_refl _) rfl (fun e => ⟨e, rfl⟩) (fun s' e => ?_) (outU_num h hv hf hw (by simp [Inf.plain] at h2; omega))
 rw [e]; exact tops_num ht
theorem itemU_iff (ha : ListU ws la) (hn : (infL la).net = 0) (hs0 : 0 ≤ (infL la).steps) : ItemU ws l ⟨none, (Inf.plain 1 0).then ((infL la).ways Inf.zero), .iff (trees la)⟩ := by
 intro f r s u h hf hw ht h1 h2 h3
 simp only [Inf.then, Inf.plain, Inf.ways, Inf.zero] at h1 h2 h3
 cases s with
 | nil => simp at h1; omega
 | cons x q =>
  simp only [List.length_cons] at h1 h2
  have hwt := hw.tail
  refine OutU.weak (Int.le_refl _) rfl (fun e => ⟨e, rfl⟩) (fun _ _ => tops_none) (P := fun _ => True) ?_
  by_cases hx : x = 0
  ·refine OutU.then (P := fun s' => True) (fm := { f with i := f.i + 1 } :: r) (by simp [Inf.plain]) (by simp only [Inf.ways, Inf.zero]; omega) (by simp only [Inf.plain, Inf.ways, Inf.zero]; omega) ?_ (fun s' u' e hw' _ => ?_)
   ·refine OutU.to (like_done (g := ⟨[], 0, 0, 0, 0⟩) rfl rfl) (OutU.step (s' := q) (u' := u) ?_ rfl ?_ hwt (FsOk.cons ⟨cell0, cell0⟩ hf.step) trivial)
    ·simp only
     rw [dStep_item h]; unfold dItem; simp only; rw [if_pos hx]
    ·simp [Inf.plain]; omega
   ·exact OutU.zero (by simp only [Inf.ways, Inf.zero]; omega) (fun e => by simp [Inf.ways] at e) (by simp only [Inf.ways]; omega) hw' hf.step trivial
  ·refine OutU.then (P := fun s' => s' = q) (fm := ⟨trees la, 0, 0, 0, 0⟩ :: { f with i := f.i + 1 } :: r) (by simp [Inf.plain]) (by simp only [Inf.ways, Inf.zero]; omega) (by simp only [Inf.plain, Inf.ways, Inf.zero]; omega) ?_ (fun s' u' e hw' he => ?_)
   ·refine OutU.step (s' := q) (u' := u) ?_ rfl ?_ hwt (FsOk.cons ⟨cell0, cell0⟩ hf.step) rfl
    ·simp only
     rw [dStep_item h]; unfold dItem; simp only; rw [if_neg hx]
    ·simp [Inf.plain]; omega
   ·subst he
    have := ha (trees la) [] 0 0 0 0 ({ f with i := f.i + 1 } :: r) s' u' (by simp) (FsOk.cons ⟨cell0, cell0⟩ hf.step) hw' (by omega) (by omega) (by omega)
    have h2 := OutU.to (like_done (ws := ws) (g := ⟨trees la, 0 + la.length, 0, 0, 0⟩) (r := { f with i := f.i + 1 } :: r) rfl (by simp [trees])) this
    exact OutU.weak (i := infL la) (j := (infL la).ways Inf.zero) (by simp only [Inf.ways, Inf.zero]; omega) rfl (fun e => by simp [Inf.ways] at e) (fun _ _ => trivial) h2
theorem listU_all (ha : ListU ws la) {beh : Nat} {nn ee : Int} {r : List Fr} {s : List Int} {u : MW} (hc : Cell nn ∧ Cell ee) (hf : FsOk r) (hw : Wl s u) (h1 : (infL la).need ≤ s.length) (h2 : (s.length : Int) + (infL la).high ≤ 32) (h3 : (infL la).steps ≤ 1000000) : OutU ws (infL la) (⟨trees la, 0, beh, nn, ee⟩ :: r, s, u) (⟨trees la, la.length, beh, nn, ee⟩ :: r) (fun _ => True) := by
 have := ha (trees la) [] 0 beh nn ee r s u (by simp) (FsOk.cons hc hf) hw h1 h2 h3
 rw [Nat.zero_add] at this
 exact OutU.weak (Int.le_refl _) rfl (fun e => ⟨e, rfl⟩) (fun _ _ => trivial) this
theorem itemU_els (ha : ListU ws la) (hb : ListU ws lb) (hn : (infL la).net = (infL lb).net) (hs0 : 0 ≤ (infL la).steps) (hs1 : 0 ≤ (infL lb).steps) : ItemU ws l ⟨none, (Inf.plain 1 0).then ((infL la).more.ways (infL lb)), .els (trees la) (trees lb)⟩ := by
 intro f r s u h hf hw ht h1 h2 h3
 simp only [Inf.then, Inf.plain, Inf.ways, Inf.more] at h1 h2 h3
 cases s with
 | nil => simp at h1; omega
 | cons x q =>
  simp only [List.length_cons] at h1 h2
  have hwt := hw.tail
  refine OutU.weak (Int.le_refl _) rfl (fun e => ⟨e, rfl⟩) (fun _ _ => tops_none) (P := fun _ => True) ?_
  by_cases hx : x = 0
  ·refine OutU.then (P := fun s' => s' = q) (fm := ⟨trees lb, 0, 0, 0, 0⟩ :: { f with i := f.i + 1 } :: r) (by simp [Inf.plain]) (by simp only [Inf.ways, Inf.more]; omega) (by simp only [Inf.plain, Inf.ways, Inf.more]; omega) ?_ (fun s' u' e hw' he => ?_)
   ·refine OutU.step (s' := q) (u' := u) ?_ rfl ?_ hwt (FsOk.cons ⟨cell0, cell0⟩ hf.step) rfl
    ·simp only
     rw [dStep_item h]; unfold dItem; simp only; rw [if_pos hx]
    ·simp [Inf.plain]; omega
   ·subst he
    have := listU_all hb (beh := 0) ⟨cell0, cell0⟩ hf.step hw' (by omega) (by omega) (by omega)
    have h2 := OutU.to (like_done (ws := ws) (g := ⟨trees lb, lb.length, 0, 0, 0⟩) (r := { f with i := f.i + 1 } :: r) rfl (by simp [trees])) this
    exact OutU.weak (i := infL lb) (j := (infL la).more.ways (infL lb)) (by simp only [Inf.ways, Inf.more]; omega) hn (fun e => by simp [Inf.ways] at e) (fun _ _ => trivial) h2
  ·refine OutU.then (P := fun s' => s' = q) (fm := ⟨trees la, 0, 1, 0, 0⟩ :: { f with i := f.i + 1 } :: r) (by simp [Inf.plain]) (by simp only [Inf.ways, Inf.more]; omega) (by simp only [Inf.plain, Inf.ways, Inf.more]; omega) ?_ (fun s' u' e hw' he => ?_)
   ·refine OutU.step (s' := q) (u' := u) ?_ rfl ?_ hwt (FsOk.cons ⟨cell0, cell0⟩ hf.step) rfl
    ·simp only
     rw [dStep_item h]; unfold dItem; simp only; rw [if_neg hx]
    ·simp [Inf.plain]; omega
   ·subst he
    have := listU_all ha (beh := 1) ⟨cell0, cell0⟩ hf.step hw' (by omega) (by omega) (by omega)
    have h2 := OutU.behind (ft := { f with i := f.i + 1 } :: r) (fun s u => by rw [dStep]; simp [trees]) (fun _ _ _ => hf.step) (by omega) this
    exact OutU.weak (i := (infL la).more) (j := (infL la).more.ways (infL lb)) (by simp only [Inf.ways]; omega) rfl (fun e => by simp [Inf.ways] at e) (fun _ _ => trivial) h2
theorem outU_loop (ha : ListU ws la) (hn : (infL la).net = 0) (hs0 : 0 ≤ (infL la).steps) {r : List Fr} (hf : FsOk r) (a : Int) (hca : Cell a) : ∀ (k : Nat) (n : Int) (s : List Int) (u : MW), n + (k + 1) = a → Cell n → Wl s u → (infL la).need ≤ s.length → (s.length : Int) + (infL la).high ≤ 32 → ((k : Int) + 1) * ((infL la).steps + 1) ≤ 1000000 →
  OutU ws ⟨0, 0, 0, ((k : Int) + 1) * ((infL la).steps + 1), (infL la).str⟩ (⟨trees la, 0, 2, n, a⟩ :: r, s, u) r (fun _ => True)
 | 0, n, s, u, e, hcn, hw, h1, h2, h3 => by
  simp only [Int.natCast_zero, Int.zero_add, Int.one_mul] at e h3 ⊢
  have := listU_all ha (beh := 2) ⟨hcn, hca⟩ hf hw h1 h2 (by omega)
  have h2 := OutU.behind (ft := r) (fun s u => by rw [dStep]; simp [trees]; omega) (fun _ _ _ => hf) (by omega) this
  refine OutU.weak (i := (infL la).more) (by simp only [Inf.more]; omega) (by simp only [Inf.more]; omega) (fun e => ⟨e, by simp only [Inf.more]; omega⟩) (fun _ _ => trivial) h2
 | k + 1, n, s, u, e, hcn, hw, h1, h2, h3 => by
  have hm : (((k + 1 : Nat) : Int) + 1) * ((infL la).steps + 1) = ((k : Int) + 1) * ((infL la).steps + 1) + ((infL la).steps + 1) := by
   rw [Int.natCast_add, Int.add_mul, Int.natCast_one, Int.one_mul]
  have hk0 : 0 ≤ ((k : Int) + 1) * ((infL la).steps + 1) := Int.mul_nonneg (by omega) (by omega)
  rw [hm] at h3 ⊢
  obtain ⟨c1, c2⟩ := hcn
  obtain ⟨c3, c4⟩ := hca
  have hcn1 : Cell (n + 1) := ⟨by omega, by omega⟩
  have t1 := listU_all ha (beh := 2) ⟨⟨c1, c2⟩, ⟨c3, c4⟩⟩ hf hw h1 h2 (by omega)
  have t2 := OutU.behind (ft := ⟨trees la, 0, 2, n + 1, a⟩ :: r) (fun s u => by rw [dStep]; simp [trees]; omega) (fun _ _ _ => FsOk.cons ⟨hcn1, ⟨c3, c4⟩⟩ hf) (by omega) t1
  have t3 := OutU.then (j := ⟨0, 0, 0, ((k : Int) + 1) * ((infL la).steps + 1), (infL la).str⟩) (ft := r) (Q := fun _ => True) (by simp only [Inf.more]; omega) hk0 (by simp only [Inf.more]; omega) t2 (fun s' u' e' hw' _ => by
   have e2 : (s'.length : Int) = s.length := by rw [e']; simp only [Inf.more]; omega
   exact outU_loop ha hn hs0 hf a ⟨c3, c4⟩ k (n + 1) s' u' (by omega) hcn1 hw' (by omega) (by omega) (by omega))
  refine OutU.weak ?_ ?_ ?_ (fun _ _ => trivial) t3
  ·simp only [Inf.then, Inf.more]; omega
  ·simp only [Inf.then, Inf.more]; omega
  ·simp only [Inf.then, Inf.more, Bool.and_self]; exact fun e => ⟨e, by omega⟩
theorem itemU_doo {a b : Int} (ha : ListU ws la) (hab : lastTwo l = some (a, b)) (hn : (infL la).net = 0) (hs0 : 0 ≤ (infL la).steps) : ItemU ws l ⟨none, (Inf.plain 2 0).then ((infL la).times (max 0 (a - b))), .doo (trees la)⟩ := by
 intro f r s u h hf hw ht h1 h2 h3
 obtain ⟨q, rfl⟩ := ht.2 a b hab
 have hwt := hw.tail.tail
 have hca := hw.s a (by simp)
 have hcb := hw.s b (by simp)
 refine OutU.weak (Int.le_refl _) rfl (fun e => ⟨e, rfl⟩) (fun _ _ => tops_none) (P := fun _ => True) ?_
 by_cases hlt : b < a
 ·obtain ⟨k, hk⟩ : ∃ k : Nat, a - b = (k : Int) + 1 := ⟨(a - b - 1).toNat, by omega⟩
  have hmx : max 0 (a - b) = (k : Int) + 1 := by omega
  have htm : (infL la).times ((k : Int) + 1) = ⟨(infL la).need, (infL la).net, (infL la).high, min (((k : Int) + 1) * min ((infL la).steps + 1) 1000000001) 1000000001, (infL la).str⟩ := by unfold Inf.times; rw [if_neg (by omega)]
  rw [hmx, htm] at h1 h2 h3 ⊢
  simp only [Inf.then, Inf.plain, List.length_cons] at h1 h2 h3
  have hge : min ((infL la).steps + 1) 1000000001 ≤ ((k : Int) + 1) * min ((infL la).steps + 1) 1000000001 := by
   have : (1 : Int) * min ((infL la).steps + 1) 1000000001 ≤ ((k : Int) + 1) * min ((infL la).steps + 1) 1000000001 := Int.mul_le_mul_of_nonneg_right (by omega) (by omega)
   omega
  have hmin : min ((infL la).steps + 1) 1000000001 = (infL la).steps + 1 := by omega
  rw [hmin] at h3 ⊢
  have hk0 : 0 ≤ ((k : Int) + 1) * ((infL la).steps + 1) := Int.mul_nonneg (by omega) (by omega)
  have hm2 : min (((k : Int) + 1) * ((infL la).steps + 1)) 1000000001 = ((k : Int) + 1) * ((infL la).steps + 1) := by omega
  rw [hm2] at h3 ⊢
  refine OutU.then (P := fun s' => s' = q) (fm := ⟨trees la, 0, 2, b, a⟩ :: { f with i := f.i + 1 } :: r) (by simp [Inf.plain]) hk0 (by simp only [Inf.plain]; omega) ?_ (fun s' u' e hw' he => ?_)
  ·refine OutU.step (s' := q) (u' := u) ?_ rfl ?_ hwt (FsOk.cons ⟨hcb, hca⟩ hf.step) rfl
   ·simp only
    rw [dStep_item h]; unfold dItem; simp only; rw [if_pos hlt]
   ·simp [Inf.plain]; omega
  ·subst he
   have := outU_loop ha hn hs0 hf.step a hca k b s' u' (by omega) hcb hw' (by omega) (by omega) (by omega)
   exact OutU.weak (i := ⟨0, 0, 0, ((k : Int) + 1) * ((infL la).steps + 1), (infL la).str⟩) (Int.le_refl _) hn (fun e => ⟨e, rfl⟩) (fun _ _ => trivial) this
 ·have hmx : max 0 (a - b) = 0 := by omega
  have htm : (infL la).times 0 = ⟨0, 0, 0, 0, (infL la).str⟩ := by unfold Inf.times; rw [if_pos rfl]
  rw [hmx, htm] at h1 h2 h3 ⊢
  refine OutU.then (P := fun s' => True) (fm := { f with i := f.i + 1 } :: r) (by simp [Inf.plain]) (Int.le_refl _) (by simp [Inf.plain]) ?_ (fun s' u' e hw' _ => ?_)
  ·refine OutU.step (s' := q) (u' := u) ?_ rfl ?_ hwt hf.step trivial
   ·simp only
    rw [dStep_item h]; unfold dItem; simp only; rw [if_neg hlt]
   ·simp [Inf.plain]; omega
  ·exact OutU.zero (Int.le_refl _) (fun _ => rfl) rfl hw' hf.step trivial
theorem itemU_op {t : ByteArray} {k : Nat} (hk : opFind t = some k) : ItemU ws l ⟨none, Inf.plain (thereS t).1 (thereS t).2.1, .op t⟩ := by
 intro f r s u h hf hw ht h1 h2 h3
 exact OutU.weak (Int.le_refl _) rfl (fun e => ⟨e, rfl⟩) (fun _ _ => tops_none) (outU_op h hk hf hw h1 h2)
structure OwnU (ws : List RW) (x : RW) (l : List AI) : Prop where
 its : x.its = trees l
 inf : x.inf = wInf l
 ok : ListU ws l
 s0 : 0 ≤ (infL l).steps
theorem OwnU.word {x : RW} {l : List AI} (h : OwnU ws x l) : WordU ws x := by
 intro g r s u hf hw h1 h2 h3
 rw [h.inf] at h1 h2 h3 ⊢
 rw [h.its]
 simp only [wInf] at h1 h2 h3
 have t1 := listU_all h.ok (beh := 3) ⟨cell0, cell0⟩ hf hw h1 h2 (by omega)
 have t2 := OutU.behind (ft := g :: r) (fun s u => by rw [dStep]; simp [trees]) (fun _ _ _ => hf) (by omega) t1
 exact OutU.weak (i := (infL l).more) (by simp only [Inf.more, wInf]; omega) rfl (fun e => ⟨e, by simp only [Inf.more, wInf]; omega⟩) (fun _ _ => trivial) t2
theorem itemU_own {k : Nat} {x : RW} {lx : List AI} (hk : ws[k]? = some x) (hx : x.var < 0) (ho : OwnU ws x lx) : ItemU ws l ⟨none, x.inf.more, .own k⟩ := by
 intro f r s u h hf hw ht h1 h2 h3
 have hs := ho.s0
 have hi := ho.inf
 have h3' : x.inf.steps ≤ 1000000 := by simp only [Inf.more] at h3; omega
 exact OutU.weak (Int.le_refl _) rfl (fun e => ⟨e, rfl⟩) (fun _ _ => tops_none) (outU_own h hk hx ho.word hf hw h1 h2 h3')
theorem itemU_var {k : Nat} {x : RW} (hk : ws[k]? = some x) (hx : 0 ≤ x.var) (hv : Cell x.var) : ItemU ws l ⟨none, Inf.plain 0 1, .own k⟩ := by
 intro f r s u h hf hw ht h1 h2 h3
 exact OutU.weak (Int.le_refl _) rfl (fun e => ⟨e, rfl⟩) (fun _ _ => tops_none) (outU_var h hk hx hv hf hw (by simp [Inf.plain] at h2; omega))
end
theorem bdU_ok {ws0 ws : List RW} {l : List AI} (hp : ∀ (k : Nat) (x : RW), ws0[k]? = some x → ws[k]? = some x ∧ (0 ≤ x.var → Cell x.var) ∧ (x.var < 0 → ∃ l, OwnU ws x l)) (h : Bd ws0 l) : ListU ws l ∧ 0 ≤ (infL l).steps := by
 have fin : ∀ {l : List AI} {x : AI}, (ListU ws l ∧ 0 ≤ (infL l).steps) → 0 ≤ x.inf.steps → ItemU ws l x → ListU ws (l ++ [x]) ∧ 0 ≤ (infL (l ++ [x])).steps := fun ⟨a, c⟩ h0 h1 =>
  ⟨listU_snoc a c h0 h1, by rw [infL_snoc]; simp only [Inf.then]; omega⟩
 induction h with
 | nil => exact ⟨listU_nil, by simp [infL_nil, Inf.zero]⟩
 | num l n hl hn ih => exact fin ih (by simp [Inf.plain]) (itemU_num ⟨by omega, by omega⟩)
 | word l t loops hl h ih =>
  unfold wordI wordT
  by_cases hf : 0 ≤ findW ws0 t
  ·rw [if_pos hf, if_pos hf]
   have hlk := (lastK_lt (nameAt ws0) t ws0.length).1
   have hlt : (findW ws0 t).toNat < ws0.length := by have : findW ws0 t < ws0.length := hlk; omega
   have hx : ws0[(findW ws0 t).toNat]? = some ws0[(findW ws0 t).toNat] := List.getElem?_eq_getElem hlt
   obtain ⟨e1, e2, e3⟩ := hp _ _ hx
   rw [hx]
   simp only
   unfold ownInf
   by_cases hv : 0 ≤ (ws0[(findW ws0 t).toNat]).var
   ·rw [if_pos hv]
    exact fin ih (by simp [Inf.plain]) (itemU_var e1 hv (e2 hv))
   ·rw [if_neg hv]
    obtain ⟨lx, ho⟩ := e3 (by omega)
    have hs := ho.s0
    have hi := ho.inf
    exact fin ih (by simp only [Inf.more]; rw [hi]; simp only [wInf]; omega) (itemU_own e1 (by omega) ho)
  ·rw [if_neg hf, if_neg hf]
   unfold wordE at h
   rw [if_neg hf] at h
   cases hk : opFind t with
   | none => rw [there_none hk] at h; simp at h
   | some k => exact fin ih (by simp [Inf.plain]) (itemU_op hk)
 | iff l la hl ha hn ih iha => exact fin ih (by simp only [Inf.then, Inf.plain, Inf.ways, Inf.zero]; omega) (itemU_iff iha.1 hn iha.2)
 | els l la lb hl ha hb hn ih iha ihb => exact fin ih (by have := iha.2; simp only [Inf.then, Inf.plain, Inf.ways, Inf.more]; omega) (itemU_els iha.1 ihb.1 hn iha.2 ihb.2)
 | doo l la a b hl hab h ha hn ih iha =>
  have h0 := iha.2
  have hp : 0 ≤ max 0 (a - b) * min ((infL la).steps + 1) 1000000001 := Int.mul_nonneg (by omega) (by omega)
  exact fin ih (by simp only [Inf.then, Inf.plain]; unfold Inf.times; split <;> simp only <;> omega) (itemU_doo iha.1 hab hn h0)
theorem WsB.okU {ws0 ws : List RW} (h : WsB ws0) (hp : ∀ (k : Nat) (x : RW), ws0[k]? = some x → ws[k]? = some x) : ∀ (k : Nat) (x : RW), ws0[k]? = some x → ws[k]? = some x ∧ (0 ≤ x.var → Cell x.var) ∧ (x.var < 0 → ∃ l, OwnU ws x l) := by
 induction h with
 | nil => intro k x h; simp at h
 | var ws1 y h hx hc ih =>
  intro k x hk
  rcases last_of hk with h1 | rfl
  ·exact ih (fun k x h => hp k x (app_of h)) k x h1
  ·exact ⟨hp _ _ hk, fun _ => hc, fun e => by omega⟩
 | word ws1 y l h hb hv h1 h2 ih =>
  intro k x hk
  rcases last_of hk with h1 | rfl
  ·exact ih (fun k x h => hp k x (app_of h)) k x h1
  ·obtain ⟨b1, b3⟩ := bdU_ok (ih (fun k x h => hp k x (app_of h))) hb
   exact ⟨hp _ _ hk, fun e => by omega, fun _ => ⟨l, h1, h2, b1, b3⟩⟩
def UOk (u : MW) : Prop := (∀ a ∈ u.vars, Cell a) ∧ ∀ a ∈ u.ins, Cell a
def Left (ws : List RW) : Nat → List Fr → List Int → Prop
 | 0, _, _ => False
 | N + 1, fs, s => ∀ u, UOk u → (dStep ws fs s u).1 = 0 ∨ (dStep ws fs s u).1 = 3 ∨ ((dStep ws fs s u).1 = 4 ∧ Left ws N (dStep ws fs s u).2.1 (dStep ws fs s u).2.2.1)
def consV (u : MW) (V : Nat → MW) : Nat → MW
 | 0 => u
 | n + 1 => V n
theorem left_of {ws : List RW} : ∀ (N : Nat) (fs : List Fr) (s : List Int), (∀ u V, UOk u → VOk V → ∃ (n : Nat) (d : DC), GoesV ws V n (fs, s, u) d ∧ n + 1 ≤ N ∧ ((dStep ws d.1 d.2.1 d.2.2).1 = 0 ∨ (dStep ws d.1 d.2.1 d.2.2).1 = 3)) → Left ws N fs s
 | 0, fs, s, H => by
  obtain ⟨n, d, _, h, _⟩ := H ⟨[], [], []⟩ (fun _ => ⟨[], [], []⟩) ⟨fun a h => by simp at h, fun a h => by simp at h⟩ (fun _ => ⟨fun a h => by simp at h, fun a h => by simp at h⟩)
  omega
 | N + 1, fs, s, H => by
  intro u hu
  by_cases h4 : (dStep ws fs s u).1 = 4
  ·refine Or.inr (Or.inr ⟨h4, left_of N _ _ fun u' V' hu' hV' => ?_⟩)
   obtain ⟨n, d, g, hn, he⟩ := H u (consV u' V') hu (fun k => by
    cases k with
    | zero => exact hu'
    | succ k => exact hV' k)
   cases g with
   | zero => simp only at he; rw [h4] at he; exact absurd he (by decide)
   | succ _ n c c' h hg =>
    refine ⟨n, d, ?_, by omega, he⟩
    have e : shV (consV u' V') 1 = V' := by funext j; unfold shV; rw [Nat.add_comm]; rfl
    rw [e] at hg
    exact hg
  ·obtain ⟨n, d, g, hn, he⟩ := H u (fun _ => u) hu (fun _ => hu)
   cases g with
   | zero => exact he.imp id Or.inl
   | succ _ n c c' h hg => exact absurd h h4
theorem left_word {ws : List RW} {y : RW} {l : List AI} (ho : OwnU ws y l) (h1 : y.inf.need ≤ 0) (h2 : y.inf.high ≤ 32) (h3 : y.inf.steps ≤ 1000000) : Left ws y.inf.steps.toNat [⟨y.its, 0, 3, 0, 0⟩] [] := by
 refine left_of _ _ _ fun u V hu hV => ?_
 have hs := ho.s0
 rw [ho.inf] at h1 h2 h3 ⊢
 rw [ho.its]
 simp only [wInf] at h1 h2 h3 ⊢
 rcases listU_all ho.ok (r := []) (beh := 3) ⟨cell0, cell0⟩ (by intro f hf; simp at hf) (s := []) (u := u) ⟨fun a h => by simp at h, hu.1, hu.2, by simp⟩ (by simpa using h1) (by simpa using h2) (by omega) V hV with ⟨n, fs, s', u', g, lk, fo, a1, a2, a3, a4, a5⟩ | ⟨n, d, g, hn, hd⟩
 ·have e : dStep ws fs s' u' = (0, [], s', u') := by rw [lk.1, dStep]; simp [trees]
  exact ⟨n, _, g, by omega, Or.inl (by simp only; rw [e])⟩
 ·exact ⟨n, d, g, by omega, Or.inr hd⟩
end Go.Proofs.YtcphhbofjkenaaaGreatDoor
