import Derived.Test.YtcphhbofjkenaaaGreatDoorU28
namespace Go.Proofs.YtcphhbofjkenaaaGreatDoor
set_option maxRecDepth 100000
set_option maxHeartbeats 16000000
open Go Go.RowKit
set_option linter.unusedVariables false
set_option linter.unusedSimpArgs false
theorem find_eq {es : List PE} {ws : List RW} (hA : Alike es ws) (s : ByteArray) : findRes (lastP es s es.length) = .tuple #[(findI ws s).1.val, .int .i64 (findI ws s).2] := by
 rw [last_findW hA.names s]
 have hb := lastK_lt (nameAt ws) s ws.length
 have hb' : findW ws s < ws.length ∧ -1 ≤ findW ws s := hb
 unfold findI
 by_cases h0 : 0 ≤ findW ws s
 ·rw [if_pos h0, if_neg (by omega)]
  obtain ⟨i, hi⟩ : ∃ i : Nat, findW ws s = i := ⟨(findW ws s).toNat, by omega⟩
  rw [hi] at hb' ⊢
  simp only [Int.toNat_natCast]
  have hiw : i < ws.length := by omega
  have hie : i < es.length := by rw [hA.len]; exact hiw
  have hu := hA.use i es[i] ws[i] (List.getElem?_eq_getElem hie) (List.getElem?_eq_getElem hiw)
  rw [List.getElem?_eq_getElem hiw]
  have he : es.getD i PE.zero = es[i] := by simp [hie]
  rw [he]
  simp only [findRes]
  cases hv : es[i].var with
  | true =>
   have := hu.1 hv
   rw [if_pos rfl, if_pos this.2]; rfl
  | false =>
   have := hu.2 hv
   rw [if_neg (by simp), if_neg (by rw [this.1]; decide), this.2.1]
 ·rw [if_neg h0, if_pos (by omega)]
  rfl
theorem find_bd {es : List PE} {ws : List RW} (hA : Alike es ws) (s : ByteArray) (h : (findI ws s).2 = 0) : 1 ≤ (findI ws s).1.steps ∧ (findI ws s).1.steps ≤ 1000000000 := by
 have hb : findW ws s < ws.length ∧ -1 ≤ findW ws s := lastK_lt (nameAt ws) s ws.length
 unfold findI at h ⊢
 by_cases h0 : findW ws s < 0
 ·rw [if_pos h0] at h; exact absurd h (by decide)
 ·rw [if_neg h0] at h ⊢
  obtain ⟨i, hi⟩ : ∃ i : Nat, findW ws s = i := ⟨(findW ws s).toNat, by omega⟩
  rw [hi] at hb h ⊢
  simp only [Int.toNat_natCast] at h ⊢
  have hiw : i < ws.length := by omega
  have hie : i < es.length := by rw [hA.len]; exact hiw
  have hu := hA.use i es[i] ws[i] (List.getElem?_eq_getElem hie) (List.getElem?_eq_getElem hiw)
  rw [List.getElem?_eq_getElem hiw] at h ⊢
  simp only at h ⊢
  by_cases hv : 0 ≤ ws[i].var
  ·rw [if_pos hv] at h; exact absurd h (by decide)
  ·rw [if_neg hv] at h ⊢
   cases hx : es[i].var with
   | true => exact absurd (hu.1 hx).2 hv
   | false => exact (hu.2 hx).2.2.2
structure TK where
 word : ByteArray
 per : Int
 dl : Int
 off : Int
deriving Inhabited
def TK.cells (t : TK) : List Value := [.string t.word, .int .i64 t.per, .int .i64 t.dl, .int .i64 t.off]
def TK.val (t : TK) : Value := .agg #[.string t.word, .int .i64 t.per, .int .i64 t.dl, .int .i64 t.off]
def TK.Fits (t : TK) : Prop := 1 ≤ t.per ∧ t.per ≤ 1000000 ∧ 1 ≤ t.dl ∧ t.dl ≤ t.per ∧ 0 ≤ t.off ∧ t.off ≤ 1000000
instance (t : TK) : Decidable t.Fits := by unfold TK.Fits; infer_instance
def wrongT (ws : List RW) (t : TK) : Int :=
 if (findI ws t.word).2 ≠ 0 then (findI ws t.word).2 else if ¬ t.Fits then 9 else if 0 < (findI ws t.word).1.need ∨ 32 < (findI ws t.word).1.high then 10 else 0
def scanW (ws : List RW) : List TK → Nat → Option (Int × Nat)
 | [], _ => none
 | t :: r, k => if wrongT ws t ≠ 0 then some (wrongT ws t, k) else scanW ws r (k + 1)
theorem scanW_none {ws : List RW} : ∀ {l : List TK} {k : Nat}, scanW ws l k = none → ∀ t ∈ l, wrongT ws t = 0
 | [], _, _, t, ht => by cases ht
 | x :: r, k, h, t, ht => by
  unfold scanW at h
  split at h
  ·cases h
  ·rename_i hx
   rcases List.mem_cons.1 ht with e | e
   ·subst e; exact Classical.byContradiction hx
   ·exact scanW_none h t e
def loadsT (ws : List RW) (l : List TK) : List (Int × Int) := l.map fun t => ((findI ws t.word).1.steps, t.per)
theorem loads_ok {es : List PE} {ws : List RW} (hA : Alike es ws) {l : List TK} (h : ∀ t ∈ l, wrongT ws t = 0) : ∀ x ∈ loadsT ws l, 1 ≤ x.1 ∧ x.1 ≤ 1000000000 ∧ 1 ≤ x.2 ∧ x.2 ≤ 1000000 := by
 intro x hx
 obtain ⟨t, ht, rfl⟩ := List.mem_map.1 hx
 have := h t ht
 unfold wrongT at this
 split at this
 ·contradiction
 ·rename_i h0
  have hb := find_bd hA t.word (Classical.byContradiction h0)
  split at this
  ·exact absurd this (by decide)
  ·rename_i h1
   have h1 : t.Fits := Classical.byContradiction h1
   exact ⟨hb.1, hb.2, h1.1, h1.2.1⟩
def costAt (ls : List (Int × Int)) (k : Nat) : Int := (ls.getD k (0, 0)).1
def perAt (ls : List (Int × Int)) (k : Nat) : Int := (ls.getD k (0, 0)).2
def goesP (ls : List (Int × Int)) (j k : Nat) : Bool := decide (perAt ls j < perAt ls k) || (decide (perAt ls j = perAt ls k) && decide (j < k))
def aheadP (ls : List (Int × Int)) (k : Nat) : Nat → List (Int × Int)
 | 0 => []
 | n + 1 => if goesP ls n k = true then aheadP ls k n ++ [(costAt ls n, perAt ls n)] else aheadP ls k n
theorem aheadP_len (ls : List (Int × Int)) (k n : Nat) : (aheadP ls k n).length ≤ n := by
 induction n with
 | zero => simp [aheadP]
 | succ n ih =>
  unfold aheadP
  split
  ·rw [List.length_append, List.length_singleton]; omega
  ·omega
def within (r : Int) : List (Int × Int) → Int
 | [] => 0
 | x :: l => x.1 * ((r + x.2 - 1) / x.2) + within r l
theorem within_append (r : Int) (a b : List (Int × Int)) : within r (a ++ b) = within r a + within r b := by
 induction a with
 | nil => simp [within]
 | cons x l ih => simp only [List.cons_append, within, ih]; omega
theorem within_take (r : Int) (l : List (Int × Int)) (n : Nat) (h : n < l.length) : within r (l.take (n + 1)) = within r (l.take n) + l[n].1 * ((r + l[n].2 - 1) / l[n].2) := by
 rw [List.take_add_one, within_append, List.getElem?_eq_getElem h]
 simp [within]
def LdOk (x : Int × Int) : Prop := 1 ≤ x.1 ∧ x.1 ≤ 1000000000 ∧ 1 ≤ x.2 ∧ x.2 ≤ 1000000
theorem rel_mono {p a b : Int} (hp : 1 ≤ p) (h : a ≤ b) : (a + p - 1) / p ≤ (b + p - 1) / p := Int.ediv_le_ediv (by omega) (by omega)
theorem rel_bd {p r : Int} (hp : 1 ≤ p) (hr : 0 ≤ r) (hr2 : r ≤ 1000000) : 0 ≤ (r + p - 1) / p ∧ (r + p - 1) / p ≤ 1000000 := by
 refine ⟨Int.ediv_nonneg (by omega) (by omega), ?_⟩
 by_cases h0 : r = 0
 ·subst h0
  have : (0 + p - 1) / p = 0 := Int.ediv_eq_zero_of_lt (by omega) (by omega)
  omega
 ·have h1 : (r + p - 1) / p ≤ r := by
   apply Int.le_of_lt_add_one
   apply Int.ediv_lt_of_lt_mul (by omega)
   have : r * 1 ≤ r * p := Int.mul_le_mul_of_nonneg_left hp (by omega)
   rw [Int.add_mul]
   have e : 1 * p = p := Int.one_mul p
   omega
  omega
theorem one_bd {x : Int × Int} (h : LdOk x) {r : Int} (hr : 0 ≤ r) (hr2 : r ≤ 1000000) : 0 ≤ x.1 * ((r + x.2 - 1) / x.2) ∧ x.1 * ((r + x.2 - 1) / x.2) ≤ 1000000000000000 := by
 obtain ⟨a, b, c, d⟩ := h
 obtain ⟨e, f⟩ := rel_bd c hr hr2
 refine ⟨Int.mul_nonneg (by omega) e, ?_⟩
 have : x.1 * ((r + x.2 - 1) / x.2) ≤ 1000000000 * 1000000 := Int.mul_le_mul b f e (by omega)
 omega
theorem within_bd {l : List (Int × Int)} (h : ∀ x ∈ l, LdOk x) {r : Int} (hr : 0 ≤ r) (hr2 : r ≤ 1000000) : 0 ≤ within r l ∧ within r l ≤ l.length * 1000000000000000 := by
 induction l with
 | nil => simp [within]
 | cons x l ih =>
  have h1 := one_bd (h x (List.mem_cons_self ..)) hr hr2
  have h2 := ih (fun y hy => h y (List.mem_cons_of_mem _ hy))
  simp only [within, List.length_cons]
  omega
theorem within_mono {l : List (Int × Int)} (h : ∀ x ∈ l, LdOk x) {a b : Int} (hab : a ≤ b) : within a l ≤ within b l := by
 induction l with
 | nil => simp [within]
 | cons x l ih =>
  have h2 := ih (fun y hy => h y (List.mem_cons_of_mem _ hy))
  obtain ⟨c, _, d, _⟩ := h x (List.mem_cons_self ..)
  have h1 : x.1 * ((a + x.2 - 1) / x.2) ≤ x.1 * ((b + x.2 - 1) / x.2) := Int.mul_le_mul_of_nonneg_left (rel_mono d hab) (by omega)
  simp only [within]
  omega
def respG (D : Int → Int) (dl : Int) : Nat → Int → Int
 | 0, _ => 0
 | f + 1, r => if r ≤ dl then (if D r = r then r else respG D dl f (D r)) else 0
def respT (D : Int → Int) (dl : Int) : Int := respG D dl (dl.toNat + 1) 1
def demandT (ls : List (Int × Int)) (k : Nat) (r : Int) : Int := costAt ls k + within r (aheadP ls k ls.length)
theorem costAt_get {ls : List (Int × Int)} {k : Nat} (h : k < ls.length) : costAt ls k = ls[k].1 := by simp [costAt, h]
theorem perAt_get {ls : List (Int × Int)} {k : Nat} (h : k < ls.length) : perAt ls k = ls[k].2 := by simp [perAt, h]
theorem ld_at {ls : List (Int × Int)} (h : ∀ x ∈ ls, LdOk x) {k : Nat} (hk : k < ls.length) : LdOk (costAt ls k, perAt ls k) := by
 rw [costAt_get hk, perAt_get hk]; exact h _ (List.getElem_mem hk)
theorem ahead_ok {ls : List (Int × Int)} (h : ∀ x ∈ ls, LdOk x) (k : Nat) : ∀ n, n ≤ ls.length → ∀ x ∈ aheadP ls k n, LdOk x
 | 0, _, x, hx => by cases hx
 | n + 1, hn, x, hx => by
  unfold aheadP at hx
  split at hx
  ·rcases List.mem_append.1 hx with hx | hx
   ·exact ahead_ok h k n (by omega) x hx
   ·rw [List.mem_singleton.1 hx]; exact ld_at h (by omega)
  ·exact ahead_ok h k n (by omega) x hx
theorem demand_bd {ls : List (Int × Int)} (h : ∀ x ∈ ls, LdOk x) (h8 : ls.length ≤ 8) {k : Nat} (hk : k < ls.length) {r : Int} (hr : 0 ≤ r) (hr2 : r ≤ 1000000) : 1 ≤ demandT ls k r ∧ demandT ls k r ≤ 9000000000000000 := by
 have h1 := within_bd (ahead_ok h k ls.length (Nat.le_refl _)) hr hr2
 have h2 := aheadP_len ls k ls.length
 have h3 := (ld_at h hk)
 obtain ⟨a, b, _, _⟩ := h3
 unfold demandT
 simp only at a b
 omega
def respAt (ls : List (Int × Int)) (l : List TK) (k : Nat) : Int := respT (demandT ls k) (l.getD k default).dl
def planAt (ls : List (Int × Int)) (l : List TK) (k : Nat) : List Value := [.int .i64 (costAt ls k), .int .i64 ((aheadP ls k ls.length).length : Int), .int .i64 (respAt ls l k)]
def plansTo (ls : List (Int × Int)) (l : List TK) : Nat → List Value
 | 0 => []
 | n + 1 => plansTo ls l n ++ planAt ls l n
theorem plansTo_len (ls : List (Int × Int)) (l : List TK) (n : Nat) : (plansTo ls l n).length = n * 3 := by
 induction n with
 | zero => rfl
 | succ n ih => rw [plansTo, List.length_append, ih]; simp [planAt]; omega
def lateP (ls : List (Int × Int)) (l : List TK) : Nat → Nat → Option Nat
 | 0, _ => none
 | n + 1, k => if respAt ls l k = 0 then some k else lateP ls l n (k + 1)
def admitT (ws : List RW) (l : List TK) : Int × Nat :=
 if l.length = 0 ∨ 8 < l.length then (1, 0) else
  match scanW ws l 0 with
  | some (e, k) => (e, k)
  | none => match lateP (loadsT ws l) l l.length 0 with
   | some k => (11, k)
   | none => (0, 0)
theorem pig : ∀ (n : Nat) (f : Nat → Nat), (∀ i, i < n → f i < n) → (∀ i k, i < n → k < n → f i = f k → i = k) → ∀ j, j < n → ∃ i, i < n ∧ f i = j
 | 0, _, _, _, j, hj => by omega
 | n + 1, f, hb, hi, j, hj => by
  by_cases hn : f n = n
  ·by_cases hjn : j = n
   ·exact ⟨n, by omega, by rw [hn, hjn]⟩
   ·obtain ⟨i, h1, h2⟩ := pig n f (fun i h => by
     have h1 := hb i (by omega)
     have : f i ≠ n := fun e => by have := hi i n (by omega) (by omega) (e.trans hn.symm); omega
     omega) (fun i k h1 h2 e => hi i k (by omega) (by omega) e) j (by omega)
    exact ⟨i, by omega, h2⟩
  ·have hfn : f n < n := by have := hb n (by omega); omega
   have key := pig n (fun i => if f i = n then f n else f i) (fun i h => by
     show (if f i = n then f n else f i) < n
     have := hb i (by omega)
     split <;> omega) (fun i k h1 h2 e => by
     have a1 := hi i n (by omega) (by omega)
     have a2 := hi k n (by omega) (by omega)
     have a3 := hi i k (by omega) (by omega)
     by_cases c1 : f i = n <;> by_cases c2 : f k = n
     ·exact a3 (c1.trans c2.symm)
     ·rw [if_pos c1, if_neg c2] at e; have := a2 e.symm; omega
     ·rw [if_neg c1, if_pos c2] at e; have := a1 e; omega
     ·rw [if_neg c1, if_neg c2] at e; exact a3 e)
   by_cases hj2 : j = f n
   ·exact ⟨n, by omega, hj2.symm⟩
   ·by_cases hjn : j = n
    ·obtain ⟨i, h1, h2⟩ := key (f n) hfn
     by_cases c : f i = n
     ·exact ⟨i, by omega, by omega⟩
     ·rw [if_neg c] at h2; have := hi i n (by omega) (by omega) h2; omega
    ·obtain ⟨i, h1, h2⟩ := key j (by omega)
     by_cases c : f i = n
     ·rw [if_pos c] at h2; exact absurd h2.symm hj2
     ·rw [if_neg c] at h2; exact ⟨i, by omega, h2⟩
section
variable {ls : List (Int × Int)} {i j k : Nat}
theorem goes_iff : goesP ls j k = true ↔ perAt ls j < perAt ls k ∨ (perAt ls j = perAt ls k ∧ j < k) := by
 unfold goesP
 simp only [Bool.or_eq_true, Bool.and_eq_true, decide_eq_true_eq]
theorem goes_irr : goesP ls j j = false := by
 cases h : goesP ls j j with
 | false => rfl
 | true => have := goes_iff.1 h; omega
theorem goes_trans (h : goesP ls i j = true) (h' : goesP ls j k = true) : goesP ls i k = true := by
 have a := goes_iff.1 h
 have b := goes_iff.1 h'
 exact goes_iff.2 (by omega)
theorem goes_total (h : j ≠ k) : goesP ls j k = true ∨ goesP ls k j = true := by
 rcases Int.lt_trichotomy (perAt ls j) (perAt ls k) with e | e | e
 ·exact Or.inl (goes_iff.2 (Or.inl e))
 ·rcases Nat.lt_or_gt_of_ne h with e' | e'
  ·exact Or.inl (goes_iff.2 (Or.inr ⟨e, e'⟩))
  ·exact Or.inr (goes_iff.2 (Or.inr ⟨e.symm, e'⟩))
 ·exact Or.inr (goes_iff.2 (Or.inl e))
theorem ahead_le (h : ∀ i, goesP ls i j = true → goesP ls i k = true) : ∀ n, (aheadP ls j n).length ≤ (aheadP ls k n).length
 | 0 => Nat.le_refl _
 | n + 1 => by
  have ih := ahead_le h n
  unfold aheadP
  by_cases hj : goesP ls n j = true
  ·rw [if_pos hj, if_pos (h n hj), List.length_append, List.length_append]; simp; exact ih
  ·rw [if_neg hj]
   by_cases hk : goesP ls n k = true
   ·rw [if_pos hk, List.length_append]; omega
   ·rw [if_neg hk]; exact ih
theorem ahead_lt (h : goesP ls j k = true) : ∀ n, j < n → (aheadP ls j n).length < (aheadP ls k n).length
 | 0, hn => by omega
 | n + 1, hn => by
  have h' : ∀ i, goesP ls i j = true → goesP ls i k = true := fun i hi => goes_trans hi h
  unfold aheadP
  by_cases e : j = n
  ·subst e
   have := ahead_le h' j
   rw [if_neg (by rw [goes_irr]; decide), if_pos h, List.length_append]; simp; omega
  ·have ih := ahead_lt h n (by omega)
   by_cases hj : goesP ls n j = true
   ·rw [if_pos hj, if_pos (h' n hj), List.length_append, List.length_append]; simp; exact ih
   ·rw [if_neg hj]
    by_cases hk : goesP ls n k = true
    ·rw [if_pos hk, List.length_append]; omega
    ·rw [if_neg hk]; exact ih
theorem ahead_room : ∀ n, k < n → (aheadP ls k n).length < n
 | 0, h => by omega
 | n + 1, h => by
  unfold aheadP
  by_cases e : k = n
  ·subst e
   have := aheadP_len ls k k
   rw [if_neg (by rw [goes_irr]; decide)]; omega
  ·have ih := ahead_room n (by omega)
   by_cases hk : goesP ls n k = true
   ·rw [if_pos hk, List.length_append]; simp; exact ih
   ·rw [if_neg hk]; omega
def rankP (ls : List (Int × Int)) (k : Nat) : Nat := (aheadP ls k ls.length).length
theorem rank_lt (h : k < ls.length) : rankP ls k < ls.length := ahead_room _ h
theorem rank_goes (hj : j < ls.length) (h : goesP ls j k = true) : rankP ls j < rankP ls k := ahead_lt h _ hj
theorem rank_inj (hj : j < ls.length) (hk : k < ls.length) (h : rankP ls j = rankP ls k) : j = k := Classical.byContradiction fun e => by
 rcases goes_total (ls := ls) e with g | g
 ·have := rank_goes hj g; omega
 ·have := rank_goes hk g; omega
theorem rank_onto {p : Nat} (h : p < ls.length) : ∃ k, k < ls.length ∧ rankP ls k = p := pig _ (rankP ls) (fun _ h => rank_lt h) (fun _ _ h h' e => rank_inj h h' e) p h
def holdP (ls : List (Int × Int)) (p : Nat) : Nat := ((List.range ls.length).find? fun k => rankP ls k == p).getD 0
def rksP (ls : List (Int × Int)) : List Nat := (List.range ls.length).map (holdP ls)
theorem hold_ok {p : Nat} (h : p < ls.length) : holdP ls p < ls.length ∧ rankP ls (holdP ls p) = p := by
 unfold holdP
 cases hf : (List.range ls.length).find? fun k => rankP ls k == p with
 | none =>
  obtain ⟨k, h1, h2⟩ := rank_onto h
  have := List.find?_eq_none.1 hf k (List.mem_range.2 h1)
  simp [h2] at this
 | some k =>
  have h1 := List.mem_range.1 (List.mem_of_find?_eq_some hf)
  have h2 := List.find?_some hf
  exact ⟨h1, by simpa using h2⟩
theorem hold_rank (h : k < ls.length) : holdP ls (rankP ls k) = k := by
 obtain ⟨a, b⟩ := hold_ok (rank_lt h)
 exact rank_inj a h b
theorem rks_at {p : Nat} (h : p < ls.length) : (rksP ls).getD p 0 = holdP ls p := by
 simp [rksP, h]
end
end Go.Proofs.YtcphhbofjkenaaaGreatDoor
namespace Go.Proofs.YtcphhbofjkenaaaGreatDoor
set_option maxRecDepth 100000
set_option maxHeartbeats 16000000
set_option linter.unusedVariables false
def relsN (due : Nat → Bool) (s : Nat) : Nat → Nat
 | 0 => 0
 | l + 1 => relsN due s l + (if due (s + l) = true then 1 else 0)
theorem relsN_add (due : Nat → Bool) (s a : Nat) : ∀ b, relsN due s (a + b) = relsN due s a + relsN due (s + a) b
 | 0 => by simp [relsN]
 | b + 1 => by
  rw [show a + (b + 1) = (a + b) + 1 by omega, relsN, relsN, relsN_add due s a b, show s + (a + b) = s + a + b by omega]
  omega
theorem relsN_one {due : Nat → Bool} {T : Nat} (h : ∀ x y, due x = true → due y = true → x < y → x + T ≤ y) (s : Nat) : ∀ l, l ≤ T → relsN due s l ≤ 1 ∧ (relsN due s l = 1 → ∃ x, s ≤ x ∧ x < s + l ∧ due x = true)
 | 0, _ => ⟨by simp [relsN], fun e => by simp [relsN] at e⟩
 | l + 1, hl => by
  obtain ⟨h1, h2⟩ := relsN_one h s l (by omega)
  unfold relsN
  by_cases hd : due (s + l) = true
  ·rw [if_pos hd]
   have h0 : relsN due s l = 0 := by
    rcases Nat.lt_or_ge (relsN due s l) 1 with e | e
    ·omega
    ·obtain ⟨x, x1, x2, x3⟩ := h2 (by omega)
     have := h x (s + l) x3 hd x2
     omega
   rw [h0]
   exact ⟨by omega, fun _ => ⟨s + l, by omega, by omega, hd⟩⟩
  ·rw [if_neg hd]
   refine ⟨by omega, fun e => ?_⟩
   obtain ⟨x, x1, x2, x3⟩ := h2 (by omega)
   exact ⟨x, x1, by omega, x3⟩
theorem relsN_most {due : Nat → Bool} {T : Nat} (hT : 1 ≤ T) (h : ∀ x y, due x = true → due y = true → x < y → x + T ≤ y) : ∀ (l s : Nat), relsN due s l ≤ (l + T - 1) / T := by
 intro l
 induction l using Nat.strongRecOn with
 | _ l ih =>
  intro s
  by_cases h0 : l = 0
  ·subst h0; simp [relsN]
  ·by_cases hl : l ≤ T
   ·have := (relsN_one h s l hl).1
    have h1 : 1 ≤ (l + T - 1) / T := (Nat.le_div_iff_mul_le (by omega)).2 (by omega)
    omega
   ·have e : l = T + (l - T) := by omega
    have h1 := (relsN_one h s T (Nat.le_refl _)).1
    have h2 := ih (l - T) (by omega) (s + T)
    have h3 : (l + T - 1) / T = (l - T + T - 1) / T + 1 := by
     rw [show l + T - 1 = (l - T + T - 1) + T by omega, Nat.add_div_right _ (by omega)]
    rw [e, relsN_add, ← e]
    omega
def sumRs (f : Nat → Nat) : List Nat → Nat
 | [] => 0
 | j :: r => f j + sumRs f r
theorem sumRs_le {f g : Nat → Nat} : ∀ {A : List Nat}, (∀ j ∈ A, f j ≤ g j) → sumRs f A ≤ sumRs g A
 | [], _ => Nat.le_refl _
 | j :: r, h => by
  have h1 := h j List.mem_cons_self
  have h2 := sumRs_le (A := r) (fun i hi => h i (List.mem_cons_of_mem _ hi))
  simp only [sumRs]; omega
theorem sumRs_lt {f g : Nat → Nat} : ∀ {A : List Nat} {i : Nat}, i ∈ A → (∀ j ∈ A, f j ≤ g j) → f i + 1 ≤ g i → sumRs f A + 1 ≤ sumRs g A
 | [], _, h, _, _ => by cases h
 | j :: r, i, hi, h, h' => by
  rcases List.mem_cons.1 hi with e | e
  ·subst e
   have h2 := sumRs_le (A := r) (fun k hk => h k (List.mem_cons_of_mem _ hk))
   simp only [sumRs]; omega
  ·have h1 := h j List.mem_cons_self
   have h2 := sumRs_lt (A := r) e (fun k hk => h k (List.mem_cons_of_mem _ hk)) h'
   simp only [sumRs]; omega
theorem sumRs_add (f g : Nat → Nat) : ∀ A : List Nat, sumRs (fun j => f j + g j) A = sumRs f A + sumRs g A
 | [] => rfl
 | j :: r => by simp only [sumRs, sumRs_add f g r]; omega
theorem sumRs_zero {f : Nat → Nat} : ∀ {A : List Nat}, (∀ j ∈ A, f j = 0) → sumRs f A = 0
 | [], _ => rfl
 | j :: r, h => by simp [sumRs, h j List.mem_cons_self, sumRs_zero (A := r) (fun i hi => h i (List.mem_cons_of_mem _ hi))]
structure TurnsR8 (C : Nat → Nat) (due : Nat → Nat → Bool) (goes : Nat → Nat → Prop) (n : Nat) (h : Nat) (pend q : Nat → Nat → Nat) (run : Nat → Option Nat) : Prop where
 zero : ∀ i, i < n → pend 0 i = 0
 rel : ∀ x i, x < h → i < n → q x i = if due i x = true then C i else pend x i
 who : ∀ x i, x < h → run x = some i → i < n ∧ 1 ≤ q x i ∧ ∀ j, j < n → goes j i → q x j = 0
 none : ∀ x, x < h → run x = none → ∀ j, j < n → q x j = 0
 step : ∀ x i, x < h → run x = some i → pend (x + 1) i + 1 ≤ q x i
 rest : ∀ x j, x < h → j < n → run x ≠ some j → pend (x + 1) j = q x j
theorem resp_abs {C T : Nat → Nat} {due : Nat → Nat → Bool} {goes : Nat → Nat → Prop} {n h : Nat} {pend q : Nat → Nat → Nat} {run : Nat → Option Nat}
  (H : TurnsR8 C due goes n h pend q run) (hC : ∀ i, i < n → 1 ≤ C i) (hT : ∀ i, i < n → 1 ≤ T i)
  (hd : ∀ i, i < n → ∀ x y, due i x = true → due i y = true → x < y → x + T i ≤ y)
  (tot : ∀ i j, i ≠ j → goes i j ∨ goes j i) (tr : ∀ i j k, goes i j → goes j k → goes i k)
  {k : Nat} (hk : k < n) {A : List Nat} (hA : ∀ j, j ∈ A ↔ j < n ∧ goes j k) (hkA : k ∉ A)
  {R : Nat} (hR : C k + sumRs (fun j => C j * ((R + T j - 1) / T j)) A ≤ R) (hRT : R ≤ T k)
  {r : Nat} (hr : due k r = true) (hh : r + R ≤ h) : ∃ y, r < y ∧ y ≤ r + R ∧ pend y k = 0 := by
 apply Classical.byContradiction
 intro hno
 have hp : ∀ y, r < y → y ≤ r + R → 1 ≤ pend y k := fun y h1 h2 => Classical.byContradiction fun e => hno ⟨y, h1, h2, by omega⟩
 -- the latest tick at which none that goes ahead is busy
 have hs : ∀ m, m ≤ r → ∃ s, s ≤ m ∧ (∀ j ∈ A, pend s j = 0) ∧ ∀ x, s < x → x ≤ m → ∃ j ∈ A, 1 ≤ pend x j := by
  intro m
  induction m with
  | zero => exact fun _ => ⟨0, Nat.le_refl _, fun j hj => H.zero j ((hA j).1 hj).1, fun x h1 h2 => by omega⟩
  | succ m ih =>
   intro hm
   by_cases hz : ∀ j ∈ A, pend (m + 1) j = 0
   ·exact ⟨m + 1, Nat.le_refl _, hz, fun x h1 h2 => by omega⟩
   ·obtain ⟨s, s1, s2, s3⟩ := ih (by omega)
    refine ⟨s, by omega, s2, fun x h1 h2 => ?_⟩
    rcases Nat.lt_or_ge m x with e | e
    ·obtain rfl : x = m + 1 := by omega
     apply Classical.byContradiction
     intro hc
     exact hz fun j hj => Classical.byContradiction fun e => hc ⟨j, hj, by omega⟩
    ·exact s3 x h1 e
 obtain ⟨s, s1, s2, s3⟩ := hs r (Nat.le_refl _)
 -- whose turn it is within the window
 have hbusy : ∀ x i, x < h → i < n → 1 ≤ q x i → ∃ j, run x = some j ∧ (j = i ∨ goes j i) := fun x i hx hi hq => by
  cases hrn : run x with
  | none => have := H.none x hx hrn i hi; omega
  | some j =>
   obtain ⟨w1, w2, w3⟩ := H.who x j hx hrn
   refine ⟨j, rfl, ?_⟩
   by_cases e : j = i
   ·exact Or.inl e
   ·rcases tot j i e with g | g
    ·exact Or.inr g
    ·have := w3 i hi g; omega
 have hle : ∀ x j, x < h → j < n → pend (x + 1) j ≤ q x j := fun x j hx hj => by
  by_cases e : run x = some j
  ·have := H.step x j hx e; omega
  ·have := H.rest x j hx hj e; omega
 have hqk : ∀ x, r ≤ x → x < r + R → 1 ≤ q x k := fun x h1 h2 => by
  rw [H.rel x k (by omega) hk]
  by_cases e : due k x = true
  ·rw [if_pos e]; exact hC k hk
  ·rw [if_neg e]
   have : x ≠ r := fun e' => e (e' ▸ hr)
   exact hp x (by omega) (by omega)
 have hin : ∀ x, s ≤ x → x < s + R → ∃ j, run x = some j ∧ (j ∈ A ∨ (j = k ∧ r ≤ x)) := fun x h1 h2 => by
  by_cases hxr : x < r
  ·obtain ⟨j, j1, j2⟩ := s3 (x + 1) (by omega) (by omega)
   obtain ⟨hj, gj⟩ := (hA j).1 j1
   obtain ⟨i, i1, i2⟩ := hbusy x j (by omega) hj (by have := hle x j (by omega) hj; omega)
   refine ⟨i, i1, Or.inl ((hA i).2 ⟨(H.who x i (by omega) i1).1, ?_⟩)⟩
   rcases i2 with e | e
   ·rw [e]; exact gj
   ·exact tr i j k e gj
  ·obtain ⟨i, i1, i2⟩ := hbusy x k (by omega) hk (hqk x (by omega) (by omega))
   refine ⟨i, i1, ?_⟩
   rcases i2 with e | e
   ·exact Or.inr ⟨e, by omega⟩
   ·exact Or.inl ((hA i).2 ⟨(H.who x i (by omega) i1).1, e⟩)
 -- no release of it but the one
 have hone : ∀ x, r < x → x < r + R → due k x ≠ true := fun x h1 h2 e => by have := hd k hk r x hr e h1; omega
 -- the count
 have cnt : ∀ l, l ≤ R → l + sumRs (fun j => pend (s + l) j) A + (if r < s + l then pend (s + l) k else 0) ≤ sumRs (fun j => C j * relsN (due j) s l) A + (if r < s + l then C k else 0) := by
  intro l
  induction l with
  | zero =>
   intro _
   rw [sumRs_zero (f := fun j => pend (s + 0) j) (fun j hj => s2 j hj), if_neg (by omega), if_neg (by omega)]
   omega
  | succ l ih =>
   intro hl
   have ih := ih (by omega)
   obtain ⟨i, i1, i2⟩ := hin (s + l) (by omega) (by omega)
   have hx : s + l < h := by omega
   have ge : ∀ j ∈ A, pend (s + l + 1) j ≤ pend (s + l) j + C j * (if due j (s + l) = true then 1 else 0) := fun j hj => by
    have hjn := ((hA j).1 hj).1
    have a := hle (s + l) j hx hjn
    rw [H.rel (s + l) j hx hjn] at a
    split at a <;> rename_i e
    ·rw [if_pos e]; omega
    ·rw [if_neg e]; omega
   have es : sumRs (fun j => C j * relsN (due j) s (l + 1)) A = sumRs (fun j => C j * relsN (due j) s l) A + sumRs (fun j => C j * (if due j (s + l) = true then 1 else 0)) A := by
    rw [← sumRs_add]
    congr 1
    funext j
    rw [relsN, Nat.mul_add]
   have eq : sumRs (fun j => pend (s + l) j + C j * (if due j (s + l) = true then 1 else 0)) A = sumRs (fun j => pend (s + l) j) A + sumRs (fun j => C j * (if due j (s + l) = true then 1 else 0)) A := sumRs_add _ _ _
   have gA : sumRs (fun j => pend (s + l + 1) j) A ≤ sumRs (fun j => pend (s + l) j + C j * (if due j (s + l) = true then 1 else 0)) A := sumRs_le ge
   rw [eq] at gA
   rw [es, show s + (l + 1) = s + l + 1 by omega]
   rcases i2 with i2 | ⟨rfl, i2⟩
   ·have gA1 : sumRs (fun j => pend (s + l + 1) j) A + 1 ≤ sumRs (fun j => pend (s + l) j + C j * (if due j (s + l) = true then 1 else 0)) A := sumRs_lt i2 ge (by
     have hin' := ((hA i).1 i2).1
     have a := H.step (s + l) i hx i1
     rw [H.rel (s + l) i hx hin'] at a
     split at a <;> rename_i e
     ·rw [if_pos e]; omega
     ·rw [if_neg e]; omega)
    rw [eq] at gA1
    have hki : run (s + l) ≠ some k := fun e => by
     rw [i1] at e
     injection e with e
     exact hkA (e ▸ i2)
    have hpk := H.rest (s + l) k hx hk hki
    rw [H.rel (s + l) k hx hk] at hpk
    by_cases c1 : r < s + l
    ·rw [if_neg (hone _ c1 (by omega))] at hpk
     rw [if_pos c1, if_pos c1] at ih
     rw [if_pos (by omega), if_pos (by omega)]
     omega
    ·rw [if_neg c1, if_neg c1] at ih
     by_cases c2 : r < s + l + 1
     ·have : s + l = r := by omega
      rw [if_pos (by rw [this]; exact hr)] at hpk
      rw [if_pos c2, if_pos c2]
      omega
     ·rw [if_neg c2, if_neg c2]; omega
   ·have a := H.step (s + l) i hx i1
    rw [H.rel (s + l) i hx hk] at a
    by_cases c1 : r < s + l
    ·rw [if_neg (hone _ c1 (by omega))] at a
     rw [if_pos c1, if_pos c1] at ih
     rw [if_pos (by omega), if_pos (by omega)]
     omega
    ·have : s + l = r := by omega
     rw [if_pos (by rw [this]; exact hr)] at a
     rw [if_neg c1, if_neg c1] at ih
     rw [if_pos (by omega), if_pos (by omega)]
     omega
 have fin := cnt R (Nat.le_refl _)
 have hmost : sumRs (fun j => C j * relsN (due j) s R) A ≤ sumRs (fun j => C j * ((R + T j - 1) / T j)) A := sumRs_le fun j hj => by
  have hjn := ((hA j).1 hj).1
  exact Nat.mul_le_mul_left _ (relsN_most (hT j hjn) (hd j hjn) R s)
 have hCk := hC k hk
 by_cases c : r < s + R
 ·rw [if_pos c, if_pos c] at fin
  have := hp (s + R) c (by omega)
  omega
 ·rw [if_neg c, if_neg c] at fin
  omega
end Go.Proofs.YtcphhbofjkenaaaGreatDoor
namespace Go.Proofs.YtcphhbofjkenaaaGreatDoor
set_option maxRecDepth 100000
set_option maxHeartbeats 16000000
open Go Go.RowKit
set_option linter.unusedVariables false
set_option linter.unusedSimpArgs false
theorem fits_no {t : TK} (h : ¬ (1 ≤ t.per ∧ t.per ≤ 1000000 ∧ 1 ≤ t.dl ∧ t.dl ≤ t.per ∧ 0 ≤ t.off ∧ t.off ≤ 1000000)) : decide t.Fits = false := decide_eq_false h
theorem rates_fits (t : TK) (w : World) :
  Calls Tryz.prog 81 #[t.val] w fun e w' => e = .returned (.bool (decide t.Fits)) ∧ Below w.heap.size w w' := by
 obtain ⟨s, p, d, o⟩ := t
 obtain ⟨R, hR⟩ : ∃ R, R = decide (TK.mk s p d o).Fits := ⟨_, rfl⟩
 rw [← hR]
 have hb : ∀ ob : Obj, Below w.heap.size w (w.alloc ob) := fun ob => (Below.refl _ _).alloc (Nat.le_refl _) _
 have HB := hidden hb
 clear hb
 by_cases h1 : 1 ≤ p
 ·by_cases h2 : p ≤ 1000000
  ·by_cases h3 : 1 ≤ d
   ·by_cases h4 : d ≤ p
    ·by_cases h5 : 0 ≤ o
     ·by_cases h6 : o ≤ 1000000
      ·have HR : Hid (R = true) := by show R = true; rw [hR]; exact decide_eq_true ⟨h1, h2, h3, h4, h5, h6⟩
       clear hR
       unfold TK.val
       go_enter Tryz.func81, Tryz.ntmps81
       go_wp2_with fail
       rw [HR.out]
       go_ret
       exact ⟨rfl, HB.out _⟩
      ·have HR : Hid (R = false) := by show R = false; rw [hR]; exact fits_no (fun h => h6 h.2.2.2.2.2)
       clear hR
       unfold TK.val
       go_enter Tryz.func81, Tryz.ntmps81
       go_wp2_with fail
       rw [HR.out]
       go_ret
       exact ⟨rfl, HB.out _⟩
     ·have HR : Hid (R = false) := by show R = false; rw [hR]; exact fits_no (fun h => h5 h.2.2.2.2.1)
      clear hR
      unfold TK.val
      go_enter Tryz.func81, Tryz.ntmps81
      go_wp2_with fail
      rw [HR.out]
      go_ret
      exact ⟨rfl, HB.out _⟩
    ·have HR : Hid (R = false) := by show R = false; rw [hR]; exact fits_no (fun h => h4 h.2.2.2.1)
     clear hR
     unfold TK.val
     go_enter Tryz.func81, Tryz.ntmps81
     go_wp2_with fail
     rw [HR.out]
     go_ret
     exact ⟨rfl, HB.out _⟩
   ·have HR : Hid (R = false) := by show R = false; rw [hR]; exact fits_no (fun h => h3 h.2.2.1)
    clear hR
    unfold TK.val
    go_enter Tryz.func81, Tryz.ntmps81
    go_wp2_with fail
    rw [HR.out]
    go_ret
    exact ⟨rfl, HB.out _⟩
  ·have HR : Hid (R = false) := by show R = false; rw [hR]; exact fits_no (fun h => h2 h.2.1)
   clear hR
   unfold TK.val
   go_enter Tryz.func81, Tryz.ntmps81
   go_wp2_with fail
   rw [HR.out]
   go_ret
   exact ⟨rfl, HB.out _⟩
 ·have HR : Hid (R = false) := by show R = false; rw [hR]; exact fits_no (fun h => h1 h.1)
  clear hR
  unfold TK.val
  go_enter Tryz.func81, Tryz.ntmps81
  go_wp2_with fail
  rw [HR.out]
  go_ret
  exact ⟨rfl, HB.out _⟩
theorem ret2 {a b a' b' : Int} (h : a = a') (h' : b = b') : Ending.returned (.tuple #[.int .i64 a, .int .i64 b]) = .returned (.tuple #[.int .i64 a', .int .i64 b']) := by rw [h, h']
def priceT (ws : List RW) (t : TK) : Int := if wrongT ws t = 0 then (findI ws t.word).1.steps else 0
theorem rates_price {w : World} {bb : Nat} {ev cv : Value} {es : List PE} {nv nt : Int} {code : List Int} {ws : List RW} (t : TK) (h : PSys w bb ev cv es nv nt code) (hl : es.length ≤ 1000) (hA : Alike es ws) :
  Calls Tryz.prog 53 #[.pointer (some ⟨bb, 0, none⟩), t.val] w fun e w' => e = .returned (.tuple #[.int .i64 (priceT ws t), .int .i64 (wrongT ws t)]) ∧ Below w.heap.size w w' := by
 have hff : ∀ w' : World, Below w.heap.size w w' → Calls Tryz.prog 18 #[.pointer (some ⟨bb, 0, none⟩), .string t.word] w' fun e w2 => e = .returned (.tuple #[(findI ws t.word).1.val, .int .i64 (findI ws t.word).2]) ∧ Below w'.heap.size w' w2 := fun w' hb => by
  have := forth_find t.word (h.below hb) hl
  rw [find_eq hA t.word] at this
  exact this
 obtain ⟨P, hP⟩ : ∃ P, P = priceT ws t := ⟨_, rfl⟩
 obtain ⟨E, hE⟩ : ∃ E, E = wrongT ws t := ⟨_, rfl⟩
 have hP2 := hP
 unfold priceT at hP2
 rw [← hE] at hP2
 have hE2 := hE
 unfold wrongT at hE2
 rw [← hP, ← hE]
 obtain ⟨⟨⟨b1, b2, b3, b4, b5⟩, f⟩, hF⟩ : ∃ F, F = findI ws t.word := ⟨_, rfl⟩
 rw [← hF] at hff hP2 hE2
 simp only [Inf.val] at hff hP2 hE2
 have hbb := h.blk.lt
 have HF := hidden hff; have HFT := hidden (fun w' => rates_fits t w')
 have HP2 := hidden hP2; have HE2 := hidden hE2
 clear h hff hP hE hP2 hE2 hF
 obtain ⟨s, p, d, o⟩ := t
 simp only at HF
 obtain ⟨B, hB⟩ : ∃ B, B = decide (TK.mk s p d o).Fits := ⟨_, rfl⟩
 rw [← hB] at HFT
 have HBB := hidden hB
 clear hB
 unfold TK.val at HFT ⊢
 simp only at HFT ⊢
 have hb0 : Below w.heap.size w (w.alloc (.cells #[.string s, .int .i64 p, .int .i64 d, .int .i64 o] 67 (0, 0))) := (Below.refl _ _).alloc (Nat.le_refl _) _
 obtain ⟨X, hX⟩ : ∃ X : World, X = w.alloc (.cells #[.string s, .int .i64 p, .int .i64 d, .int .i64 o] 67 (0, 0)) := ⟨_, rfl⟩
 obtain ⟨tb, htb⟩ : ∃ tb, tb = w.heap.size := ⟨_, rfl⟩
 have hkX : Blk X tb #[.string s, .int .i64 p, .int .i64 d, .int .i64 o] 67 := by rw [hX, htb]; exact blk_new w _ _
 rw [← hX] at hb0
 have HX := hidden hX; have HTB := hidden htb; have HB0 := hidden hb0; have HKX := hidden hkX
 have x0 : X.cell? ⟨tb, 0, none⟩ = some (.string s) := hkX.cell 0 _ rfl
 clear hX htb hb0 hkX
 go_enter Tryz.func53, Tryz.ntmps53
 go_upto_region 1 with fail
 rw [← HX.out, ← HTB.out]
 go_wp2_with fail
 refine (HF.out _ HB0.out).mono ?_
 rintro e w1 ⟨rfl, hb1⟩
 obtain ⟨Y, hY⟩ : ∃ Y : World, Y = w1.alloc (.cells #[.int .i64 b1, .int .i64 b2, .int .i64 b3, .int .i64 b4, .bool b5] 36 (0, 0)) := ⟨_, rfl⟩
 obtain ⟨ib, hib⟩ : ∃ ib, ib = w1.heap.size := ⟨_, rfl⟩
 have hbY : Below X.heap.size X Y := by rw [hY]; exact hb1.alloc hb1.size _
 have hkY : Blk Y ib #[.int .i64 b1, .int .i64 b2, .int .i64 b3, .int .i64 b4, .bool b5] 36 := by rw [hY, hib]; exact blk_new w1 _ _
 have hktY := HKX.out.sub hbY HKX.out.lt
 have y0 : Y.cell? ⟨tb, 0, none⟩ = some (.string s) := hktY.cell 0 _ rfl
 have y1 : Y.cell? ⟨tb, 1, none⟩ = some (.int .i64 p) := hktY.cell 1 _ rfl
 have y2 : Y.cell? ⟨tb, 2, none⟩ = some (.int .i64 d) := hktY.cell 2 _ rfl
 have y3 : Y.cell? ⟨tb, 3, none⟩ = some (.int .i64 o) := hktY.cell 3 _ rfl
 have HY := hidden hY; have HIB := hidden hib; have HBY := hidden (HB0.out.trans (hbY.mono HB0.out.size)); have HKY := hidden hkY
 clear hY hib hbY hkY hktY hb1 HF x0
 go_upto_region 2 with fail
 rw [← HY.out, ← HIB.out]
 by_cases hf0 : f = 0
 ·have hfn : (f != 0) = false := by simp [hf0]
  have hE := HE2.out
  rw [if_neg (by simp [hf0])] at hE
  have HE3 := hidden hE
  clear hE
  go_wp2_with fail
  refine (HFT.out _).mono ?_
  rintro e w2 ⟨rfl, hb2⟩
  have hk2 := HKY.out.sub hb2 HKY.out.lt
  have z0 : w2.cell? ⟨ib, 0, none⟩ = some (.int .i64 b1) := hk2.cell 0 _ rfl
  have z2 : w2.cell? ⟨ib, 2, none⟩ = some (.int .i64 b3) := hk2.cell 2 _ rfl
  have z3 : w2.cell? ⟨ib, 3, none⟩ = some (.int .i64 b4) := hk2.cell 3 _ rfl
  have HB2 := hidden (HBY.out.trans (hb2.mono HBY.out.size))
  clear hb2 hk2 y0 y1 y2 y3
  cases B with
  | false =>
   have hE := HE3.out
   rw [if_pos (by have := HBB.out.symm; exact of_decide_eq_false this)] at hE
   have HE4 : Hid (P = 0 ∧ E = 9) := ⟨by have := HP2.out; rw [if_neg (by rw [hE]; decide)] at this; exact this, hE⟩
   clear hE
   go_wp2_with fail
   exact bodyPost_ret (v := .tuple #[.int .i64 0, .int .i64 9]) (by simp [results, Tryz.results53, go_sem]) rfl ⟨ret2 HE4.out.1.symm HE4.out.2.symm, HB2.out⟩
  | true =>
   have hE := HE3.out
   rw [if_neg (by have := of_decide_eq_true HBB.out.symm; exact fun h => h this)] at hE
   by_cases hn : 0 < b1
   ·rw [if_pos (Or.inl hn)] at hE
    have HE4 : Hid (P = 0 ∧ E = 10) := ⟨by have := HP2.out; rw [if_neg (by rw [hE]; decide)] at this; exact this, hE⟩
    clear hE
    go_wp2_with fail
    exact bodyPost_ret (v := .tuple #[.int .i64 0, .int .i64 10]) (by simp [results, Tryz.results53, go_sem]) rfl ⟨ret2 HE4.out.1.symm HE4.out.2.symm, HB2.out⟩
   ·by_cases hh : 32 < b3
    ·rw [if_pos (Or.inr hh)] at hE
     have HE4 : Hid (P = 0 ∧ E = 10) := ⟨by have := HP2.out; rw [if_neg (by rw [hE]; decide)] at this; exact this, hE⟩
     clear hE
     go_wp2_with fail
     exact bodyPost_ret (v := .tuple #[.int .i64 0, .int .i64 10]) (by simp [results, Tryz.results53, go_sem]) rfl ⟨ret2 HE4.out.1.symm HE4.out.2.symm, HB2.out⟩
    ·rw [if_neg (fun e => e.elim hn hh)] at hE
     have HE4 : Hid (P = b4 ∧ E = 0) := ⟨by have := HP2.out; rw [if_pos hE] at this; exact this, hE⟩
     clear hE
     go_wp2_with fail
     exact bodyPost_ret (v := .tuple #[.int .i64 b4, .int .i64 0]) (by simp [results, Tryz.results53, go_sem]) rfl ⟨ret2 HE4.out.1.symm HE4.out.2.symm, HB2.out⟩
 ·have hfn : (f != 0) = true := by simp [hf0]
  have hE := HE2.out
  rw [if_pos hf0] at hE
  have HE4 : Hid (P = 0 ∧ E = f) := ⟨by have := HP2.out; rw [if_neg (by rw [hE]; exact hf0)] at this; exact this, hE⟩
  clear hE
  go_wp2_with fail
  exact bodyPost_ret (v := .tuple #[.int .i64 0, .int .i64 f]) (by simp [results, Tryz.results53, go_sem]) rfl ⟨ret2 HE4.out.1.symm HE4.out.2.symm, HBY.out⟩
theorem wrap_id (n : Int) (h : -9223372036854775808 ≤ n ∧ n ≤ 9223372036854775807) : wrap64 n = n := by unfold wrap64; omega
def ldC (x : Int × Int) : List Value := [.int .i64 x.1, .int .i64 x.2]
theorem rates_within {base : Nat} (r : Int) (ls : List (Int × Int)) (v : Value) (w : World) (hr : w.ownsRow base 128 2 v ls.length (ls.flatMap ldC)) (hok : ∀ x ∈ ls, LdOk x) (h8 : ls.length ≤ 8) (h0 : 0 ≤ r) (h1 : r ≤ 1000000) :
  Calls Tryz.prog 82 #[.int .i64 r, v] w fun e w' => e = .returned (.int .i64 (within r ls)) ∧ Below w.heap.size w w' := by
 obtain ⟨va, vc, hv, hvc, _⟩ := row_shape hr
 subst hv
 obtain ⟨R, hR⟩ : ∃ R, R = within r ls := ⟨_, rfl⟩
 rw [← hR]
 have HR := hidden hR; have HRW := hidden hr; have HOK := hidden hok
 obtain ⟨N, hN⟩ : ∃ N, N = ls.length := ⟨_, rfl⟩
 rw [← hN] at h8 hvc
 have HN := hidden hN
 rw [← hN]
 clear hR hr hok hN
 go_enter Tryz.func82, Tryz.ntmps82
 go_wp2_with fail
 go_loopw [5, 11] (fun s i wr => ∃ k : Nat, k ≤ N ∧ i = .int .i64 k ∧ s = .int .i64 (within r (ls.take k)) ∧ Hid (Below w.heap.size w wr)) (fun _ i _ => N - (intOf i).toNat)
 case atStart => exact ⟨0, Nat.zero_le _, rfl, rfl, Below.refl _ _⟩
 case round =>
  obtain ⟨k, hk, rfl, rfl, HB⟩ := hrel
  by_cases hlt : k < N
  ·have hli : (k : Int) < (N : Int) := by omega
   have hl0 : (0 : Int) ≤ (k : Int) := by omega
   have hkl : k < ls.length := by rw [← HN.out]; exact hlt
   obtain ⟨g, cap', hv, _, hg, _, _, hc⟩ := row_cells HRW.out (by omega)
   obtain ⟨rfl, rfl⟩ : va = some ⟨g, 0, none⟩ ∧ vc = cap' := by simpa using hv
   obtain ⟨⟨c, p⟩, hx⟩ : ∃ x, x = ls[k] := ⟨_, rfl⟩
   have e0 : wr.cell? ⟨g, k * 2, none⟩ = some (.int .i64 c) := by
    rw [HB.out.cell (p := ⟨g, k * 2, none⟩) hg]
    refine hc _ _ ?_
    have := flat_get ldC 2 (fun _ => rfl) ls k 0 hkl (by omega)
    rw [Nat.add_zero] at this
    rw [this, ← hx]; rfl
   have e1 : wr.cell? ⟨g, k * 2 + 1, none⟩ = some (.int .i64 p) := by
    rw [HB.out.cell (p := ⟨g, k * 2 + 1, none⟩) hg]
    refine hc _ _ ?_
    rw [flat_get ldC 2 (fun _ => rfl) ls k 1 hkl (by omega), ← hx]; rfl
   have hokx := HOK.out _ (List.getElem_mem hkl)
   rw [← hx] at hokx
   have hob := one_bd hokx h0 h1
   obtain ⟨o1, o2, o3, o4⟩ := hokx
   simp only at o1 o2 o3 o4 hob
   have hrb := rel_bd o3 h0 h1
   have hwb := within_bd (l := ls.take k) (fun x hx => HOK.out x (List.mem_of_mem_take hx)) h0 h1
   have hwl : ((ls.take k).length : Int) ≤ 8 := by rw [List.length_take]; omega
   have hws := within_take r ls k hkl
   rw [← hx] at hws
   simp only at hws
   obtain ⟨S, hS⟩ : ∃ S, S = within r (ls.take k) := ⟨_, rfl⟩
   rw [← hS] at hws hwb ⊢
   have hS0 : 0 ≤ S := hwb.1
   have hS1 : S ≤ 8000000000000000 := by have := hwb.2; omega
   obtain ⟨q, hq⟩ : ∃ q, q = (r + p - 1) / p := ⟨_, rfl⟩
   rw [← hq] at hob hrb hws
   have HWS := hidden hws; have HQE := hidden hq.symm
   obtain ⟨M, hM⟩ : ∃ M, M = c * q := ⟨_, rfl⟩
   rw [← hM] at hob
   obtain ⟨hM0, hM1⟩ := hob
   have HM := hidden hM
   have hp0 : p ≠ 0 := by omega
   clear hws hq hwb hwl hS hc hv hx hM
   go_wp2_with fail
   go_roundw
   case rel =>
    refine ⟨k + 1, by omega, by go_num, ?_, hidden (HB.out.alloc HB.out.size _)⟩
    rw [HWS.out, HQE.out, ← HM.out, wrap_id M (by omega), wrap_id (S + M) (by omega)]
   case measure => simp [intOf]; omega
  ·have hli : ¬ (k : Int) < (N : Int) := by omega
   have hkN : k = ls.length := by rw [← HN.out]; omega
   have HK := hidden hkN
   clear hkN
   go_wp2_with fail
   rw [HK.out, List.take_length, ← HR.out]
   go_ret
   exact ⟨rfl, HB.out⟩
theorem ret_ib {a a' : Int} {b b' : Bool} (h : a = a') (h' : b = b') : Ending.returned (.tuple #[.int .i64 a, .bool b]) = .returned (.tuple #[.int .i64 a', .bool b']) := by rw [h, h']
theorem resp_step {D : Int → Int} {dl r : Int} {f : Nat} (hm : ∀ a b, a ≤ b → D a ≤ D b) (hf : dl - r < f) (hr : r ≤ D r) (hle : r ≤ dl) (hne : D r ≠ r) :
  ∃ f', f = f' + 1 ∧ respG D dl f r = respG D dl f' (D r) ∧ dl - D r < f' ∧ D r ≤ D (D r) ∧ r < D r := by
 obtain ⟨f', rfl⟩ : ∃ f', f = f' + 1 := ⟨f - 1, by omega⟩
 refine ⟨f', rfl, ?_, by omega, hm _ _ hr, by omega⟩
 rw [respG, if_pos hle, if_neg hne]
theorem rates_respond {base : Nat} (c dl : Int) (ls : List (Int × Int)) (v : Value) (w : World) (hr : w.ownsRow base 128 2 v ls.length (ls.flatMap ldC)) (hok : ∀ x ∈ ls, LdOk x) (h8 : ls.length ≤ 8) (hc1 : 1 ≤ c) (hc2 : c ≤ 1000000000) (hd1 : 1 ≤ dl) (hd2 : dl ≤ 1000000) :
  Calls Tryz.prog 55 #[.int .i64 c, v, .int .i64 dl] w fun e w' => e = .returned (.tuple #[.int .i64 (respT (fun r => c + within r ls) dl), .bool (decide (respT (fun r => c + within r ls) dl ≠ 0))]) ∧ Below w.heap.size w w' := by
 obtain ⟨va, vc, hv, hvc, _⟩ := row_shape hr
 subst hv
 obtain ⟨D, hD⟩ : ∃ D : Int → Int, D = fun r => c + within r ls := ⟨_, rfl⟩
 have hDr : ∀ r, D r = c + within r ls := fun r => by rw [hD]
 have hmono : ∀ a b, a ≤ b → D a ≤ D b := fun a b h => by have := within_mono hok h; rw [hDr, hDr]; omega
 have hbd : ∀ r, 0 ≤ r → r ≤ 1000000 → 1 ≤ D r ∧ D r ≤ 9000000000000000 := fun r a b => by have := within_bd hok a b; rw [hDr]; omega
 rw [← hD]
 obtain ⟨R, hR⟩ : ∃ R, R = respT D dl := ⟨_, rfl⟩
 rw [← hR]
 have HW := hidden (fun (r : Int) (w' : World) (hb : Below w.heap.size w w') (a : 0 ≤ r) (b : r ≤ 1000000) => rates_within r ls _ w' (ownsRow_chg hr (Chg.ofBelow (S := fun _ => False) hb) (fun _ _ => id)) hok h8 a b)
 have HDR := hidden hDr; have HMO := hidden hmono; have HBD := hidden hbd; have HR := hidden hR
 obtain ⟨N, hN⟩ : ∃ N, N = ls.length := ⟨_, rfl⟩
 rw [← hN] at HW ⊢
 clear hD hDr hmono hbd hR hr hok h8 hvc hN
 go_enter Tryz.func55, Tryz.ntmps55
 go_wp2_with fail
 go_loopw [8] (fun i wr => ∃ (r : Int) (f : Nat), i = .int .i64 r ∧ 1 ≤ r ∧ r ≤ 9000000000000000 ∧ Hid (R = respG D dl f r ∧ dl - r < f ∧ r ≤ D r) ∧ Hid (Below w.heap.size w wr)) (fun i _ => (dl + 1 - intOf i).toNat)
 case atStart =>
  exact ⟨1, dl.toNat + 1, rfl, by omega, by omega, hidden ⟨HR.out, by omega, (HBD.out 1 (by omega) (by omega)).1⟩, Below.refl _ _⟩
 case round =>
  clear HR
  obtain ⟨r, f, rfl, h1, h2, HF, HB⟩ := hrel
  by_cases hle : r ≤ dl
  ·have HWR := hidden (HW.out r wr HB.out (by omega) (by omega))
   obtain ⟨x, hx⟩ : ∃ x, x = within r ls := ⟨_, rfl⟩
   rw [← hx] at HWR
   have hDx := HDR.out r
   rw [← hx] at hDx
   have hbd := HBD.out r (by omega) (by omega)
   have hb1 : 1 ≤ c + x := by omega
   have hb2 : c + x ≤ 9000000000000000 := by omega
   have HDX := hidden hDx
   clear hDx hx hbd
   go_wp2_with fail
   refine HWR.out.mono ?_
   rintro e w2 ⟨rfl, hb⟩
   have HB2 := hidden (HB.out.trans (hb.mono HB.out.size))
   clear hb HWR
   by_cases he : c + x = r
   ·have hfin : Hid (R = r) := by
     show R = r
     obtain ⟨a, b, _⟩ := HF.out
     obtain ⟨f', rfl⟩ : ∃ f', f = f' + 1 := ⟨f - 1, by omega⟩
     rw [a, respG, if_pos hle, if_pos (by rw [HDX.out]; exact he)]
    have he' : (c + x == r) = true := by simp [he]
    have HE := hidden he
    clear he
    go_wp2_with fail
    exact bodyPost_ret (v := .tuple #[.int .i64 r, .bool true]) (by simp [results, Tryz.results55, go_sem]) rfl ⟨ret_ib hfin.out.symm (by rw [hfin.out]; exact (decide_eq_true (by omega)).symm), HB2.out⟩
   ·have he' : (c + x == r) = false := by simp [he]
    obtain ⟨a, b, cc⟩ := HF.out
    have hst := resp_step HMO.out b cc hle (by rw [HDX.out]; exact he)
    rw [HDX.out] at hst
    have HST := hidden hst; have HA := hidden a
    clear hst a b cc HF
    go_wp2_with fail
    go_roundw
    case rel =>
     obtain ⟨f', rfl, s1, s2, s3, s4⟩ := HST.out
     exact ⟨c + x, f', rfl, hb1, hb2, hidden ⟨by rw [HA.out, s1], s2, s3⟩, HB2⟩
    case measure =>
     obtain ⟨f', rfl, s1, s2, s3, s4⟩ := HST.out
     simp [intOf]; omega
  ·have hfin : Hid (R = 0) := by
    show R = 0
    obtain ⟨a, b, _⟩ := HF.out
    rw [a]
    cases f with
    | zero => rfl
    | succ f => rw [respG, if_neg hle]
   clear HF
   go_wp2_with fail
   exact bodyPost_ret (v := .tuple #[.int .i64 0, .bool false]) (by simp [results, Tryz.results55, go_sem]) rfl ⟨ret_ib hfin.out.symm (by rw [hfin.out]; rfl), HB.out⟩
def ldz : Value := .agg #[.int .i64 0, .int .i64 0]
theorem Tryz.infoLd : (Tryz.prog.info? 128).map (fun i => (i.zero, i.size, i.bytes)) = some (some ldz, 2, 16) := by kernel_rfl
theorem ld_cells {w : World} {base g n cap : Nat} {ls : List (Int × Int)} (hr : w.ownsRow base 128 2 (.slice (some ⟨g, 0, none⟩) n cap) n (ls.flatMap ldC)) {k : Nat} (hk : k < ls.length) (hn : ls.length = n) :
  w.cell? ⟨g, k * 2, none⟩ = some (.int .i64 (costAt ls k)) ∧ w.cell? ⟨g, k * 2 + 1, none⟩ = some (.int .i64 (perAt ls k)) := by
 obtain ⟨g', cap', hv, _, hg, _, _, hc⟩ := row_cells hr (by omega)
 obtain ⟨rfl, rfl⟩ : g = g' ∧ cap = cap' := by simpa using hv
 constructor
 ·refine hc _ _ ?_
  have := flat_get ldC 2 (fun _ => rfl) ls k 0 hk (by omega)
  rw [Nat.add_zero] at this
  rw [this, costAt_get hk]; rfl
 ·refine hc _ _ ?_
  rw [flat_get ldC 2 (fun _ => rfl) ls k 1 hk (by omega), perAt_get hk]; rfl
theorem ldC_one (ls : List (Int × Int)) : ∀ u ∈ ls.flatMap ldC, u.oneCell' = true := by
 intro u hu
 obtain ⟨x, _, hu⟩ := List.mem_flatMap.1 hu
 simp [ldC] at hu
 rcases hu with rfl | rfl <;> rfl
theorem rates_ahead {base : Nat} (ls : List (Int × Int)) (g n cap K : Nat) (w : World) (hr : w.ownsRow base 128 2 (.slice (some ⟨g, 0, none⟩) n cap) n (ls.flatMap ldC)) (hn : ls.length = n) (h8 : n ≤ 8) (hK : K < n) :
  Calls Tryz.prog 54 #[.slice (some ⟨g, 0, none⟩) n cap, .int .i64 K] w fun e w' => ∃ ua uc, e = .returned (.slice ua (aheadP ls K n).length uc) ∧ w'.ownsRow w.heap.size 128 2 (.slice ua (aheadP ls K n).length uc) (aheadP ls K n).length ((aheadP ls K n).flatMap ldC) ∧ Below w.heap.size w w' := by
 obtain ⟨i0, hi, hz0, hz1, hz2⟩ := info_parts Tryz.infoLd
 have HI := hidden (And.intro hi (And.intro hz0 (And.intro hz1 hz2)))
 obtain ⟨g', cap', hv, _, hg, hcap, _, _⟩ := row_cells hr (by omega)
 obtain ⟨rfl, rfl⟩ : g = g' ∧ cap = cap' := by simpa using hv
 have HRW := hidden hr; have HN := hidden hn
 have HRB := hidden (fun (w' : World) (hb : Below w.heap.size w w') => ownsRow_chg hr (Chg.ofBelow (S := fun _ => False) hb) (fun _ _ => id))
 have hKi : (K : Int) < (n : Int) := by omega
 have hK0 : (0 : Int) ≤ (K : Int) := by omega
 obtain ⟨q, hq⟩ : ∃ q, q = perAt ls K := ⟨_, rfl⟩
 have HQ := hidden hq
 clear hr hn hv hi hz0 hz1 hz2 hq
 go_enter Tryz.func54, Tryz.ntmps54
 go_wp2_with fail
 go_loopw [5, 10] (fun s i wr => ∃ (k : Nat) (ua : Option Addr) (m uc : Nat), k ≤ n ∧ i = .int .i64 k ∧ s = .slice ua m uc ∧ Hid (m = (aheadP ls K k).length ∧ wr.ownsRow w.heap.size 128 2 (.slice ua m uc) m ((aheadP ls K k).flatMap ldC)) ∧ Hid (Below w.heap.size w wr)) (fun _ i _ => n - (intOf i).toNat)
 case atStart => exact ⟨0, none, 0, 0, Nat.zero_le _, rfl, rfl, hidden ⟨rfl, rfl, Or.inl ⟨rfl, rfl⟩⟩, Below.refl _ _⟩
 case round =>
  obtain ⟨k, ua, m, uc, hk, rfl, rfl, HU, HB⟩ := hrel
  by_cases hlt : k < n
  ·have hli : (k : Int) < (n : Int) := by omega
   have hl0 : (0 : Int) ≤ (k : Int) := by omega
   have hkl : k < ls.length := by rw [HN.out]; exact hlt
   have hKl : K < ls.length := by rw [HN.out]; exact hK
   obtain ⟨c, hc⟩ : ∃ c, c = costAt ls k := ⟨_, rfl⟩
   obtain ⟨p, hp⟩ : ∃ p, p = perAt ls k := ⟨_, rfl⟩
   have e0 := ld_cells (HRB.out wr HB.out) hkl HN.out
   rw [← hc, ← hp] at e0
   obtain ⟨e0, e1⟩ := e0
   obtain ⟨X, hX⟩ : ∃ X : World, X = wr.alloc (.cells #[.int .i64 c, .int .i64 p] 128 (0, 0)) := ⟨_, rfl⟩
   obtain ⟨lb, hlb⟩ : ∃ lb, lb = wr.heap.size := ⟨_, rfl⟩
   have hbX : Below w.heap.size w X := by rw [hX]; exact HB.out.alloc HB.out.size _
   have hkX : Blk X lb #[.int .i64 c, .int .i64 p] 128 := by rw [hX, hlb]; exact blk_new wr _ _
   have hrX : X.ownsRow w.heap.size 128 2 (.slice ua m uc) m ((aheadP ls K k).flatMap ldC) := by rw [hX]; exact HU.out.2.alloc _
   have x0 : X.cell? ⟨lb, 0, none⟩ = some (.int .i64 c) := hkX.cell 0 _ rfl
   have x1 : X.cell? ⟨lb, 1, none⟩ = some (.int .i64 p) := hkX.cell 1 _ rfl
   have f1 := (ld_cells (HRB.out X hbX) hKl HN.out).2
   rw [← HQ.out] at f1
   have hlbX := hkX.lt
   have hgX : g < X.heap.size := Nat.lt_of_lt_of_le hg hbX.size
   have HX := hidden hX; have HLB := hidden hlb; have HBX := hidden hbX; have HKX := hidden hkX; have HRX := hidden hrX; have HC := hidden hc; have HP := hidden hp; have HM := hidden HU.out.1
   have hml : m ≤ 8 := by have := HU.out.1; have := aheadP_len ls K k; omega
   clear hX hlb hbX hkX hrX hc hp HU
   go_upto_region 5 with fail
   rw [← HX.out, ← HLB.out]
   clear e0 e1
   have hgo : goesP ls k K = (decide (p < q) || (decide (p = q) && decide (k < K))) := by rw [goesP, HP.out, HQ.out]
   by_cases hyes : goesP ls k K = true
   ·have hstep : aheadP ls K (k + 1) = aheadP ls K k ++ [(c, p)] := by rw [aheadP, if_pos hyes, HC.out, HP.out]
    have HST := hidden hstep
    rw [hgo] at hyes
    have fin : ∀ V : World, Below X.heap.size X V → ∃ Z : World, True := fun V h => ⟨V, trivial⟩
    clear hstep hgo fin
    by_cases hpq : p < q
    ·have hd : decide (p < q) = true := decide_eq_true hpq
     clear hyes
     go_wp2_with fail
     go_quiet (fail)
     have hbq : Below X.heap.size X (X.drewN nq) := ⟨rfl, rfl, rfl, Nat.le_refl _, fun _ _ => rfl⟩
     obtain ⟨V, hV⟩ : ∃ V : World, V = X.drewN nq := ⟨_, rfl⟩
     rw [← hV] at hbq
     rw [← hV]
     have hkV := HKX.out.sub hbq HKX.out.lt
     have v0 : V.cell? ⟨lb, 0, none⟩ = some (.int .i64 c) := hkV.cell 0 _ rfl
     have v1 : V.cell? ⟨lb, 1, none⟩ = some (.int .i64 p) := hkV.cell 1 _ rfl
     have hrV := ownsRow_chg HRX.out (Chg.ofBelow (S := fun _ => False) hbq) (fun _ _ => id)
     have hbV := HBX.out.trans (hbq.mono HBX.out.size)
     have HRV := hidden (hrV.alloc (.cells #[.int .i64 c, .int .i64 p] 128 (0, 0))); have HBV := hidden hbV
     have HNW := hidden (newsA V #[.int .i64 c, .int .i64 p] 128)
     have HSZ := hidden (show w.heap.size ≤ (V.alloc (.cells #[.int .i64 c, .int .i64 p] 128 (0, 0))).heap.size by have := hbV.size; simp; omega)
     have HON := hidden (ldC_one [(c, p)])
     have HQ1 := hidden (And.intro (show m + 1 ≤ maxLen by unfold maxLen; omega) (show (m + 1) * 16 ≤ 140737488355328 by omega))
     have HHS := hidden (show (V.alloc (.cells #[.int .i64 c, .int .i64 p] 128 (0, 0))).heap.size = V.heap.size + 1 by simp)
     have hlbV := hkV.lt
     clear hkV hrV hbV hbq hV x0 x1 f1
     go_wp2_with (at_builtin; refine wpList_append_lies _ rfl _ _ 125 rfl w.heap.size 128 i0 ldz 2 16 Tryz.underlying125 HI.out.1 HI.out.2.1 HI.out.2.2.1 HI.out.2.2.2 rfl (by decide) (.slice ua m uc) m ((aheadP ls K k).flatMap ldC) rfl HRV.out ⟨V.heap.size, 0, none⟩ 1 1 [.int .i64 c, .int .i64 p] rfl rfl HNW.out HON.out (by decide) HQ1.out.1 HQ1.out.2 HSZ.out (V.heap.size + 1) HHS.out ?_)
     intro g2 cap2 w2 hr2 hg2 hat2 hlt2
     have hb2 : Below w.heap.size w w2 := (HBV.out.alloc HBV.out.size _).grown hg2 HSZ.out (fun b hb => own_base HRV.out hb)
     have HR2 := hidden hr2; have HB2 := hidden hb2
     clear hr2 hg2 hat2 hlt2 hb2
     go_wp2_with fail
     go_roundw
     case rel =>
      refine ⟨k + 1, some ⟨g2, 0, none⟩, m + 1, cap2, by omega, by go_num, rfl, hidden ⟨?_, ?_⟩, HB2⟩
      ·rw [HST.out, List.length_append, ← HM.out]; rfl
      ·rw [HST.out, List.flatMap_append]; exact HR2.out
     case measure => simp [intOf]; omega
    ·have hd : decide (p < q) = false := decide_eq_false hpq
     rw [hd] at hyes
     have hpe : p = q := by have := hyes; simp at this; exact this.1
     have hkK : k < K := by have := hyes; simp at this; exact this.2
     have hd2 : (p == q) = true := by simp [hpe]
     have hkKi : (k : Int) < (K : Int) := by omega
     have hd3 : decide ((k : Int) < (K : Int)) = true := decide_eq_true hkKi
     have HPE := hidden hpe
     clear hyes hpe
     go_wp2_with fail
     go_quiet (fail)
     have hbq : Below X.heap.size X (X.drewN nq) := ⟨rfl, rfl, rfl, Nat.le_refl _, fun _ _ => rfl⟩
     obtain ⟨V, hV⟩ : ∃ V : World, V = X.drewN nq := ⟨_, rfl⟩
     rw [← hV] at hbq
     rw [← hV]
     have hkV := HKX.out.sub hbq HKX.out.lt
     have v0 : V.cell? ⟨lb, 0, none⟩ = some (.int .i64 c) := hkV.cell 0 _ rfl
     have v1 : V.cell? ⟨lb, 1, none⟩ = some (.int .i64 p) := hkV.cell 1 _ rfl
     have hrV := ownsRow_chg HRX.out (Chg.ofBelow (S := fun _ => False) hbq) (fun _ _ => id)
     have hbV := HBX.out.trans (hbq.mono HBX.out.size)
     have HRV := hidden (hrV.alloc (.cells #[.int .i64 c, .int .i64 p] 128 (0, 0))); have HBV := hidden hbV
     have HNW := hidden (newsA V #[.int .i64 c, .int .i64 p] 128)
     have HSZ := hidden (show w.heap.size ≤ (V.alloc (.cells #[.int .i64 c, .int .i64 p] 128 (0, 0))).heap.size by have := hbV.size; simp; omega)
     have HON := hidden (ldC_one [(c, p)])
     have HQ1 := hidden (And.intro (show m + 1 ≤ maxLen by unfold maxLen; omega) (show (m + 1) * 16 ≤ 140737488355328 by omega))
     have HHS := hidden (show (V.alloc (.cells #[.int .i64 c, .int .i64 p] 128 (0, 0))).heap.size = V.heap.size + 1 by simp)
     have hlbV := hkV.lt
     clear hkV hrV hbV hbq hV x0 x1 f1
     go_wp2_with (at_builtin; refine wpList_append_lies _ rfl _ _ 125 rfl w.heap.size 128 i0 ldz 2 16 Tryz.underlying125 HI.out.1 HI.out.2.1 HI.out.2.2.1 HI.out.2.2.2 rfl (by decide) (.slice ua m uc) m ((aheadP ls K k).flatMap ldC) rfl HRV.out ⟨V.heap.size, 0, none⟩ 1 1 [.int .i64 c, .int .i64 p] rfl rfl HNW.out HON.out (by decide) HQ1.out.1 HQ1.out.2 HSZ.out (V.heap.size + 1) HHS.out ?_)
     intro g2 cap2 w2 hr2 hg2 hat2 hlt2
     have hb2 : Below w.heap.size w w2 := (HBV.out.alloc HBV.out.size _).grown hg2 HSZ.out (fun b hb => own_base HRV.out hb)
     have HR2 := hidden hr2; have HB2 := hidden hb2
     clear hr2 hg2 hat2 hlt2 hb2
     go_wp2_with fail
     go_roundw
     case rel =>
      refine ⟨k + 1, some ⟨g2, 0, none⟩, m + 1, cap2, by omega, by go_num, rfl, hidden ⟨?_, ?_⟩, HB2⟩
      ·rw [HST.out, List.length_append, ← HM.out]; rfl
      ·rw [HST.out, List.flatMap_append]; exact HR2.out
     case measure => simp [intOf]; omega
   ·have hstep : aheadP ls K (k + 1) = aheadP ls K k := by rw [aheadP, if_neg hyes]
    have HST := hidden hstep
    rw [hgo] at hyes
    clear hstep hgo
    have hpq : ¬ p < q := fun h => hyes (by simp [h])
    have hd : decide (p < q) = false := decide_eq_false hpq
    by_cases hpe : p = q
    ·have hkK : ¬ k < K := fun h => hyes (by simp [h, hpe])
     have hd2 : (p == q) = true := by simp [hpe]
     have hkKi : ¬ (k : Int) < (K : Int) := by omega
     have hd3 : decide ((k : Int) < (K : Int)) = false := decide_eq_false hkKi
     have HPE := hidden hpe
     clear hyes hpe
     go_wp2_with fail
     go_quiet (fail)
     have hbq : Below X.heap.size X (X.drewN nq) := ⟨rfl, rfl, rfl, Nat.le_refl _, fun _ _ => rfl⟩
     have HRV := hidden (ownsRow_chg HRX.out (Chg.ofBelow (S := fun _ => False) hbq) (fun _ _ => id))
     have HBV := hidden (HBX.out.trans (hbq.mono HBX.out.size))
     clear hbq x0 x1 f1
     go_wp2_with fail
     go_roundw
     case rel => exact ⟨k + 1, ua, m, uc, by omega, by go_num, rfl, hidden ⟨by rw [HST.out, ← HM.out], by rw [HST.out]; exact HRV.out⟩, HBV⟩
     case measure => simp [intOf]; omega
    ·have hd2 : (p == q) = false := by simp [hpe]
     clear hyes
     go_wp2_with fail
     go_quiet (fail)
     have hbq : Below X.heap.size X (X.drewN nq) := ⟨rfl, rfl, rfl, Nat.le_refl _, fun _ _ => rfl⟩
     have HRV := hidden (ownsRow_chg HRX.out (Chg.ofBelow (S := fun _ => False) hbq) (fun _ _ => id))
     have HBV := hidden (HBX.out.trans (hbq.mono HBX.out.size))
     clear hbq x0 x1 f1
     go_wp2_with fail
     go_roundw
     case rel => exact ⟨k + 1, ua, m, uc, by omega, by go_num, rfl, hidden ⟨by rw [HST.out, ← HM.out], by rw [HST.out]; exact HRV.out⟩, HBV⟩
     case measure => simp [intOf]; omega
  ·have hli : ¬ (k : Int) < (n : Int) := by omega
   obtain rfl : k = n := by omega
   go_wp2_with fail
   obtain ⟨h1, h2⟩ := HU.out
   subst h1
   go_ret
   exact ⟨ua, uc, rfl, h2, HB.out⟩
end Go.Proofs.YtcphhbofjkenaaaGreatDoor
