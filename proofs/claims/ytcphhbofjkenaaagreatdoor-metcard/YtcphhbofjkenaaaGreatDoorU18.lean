import Derived.Test.YtcphhbofjkenaaaGreatDoorU13
import Derived.Test.YtcphhbofjkenaaaGreatDoorU14
namespace Go.Proofs.YtcphhbofjkenaaaGreatDoor
open Go
def numL : List UInt8 → Int → Option Int
 | [], n => some n
 | c :: r, n => if c.toNat < 48 ∨ 57 < c.toNat then none else numL r (sat n c.toNat)
theorem byt_data (s : ByteArray) (k : Nat) (h : k < s.size) : ∃ c, s.data.toList[k]? = some c ∧ c.toNat = byt s k := by
 refine ⟨s[k], ?_, byt_eq s k h⟩
 rw [Array.getElem?_toList, Array.getElem?_eq_getElem h]
 rfl
theorem numAt_list (s : ByteArray) : ∀ (f k : Nat) (n : Int), s.size ≤ k + f → numAt s f k n = numL (s.data.toList.drop k) n
 | 0, k, n, h => by
  have hl : s.data.toList.length = s.size := Array.length_toList
  rw [List.drop_eq_nil_of_le (by omega)]; rfl
 | f + 1, k, n, h => by
  have hl : s.data.toList.length = s.size := Array.length_toList
  unfold numAt
  by_cases hk : k < s.size
  ·rw [if_pos hk]
   obtain ⟨c, hc, hb⟩ := byt_data s k hk
   have hd : s.data.toList.drop k = c :: s.data.toList.drop (k + 1) := by
    rw [List.drop_eq_getElem_cons (by omega)]
    rw [List.getElem?_eq_getElem (by omega)] at hc
    rw [Option.some.inj hc]
   rw [hd, numL, hb, numAt_list s f (k + 1) _ (by omega)]
  ·rw [if_neg hk, List.drop_eq_nil_of_le (by omega)]; rfl
theorem numL_big : ∀ l : List UInt8, numL l 2147483649 = none ∨ numL l 2147483649 = some 2147483649
 | [] => Or.inr rfl
 | c :: r => by
  unfold numL
  by_cases h : c.toNat < 48 ∨ 57 < c.toNat
  ·rw [if_pos h]; exact Or.inl rfl
  ·rw [if_neg h]
   have : sat 2147483649 c.toNat = 2147483649 := by unfold sat; rw [if_pos (by omega)]
   rw [this]
   exact numL_big r
def UN (r : Option Int) : Lib.NumEnd Nat → Prop
 | .ok u => r = some (min (u : Int) 2147483649)
 | .syntax => r = none
 | .range => r = none ∨ r = some 2147483649
theorem uint_num : ∀ (l : List UInt8) (a : Nat) (n : Int), n = min (a : Int) 2147483649 → a ≤ 4294967295 → UN (numL l n) (Lib.parseUintM 4294967295 a l)
 | [], a, n, hn, ha => by unfold Lib.parseUintM numL UN; simp only; rw [hn]
 | c :: r, a, n, hn, ha => by
  unfold Lib.parseUintM numL
  by_cases h : 48 ≤ c.toNat ∧ c.toNat ≤ 57
  ·rw [if_pos h, if_neg (by omega : ¬ (c.toNat < 48 ∨ 57 < c.toNat)), if_neg (by omega : ¬ 1844674407370955162 ≤ a)]
   by_cases hm : 4294967295 < a * 10 + (c.toNat - 48)
   ·rw [if_pos hm]
    have : sat n c.toNat = 2147483649 := by unfold sat; rw [if_pos (by omega)]
    rw [this]
    exact numL_big r
   ·rw [if_neg hm]
    refine uint_num r _ _ ?_ (by omega)
    unfold sat
    split <;> omega
  ·rw [if_neg h, if_pos (by omega : (c.toNat < 48 ∨ 57 < c.toNat))]
   rfl
theorem num_eq (s : ByteArray) : (numP s).2 = (numS s).2 ∧ ((numP s).2 = true → (numP s).1 = (numS s).1) := by
 have hl : s.data.toList.length = s.size := Array.length_toList
 have hp : (2 : Nat) ^ 32 - 1 = 4294967295 := by decide
 have hq : (2 : Nat) ^ (32 - 1) = 2147483648 := by decide
 cases hd : s.data.toList with
 | nil =>
  rw [hd] at hl
  have hz : s.size = 0 := by simpa using hl.symm
  have h1 : numP s = (0, false) := by unfold numP; rw [hd]; rfl
  have h2 : numS s = (0, false) := by unfold numS numFrom; rw [if_neg (by omega), if_pos (by omega)]
  rw [h1, h2]; exact ⟨rfl, fun h => by cases h⟩
 | cons c r =>
  rw [hd] at hl
  have hz : s.size = r.length + 1 := by simpa using hl.symm
  obtain ⟨c', hc', hb⟩ := byt_data s 0 (by omega)
  rw [hd] at hc'
  obtain rfl : c = c' := by simpa using hc'
  have hA : ∀ k n, numAt s s.size k n = numL ((c :: r).drop k) n := fun k n => by rw [numAt_list s _ _ _ (by omega), hd]
  unfold numP numS Lib.parseIntB
  rw [hd]
  simp only
  by_cases h45 : c.toNat = 45
  ·rw [if_pos (by omega : 0 < s.size ∧ byt s 0 = 45), if_pos (Or.inr h45 : c.toNat = 43 ∨ c.toNat = 45)]
   unfold numFrom Lib.parseUintB
   cases r with
   | nil =>
    rw [if_pos (show s.size ≤ 1 by simp at hz; omega)]
    exact ⟨rfl, fun h => by cases h⟩
   | cons d r' =>
    rw [if_neg (show ¬ s.size ≤ 1 by simp at hz; omega), hA, if_neg (List.cons_ne_nil _ _), hp]
    have hu := uint_num (d :: r') 0 0 (by decide) (by omega)
    simp only [List.drop_succ_cons, List.drop_zero]
    have hpre : Lib.hasPrefix (c :: d :: r') [43] = false := by
     have : c ≠ 43 := by rintro rfl; exact absurd h45 (by decide)
     simp [Lib.hasPrefix, List.isPrefixOf, this.symm]
    rw [hpre]
    cases hm : Lib.parseUintM 4294967295 0 (d :: r') with
    | «syntax» => rw [hm] at hu; simp only [UN] at hu; rw [hu]; exact ⟨rfl, fun h => by cases h⟩
    | range =>
     rw [hm] at hu; simp only [UN] at hu
     rcases hu with hu | hu <;> rw [hu] <;> exact ⟨rfl, fun h => by cases h⟩
    | ok u =>
     rw [hm] at hu; simp only [UN] at hu; rw [hu]
     simp only [h45, hq]
     by_cases hx : 2147483648 < u
     ·simp [hx, cellOk]; omega
     ·simp [hx, cellOk]; omega
  ·rw [if_neg (by omega : ¬ (0 < s.size ∧ byt s 0 = 45))]
   unfold numFrom
   rw [if_neg (by omega : ¬ s.size ≤ 0), hA]
   simp only [List.drop_zero]
   by_cases h43 : c.toNat = 43
   ·have hc : c = 43 := UInt8.toNat_inj.1 (by rw [h43]; rfl)
    have hpre : Lib.hasPrefix (c :: r) [43] = true := by simp [Lib.hasPrefix, List.isPrefixOf, hc]
    have hn : numL (c :: r) 0 = none := by unfold numL; rw [if_pos (by omega)]
    rw [hn, hpre]
    simp only [if_true]
    constructor
    ·split <;> rfl
    ·intro h; split at h <;> cases h
   ·rw [if_neg (by omega : ¬ (c.toNat = 43 ∨ c.toNat = 45))]
    unfold Lib.parseUintB
    rw [if_neg (List.cons_ne_nil _ _), hp]
    have hu := uint_num (c :: r) 0 0 (by decide) (by omega)
    have hpre : Lib.hasPrefix (c :: r) [43] = false := by
     have : c ≠ 43 := by rintro rfl; exact absurd h43 (by decide)
     simp [Lib.hasPrefix, List.isPrefixOf, this.symm]
    rw [hpre]
    cases hm : Lib.parseUintM 4294967295 0 (c :: r) with
    | «syntax» => rw [hm] at hu; simp only [UN] at hu; rw [hu]; exact ⟨rfl, fun h => by cases h⟩
    | range =>
     rw [hm] at hu; simp only [UN] at hu
     rcases hu with hu | hu <;> rw [hu] <;> exact ⟨rfl, fun h => by cases h⟩
    | ok u =>
     rw [hm] at hu; simp only [UN] at hu; rw [hu]
     simp only [h45, hq]
     by_cases hx : 2147483648 ≤ u
     ·simp [hx, cellOk]; omega
     ·simp [hx, cellOk]; omega
end Go.Proofs.YtcphhbofjkenaaaGreatDoor
