import Derived.Test.YtcphhbofjkenaaaGreatDoorU16
namespace Go.Proofs.YtcphhbofjkenaaaGreatDoor
open Go Go.RowKit
set_option linter.unusedVariables false
set_option linter.unusedSimpArgs false
def nameP (s : ByteArray) : Bool := !(s.toList == []) && decide (Lib.runeCount s ≤ 16) && !inL s nine && !(numP s).2
theorem inL_nine (s : ByteArray) : inL s nine = (s.toList == [58] || s.toList == [59] || s.toList == [118, 97, 114, 105, 97, 98, 108, 101] || s.toList == [105, 102] || s.toList == [101, 108, 115, 101] || s.toList == [116, 104, 101, 110] || s.toList == [100, 111] || s.toList == [108, 111, 111, 112] || s.toList == [92]) := by
 have hl : ∀ l : List UInt8, (⟨l.toArray⟩ : ByteArray).toList = l := ba_list
 have hc : ∀ l : List UInt8, (l == s.toList) = (s.toList == l) := fun l => by rw [Bool.eq_iff_iff, beq_iff_eq, beq_iff_eq]; exact eq_comm
 have key : ∀ l : List UInt8, ((⟨l.toArray⟩ : ByteArray).toList == s.toList) = (s.toList == l) := fun l => by rw [hl, hc]
 simp only [inL, nine, List.any_cons, List.any_nil, Bool.or_false, key [58], key [59], key [118, 97, 114, 105, 97, 98, 108, 101], key [105, 102], key [101, 108, 115, 101], key [116, 104, 101, 110], key [100, 111], key [108, 111, 111, 112], key [92], Bool.or_assoc]
set_option maxHeartbeats 4000000 in
theorem tok_name (s : ByteArray) (w : World) (hs : s.size ≤ 100000000) (ht : Tab w) :
  Calls Tryz.prog 154 #[.string s] w fun e w' => e = .returned (.bool (nameP s)) ∧ Below w.heap.size w w' := by
 obtain ⟨R, hR⟩ : ∃ R, R = nameP s := ⟨_, rfl⟩
 rw [← hR]
 have HC := hidden (Tryz.utf8_RuneCountInString s w (by omega))
 have HN := hidden (fun w' (hb : Below w.heap.size w w') => tok_number s w' hs (ht.below hb))
 have hrc : Lib.runeCount s ≤ s.size := Lib.runeCount_le s
 unfold nameP at hR
 obtain ⟨n, hn⟩ : ∃ n, n = Lib.runeCount s := ⟨_, rfl⟩
 obtain ⟨q, hq⟩ : ∃ q, q = (numP s).2 := ⟨_, rfl⟩
 obtain ⟨k, hk⟩ : ∃ k, k = (numP s).1 := ⟨_, rfl⟩
 rw [← hn] at HC hR hrc
 rw [← hq] at HN hR
 rw [← hk] at HN
 have hni : (n : Int) ≤ 100000000 := by omega
 clear hn hq hk ht hs hrc
 by_cases he : (s.toList == []) = true
 ·rw [he] at hR
  simp at hR
  subst hR
  clear HC HN
  go_enter Tryz.func154, Tryz.ntmps154
  go_wp2_with fail
  go_ret
  exact ⟨rfl, Below.refl _ _⟩
 ·have he' : (s.toList == []) = false := by simpa using he
  rw [he'] at hR
  clear he
  by_cases hm : 16 < (n : Int)
  ·have hm2 : decide (n ≤ 16) = false := by simp; omega
   rw [hm2] at hR
   simp at hR
   subst hR
   clear HN hm2
   go_enter Tryz.func154, Tryz.ntmps154
   go_wp2_with fail
   refine HC.out.mono ?_
   rintro e w1 ⟨rfl, pos, rfl⟩
   go_wp2_with fail
   go_ret
   exact ⟨rfl, (Below.refl _ _).alloc (Nat.le_refl _) _⟩
  ·have hm2 : decide (n ≤ 16) = true := by simp; omega
   rw [hm2] at hR
   clear hm2
   simp only [Bool.not_false, Bool.true_and, Bool.and_true] at hR
   go_enter Tryz.func154, Tryz.ntmps154
   go_wp2_with fail
   refine HC.out.mono ?_
   rintro e w1 ⟨rfl, pos, hw⟩
   have hb : Below w.heap.size w w1 := by rw [hw]; exact (Below.refl _ _).alloc (Nat.le_refl _) _
   have HB := hidden hb
   clear hb hw HC
   rw [inL_nine] at hR
   by_cases g0 : (s.toList == [58]) = true
   ·rw [g0] at hR
    simp at hR
    subst hR
    clear HN
    go_wp2_with fail
    go_ret
    exact ⟨rfl, HB.out⟩
   have f0 : (s.toList == [58]) = false := by simpa using g0
   rw [f0] at hR
   clear g0
   by_cases g1 : (s.toList == [59]) = true
   ·rw [g1] at hR
    simp at hR
    subst hR
    clear HN
    go_wp2_with fail
    go_ret
    exact ⟨rfl, HB.out⟩
   have f1 : (s.toList == [59]) = false := by simpa using g1
   rw [f1] at hR
   clear g1
   by_cases g2 : (s.toList == [118, 97, 114, 105, 97, 98, 108, 101]) = true
   ·rw [g2] at hR
    simp at hR
    subst hR
    clear HN
    go_wp2_with fail
    go_ret
    exact ⟨rfl, HB.out⟩
   have f2 : (s.toList == [118, 97, 114, 105, 97, 98, 108, 101]) = false := by simpa using g2
   rw [f2] at hR
   clear g2
   by_cases g3 : (s.toList == [105, 102]) = true
   ·rw [g3] at hR
    simp at hR
    subst hR
    clear HN
    go_wp2_with fail
    go_ret
    exact ⟨rfl, HB.out⟩
   have f3 : (s.toList == [105, 102]) = false := by simpa using g3
   rw [f3] at hR
   clear g3
   by_cases g4 : (s.toList == [101, 108, 115, 101]) = true
   ·rw [g4] at hR
    simp at hR
    subst hR
    clear HN
    go_wp2_with fail
    go_ret
    exact ⟨rfl, HB.out⟩
   have f4 : (s.toList == [101, 108, 115, 101]) = false := by simpa using g4
   rw [f4] at hR
   clear g4
   by_cases g5 : (s.toList == [116, 104, 101, 110]) = true
   ·rw [g5] at hR
    simp at hR
    subst hR
    clear HN
    go_wp2_with fail
    go_ret
    exact ⟨rfl, HB.out⟩
   have f5 : (s.toList == [116, 104, 101, 110]) = false := by simpa using g5
   rw [f5] at hR
   clear g5
   by_cases g6 : (s.toList == [100, 111]) = true
   ·rw [g6] at hR
    simp at hR
    subst hR
    clear HN
    go_wp2_with fail
    go_ret
    exact ⟨rfl, HB.out⟩
   have f6 : (s.toList == [100, 111]) = false := by simpa using g6
   rw [f6] at hR
   clear g6
   by_cases g7 : (s.toList == [108, 111, 111, 112]) = true
   ·rw [g7] at hR
    simp at hR
    subst hR
    clear HN
    go_wp2_with fail
    go_ret
    exact ⟨rfl, HB.out⟩
   have f7 : (s.toList == [108, 111, 111, 112]) = false := by simpa using g7
   rw [f7] at hR
   clear g7
   by_cases g8 : (s.toList == [92]) = true
   ·rw [g8] at hR
    simp at hR
    subst hR
    clear HN
    go_wp2_with fail
    go_ret
    exact ⟨rfl, HB.out⟩
   have f8 : (s.toList == [92]) = false := by simpa using g8
   rw [f8] at hR
   clear g8
   simp only [Bool.or_false, Bool.not_false, Bool.true_and] at hR
   subst hR
   go_wp2_with fail
   refine (HN.out w1 HB.out).mono ?_
   rintro e w2 ⟨rfl, hb2⟩
   have HB2 := hidden (HB.out.trans (hb2.mono HB.out.size))
   clear hb2 HN HB
   go_wp2_with fail
   go_ret
   exact ⟨rfl, HB2.out⟩
end Go.Proofs.YtcphhbofjkenaaaGreatDoor
