import Derived.Laws.BytesArg
import Derived.Test.YtcphhbofjkenaaaGreatDoorK21
import Derived.Test.YtcphhbofjkenaaaGreatDoorK35

namespace Go.Proofs.YtcphhbofjkenaaaGreatDoor
open Go Go.RowKit
set_option linter.unusedVariables false
set_option linter.unusedSimpArgs false

section
attribute [local go_sem] quietG
end

end Go.Proofs.YtcphhbofjkenaaaGreatDoor

namespace Go.Proofs.YtcphhbofjkenaaaGreatDoor
open Go Go.RowKit
set_option linter.unusedVariables false
set_option linter.unusedSimpArgs false

section
variable {B mb : Nat} {a : Option Addr} {nn c : Nat} {l : List Int} {k v : Int} {al : Bool} {q : Nat} {L : Nat} {w0 w : World}

end

end Go.Proofs.YtcphhbofjkenaaaGreatDoor

namespace Go.Proofs.YtcphhbofjkenaaaGreatDoor
open Go Go.RowKit
set_option linter.unusedVariables false
set_option linter.unusedSimpArgs false

section
attribute [local go_sem] quietG
end

end Go.Proofs.YtcphhbofjkenaaaGreatDoor

namespace Go.Proofs.YtcphhbofjkenaaaGreatDoor
open Go Go.RowKit
set_option linter.unusedVariables false
set_option linter.unusedSimpArgs false

def semis (s : ByteArray) (a : Nat) : Nat := (List.range s.size).countP fun i => decide (a ≤ i ∧ byt s i = 59)

theorem countP_mono {α : Type} (p q : α → Bool) : ∀ (l : List α), (∀ x ∈ l, p x = true → q x = true) → l.countP p ≤ l.countP q ∧ ((∃ x ∈ l, q x = true ∧ p x = false) → l.countP p < l.countP q)
  | [], _ => ⟨Nat.le_refl _, fun ⟨x, hx, _⟩ => by simp at hx⟩
  | y :: l, h => by
    obtain ⟨i1, i2⟩ := countP_mono p q l (fun x hx => h x (List.mem_cons_of_mem _ hx))
    have hy := h y (List.mem_cons_self ..)
    rw [List.countP_cons, List.countP_cons]
    refine ⟨?_, ?_⟩
    · cases hp : p y with
      | false => simp; omega
      | true => rw [hy hp]; simp; omega
    · rintro ⟨x, hx, hq, hp⟩
      rcases List.mem_cons.1 hx with rfl | hx
      · rw [hq, hp]; simp; omega
      · have := i2 ⟨x, hx, hq, hp⟩
        cases hp : p y with
        | false => simp; omega
        | true => rw [hy hp]; simp; omega

theorem semis_le (s : ByteArray) {a b : Nat} (h : a ≤ b) : semis s b ≤ semis s a :=
  (countP_mono _ _ _ (fun x _ hx => by simp at hx ⊢; exact ⟨by omega, hx.2⟩)).1
theorem semis_lt (s : ByteArray) {a b i : Nat} (h1 : a ≤ i) (h2 : i < b) (h3 : i < s.size) (h4 : byt s i = 59) : semis s b + 1 ≤ semis s a :=
  (countP_mono _ _ _ (fun x _ hx => by simp at hx ⊢; exact ⟨by omega, hx.2⟩)).2 ⟨i, List.mem_range.2 h3, by simp [h1, h4], by simp; intro; omega⟩
theorem semis_all (s : ByteArray) : semis s 0 = s.data.toList.count 59 := by
  have e : s.data.toList = (List.range s.size).map fun i => s.get! i := by
    apply List.ext_getElem
    · simp
    · intro i h1 h2
      simp [ByteArray.get!]
      rw [getElem!_pos]
  rw [List.count, e, List.countP_map]
  unfold semis
  congr 1
  funext i
  simp only [Function.comp, byt]
  rw [Bool.eq_iff_iff]
  simp
  constructor
  · intro h; exact UInt8.toNat_inj.1 h
  · intro h; rw [h]; rfl

theorem iteP {α : Type} {P : α → Prop} {c : Prop} [Decidable c] {x y : α} (h1 : P x) (h2 : P y) : P (if c then x else y) := by
  by_cases h : c
  · rw [if_pos h]; exact h1
  · rw [if_neg h]; exact h2
theorem stepW_cons (es : List PE) (dc : List Int) (b : PB) (r : List PB) (kn : Inf) (s : ByteArray) : (stepW es dc b r kn s).2.2.1 ≠ [] := by
  unfold stepW
  split
  · exact List.cons_ne_nil _ _
  · split
    · exact List.cons_ne_nil _ _
    · split <;> exact List.cons_ne_nil _ _
theorem stepP_nil {es : List PE} {nt tk : Int} {dc : List Int} {b : PB} {r : List PB} {kn : Inf} {s : ByteArray} (h0 : (stepP es nt tk dc (b :: r) kn s).1 = 0) (h : (stepP es nt tk dc (b :: r) kn s).2.2.1 = []) : (s.toList == [59]) = true := by
  cases h59 : (s.toList == [59]) with
  | true => rfl
  | false =>
    refine absurd h (?_ : (fun x : SR => x.2.2.1 ≠ []) (stepP es nt tk dc (b :: r) kn s))
    unfold stepP
    simp only [h59, Bool.false_eq_true, if_false]
    have k0 : ∀ (e : Int) (d : List Int) (x : PB) (l : List PB) (i : Inf), (fun x : SR => x.2.2.1 ≠ []) (e, d, x :: l, i) := fun _ _ _ _ _ => List.cons_ne_nil _ _
    refine iteP (P := fun x : SR => x.2.2.1 ≠ []) (k0 _ _ _ _ _) (iteP (P := fun x : SR => x.2.2.1 ≠ []) (k0 _ _ _ _ _) (iteP (P := fun x : SR => x.2.2.1 ≠ []) (k0 _ _ _ _ _) (iteP (P := fun x : SR => x.2.2.1 ≠ []) (k0 _ _ _ _ _) (iteP (P := fun x : SR => x.2.2.1 ≠ []) ?_ (iteP (P := fun x : SR => x.2.2.1 ≠ []) ?_ (iteP (P := fun x : SR => x.2.2.1 ≠ []) ?_ (iteP (P := fun x : SR => x.2.2.1 ≠ []) ?_ (iteP (P := fun x : SR => x.2.2.1 ≠ []) (k0 _ _ _ _ _) (stepW_cons es dc b r kn s)))))))))
    · refine iteP (P := fun x : SR => x.2.2.1 ≠ []) ?_ (k0 _ _ _ _ _)
      cases r <;> exact List.cons_ne_nil _ _
    · refine iteP (P := fun x : SR => x.2.2.1 ≠ []) (iteP (P := fun x : SR => x.2.2.1 ≠ []) ?_ (k0 _ _ _ _ _)) (k0 _ _ _ _ _)
      cases r <;> exact List.cons_ne_nil _ _
    · refine iteP (P := fun x : SR => x.2.2.1 ≠ []) (k0 _ _ _ _ _) (iteP (P := fun x : SR => x.2.2.1 ≠ []) (k0 _ _ _ _ _) (k0 _ _ _ _ _))
    · refine iteP (P := fun x : SR => x.2.2.1 ≠ []) (iteP (P := fun x : SR => x.2.2.1 ≠ []) ?_ (k0 _ _ _ _ _)) (k0 _ _ _ _ _)
      cases r <;> exact List.cons_ne_nil _ _

section
variable {s : ByteArray}

theorem nx_semi (h92 : ∀ i, i < s.size → byt s i ≠ 92) {a : Nat} (ha : a ≤ s.size) (h : ((nx s a).1.toList == [59]) = true) : ∃ i, a ≤ i ∧ i < (nx s a).2.2 ∧ i < s.size ∧ byt s i = 59 := by
  obtain ⟨l1, l2, l3⟩ := cut_le s a ha
  rw [show nx s a = _ from nx_plain h92 (s.size - a) a ha] at h ⊢
  simp only at h ⊢
  have e := (ext_list _ _).1 h
  have hsz : (s.extract (cutB s a) (cutE s a)).size = 1 := by rw [e]; rfl
  rw [ByteArray.size_extract] at hsz
  have hb := byt_ext s (cutB s a) (cutE s a) 0 l3 (by omega)
  rw [e] at hb
  exact ⟨cutB s a, l1, by omega, by omega, by rw [Nat.add_zero] at hb; rw [← hb]; rfl⟩

theorem defP_semi (h92 : ∀ i, i < s.size → byt s i ≠ 92) (es : List PE) (nt : Int) : ∀ (f a : Nat) (tk : Int) (dc : List Int) (st : List PB) (kn : Inf) (R : List Int × Inf × Int × Nat), a ≤ s.size → st ≠ [] → defP es nt s f tk dc st kn a = .inl R → R.2.2.2 ≤ s.size ∧ ∃ i, a ≤ i ∧ i < R.2.2.2 ∧ i < s.size ∧ byt s i = 59
  | 0, a, tk, dc, st, kn, R, ha, hne, h => by rw [defP] at h; cases h
  | f + 1, a, tk, dc, [], kn, R, ha, hne, h => absurd rfl hne
  | f + 1, a, tk, dc, x :: r, kn, R, ha, hne, h => by
    rw [defP] at h
    by_cases h0 : (stepP es nt (tk + 1) dc (x :: r) kn (nx s a).1).1 = 0
    · rw [if_pos h0] at h
      have hle := nextF_le s (s.size - a) a ha
      cases hs : (stepP es nt (tk + 1) dc (x :: r) kn (nx s a).1).2.2.1 with
      | nil =>
        have h59 := stepP_nil h0 hs
        rw [hs] at h
        cases f with
        | zero => rw [defP] at h; cases h
        | succ f =>
          rw [defP] at h
          injection h with h
          subst h
          exact ⟨hle.2.2.1, nx_semi h92 ha h59⟩
      | cons y r' =>
        rw [hs] at h
        obtain ⟨g1, i, g2, g3, g4⟩ := defP_semi h92 es nt f _ _ _ _ _ R hle.2.2.1 (List.cons_ne_nil _ _) h
        exact ⟨g1, i, Nat.le_trans hle.2.1 g2, g3, g4⟩
    · rw [if_neg h0] at h; cases h

theorem loadP_words (h92 : ∀ i, i < s.size → byt s i ≠ 92) : ∀ (f a : Nat) (es : List PE) (nv nt : Int) (code : List Int), a ≤ s.size → ((loadP s f a es nv nt code).2.1.length : Int) - (loadP s f a es nv nt code).2.2.1 ≤ es.length - nv + semis s a := by
  intro f
  induction f with
  | zero => intro a es nv nt code ha; rw [loadP]; simp only; omega
  | succ f ih =>
    intro a es nv nt code ha
    have hle := nextF_le s (s.size - a) a ha
    rw [loadP]
    split
    · simp only; omega
    · split
      · split
        · rename_i h0
          have hle2 := nextF_le s (s.size - (nx s a).2.2) (nx s a).2.2 hle.2.2.1
          have hi := ih (nx s (nx s a).2.2).2.2 (varP es nv s (nx s a).2.2).2.1 (varP es nv s (nx s a).2.2).2.2 nt code hle2.2.2.1
          have hs : semis s (nx s (nx s a).2.2).2.2 ≤ semis s a := semis_le s (Nat.le_trans hle.2.1 hle2.2.1)
          have he : ((varP es nv s (nx s a).2.2).2.1.length : Int) - (varP es nv s (nx s a).2.2).2.2 = es.length - nv := by
            unfold varP
            split
            · split
              · rfl
              · simp only [List.length_append, List.length_singleton]; omega
            · rfl
          omega
        · rename_i h0
          simp only
          have he : ((varP es nv s (nx s a).2.2).2.1.length : Int) - (varP es nv s (nx s a).2.2).2.2 = es.length - nv := by
            unfold varP
            split
            · split
              · rfl
              · simp only [List.length_append, List.length_singleton]; omega
            · rfl
          omega
      · split
        · have key : (wordP es nt code s (nx s a).2.2).1.1 = 0 → (wordP es nt code s (nx s a).2.2).2.1.length = es.length + 1 ∧ (wordP es nt code s (nx s a).2.2).2.2.2.2 ≤ s.size ∧ semis s (wordP es nt code s (nx s a).2.2).2.2.2.2 + 1 ≤ semis s a := fun h0 => by
            have hle2 := nextF_le s (s.size - (nx s a).2.2) (nx s a).2.2 hle.2.2.1
            unfold wordP at h0 ⊢
            by_cases hr : refP es (nx s (nx s a).2.2).1 = 0
            · simp only [if_pos hr] at h0 ⊢
              cases hd : defP es nt s (s.size + 2) 2 code [PB.first] Inf.zero (nx s (nx s a).2.2).2.2 with
              | inr E => rw [hd] at h0; exact absurd h0 (defP_err es nt s _ _ _ _ _ _ E hd)
              | inl D =>
                obtain ⟨dc, kn, tk, a'⟩ := D
                obtain ⟨g1, i, g2, g3, g4, g5⟩ := defP_semi h92 es nt _ _ _ _ _ _ _ hle2.2.2.1 (List.cons_ne_nil _ _) hd
                simp only at g1 g3 ⊢
                exact ⟨by simp, g1, semis_lt s (Nat.le_trans (Nat.le_trans hle.2.1 hle2.2.1) g2) g3 g4 g5⟩
            · rw [if_neg hr] at h0; exact absurd h0 hr
          split
          · rename_i h0
            obtain ⟨k1, k2, k3⟩ := key h0
            have hi := ih (wordP es nt code s (nx s a).2.2).2.2.2.2 (wordP es nt code s (nx s a).2.2).2.1 nv (wordP es nt code s (nx s a).2.2).2.2.1 (wordP es nt code s (nx s a).2.2).2.2.2.1 k2
            omega
          · rename_i h0
            simp only
            have he : (wordP es nt code s (nx s a).2.2).2.1 = es := by
              unfold wordP at h0 ⊢
              split
              · rename_i hr
                simp only [if_pos hr] at h0
                cases hd : defP es nt s (s.size + 2) 2 code [PB.first] Inf.zero (nx s (nx s a).2.2).2.2 with
                | inr E => rfl
                | inl D => rw [hd] at h0; exact absurd rfl h0
              · rfl
            rw [he]; omega
        · simp only; omega
end

end Go.Proofs.YtcphhbofjkenaaaGreatDoor

namespace Go.Proofs.YtcphhbofjkenaaaGreatDoor
open Go Go.RowKit
set_option linter.unusedVariables false
set_option linter.unusedSimpArgs false

end Go.Proofs.YtcphhbofjkenaaaGreatDoor

namespace Go.Proofs.YtcphhbofjkenaaaGreatDoor
open Go Go.RowKit
set_option linter.unusedVariables false
set_option linter.unusedSimpArgs false

end Go.Proofs.YtcphhbofjkenaaaGreatDoor

namespace Go.Proofs.YtcphhbofjkenaaaGreatDoor
open Go Go.RowKit
set_option linter.unusedVariables false
set_option linter.unusedSimpArgs false

end Go.Proofs.YtcphhbofjkenaaaGreatDoor

namespace Go.Proofs.YtcphhbofjkenaaaGreatDoor
open Go Go.RowKit
set_option linter.unusedVariables false
set_option linter.unusedSimpArgs false

section
variable {B mb : Nat} {a : Option Addr} {nn c : Nat} {l : List Int} {k v : Int} {al : Bool} {q : Nat} {L : Nat} {w0 w : World}

end

end Go.Proofs.YtcphhbofjkenaaaGreatDoor
