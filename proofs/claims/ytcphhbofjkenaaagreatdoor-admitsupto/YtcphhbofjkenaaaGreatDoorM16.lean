/- Reading items, step by step; items of numbers and words. -/
import Derived.Test.YtcphhbofjkenaaaGreatDoorM15

namespace Go.Proofs.YtcphhbofjkenaaaGreatDoor
open Go Go.RowKit
set_option linter.unusedVariables false
set_option linter.unusedSimpArgs false

section
variable {ws : List RW} {toks : List Tk} {fin : Int} {f : Nat} {ends : List ByteArray} {loops : Int} {acc : List AI} {I : Nat}
theorem p_end (h : inL (tokS toks I) ends = true) : pItems ws toks fin (f + 1) ends loops acc I = .inl (acc, tokS toks I, I + 1) := by rw [pItems, if_pos h]
theorem p_stray (h : inL (tokS toks I) ends = false) (h2 : inL (tokS toks I) stray = true) : pItems ws toks fin (f + 1) ends loops acc I = .inr (5, plc toks fin I) := by rw [pItems, if_neg (by simp [h]), if_pos h2]
theorem p_num (h : inL (tokS toks I) ends = false) (h2 : inL (tokS toks I) stray = false) (h3 : (numS (tokS toks I)).2 = true) : pItems ws toks fin (f + 1) ends loops acc I = pItems ws toks fin f ends loops (acc ++ [⟨some (numS (tokS toks I)).1, Inf.plain 0 1⟩]) (I + 1) := by rw [pItems, if_neg (by simp [h]), if_neg (by simp [h2]), if_pos h3]
theorem p_if (h : inL (tokS toks I) ends = false) (h2 : inL (tokS toks I) stray = false) (h3 : (numS (tokS toks I)).2 = false) (h4 : ((tokS toks I).toList == [105, 102]) = true) :
    pItems ws toks fin (f + 1) ends loops acc I = match pBr ws toks fin f loops (I + 1) with | .inr r => .inr r | .inl (x, I') => pItems ws toks fin f ends loops (acc ++ [x]) I' := by
  rw [pItems, if_neg (by simp [h]), if_neg (by simp [h2]), if_neg (by simp [h3]), if_pos h4]
  unfold pBr
  cases pItems ws toks fin f [tElse, tThen] loops [] (I + 1) with
  | inr r => rfl
  | inl q =>
    obtain ⟨la, ta, I1⟩ := q
    simp only
    split
    · cases pItems ws toks fin f [tThen] loops [] I1 with
      | inr r => rfl
      | inl q2 =>
        obtain ⟨lb, tb, I2⟩ := q2
        simp only
        split <;> rfl
    · split <;> rfl
theorem p_do (h : inL (tokS toks I) ends = false) (h2 : inL (tokS toks I) stray = false) (h3 : (numS (tokS toks I)).2 = false) (h4 : ((tokS toks I).toList == [105, 102]) = false) (h5 : ((tokS toks I).toList == [100, 111]) = true) :
    pItems ws toks fin (f + 1) ends loops acc I = match pLp ws toks fin f loops acc I with | .inr r => .inr r | .inl (x, I') => pItems ws toks fin f ends loops (acc ++ [x]) I' := by
  rw [pItems, if_neg (by simp [h]), if_neg (by simp [h2]), if_neg (by simp [h3]), if_neg (by simp [h4]), if_pos h5]
  unfold pLp
  cases lastTwo acc with
  | none => rfl
  | some q =>
    obtain ⟨a, b⟩ := q
    simp only
    split
    · rfl
    · cases pItems ws toks fin f [tLoop] (loops + 1) [] (I + 1) with
      | inr r => rfl
      | inl q =>
        obtain ⟨la, ta, I1⟩ := q
        simp only
        split <;> rfl
theorem p_word (h : inL (tokS toks I) ends = false) (h2 : inL (tokS toks I) stray = false) (h3 : (numS (tokS toks I)).2 = false) (h4 : ((tokS toks I).toList == [105, 102]) = false) (h5 : ((tokS toks I).toList == [100, 111]) = false) :
    pItems ws toks fin (f + 1) ends loops acc I = if wordE ws (tokS toks I) loops = 0 then pItems ws toks fin f ends loops (acc ++ [⟨none, wordI ws (tokS toks I)⟩]) (I + 1) else .inr (wordE ws (tokS toks I) loops, plc toks fin I) := by
  rw [pItems, if_neg (by simp [h]), if_neg (by simp [h2]), if_neg (by simp [h3]), if_neg (by simp [h4]), if_neg (by simp [h5])]
end

theorem stray_end {toks : List Tk} {I : Nat} (hI : I ≤ toks.length) (h : inL (tokS toks I) stray = false) : I < toks.length := by
  rcases Nat.lt_or_ge I toks.length with h1 | h1
  · exact h1
  · exfalso
    have : tokS toks I = ⟨#[]⟩ := by simp [tokS, List.getD, List.getElem?_eq_none h1]
    rw [this] at h
    exact absurd h (by decide +kernel)

theorem num_bd (s : ByteArray) (h : (numS s).2 = true) : -2147483648 ≤ (numS s).1 ∧ (numS s).1 ≤ 2147483647 := by
  have key : ∀ i b, (numFrom s i b).2 = true → -2147483648 ≤ (numFrom s i b).1 ∧ (numFrom s i b).1 ≤ 2147483647 := by
    intro i b hb
    unfold numFrom at hb ⊢
    by_cases h0 : s.size ≤ i
    · rw [if_pos h0] at hb; cases hb
    · rw [if_neg h0] at hb ⊢
      cases hn : numAt s s.size i 0 with
      | none => rw [hn] at hb; cases hb
      | some n =>
        rw [hn] at hb
        simp only at hb ⊢
        cases b <;> simp [cellOk] at hb ⊢ <;> omega
  unfold numS at h ⊢
  split at h <;> (rename_i hc; first | (rw [if_pos hc]; exact key _ _ h) | (rw [if_neg hc]; exact key _ _ h))

def numC (n : Int) : Array Value := #[.int .i64 1, .int .i64 n, .string ⟨#[]⟩, .slice none 0 0, .slice none 0 0]
theorem num_item (sb : Nat) (sv : Value) (ws : List RW) (c k : Int) (w : World) (n : Int) : ItemOk sb sv ws c k (fun _ => False) w (numC n) (Inf.plain 0 1) :=
  fun w' _ _ => ref_of_num sb _ _ _ _ rfl rfl rfl rfl w'
theorem word_item {sb : Nat} {sv : Value} {ws : List RW} {c k : Int} {w : World} (hws : ws.length ≤ 1100000) (hwok : ∀ x ∈ ws, x.inf.Wt 1 ∧ ∃ a n c, x.items = .slice a n c) (t : ByteArray) : ItemOk sb sv ws c k (fun _ => False) w (wordV ws t) (wordI ws t) := by
  intro w' _ hS
  unfold wordV wordI
  by_cases hp : 0 ≤ findW ws t
  · rw [if_pos hp, if_pos hp]
    have hlt : findW ws t < ws.length := (lastK_lt (nameAt ws) t ws.length).1
    obtain ⟨i, hi⟩ : ∃ i : Nat, findW ws t = i := ⟨_, (Int.toNat_of_nonneg hp).symm⟩
    have hil : i < ws.length := by omega
    obtain ⟨g, cap, hv, _, _, hcap, _, hcell⟩ := row_cells hS.row (by omega)
    rw [hi, Int.toNat_natCast, List.getElem?_eq_getElem hil]
    have hx := hwok ws[i] (List.getElem_mem hil)
    exact ref_of_own sb g cap ws.length i ws[i] (.string ⟨#[]⟩) (.slice none 0 0) (.slice none 0 0) rfl rfl rfl w' hil hws hcap hx.2 (hx.1.ok (by omega) (by omega)) (by rw [← hv]; exact hS.blk.cell 0 sv rfl) (fun j u hj hu => ws_cell hS.row hv i j hil u hj hu)
  · rw [if_neg hp, if_neg hp]
    exact ref_of_there sb _ t _ _ rfl rfl rfl w'
theorem wordV_five (ws : List RW) (t : ByteArray) : ∃ (k n : Int) (s : ByteArray), wordV ws t = #[.int .i64 k, .int .i64 n, .string s, .slice none 0 0, .slice none 0 0] ∧ k ≠ 1 := by
  unfold wordV
  split
  · exact ⟨3, _, _, rfl, by decide⟩
  · exact ⟨2, _, _, rfl, by decide⟩

end Go.Proofs.YtcphhbofjkenaaaGreatDoor
