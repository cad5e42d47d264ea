/- The document's answer: numbers. -/
import Derived.Test.YtcphhbofjkenaaaGreatDoorRows
import Derived.WalkKit
import Derived.WalkLawsBesides
import Derived.WalkSpells
import Derived.Test.YtcphhbofjkenaaaGreatDoorM00
import Derived.Test.YtcphhbofjkenaaaGreatDoorM06

namespace Go.Proofs.YtcphhbofjkenaaaGreatDoor
open Go.RowKit
set_option linter.unusedVariables false
set_option linter.unusedSimpArgs false

theorem ret_num {a : Int} {b : Bool} {p : Int × Bool} (h : p = (a, b)) : Ending.returned (.tuple #[.int .i64 a, .bool b]) = .returned (.tuple #[.int .i64 p.1, .bool p.2]) := by rw [h]

theorem sat_bd {n : Int} {b : Nat} (h0 : 0 ≤ n) (h1 : 48 ≤ b) : 0 ≤ sat n b ∧ sat n b ≤ 2147483649 := by unfold sat; split <;> omega

set_option maxHeartbeats 1000000 in
set_option maxRecDepth 100000 in
theorem ref_number_neg (s : ByteArray) (w : World) (hs : s.size ≤ 1000000000) (h0 : 0 < s.size) (hm : byt s 0 = 45) :
    Calls Tryz.prog 167 #[.string s] w fun e w' => e = .returned (.tuple #[.int .i64 (numS s).1, .bool (numS s).2]) ∧ w' = w := by
  obtain ⟨p, hp⟩ : ∃ p, p = numS s := ⟨_, rfl⟩
  rw [← hp]
  have HP : Hid (p = numFrom s 1 true) := by show p = _; rw [hp]; unfold numS; rw [if_pos ⟨h0, hm⟩]
  clear hp
  obtain ⟨c0, hc0⟩ : ∃ c : Int, c = byt s 0 := ⟨_, rfl⟩
  have hck0 : ((s[0]'h0).toNat : Int) = c0 := by rw [byt_eq, hc0]
  have hc45 : (c0 == 45) = true := by simp; omega
  clear hc0
  by_cases hsz : s.size ≤ 1
  · have HQ : Hid (p = (0, false)) := by have := HP.out; rw [numFrom, if_pos hsz] at this; exact this
    go_enter Tryz.func167, Tryz.ntmps167
    go_wp2
    go_ret2
    exact ⟨ret_num HQ.out, rfl⟩
  obtain ⟨R, hR⟩ : ∃ R, R = numAt s s.size 1 0 := ⟨_, rfl⟩
  have HN : Hid (R = none → p = (0, false)) := by
    intro e; have := HP.out; rw [numFrom, if_neg hsz, ← hR, e] at this; exact this
  have HY : Hid (∀ n, R = some n → p = (-n, cellOk (-n))) := by
    intro n e; have := HP.out; rw [numFrom, if_neg hsz, ← hR, e] at this; simpa using this
  go_enter Tryz.func167, Tryz.ntmps167
  go_wp2
  go_loop [5, 6] (fun n k => ∃ (j f : Nat) (m : Int), 1 ≤ j ∧ j ≤ s.size ∧ 0 ≤ m ∧ m ≤ 2147483649 ∧ s.size - j ≤ f ∧ n = .int .i64 m ∧ k = .int .i64 j ∧ Hid (R = numAt s f j m)) (fun _ k => s.size - (intOf k).toNat)
  case atStart => exact ⟨1, s.size, 0, by omega, by omega, by omega, by omega, by omega, rfl, rfl, hR⟩
  case round =>
    clear hR
    obtain ⟨j, f, m, hj0, hj, hm0, hm1, hf, rfl, rfl, HR⟩ := hrel
    by_cases hlt : j < s.size
    · obtain ⟨c, hcd⟩ : ∃ c : Int, c = byt s j := ⟨_, rfl⟩
      have hck : ((s[j]'hlt).toNat : Int) = c := by rw [byt_eq, hcd]
      have hb := byt_lt s j
      by_cases hd : byt s j < 48 ∨ 57 < byt s j
      · have HX : Hid (R = none) := by
          have := HR.out
          cases f with
          | zero => omega
          | succ f => rw [numAt, if_pos hlt, if_pos hd] at this; exact this
        have HQ : Hid (p = (0, false)) := HN.out HX.out
        by_cases hl : c < 48
        · clear hcd hd hb
          go_wp2
          go_ret2
          exact ⟨ret_num HQ.out, rfl⟩
        · have hg : 57 < c := by omega
          clear hcd hd hb
          go_wp2
          go_ret2
          exact ⟨ret_num HQ.out, rfl⟩
      · have HX : Hid (R = numAt s (f - 1) (j + 1) (sat m (byt s j))) := by
          have := HR.out
          cases f with
          | zero => omega
          | succ f => rw [numAt, if_pos hlt, if_neg hd] at this; exact this
        have hl : 48 ≤ c := by omega
        have hg : c ≤ 57 := by omega
        have SB := sat_bd hm0 (b := byt s j) (by omega)
        have HS : Hid (0 ≤ sat m (byt s j) ∧ sat m (byt s j) ≤ 2147483649) := SB
        by_cases hbig : 2147483648 < m * 10 + c - 48
        · have HE : Hid (sat m (byt s j) = 2147483649) := by show sat _ _ = _; unfold sat; rw [if_pos (by omega)]
          clear hcd hd hb SB
          go_wp2
          go_round
          case rel => exact ⟨j + 1, f - 1, 2147483649, by omega, by omega, by omega, by omega, by omega, rfl, by go_num, by have := HX.out; rw [HE.out] at this; exact this⟩
          case measure => simp [intOf]; omega
        · have HE : Hid (sat m (byt s j) = m * 10 + c - 48) := by show sat _ _ = _; unfold sat; rw [if_neg (by omega)]; omega
          clear hcd hd hb SB
          go_wp2
          go_round
          case rel => exact ⟨j + 1, f - 1, m * 10 + c - 48, by omega, by omega, by omega, by omega, by omega, by go_num, by go_num, by have := HX.out; rw [HE.out] at this; exact this⟩
          case measure => simp [intOf]; omega
    · have HX : Hid (R = some m) := by have := HR.out; rw [numAt_end s f j m (by omega)] at this; exact this
      have HQ : Hid (p = (-m, cellOk (-m))) := HY.out m HX.out
      by_cases ho : -2147483648 ≤ -m
      · go_wp2
        go_ret2
        exact ⟨ret_num (by rw [HQ.out]; refine Prod.ext rfl ?_; simp [cellOk]; omega), rfl⟩
      · go_wp2
        go_ret2
        exact ⟨ret_num (by rw [HQ.out]; refine Prod.ext rfl ?_; simp [cellOk]; omega), rfl⟩

set_option maxHeartbeats 1000000 in
set_option maxRecDepth 100000 in
theorem ref_number_pos (s : ByteArray) (w : World) (hs : s.size ≤ 1000000000) (h0 : 0 < s.size) (hm : byt s 0 ≠ 45) :
    Calls Tryz.prog 167 #[.string s] w fun e w' => e = .returned (.tuple #[.int .i64 (numS s).1, .bool (numS s).2]) ∧ w' = w := by
  obtain ⟨p, hp⟩ : ∃ p, p = numS s := ⟨_, rfl⟩
  rw [← hp]
  have HP : Hid (p = numFrom s 0 false) := by show p = _; rw [hp]; unfold numS; rw [if_neg (fun h => hm h.2)]
  clear hp
  obtain ⟨c0, hc0⟩ : ∃ c : Int, c = byt s 0 := ⟨_, rfl⟩
  have hck0 : ((s[0]'h0).toNat : Int) = c0 := by rw [byt_eq, hc0]
  have hc45 : (c0 == 45) = false := by simp; omega
  clear hc0
  by_cases hsz : s.size ≤ 0
  · exfalso; omega
  obtain ⟨R, hR⟩ : ∃ R, R = numAt s s.size 0 0 := ⟨_, rfl⟩
  have HN : Hid (R = none → p = (0, false)) := by
    intro e; have := HP.out; rw [numFrom, if_neg hsz, ← hR, e] at this; exact this
  have HY : Hid (∀ n, R = some n → p = (n, cellOk (n))) := by
    intro n e; have := HP.out; rw [numFrom, if_neg hsz, ← hR, e] at this; simpa using this
  have hpos : (0 : Int) < (s.size : Int) := by omega
  have hne : ¬ s = ByteArray.empty := by intro e; subst e; simp at h0
  go_enter Tryz.func167, Tryz.ntmps167
  go_wp2
  go_loop [5, 6] (fun n k => ∃ (j f : Nat) (m : Int), 0 ≤ j ∧ j ≤ s.size ∧ 0 ≤ m ∧ m ≤ 2147483649 ∧ s.size - j ≤ f ∧ n = .int .i64 m ∧ k = .int .i64 j ∧ Hid (R = numAt s f j m)) (fun _ k => s.size - (intOf k).toNat)
  case atStart => exact ⟨0, s.size, 0, by omega, by omega, by omega, by omega, by omega, rfl, rfl, hR⟩
  case round =>
    clear hR
    obtain ⟨j, f, m, hj0, hj, hm0, hm1, hf, rfl, rfl, HR⟩ := hrel
    by_cases hlt : j < s.size
    · obtain ⟨c, hcd⟩ : ∃ c : Int, c = byt s j := ⟨_, rfl⟩
      have hck : ((s[j]'hlt).toNat : Int) = c := by rw [byt_eq, hcd]
      have hb := byt_lt s j
      by_cases hd : byt s j < 48 ∨ 57 < byt s j
      · have HX : Hid (R = none) := by
          have := HR.out
          cases f with
          | zero => omega
          | succ f => rw [numAt, if_pos hlt, if_pos hd] at this; exact this
        have HQ : Hid (p = (0, false)) := HN.out HX.out
        by_cases hl : c < 48
        · clear hcd hd hb
          go_wp2
          go_ret2
          exact ⟨ret_num HQ.out, rfl⟩
        · have hg : 57 < c := by omega
          clear hcd hd hb
          go_wp2
          go_ret2
          exact ⟨ret_num HQ.out, rfl⟩
      · have HX : Hid (R = numAt s (f - 1) (j + 1) (sat m (byt s j))) := by
          have := HR.out
          cases f with
          | zero => omega
          | succ f => rw [numAt, if_pos hlt, if_neg hd] at this; exact this
        have hl : 48 ≤ c := by omega
        have hg : c ≤ 57 := by omega
        have SB := sat_bd hm0 (b := byt s j) (by omega)
        have HS : Hid (0 ≤ sat m (byt s j) ∧ sat m (byt s j) ≤ 2147483649) := SB
        by_cases hbig : 2147483648 < m * 10 + c - 48
        · have HE : Hid (sat m (byt s j) = 2147483649) := by show sat _ _ = _; unfold sat; rw [if_pos (by omega)]
          clear hcd hd hb SB
          go_wp2
          go_round
          case rel => exact ⟨j + 1, f - 1, 2147483649, by omega, by omega, by omega, by omega, by omega, rfl, by go_num, by have := HX.out; rw [HE.out] at this; exact this⟩
          case measure => simp [intOf]; omega
        · have HE : Hid (sat m (byt s j) = m * 10 + c - 48) := by show sat _ _ = _; unfold sat; rw [if_neg (by omega)]; omega
          clear hcd hd hb SB
          go_wp2
          go_round
          case rel => exact ⟨j + 1, f - 1, m * 10 + c - 48, by omega, by omega, by omega, by omega, by omega, by go_num, by go_num, by have := HX.out; rw [HE.out] at this; exact this⟩
          case measure => simp [intOf]; omega
    · have HX : Hid (R = some m) := by have := HR.out; rw [numAt_end s f j m (by omega)] at this; exact this
      have HQ : Hid (p = (m, cellOk (m))) := HY.out m HX.out
      by_cases ho : m ≤ 2147483647
      · go_wp2
        go_ret2
        exact ⟨ret_num (by rw [HQ.out]; refine Prod.ext rfl ?_; simp [cellOk]; omega), rfl⟩
      · go_wp2
        go_ret2
        exact ⟨ret_num (by rw [HQ.out]; refine Prod.ext rfl ?_; simp [cellOk]; omega), rfl⟩

set_option maxHeartbeats 1000000 in
theorem ref_number_nil (w : World) :
    Calls Tryz.prog 167 #[.string ⟨#[]⟩] w fun e w' => e = .returned (.tuple #[.int .i64 0, .bool false]) ∧ w' = w := by
  go_enter Tryz.func167, Tryz.ntmps167
  go_wp2
  go_ret2
  exact ⟨rfl, rfl⟩

theorem ref_number (s : ByteArray) (w : World) (hs : s.size ≤ 1000000000) :
    Calls Tryz.prog 167 #[.string s] w fun e w' => e = .returned (.tuple #[.int .i64 (numS s).1, .bool (numS s).2]) ∧ w' = w := by
  by_cases h0 : 0 < s.size
  · by_cases hm : byt s 0 = 45
    · exact ref_number_neg s w hs h0 hm
    · exact ref_number_pos s w hs h0 hm
  · have HQ : numS s = (0, false) := by
      unfold numS; rw [if_neg (by omega)]; unfold numFrom; rw [if_pos (by omega)]
    rw [HQ]
    have e0 : s = ByteArray.empty := by simpa using h0
    have e : s = ⟨#[]⟩ := by rw [e0]; rfl
    rw [e]; exact ref_number_nil w

end Go.Proofs.YtcphhbofjkenaaaGreatDoor

/- The document's answer: does a text stand among some; is a token a name. -/
namespace Go.Proofs.YtcphhbofjkenaaaGreatDoor
open Go.RowKit
set_option linter.unusedVariables false
set_option linter.unusedSimpArgs false



theorem ret_bool {a b : Bool} (h : a = b) : Ending.returned (.bool a) = .returned (.bool b) := by rw [h]

set_option maxHeartbeats 1000000 in
theorem ref_among (s : ByteArray) (l : List ByteArray) (b cap : Nat) (w : World) (hl : l.length ≤ 1000)
    (hc : ∀ j (h : j < l.length), w.cell? ⟨b, j, none⟩ = some (.string l[j])) :
    Calls Tryz.prog 166 #[.string s, .slice (some ⟨b, 0, none⟩) l.length cap] w fun e w' => e = .returned (.bool (inL s l)) ∧ w' = w := by
  obtain ⟨r, hr⟩ : ∃ r, r = inL s l := ⟨_, rfl⟩
  rw [← hr]
  have HC : Hid _ := hc
  clear hc
  go_enter Tryz.func166, Tryz.ntmps166
  go_wp2
  go_loop [5] (fun i => ∃ j : Nat, j ≤ l.length ∧ i = .int .i64 j ∧ Hid (∀ x (h : x < l.length), x < j → (l[x].toList == s.toList) = false)) (fun i => l.length - (intOf i).toNat)
  case atStart => exact ⟨0, Nat.zero_le _, rfl, fun x h h' => by omega⟩
  case round =>
    obtain ⟨j, hj, rfl, HJ⟩ := hrel
    by_cases hlt : j < l.length
    · obtain ⟨x, hx⟩ : ∃ x, x = l[j] := ⟨_, rfl⟩
      have hcx : w.cell? ⟨b, j, none⟩ = some (.string x) := by rw [hx]; exact HC.out j hlt
      by_cases he : (x.toList == s.toList) = true
      · have HR : Hid (r = true) := by
          show r = true
          rw [hr, inL, List.any_eq_true]
          exact ⟨l[j], List.getElem_mem hlt, by rw [← hx]; exact he⟩
        clear hr hx
        go_wp2
        go_ret
        exact ⟨ret_bool HR.out.symm, rfl⟩
      · have he' : (x.toList == s.toList) = false := by simpa using he
        have HX : Hid (x = l[j]) := hx
        clear hx he
        go_wp2
        go_round
        case rel =>
          refine ⟨j + 1, by omega, by go_num, fun y hy hy' => ?_⟩
          by_cases e : y = j
          · subst e; rw [← HX.out]; exact he'
          · exact HJ.out y hy (by omega)
        case measure => simp [intOf]; omega
    · have HR : Hid (r = false) := by
        show r = false
        rw [hr, inL, List.any_eq_false]
        intro y hy
        obtain ⟨k, hk, rfl⟩ := List.getElem_of_mem hy
        have := HJ.out k hk (by omega)
        simpa using this
      clear hr
      go_wp2
      go_ret
      exact ⟨ret_bool HR.out.symm, rfl⟩

theorem nine_cells (w : World) (t : TypeId) : ∀ j (h : j < nine.length), (w.alloc (.cells #[.string ⟨#[58]⟩, .string ⟨#[59]⟩, .string ⟨#[118, 97, 114, 105, 97, 98, 108, 101]⟩, .string ⟨#[105, 102]⟩, .string ⟨#[101, 108, 115, 101]⟩, .string ⟨#[116, 104, 101, 110]⟩, .string ⟨#[100, 111]⟩, .string ⟨#[108, 111, 111, 112]⟩, .string ⟨#[92]⟩] t)).cell? ⟨w.heap.size, j, none⟩ = some (.string nine[j]) := by
  intro j h
  have : j < 9 := h
  match j, h with
  | 0, _ => simp [nine]
  | 1, _ => simp [nine]
  | 2, _ => simp [nine]
  | 3, _ => simp [nine]
  | 4, _ => simp [nine]
  | 5, _ => simp [nine]
  | 6, _ => simp [nine]
  | 7, _ => simp [nine]
  | 8, _ => simp [nine]
  | j + 9, h => omega

set_option maxHeartbeats 1000000 in
theorem ref_name (s : ByteArray) (w : World) (hs : s.size ≤ 1000000000) :
    Calls Tryz.prog 165 #[.string s] w fun e w' => e = .returned (.bool (nameS s)) ∧ Below w.heap.size w w' := by
  obtain ⟨a, b, hab⟩ : ∃ a b, chars s s.size 0 0 = (a, b) := ⟨_, _, rfl⟩
  obtain ⟨n, nb, hn⟩ : ∃ n nb, numS s = (n, nb) := ⟨_, _, rfl⟩
  obtain ⟨q, hq⟩ : ∃ q, inL s nine = q := ⟨_, rfl⟩
  have hchars := ref_characters s w hs
  have hnum := ref_number s w hs
  have ham := ref_among s nine w.heap.size 9 (w.alloc _) (by decide) (nine_cells w 9)
  rw [hab] at hchars
  rw [hn] at hnum
  rw [hq] at ham
  have HR : Hid (nameS s = (decide (1 ≤ a) && decide (a ≤ 16) && !nb && !q)) := by show nameS s = _; unfold nameS; rw [hab, hn, hq]
  obtain ⟨r, hr⟩ : ∃ r, r = nameS s := ⟨_, rfl⟩
  rw [← hr]
  have HS : Hid (r = (decide (1 ≤ a) && decide (a ≤ 16) && !nb && !q)) := by show r = _; rw [hr]; exact HR.out
  have H1 : Hid (Calls _ _ _ _ _) := hchars
  have H2 : Hid (Calls _ _ _ _ _) := hnum
  have H3 : Hid (Calls _ _ _ _ _) := ham
  clear hchars hnum ham hab hn hq hr HR
  by_cases h1 : 1 ≤ a
  · by_cases h2 : a ≤ 16
    · cases nb <;> cases q
      all_goals
        go_enter Tryz.func165, Tryz.ntmps165
        go_wp2_with (first | (go_at_call 86; refine H1.out.mono ?_; rintro e w' ⟨rfl, rfl⟩) | (go_at_call 167; refine H2.out.mono ?_; rintro e w' ⟨rfl, rfl⟩) | (go_at_call 166; refine H3.out.mono ?_; rintro e w' ⟨rfl, rfl⟩))
        go_ret
        exact ⟨ret_bool (by rw [HS.out]; simp [h1, h2]), (Below.refl _ _).alloc (Nat.le_refl _) _⟩
    · go_enter Tryz.func165, Tryz.ntmps165
      go_wp2_with (first | (go_at_call 86; refine H1.out.mono ?_; rintro e w' ⟨rfl, rfl⟩) | (go_at_call 167; refine H2.out.mono ?_; rintro e w' ⟨rfl, rfl⟩) | (go_at_call 166; refine H3.out.mono ?_; rintro e w' ⟨rfl, rfl⟩))
      go_ret
      exact ⟨ret_bool (by have e2 : decide (a ≤ 16) = false := decide_eq_false (by omega); rw [HS.out, e2]; simp), (Below.refl _ _).alloc (Nat.le_refl _) _⟩
  · · go_enter Tryz.func165, Tryz.ntmps165
      go_wp2_with (first | (go_at_call 86; refine H1.out.mono ?_; rintro e w' ⟨rfl, rfl⟩) | (go_at_call 167; refine H2.out.mono ?_; rintro e w' ⟨rfl, rfl⟩) | (go_at_call 166; refine H3.out.mono ?_; rintro e w' ⟨rfl, rfl⟩))
      go_ret
      exact ⟨ret_bool (by have e2 : decide (1 ≤ a) = false := decide_eq_false (by omega); rw [HS.out, e2]; simp), (Below.refl _ _).alloc (Nat.le_refl _) _⟩

end Go.Proofs.YtcphhbofjkenaaaGreatDoor
