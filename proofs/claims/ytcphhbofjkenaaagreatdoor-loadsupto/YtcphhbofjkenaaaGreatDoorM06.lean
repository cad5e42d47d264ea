/- Characters: how wide one is, how many a text has; in the document's answer. -/
import Derived.Test.YtcphhbofjkenaaaGreatDoorRows
import Derived.WalkKit
import Derived.WalkLawsBesides
import Derived.WalkSpells
import Derived.Test.YtcphhbofjkenaaaGreatDoorM04
import Derived.Test.YtcphhbofjkenaaaGreatDoorM05

namespace Go.Proofs.YtcphhbofjkenaaaGreatDoor
open Go.RowKit
set_option linter.unusedVariables false
set_option linter.unusedSimpArgs false

set_option maxHeartbeats 1000000 in
theorem ref_wide_F1 (s : ByteArray) (k : Nat) (w : World) (hk : k < s.size) (hs : s.size ≤ 1000000000) (hc : 241 ≤ byt s k) (hc2 : byt s k < 244) :
    Calls Tryz.prog 126 #[.string s, .int .i64 k] w fun e w' => e = .returned (.tuple #[.int .i64 (wd s k), .int .i64 (badAt s k)]) ∧ w' = w := by
  obtain ⟨c, hcd⟩ : ∃ c : Int, c = byt s k := ⟨_, rfl⟩
  have hck : ((s[k]'hk).toNat : Int) = c := by rw [byt_eq, hcd]
  have C : Hid (Cls (byt s k) 4 128 191) := by show Cls _ _ _ _; unfold Cls; omega
  have hc0 : 241 ≤ c := by omega
  have hc1 : c < 244 := by omega
  clear hcd hc hc2
  have q224 : (c == 224) = false := by simp; omega
  have q237 : (c == 237) = false := by simp; omega
  have q240 : (c == 240) = false := by simp; omega
  have q244 : (c == 244) = false := by simp; omega
  have r1 : decide (c < 128) = false := by simp; omega
  have r2 : decide (194 ≤ c) = true := by simp; omega
  have r3 : decide (c ≤ 223) = false := by simp; omega
  have r4 : decide (224 ≤ c) = true := by simp; omega
  have r5 : decide (c ≤ 239) = false := by simp; omega
  have r6 : decide (240 ≤ c) = true := by simp; omega
  have r7 : decide (c ≤ 244) = true := by simp; omega
  go_enter Tryz.func126, Tryz.ntmps126
  go_wp2
  go_loop [8, 9, 10] (fun a b i => ∃ j : Nat, 1 ≤ j ∧ j ≤ 4 ∧ i = .int .i64 j ∧ ((j = 1 ∧ a = .int .u8 128 ∧ b = .int .u8 191) ∨ (2 ≤ j ∧ a = .int .u8 128 ∧ b = .int .u8 191)) ∧ (∀ m, 1 ≤ m → m < j → k + m < s.size ∧ (m = 1 → 128 ≤ byt s (k + m) ∧ byt s (k + m) ≤ 191) ∧ (2 ≤ m → 128 ≤ byt s (k + m) ∧ byt s (k + m) ≤ 191))) (fun _ _ i => 4 - (intOf i).toNat)
  case atStart => exact ⟨1, by omega, by omega, rfl, Or.inl ⟨rfl, rfl, rfl⟩, fun m h1 h2 => by omega⟩
  case round =>
    obtain ⟨j, hj1, hj2, rfl, hlh, hok⟩ := hrel
    have HO : Hid _ := hok; clear hok
    by_cases hjn : j < 4
    · by_cases hin : k + j < s.size
      · obtain ⟨d, hdd⟩ : ∃ d : Int, d = byt s (k + j) := ⟨_, rfl⟩
        have hdk : ((s[k + j]'hin).toNat : Int) = d := by rw [byt_eq, hdd]
        have HD : Hid (d = byt s (k + j)) := hdd
        have hd0 : 0 ≤ d := by omega
        have hd1 : d ≤ 255 := by have := byt_lt s (k + j); omega
        clear hdd
        obtain ⟨lo, hi, HL, rfl, rfl⟩ : ∃ lo hi : Int, Hid ((j = 1 ∧ lo = 128 ∧ hi = 191) ∨ (2 ≤ j ∧ lo = 128 ∧ hi = 191)) ∧ _ = Value.int .u8 lo ∧ _ = Value.int .u8 hi := by
          rcases hlh with ⟨hj, e1, e2⟩ | ⟨hj, e1, e2⟩
          · exact ⟨_, _, Or.inl ⟨hj, rfl, rfl⟩, e1, e2⟩
          · exact ⟨_, _, Or.inr ⟨hj, rfl, rfl⟩, e1, e2⟩
        clear hlh
        by_cases h1 : d < lo
        · go_wp2
          go_ret2
          refine ⟨ret_wide (n := 0) (wd_no s k 4 128 191 hk C.out ?_) rfl rfl, rfl⟩
          rintro ⟨q1, q2, q3⟩
          have := HD.out
          rcases HL.out with ⟨e, e1, e2⟩ | ⟨e, e1, e2⟩
          · subst e; omega
          · have := q3 j (by omega) (by omega); omega
        · by_cases h2 : hi < d
          · go_wp2
            go_ret2
            refine ⟨ret_wide (n := 0) (wd_no s k 4 128 191 hk C.out ?_) rfl rfl, rfl⟩
            rintro ⟨q1, q2, q3⟩
            have := HD.out
            rcases HL.out with ⟨e, e1, e2⟩ | ⟨e, e1, e2⟩
            · subst e; omega
            · have := q3 j (by omega) (by omega); omega
          · go_wp2
            go_round
            case rel =>
              refine ⟨j + 1, by omega, by omega, by go_num, Or.inr ⟨by omega, rfl, rfl⟩, fun m a1 a2 => ?_⟩
              by_cases hm : m = j
              · subst hm
                have := HD.out
                refine ⟨hin, fun e => ?_, fun e => ?_⟩
                · rcases HL.out with ⟨e, e1, e2⟩ | ⟨e, e1, e2⟩ <;> omega
                · rcases HL.out with ⟨e, e1, e2⟩ | ⟨e, e1, e2⟩ <;> omega
              · exact HO.out m a1 (by omega)
            case measure => simp [intOf]; omega
      · go_wp2
        go_ret2
        refine ⟨ret_wide (n := 0) (wd_no s k 4 128 191 hk C.out ?_) rfl rfl, rfl⟩
        rintro ⟨q1, q2, q3⟩
        omega
    · go_wp2
      go_ret2
      have e : j = 4 := by omega
      subst e
      refine ⟨ret_wide (n := 4) (wd_yes s k 4 128 191 hk C.out ?_ ?_ ?_) rfl rfl, rfl⟩
      · have := (HO.out 3 (by omega) (by omega)).1; omega
      · exact (HO.out 1 (by omega) (by omega)).2.1 rfl
      · intro m a1 a2; exact (HO.out m (by omega) (by omega)).2.2 a1

set_option maxHeartbeats 1000000 in
theorem ref_wide_F4 (s : ByteArray) (k : Nat) (w : World) (hk : k < s.size) (hs : s.size ≤ 1000000000) (hc : byt s k = 244) :
    Calls Tryz.prog 126 #[.string s, .int .i64 k] w fun e w' => e = .returned (.tuple #[.int .i64 (wd s k), .int .i64 (badAt s k)]) ∧ w' = w := by
  obtain ⟨c, hcd⟩ : ∃ c : Int, c = byt s k := ⟨_, rfl⟩
  have hck : ((s[k]'hk).toNat : Int) = c := by rw [byt_eq, hcd]
  have C : Hid (Cls (byt s k) 4 128 143) := by show Cls _ _ _ _; unfold Cls; omega
  have hc0 : c = 244 := by omega
  subst hc0
  clear hcd hc
  go_enter Tryz.func126, Tryz.ntmps126
  go_wp2
  go_loop [8, 9, 10] (fun a b i => ∃ j : Nat, 1 ≤ j ∧ j ≤ 4 ∧ i = .int .i64 j ∧ ((j = 1 ∧ a = .int .u8 128 ∧ b = .int .u8 143) ∨ (2 ≤ j ∧ a = .int .u8 128 ∧ b = .int .u8 191)) ∧ (∀ m, 1 ≤ m → m < j → k + m < s.size ∧ (m = 1 → 128 ≤ byt s (k + m) ∧ byt s (k + m) ≤ 143) ∧ (2 ≤ m → 128 ≤ byt s (k + m) ∧ byt s (k + m) ≤ 191))) (fun _ _ i => 4 - (intOf i).toNat)
  case atStart => exact ⟨1, by omega, by omega, rfl, Or.inl ⟨rfl, rfl, rfl⟩, fun m h1 h2 => by omega⟩
  case round =>
    obtain ⟨j, hj1, hj2, rfl, hlh, hok⟩ := hrel
    have HO : Hid _ := hok; clear hok
    by_cases hjn : j < 4
    · by_cases hin : k + j < s.size
      · obtain ⟨d, hdd⟩ : ∃ d : Int, d = byt s (k + j) := ⟨_, rfl⟩
        have hdk : ((s[k + j]'hin).toNat : Int) = d := by rw [byt_eq, hdd]
        have HD : Hid (d = byt s (k + j)) := hdd
        have hd0 : 0 ≤ d := by omega
        have hd1 : d ≤ 255 := by have := byt_lt s (k + j); omega
        clear hdd
        obtain ⟨lo, hi, HL, rfl, rfl⟩ : ∃ lo hi : Int, Hid ((j = 1 ∧ lo = 128 ∧ hi = 143) ∨ (2 ≤ j ∧ lo = 128 ∧ hi = 191)) ∧ _ = Value.int .u8 lo ∧ _ = Value.int .u8 hi := by
          rcases hlh with ⟨hj, e1, e2⟩ | ⟨hj, e1, e2⟩
          · exact ⟨_, _, Or.inl ⟨hj, rfl, rfl⟩, e1, e2⟩
          · exact ⟨_, _, Or.inr ⟨hj, rfl, rfl⟩, e1, e2⟩
        clear hlh
        by_cases h1 : d < lo
        · go_wp2
          go_ret2
          refine ⟨ret_wide (n := 0) (wd_no s k 4 128 143 hk C.out ?_) rfl rfl, rfl⟩
          rintro ⟨q1, q2, q3⟩
          have := HD.out
          rcases HL.out with ⟨e, e1, e2⟩ | ⟨e, e1, e2⟩
          · subst e; omega
          · have := q3 j (by omega) (by omega); omega
        · by_cases h2 : hi < d
          · go_wp2
            go_ret2
            refine ⟨ret_wide (n := 0) (wd_no s k 4 128 143 hk C.out ?_) rfl rfl, rfl⟩
            rintro ⟨q1, q2, q3⟩
            have := HD.out
            rcases HL.out with ⟨e, e1, e2⟩ | ⟨e, e1, e2⟩
            · subst e; omega
            · have := q3 j (by omega) (by omega); omega
          · go_wp2
            go_round
            case rel =>
              refine ⟨j + 1, by omega, by omega, by go_num, Or.inr ⟨by omega, rfl, rfl⟩, fun m a1 a2 => ?_⟩
              by_cases hm : m = j
              · subst hm
                have := HD.out
                refine ⟨hin, fun e => ?_, fun e => ?_⟩
                · rcases HL.out with ⟨e, e1, e2⟩ | ⟨e, e1, e2⟩ <;> omega
                · rcases HL.out with ⟨e, e1, e2⟩ | ⟨e, e1, e2⟩ <;> omega
              · exact HO.out m a1 (by omega)
            case measure => simp [intOf]; omega
      · go_wp2
        go_ret2
        refine ⟨ret_wide (n := 0) (wd_no s k 4 128 143 hk C.out ?_) rfl rfl, rfl⟩
        rintro ⟨q1, q2, q3⟩
        omega
    · go_wp2
      go_ret2
      have e : j = 4 := by omega
      subst e
      refine ⟨ret_wide (n := 4) (wd_yes s k 4 128 143 hk C.out ?_ ?_ ?_) rfl rfl, rfl⟩
      · have := (HO.out 3 (by omega) (by omega)).1; omega
      · exact (HO.out 1 (by omega) (by omega)).2.1 rfl
      · intro m a1 a2; exact (HO.out m (by omega) (by omega)).2.2 a1

end Go.Proofs.YtcphhbofjkenaaaGreatDoor

/- Characters: how wide one is, how many a text has; in the document's answer. -/
namespace Go.Proofs.YtcphhbofjkenaaaGreatDoor
open Go.RowKit
set_option linter.unusedVariables false
set_option linter.unusedSimpArgs false

theorem ref_wide (s : ByteArray) (k : Nat) (w : World) (hk : k < s.size) (hs : s.size ≤ 1000000000) :
    Calls Tryz.prog 126 #[.string s, .int .i64 k] w fun e w' => e = .returned (.tuple #[.int .i64 (wd s k), .int .i64 (badAt s k)]) ∧ w' = w := by
  have hb := byt_lt s k
  by_cases h1 : byt s k < 128
  · exact ref_wide_one s k w hk hs h1
  by_cases h2 : byt s k < 194
  · exact ref_wide_bad1 s k w hk hs (by omega) h2
  by_cases h3 : 244 < byt s k
  · exact ref_wide_bad2 s k w hk hs h3
  by_cases h4 : byt s k < 224
  · exact ref_wide_C2 s k w hk hs (by omega) h4
  by_cases h5 : byt s k = 224
  · exact ref_wide_E0 s k w hk hs h5
  by_cases h6 : byt s k < 237
  · exact ref_wide_E1 s k w hk hs (by omega) h6
  by_cases h7 : byt s k = 237
  · exact ref_wide_ED s k w hk hs h7
  by_cases h8 : byt s k < 240
  · exact ref_wide_EE s k w hk hs (by omega) h8
  by_cases h9 : byt s k = 240
  · exact ref_wide_F0 s k w hk hs h9
  by_cases h10 : byt s k < 244
  · exact ref_wide_F1 s k w hk hs (by omega) h10
  · exact ref_wide_F4 s k w hk hs (by omega)

theorem ret_chars {a b : Int} {p : Int × Int} (h : p = (a, b)) : Ending.returned (.tuple #[.int .i64 a, .int .i64 b]) = .returned (.tuple #[.int .i64 p.1, .int .i64 p.2]) := by rw [h]

set_option maxHeartbeats 1000000 in
theorem ref_characters (s : ByteArray) (w : World) (hs : s.size ≤ 1000000000) :
    Calls Tryz.prog 86 #[.string s] w fun e w' => e = .returned (.tuple #[.int .i64 (chars s s.size 0 0).1, .int .i64 (chars s s.size 0 0).2]) ∧ w' = w := by
  obtain ⟨p, hp⟩ : ∃ p, p = chars s s.size 0 0 := ⟨_, rfl⟩
  rw [← hp]
  go_enter Tryz.func86, Tryz.ntmps86
  go_wp2
  go_loop [4, 5] (fun n i => ∃ j m f : Nat, j ≤ s.size ∧ m ≤ j ∧ s.size - j ≤ f ∧ n = .int .i64 m ∧ i = .int .i64 j ∧ Hid (p = chars s f j m)) (fun _ i => s.size - (intOf i).toNat)
  case atStart => exact ⟨0, 0, s.size, Nat.zero_le _, Nat.le_refl _, by omega, rfl, rfl, hp⟩
  case round =>
    clear hp
    obtain ⟨j, m, f, hj, hm, hf, rfl, rfl, HP⟩ := hrel
    by_cases hlt : j < s.size
    · have h4 := wd_le4 s j
      have hin := wd_in s j hlt
      by_cases hz : wd s j = 0
      · have HZ : Hid (p = (-1, (j : Int))) := by
          have := HP.out
          cases f with
          | zero => omega
          | succ f => rw [chars, if_pos hlt, if_pos hz] at this; exact this
        have hb : badAt s j = j := by unfold badAt; rw [if_pos hz]
        go_wp2_with (go_at_call 126; refine (ref_wide s j _ hlt hs).mono ?_; rintro e w' ⟨rfl, rfl⟩)
        go_ret2
        exact ⟨ret_chars HZ.out, rfl⟩
      · have HZ : Hid (p = chars s (f - 1) (j + wd s j) (m + 1)) := by
          have := HP.out
          cases f with
          | zero => omega
          | succ f => rw [chars, if_pos hlt, if_neg hz] at this; exact this
        obtain ⟨d, hd⟩ : ∃ d : Int, d = wd s j := ⟨_, rfl⟩
        have hw : Calls Tryz.prog 126 #[.string s, .int .i64 j] w fun e w' => e = .returned (.tuple #[.int .i64 d, .int .i64 (badAt s j)]) ∧ w' = w := by rw [hd]; exact ref_wide s j w hlt hs
        have hd0 : 0 < d := by omega
        have hd4 : d ≤ 4 := by omega
        have HD : Hid (d = wd s j) := hd
        have hds : (j : Int) + d ≤ s.size := by omega
        clear hd hz h4 hin
        go_wp2_with (go_at_call 126; refine hw.mono ?_; rintro e w' ⟨rfl, rfl⟩)
        go_round
        case rel =>
          have e := HD.out
          exact ⟨j + wd s j, m + 1, f - 1, by omega, by omega, by omega, by go_num, by rw [e]; go_num, HZ⟩
        case measure => have e := HD.out; simp [intOf]; omega
    · have HZ : Hid (p = ((m : Int), 0)) := by have := HP.out; rw [chars_end s f j m (by omega)] at this; exact this
      go_wp2_with fail
      go_ret2
      exact ⟨ret_chars HZ.out, rfl⟩

end Go.Proofs.YtcphhbofjkenaaaGreatDoor
