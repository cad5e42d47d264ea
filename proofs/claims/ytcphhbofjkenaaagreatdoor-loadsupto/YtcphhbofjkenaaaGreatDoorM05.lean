/- Characters: how wide one is, how many a text has; in the document's answer. -/
import Derived.Test.YtcphhbofjkenaaaGreatDoorRows
import Derived.WalkKit
import Derived.WalkLawsBesides
import Derived.WalkSpells
import Derived.Test.YtcphhbofjkenaaaGreatDoorM04

namespace Go.Proofs.YtcphhbofjkenaaaGreatDoor
open Go.RowKit
set_option linter.unusedVariables false
set_option linter.unusedSimpArgs false

set_option maxHeartbeats 1000000 in
theorem ref_wide_E0 (s : ByteArray) (k : Nat) (w : World) (hk : k < s.size) (hs : s.size ≤ 1000000000) (hc : byt s k = 224) :
    Calls Tryz.prog 126 #[.string s, .int .i64 k] w fun e w' => e = .returned (.tuple #[.int .i64 (wd s k), .int .i64 (badAt s k)]) ∧ w' = w := by
  obtain ⟨c, hcd⟩ : ∃ c : Int, c = byt s k := ⟨_, rfl⟩
  have hck : ((s[k]'hk).toNat : Int) = c := by rw [byt_eq, hcd]
  have C : Hid (Cls (byt s k) 3 160 191) := by show Cls _ _ _ _; unfold Cls; omega
  have hc0 : c = 224 := by omega
  subst hc0
  clear hcd hc
  go_enter Tryz.func126, Tryz.ntmps126
  go_wp2
  go_loop [8, 9, 10] (fun a b i => ∃ j : Nat, 1 ≤ j ∧ j ≤ 3 ∧ i = .int .i64 j ∧ ((j = 1 ∧ a = .int .u8 160 ∧ b = .int .u8 191) ∨ (2 ≤ j ∧ a = .int .u8 128 ∧ b = .int .u8 191)) ∧ (∀ m, 1 ≤ m → m < j → k + m < s.size ∧ (m = 1 → 160 ≤ byt s (k + m) ∧ byt s (k + m) ≤ 191) ∧ (2 ≤ m → 128 ≤ byt s (k + m) ∧ byt s (k + m) ≤ 191))) (fun _ _ i => 3 - (intOf i).toNat)
  case atStart => exact ⟨1, by omega, by omega, rfl, Or.inl ⟨rfl, rfl, rfl⟩, fun m h1 h2 => by omega⟩
  case round =>
    obtain ⟨j, hj1, hj2, rfl, hlh, hok⟩ := hrel
    have HO : Hid _ := hok; clear hok
    by_cases hjn : j < 3
    · by_cases hin : k + j < s.size
      · obtain ⟨d, hdd⟩ : ∃ d : Int, d = byt s (k + j) := ⟨_, rfl⟩
        have hdk : ((s[k + j]'hin).toNat : Int) = d := by rw [byt_eq, hdd]
        have HD : Hid (d = byt s (k + j)) := hdd
        have hd0 : 0 ≤ d := by omega
        have hd1 : d ≤ 255 := by have := byt_lt s (k + j); omega
        clear hdd
        obtain ⟨lo, hi, HL, rfl, rfl⟩ : ∃ lo hi : Int, Hid ((j = 1 ∧ lo = 160 ∧ hi = 191) ∨ (2 ≤ j ∧ lo = 128 ∧ hi = 191)) ∧ _ = Value.int .u8 lo ∧ _ = Value.int .u8 hi := by
          rcases hlh with ⟨hj, e1, e2⟩ | ⟨hj, e1, e2⟩
          · exact ⟨_, _, Or.inl ⟨hj, rfl, rfl⟩, e1, e2⟩
          · exact ⟨_, _, Or.inr ⟨hj, rfl, rfl⟩, e1, e2⟩
        clear hlh
        by_cases h1 : d < lo
        · go_wp2
          go_ret2
          refine ⟨ret_wide (n := 0) (wd_no s k 3 160 191 hk C.out ?_) rfl rfl, rfl⟩
          rintro ⟨q1, q2, q3⟩
          have := HD.out
          rcases HL.out with ⟨e, e1, e2⟩ | ⟨e, e1, e2⟩
          · subst e; omega
          · have := q3 j (by omega) (by omega); omega
        · by_cases h2 : hi < d
          · go_wp2
            go_ret2
            refine ⟨ret_wide (n := 0) (wd_no s k 3 160 191 hk C.out ?_) rfl rfl, rfl⟩
            rintro ⟨q1, q2, q3⟩
            have := HD.out
            rcases HL.out with ⟨e, e1, e2⟩ | ⟨e, e1, e2⟩
            · subst e; omega
            · have := q3 j (by omega) (by omega); omega
          · go_wp2
            go_round
            case rel =>
              refine ⟨j + 1, by omega, by omega, by go_num, Or.inr ⟨by omega, rfl, rfl⟩, fun m a1 a2 => ?_⟩
              by_cases hm : m = j
              · subst hm
                have := HD.out
                refine ⟨hin, fun e => ?_, fun e => ?_⟩
                · rcases HL.out with ⟨e, e1, e2⟩ | ⟨e, e1, e2⟩ <;> omega
                · rcases HL.out with ⟨e, e1, e2⟩ | ⟨e, e1, e2⟩ <;> omega
              · exact HO.out m a1 (by omega)
            case measure => simp [intOf]; omega
      · go_wp2
        go_ret2
        refine ⟨ret_wide (n := 0) (wd_no s k 3 160 191 hk C.out ?_) rfl rfl, rfl⟩
        rintro ⟨q1, q2, q3⟩
        omega
    · go_wp2
      go_ret2
      have e : j = 3 := by omega
      subst e
      refine ⟨ret_wide (n := 3) (wd_yes s k 3 160 191 hk C.out ?_ ?_ ?_) rfl rfl, rfl⟩
      · have := (HO.out 2 (by omega) (by omega)).1; omega
      · exact (HO.out 1 (by omega) (by omega)).2.1 rfl
      · intro m a1 a2; exact (HO.out m (by omega) (by omega)).2.2 a1

set_option maxHeartbeats 1000000 in
theorem ref_wide_E1 (s : ByteArray) (k : Nat) (w : World) (hk : k < s.size) (hs : s.size ≤ 1000000000) (hc : 225 ≤ byt s k) (hc2 : byt s k < 237) :
    Calls Tryz.prog 126 #[.string s, .int .i64 k] w fun e w' => e = .returned (.tuple #[.int .i64 (wd s k), .int .i64 (badAt s k)]) ∧ w' = w := by
  obtain ⟨c, hcd⟩ : ∃ c : Int, c = byt s k := ⟨_, rfl⟩
  have hck : ((s[k]'hk).toNat : Int) = c := by rw [byt_eq, hcd]
  have C : Hid (Cls (byt s k) 3 128 191) := by show Cls _ _ _ _; unfold Cls; omega
  have hc0 : 225 ≤ c := by omega
  have hc1 : c < 237 := by omega
  clear hcd hc hc2
  have q224 : (c == 224) = false := by simp; omega
  have q237 : (c == 237) = false := by simp; omega
  have q240 : (c == 240) = false := by simp; omega
  have q244 : (c == 244) = false := by simp; omega
  have r1 : decide (c < 128) = false := by simp; omega
  have r2 : decide (194 ≤ c) = true := by simp; omega
  have r3 : decide (c ≤ 223) = false := by simp; omega
  have r4 : decide (224 ≤ c) = true := by simp; omega
  have r5 : decide (c ≤ 239) = true := by simp; omega
  go_enter Tryz.func126, Tryz.ntmps126
  go_wp2
  go_loop [8, 9, 10] (fun a b i => ∃ j : Nat, 1 ≤ j ∧ j ≤ 3 ∧ i = .int .i64 j ∧ ((j = 1 ∧ a = .int .u8 128 ∧ b = .int .u8 191) ∨ (2 ≤ j ∧ a = .int .u8 128 ∧ b = .int .u8 191)) ∧ (∀ m, 1 ≤ m → m < j → k + m < s.size ∧ (m = 1 → 128 ≤ byt s (k + m) ∧ byt s (k + m) ≤ 191) ∧ (2 ≤ m → 128 ≤ byt s (k + m) ∧ byt s (k + m) ≤ 191))) (fun _ _ i => 3 - (intOf i).toNat)
  case atStart => exact ⟨1, by omega, by omega, rfl, Or.inl ⟨rfl, rfl, rfl⟩, fun m h1 h2 => by omega⟩
  case round =>
    obtain ⟨j, hj1, hj2, rfl, hlh, hok⟩ := hrel
    have HO : Hid _ := hok; clear hok
    by_cases hjn : j < 3
    · by_cases hin : k + j < s.size
      · obtain ⟨d, hdd⟩ : ∃ d : Int, d = byt s (k + j) := ⟨_, rfl⟩
        have hdk : ((s[k + j]'hin).toNat : Int) = d := by rw [byt_eq, hdd]
        have HD : Hid (d = byt s (k + j)) := hdd
        have hd0 : 0 ≤ d := by omega
        have hd1 : d ≤ 255 := by have := byt_lt s (k + j); omega
        clear hdd
        obtain ⟨lo, hi, HL, rfl, rfl⟩ : ∃ lo hi : Int, Hid ((j = 1 ∧ lo = 128 ∧ hi = 191) ∨ (2 ≤ j ∧ lo = 128 ∧ hi = 191)) ∧ _ = Value.int .u8 lo ∧ _ = Value.int .u8 hi := by
          rcases hlh with ⟨hj, e1, e2⟩ | ⟨hj, e1, e2⟩
          · exact ⟨_, _, Or.inl ⟨hj, rfl, rfl⟩, e1, e2⟩
          · exact ⟨_, _, Or.inr ⟨hj, rfl, rfl⟩, e1, e2⟩
        clear hlh
        by_cases h1 : d < lo
        · go_wp2
          go_ret2
          refine ⟨ret_wide (n := 0) (wd_no s k 3 128 191 hk C.out ?_) rfl rfl, rfl⟩
          rintro ⟨q1, q2, q3⟩
          have := HD.out
          rcases HL.out with ⟨e, e1, e2⟩ | ⟨e, e1, e2⟩
          · subst e; omega
          · have := q3 j (by omega) (by omega); omega
        · by_cases h2 : hi < d
          · go_wp2
            go_ret2
            refine ⟨ret_wide (n := 0) (wd_no s k 3 128 191 hk C.out ?_) rfl rfl, rfl⟩
            rintro ⟨q1, q2, q3⟩
            have := HD.out
            rcases HL.out with ⟨e, e1, e2⟩ | ⟨e, e1, e2⟩
            · subst e; omega
            · have := q3 j (by omega) (by omega); omega
          · go_wp2
            go_round
            case rel =>
              refine ⟨j + 1, by omega, by omega, by go_num, Or.inr ⟨by omega, rfl, rfl⟩, fun m a1 a2 => ?_⟩
              by_cases hm : m = j
              · subst hm
                have := HD.out
                refine ⟨hin, fun e => ?_, fun e => ?_⟩
                · rcases HL.out with ⟨e, e1, e2⟩ | ⟨e, e1, e2⟩ <;> omega
                · rcases HL.out with ⟨e, e1, e2⟩ | ⟨e, e1, e2⟩ <;> omega
              · exact HO.out m a1 (by omega)
            case measure => simp [intOf]; omega
      · go_wp2
        go_ret2
        refine ⟨ret_wide (n := 0) (wd_no s k 3 128 191 hk C.out ?_) rfl rfl, rfl⟩
        rintro ⟨q1, q2, q3⟩
        omega
    · go_wp2
      go_ret2
      have e : j = 3 := by omega
      subst e
      refine ⟨ret_wide (n := 3) (wd_yes s k 3 128 191 hk C.out ?_ ?_ ?_) rfl rfl, rfl⟩
      · have := (HO.out 2 (by omega) (by omega)).1; omega
      · exact (HO.out 1 (by omega) (by omega)).2.1 rfl
      · intro m a1 a2; exact (HO.out m (by omega) (by omega)).2.2 a1

set_option maxHeartbeats 1000000 in
theorem ref_wide_ED (s : ByteArray) (k : Nat) (w : World) (hk : k < s.size) (hs : s.size ≤ 1000000000) (hc : byt s k = 237) :
    Calls Tryz.prog 126 #[.string s, .int .i64 k] w fun e w' => e = .returned (.tuple #[.int .i64 (wd s k), .int .i64 (badAt s k)]) ∧ w' = w := by
  obtain ⟨c, hcd⟩ : ∃ c : Int, c = byt s k := ⟨_, rfl⟩
  have hck : ((s[k]'hk).toNat : Int) = c := by rw [byt_eq, hcd]
  have C : Hid (Cls (byt s k) 3 128 159) := by show Cls _ _ _ _; unfold Cls; omega
  have hc0 : c = 237 := by omega
  subst hc0
  clear hcd hc
  go_enter Tryz.func126, Tryz.ntmps126
  go_wp2
  go_loop [8, 9, 10] (fun a b i => ∃ j : Nat, 1 ≤ j ∧ j ≤ 3 ∧ i = .int .i64 j ∧ ((j = 1 ∧ a = .int .u8 128 ∧ b = .int .u8 159) ∨ (2 ≤ j ∧ a = .int .u8 128 ∧ b = .int .u8 191)) ∧ (∀ m, 1 ≤ m → m < j → k + m < s.size ∧ (m = 1 → 128 ≤ byt s (k + m) ∧ byt s (k + m) ≤ 159) ∧ (2 ≤ m → 128 ≤ byt s (k + m) ∧ byt s (k + m) ≤ 191))) (fun _ _ i => 3 - (intOf i).toNat)
  case atStart => exact ⟨1, by omega, by omega, rfl, Or.inl ⟨rfl, rfl, rfl⟩, fun m h1 h2 => by omega⟩
  case round =>
    obtain ⟨j, hj1, hj2, rfl, hlh, hok⟩ := hrel
    have HO : Hid _ := hok; clear hok
    by_cases hjn : j < 3
    · by_cases hin : k + j < s.size
      · obtain ⟨d, hdd⟩ : ∃ d : Int, d = byt s (k + j) := ⟨_, rfl⟩
        have hdk : ((s[k + j]'hin).toNat : Int) = d := by rw [byt_eq, hdd]
        have HD : Hid (d = byt s (k + j)) := hdd
        have hd0 : 0 ≤ d := by omega
        have hd1 : d ≤ 255 := by have := byt_lt s (k + j); omega
        clear hdd
        obtain ⟨lo, hi, HL, rfl, rfl⟩ : ∃ lo hi : Int, Hid ((j = 1 ∧ lo = 128 ∧ hi = 159) ∨ (2 ≤ j ∧ lo = 128 ∧ hi = 191)) ∧ _ = Value.int .u8 lo ∧ _ = Value.int .u8 hi := by
          rcases hlh with ⟨hj, e1, e2⟩ | ⟨hj, e1, e2⟩
          · exact ⟨_, _, Or.inl ⟨hj, rfl, rfl⟩, e1, e2⟩
          · exact ⟨_, _, Or.inr ⟨hj, rfl, rfl⟩, e1, e2⟩
        clear hlh
        by_cases h1 : d < lo
        · go_wp2
          go_ret2
          refine ⟨ret_wide (n := 0) (wd_no s k 3 128 159 hk C.out ?_) rfl rfl, rfl⟩
          rintro ⟨q1, q2, q3⟩
          have := HD.out
          rcases HL.out with ⟨e, e1, e2⟩ | ⟨e, e1, e2⟩
          · subst e; omega
          · have := q3 j (by omega) (by omega); omega
        · by_cases h2 : hi < d
          · go_wp2
            go_ret2
            refine ⟨ret_wide (n := 0) (wd_no s k 3 128 159 hk C.out ?_) rfl rfl, rfl⟩
            rintro ⟨q1, q2, q3⟩
            have := HD.out
            rcases HL.out with ⟨e, e1, e2⟩ | ⟨e, e1, e2⟩
            · subst e; omega
            · have := q3 j (by omega) (by omega); omega
          · go_wp2
            go_round
            case rel =>
              refine ⟨j + 1, by omega, by omega, by go_num, Or.inr ⟨by omega, rfl, rfl⟩, fun m a1 a2 => ?_⟩
              by_cases hm : m = j
              · subst hm
                have := HD.out
                refine ⟨hin, fun e => ?_, fun e => ?_⟩
                · rcases HL.out with ⟨e, e1, e2⟩ | ⟨e, e1, e2⟩ <;> omega
                · rcases HL.out with ⟨e, e1, e2⟩ | ⟨e, e1, e2⟩ <;> omega
              · exact HO.out m a1 (by omega)
            case measure => simp [intOf]; omega
      · go_wp2
        go_ret2
        refine ⟨ret_wide (n := 0) (wd_no s k 3 128 159 hk C.out ?_) rfl rfl, rfl⟩
        rintro ⟨q1, q2, q3⟩
        omega
    · go_wp2
      go_ret2
      have e : j = 3 := by omega
      subst e
      refine ⟨ret_wide (n := 3) (wd_yes s k 3 128 159 hk C.out ?_ ?_ ?_) rfl rfl, rfl⟩
      · have := (HO.out 2 (by omega) (by omega)).1; omega
      · exact (HO.out 1 (by omega) (by omega)).2.1 rfl
      · intro m a1 a2; exact (HO.out m (by omega) (by omega)).2.2 a1

end Go.Proofs.YtcphhbofjkenaaaGreatDoor
