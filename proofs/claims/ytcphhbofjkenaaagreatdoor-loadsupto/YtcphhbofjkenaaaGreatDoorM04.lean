/- Characters: how wide one is, how many a text has; in the document's answer. -/
import Derived.Test.YtcphhbofjkenaaaGreatDoorRows
import Derived.WalkKit
import Derived.WalkLawsBesides
import Derived.WalkSpells
import Derived.Test.YtcphhbofjkenaaaGreatDoorM00

namespace Go.Proofs.YtcphhbofjkenaaaGreatDoor
open Go.RowKit
set_option linter.unusedVariables false
set_option linter.unusedSimpArgs false

def badAt (s : ByteArray) (k : Nat) : Int := if wd s k = 0 then (k : Int) else 0

theorem ret_wide {s : ByteArray} {k n : Nat} {a b : Int} (h : wd s k = n) (ha : a = n) (hb : b = if n = 0 then (k : Int) else 0) :
    Ending.returned (.tuple #[.int .i64 a, .int .i64 b]) = .returned (.tuple #[.int .i64 (wd s k), .int .i64 (badAt s k)]) := by
  rw [ha, hb, badAt, h]

set_option maxHeartbeats 1000000 in
theorem ref_wide_one (s : ByteArray) (k : Nat) (w : World) (hk : k < s.size) (hs : s.size ≤ 1000000000) (hc : byt s k < 128) :
    Calls Tryz.prog 126 #[.string s, .int .i64 k] w fun e w' => e = .returned (.tuple #[.int .i64 (wd s k), .int .i64 (badAt s k)]) ∧ w' = w := by
  obtain ⟨c, hcd⟩ : ∃ c : Int, c = byt s k := ⟨_, rfl⟩
  have hck : ((s[k]'hk).toNat : Int) = c := by rw [byt_eq, hcd]
  have H : Hid (wd s k = 1) := wd_one s k hc
  have hc1 : c < 128 := by omega
  have hc0 : 0 ≤ c := by omega
  clear hcd hc
  go_enter Tryz.func126, Tryz.ntmps126
  go_wp2
  go_ret2
  exact ⟨ret_wide H.out rfl rfl, rfl⟩

set_option maxHeartbeats 1000000 in
theorem ref_wide_bad1 (s : ByteArray) (k : Nat) (w : World) (hk : k < s.size) (hs : s.size ≤ 1000000000) (hc : 128 ≤ byt s k) (hc2 : byt s k < 194) :
    Calls Tryz.prog 126 #[.string s, .int .i64 k] w fun e w' => e = .returned (.tuple #[.int .i64 (wd s k), .int .i64 (badAt s k)]) ∧ w' = w := by
  obtain ⟨c, hcd⟩ : ∃ c : Int, c = byt s k := ⟨_, rfl⟩
  have hck : ((s[k]'hk).toNat : Int) = c := by rw [byt_eq, hcd]
  have H : Hid (wd s k = 0) := wd_bad s k (by omega)
  have hc0 : 128 ≤ c := by omega
  have hc1 : c < 194 := by omega
  clear hcd hc hc2
  go_enter Tryz.func126, Tryz.ntmps126
  go_wp2
  go_ret2
  exact ⟨ret_wide H.out rfl rfl, rfl⟩

set_option maxHeartbeats 1000000 in
theorem ref_wide_bad2 (s : ByteArray) (k : Nat) (w : World) (hk : k < s.size) (hs : s.size ≤ 1000000000) (hc : 244 < byt s k) :
    Calls Tryz.prog 126 #[.string s, .int .i64 k] w fun e w' => e = .returned (.tuple #[.int .i64 (wd s k), .int .i64 (badAt s k)]) ∧ w' = w := by
  obtain ⟨c, hcd⟩ : ∃ c : Int, c = byt s k := ⟨_, rfl⟩
  have hck : ((s[k]'hk).toNat : Int) = c := by rw [byt_eq, hcd]
  have H : Hid (wd s k = 0) := wd_bad s k (by omega)
  have hc0 : 244 < c := by omega
  have hc1 : c ≤ 255 := by have := byt_lt s k; omega
  clear hcd hc
  go_enter Tryz.func126, Tryz.ntmps126
  go_wp2
  go_ret2
  exact ⟨ret_wide H.out rfl rfl, rfl⟩

set_option maxHeartbeats 1000000 in
theorem ref_wide_C2 (s : ByteArray) (k : Nat) (w : World) (hk : k < s.size) (hs : s.size ≤ 1000000000) (hc : 194 ≤ byt s k) (hc2 : byt s k < 224) :
    Calls Tryz.prog 126 #[.string s, .int .i64 k] w fun e w' => e = .returned (.tuple #[.int .i64 (wd s k), .int .i64 (badAt s k)]) ∧ w' = w := by
  obtain ⟨c, hcd⟩ : ∃ c : Int, c = byt s k := ⟨_, rfl⟩
  have hck : ((s[k]'hk).toNat : Int) = c := by rw [byt_eq, hcd]
  have C : Hid (Cls (byt s k) 2 128 191) := by show Cls _ _ _ _; unfold Cls; omega
  have hc0 : 194 ≤ c := by omega
  have hc1 : c < 224 := by omega
  clear hcd hc hc2
  by_cases hin : k + 1 < s.size
  · obtain ⟨d, hdd⟩ : ∃ d : Int, d = byt s (k + 1) := ⟨_, rfl⟩
    have hdk : ((s[k + 1]'hin).toNat : Int) = d := by rw [byt_eq, hdd]
    have HD : Hid (d = byt s (k + 1)) := hdd
    have hd0 : 0 ≤ d := by omega
    have hd1 : d ≤ 255 := by have := byt_lt s (k + 1); omega
    clear hdd
    by_cases h1 : d < 128
    · go_enter Tryz.func126, Tryz.ntmps126
      go_wp2
      refine wp_loop_rounds 1 ?_
      rw [rounds_succ]
      go_wp2
      go_ret2
      refine ⟨ret_wide (n := 0) (wd_no s k 2 128 191 hk C.out ?_) rfl rfl, rfl⟩
      rintro ⟨q1, q2, q3⟩
      have := HD.out; omega
    · by_cases h2 : 191 < d
      · go_enter Tryz.func126, Tryz.ntmps126
        go_wp2
        refine wp_loop_rounds 1 ?_
        rw [rounds_succ]
        go_wp2
        go_ret2
        refine ⟨ret_wide (n := 0) (wd_no s k 2 128 191 hk C.out ?_) rfl rfl, rfl⟩
        rintro ⟨q1, q2, q3⟩
        have := HD.out; omega
      · go_enter Tryz.func126, Tryz.ntmps126
        go_wp2
        refine wp_loop_rounds 2 ?_
        rw [rounds_succ]
        go_wp2
        rw [rounds_succ]
        go_wp2
        go_ret2
        refine ⟨ret_wide (n := 2) (wd_yes s k 2 128 191 hk C.out (by omega) (by have := HD.out; omega) (fun m a b => by omega)) rfl rfl, rfl⟩
  · go_enter Tryz.func126, Tryz.ntmps126
    go_wp2
    refine wp_loop_rounds 1 ?_
    rw [rounds_succ]
    go_wp2
    go_ret2
    refine ⟨ret_wide (n := 0) (wd_no s k 2 128 191 hk C.out ?_) rfl rfl, rfl⟩
    rintro ⟨q1, q2, q3⟩
    omega

end Go.Proofs.YtcphhbofjkenaaaGreatDoor

/- Characters: how wide one is, how many a text has; in the document's answer. -/
namespace Go.Proofs.YtcphhbofjkenaaaGreatDoor
open Go.RowKit
set_option linter.unusedVariables false
set_option linter.unusedSimpArgs false

set_option maxHeartbeats 1000000 in
theorem ref_wide_EE (s : ByteArray) (k : Nat) (w : World) (hk : k < s.size) (hs : s.size ≤ 1000000000) (hc : 238 ≤ byt s k) (hc2 : byt s k < 240) :
    Calls Tryz.prog 126 #[.string s, .int .i64 k] w fun e w' => e = .returned (.tuple #[.int .i64 (wd s k), .int .i64 (badAt s k)]) ∧ w' = w := by
  obtain ⟨c, hcd⟩ : ∃ c : Int, c = byt s k := ⟨_, rfl⟩
  have hck : ((s[k]'hk).toNat : Int) = c := by rw [byt_eq, hcd]
  have C : Hid (Cls (byt s k) 3 128 191) := by show Cls _ _ _ _; unfold Cls; omega
  have hc0 : 238 ≤ c := by omega
  have hc1 : c < 240 := by omega
  clear hcd hc hc2
  have q224 : (c == 224) = false := by simp; omega
  have q237 : (c == 237) = false := by simp; omega
  have q240 : (c == 240) = false := by simp; omega
  have q244 : (c == 244) = false := by simp; omega
  have r1 : decide (c < 128) = false := by simp; omega
  have r2 : decide (194 ≤ c) = true := by simp; omega
  have r3 : decide (c ≤ 223) = false := by simp; omega
  have r4 : decide (224 ≤ c) = true := by simp; omega
  have r5 : decide (c ≤ 239) = true := by simp; omega
  go_enter Tryz.func126, Tryz.ntmps126
  go_wp2
  go_loop [8, 9, 10] (fun a b i => ∃ j : Nat, 1 ≤ j ∧ j ≤ 3 ∧ i = .int .i64 j ∧ ((j = 1 ∧ a = .int .u8 128 ∧ b = .int .u8 191) ∨ (2 ≤ j ∧ a = .int .u8 128 ∧ b = .int .u8 191)) ∧ (∀ m, 1 ≤ m → m < j → k + m < s.size ∧ (m = 1 → 128 ≤ byt s (k + m) ∧ byt s (k + m) ≤ 191) ∧ (2 ≤ m → 128 ≤ byt s (k + m) ∧ byt s (k + m) ≤ 191))) (fun _ _ i => 3 - (intOf i).toNat)
  case atStart => exact ⟨1, by omega, by omega, rfl, Or.inl ⟨rfl, rfl, rfl⟩, fun m h1 h2 => by omega⟩
  case round =>
    obtain ⟨j, hj1, hj2, rfl, hlh, hok⟩ := hrel
    have HO : Hid _ := hok; clear hok
    by_cases hjn : j < 3
    · by_cases hin : k + j < s.size
      · obtain ⟨d, hdd⟩ : ∃ d : Int, d = byt s (k + j) := ⟨_, rfl⟩
        have hdk : ((s[k + j]'hin).toNat : Int) = d := by rw [byt_eq, hdd]
        have HD : Hid (d = byt s (k + j)) := hdd
        have hd0 : 0 ≤ d := by omega
        have hd1 : d ≤ 255 := by have := byt_lt s (k + j); omega
        clear hdd
        obtain ⟨lo, hi, HL, rfl, rfl⟩ : ∃ lo hi : Int, Hid ((j = 1 ∧ lo = 128 ∧ hi = 191) ∨ (2 ≤ j ∧ lo = 128 ∧ hi = 191)) ∧ _ = Value.int .u8 lo ∧ _ = Value.int .u8 hi := by
          rcases hlh with ⟨hj, e1, e2⟩ | ⟨hj, e1, e2⟩
          · exact ⟨_, _, Or.inl ⟨hj, rfl, rfl⟩, e1, e2⟩
          · exact ⟨_, _, Or.inr ⟨hj, rfl, rfl⟩, e1, e2⟩
        clear hlh
        by_cases h1 : d < lo
        · go_wp2
          go_ret2
          refine ⟨ret_wide (n := 0) (wd_no s k 3 128 191 hk C.out ?_) rfl rfl, rfl⟩
          rintro ⟨q1, q2, q3⟩
          have := HD.out
          rcases HL.out with ⟨e, e1, e2⟩ | ⟨e, e1, e2⟩
          · subst e; omega
          · have := q3 j (by omega) (by omega); omega
        · by_cases h2 : hi < d
          · go_wp2
            go_ret2
            refine ⟨ret_wide (n := 0) (wd_no s k 3 128 191 hk C.out ?_) rfl rfl, rfl⟩
            rintro ⟨q1, q2, q3⟩
            have := HD.out
            rcases HL.out with ⟨e, e1, e2⟩ | ⟨e, e1, e2⟩
            · subst e; omega
            · have := q3 j (by omega) (by omega); omega
          · go_wp2
            go_round
            case rel =>
              refine ⟨j + 1, by omega, by omega, by go_num, Or.inr ⟨by omega, rfl, rfl⟩, fun m a1 a2 => ?_⟩
              by_cases hm : m = j
              · subst hm
                have := HD.out
                refine ⟨hin, fun e => ?_, fun e => ?_⟩
                · rcases HL.out with ⟨e, e1, e2⟩ | ⟨e, e1, e2⟩ <;> omega
                · rcases HL.out with ⟨e, e1, e2⟩ | ⟨e, e1, e2⟩ <;> omega
              · exact HO.out m a1 (by omega)
            case measure => simp [intOf]; omega
      · go_wp2
        go_ret2
        refine ⟨ret_wide (n := 0) (wd_no s k 3 128 191 hk C.out ?_) rfl rfl, rfl⟩
        rintro ⟨q1, q2, q3⟩
        omega
    · go_wp2
      go_ret2
      have e : j = 3 := by omega
      subst e
      refine ⟨ret_wide (n := 3) (wd_yes s k 3 128 191 hk C.out ?_ ?_ ?_) rfl rfl, rfl⟩
      · have := (HO.out 2 (by omega) (by omega)).1; omega
      · exact (HO.out 1 (by omega) (by omega)).2.1 rfl
      · intro m a1 a2; exact (HO.out m (by omega) (by omega)).2.2 a1

set_option maxHeartbeats 1000000 in
theorem ref_wide_F0 (s : ByteArray) (k : Nat) (w : World) (hk : k < s.size) (hs : s.size ≤ 1000000000) (hc : byt s k = 240) :
    Calls Tryz.prog 126 #[.string s, .int .i64 k] w fun e w' => e = .returned (.tuple #[.int .i64 (wd s k), .int .i64 (badAt s k)]) ∧ w' = w := by
  obtain ⟨c, hcd⟩ : ∃ c : Int, c = byt s k := ⟨_, rfl⟩
  have hck : ((s[k]'hk).toNat : Int) = c := by rw [byt_eq, hcd]
  have C : Hid (Cls (byt s k) 4 144 191) := by show Cls _ _ _ _; unfold Cls; omega
  have hc0 : c = 240 := by omega
  subst hc0
  clear hcd hc
  go_enter Tryz.func126, Tryz.ntmps126
  go_wp2
  go_loop [8, 9, 10] (fun a b i => ∃ j : Nat, 1 ≤ j ∧ j ≤ 4 ∧ i = .int .i64 j ∧ ((j = 1 ∧ a = .int .u8 144 ∧ b = .int .u8 191) ∨ (2 ≤ j ∧ a = .int .u8 128 ∧ b = .int .u8 191)) ∧ (∀ m, 1 ≤ m → m < j → k + m < s.size ∧ (m = 1 → 144 ≤ byt s (k + m) ∧ byt s (k + m) ≤ 191) ∧ (2 ≤ m → 128 ≤ byt s (k + m) ∧ byt s (k + m) ≤ 191))) (fun _ _ i => 4 - (intOf i).toNat)
  case atStart => exact ⟨1, by omega, by omega, rfl, Or.inl ⟨rfl, rfl, rfl⟩, fun m h1 h2 => by omega⟩
  case round =>
    obtain ⟨j, hj1, hj2, rfl, hlh, hok⟩ := hrel
    have HO : Hid _ := hok; clear hok
    by_cases hjn : j < 4
    · by_cases hin : k + j < s.size
      · obtain ⟨d, hdd⟩ : ∃ d : Int, d = byt s (k + j) := ⟨_, rfl⟩
        have hdk : ((s[k + j]'hin).toNat : Int) = d := by rw [byt_eq, hdd]
        have HD : Hid (d = byt s (k + j)) := hdd
        have hd0 : 0 ≤ d := by omega
        have hd1 : d ≤ 255 := by have := byt_lt s (k + j); omega
        clear hdd
        obtain ⟨lo, hi, HL, rfl, rfl⟩ : ∃ lo hi : Int, Hid ((j = 1 ∧ lo = 144 ∧ hi = 191) ∨ (2 ≤ j ∧ lo = 128 ∧ hi = 191)) ∧ _ = Value.int .u8 lo ∧ _ = Value.int .u8 hi := by
          rcases hlh with ⟨hj, e1, e2⟩ | ⟨hj, e1, e2⟩
          · exact ⟨_, _, Or.inl ⟨hj, rfl, rfl⟩, e1, e2⟩
          · exact ⟨_, _, Or.inr ⟨hj, rfl, rfl⟩, e1, e2⟩
        clear hlh
        by_cases h1 : d < lo
        · go_wp2
          go_ret2
          refine ⟨ret_wide (n := 0) (wd_no s k 4 144 191 hk C.out ?_) rfl rfl, rfl⟩
          rintro ⟨q1, q2, q3⟩
          have := HD.out
          rcases HL.out with ⟨e, e1, e2⟩ | ⟨e, e1, e2⟩
          · subst e; omega
          · have := q3 j (by omega) (by omega); omega
        · by_cases h2 : hi < d
          · go_wp2
            go_ret2
            refine ⟨ret_wide (n := 0) (wd_no s k 4 144 191 hk C.out ?_) rfl rfl, rfl⟩
            rintro ⟨q1, q2, q3⟩
            have := HD.out
            rcases HL.out with ⟨e, e1, e2⟩ | ⟨e, e1, e2⟩
            · subst e; omega
            · have := q3 j (by omega) (by omega); omega
          · go_wp2
            go_round
            case rel =>
              refine ⟨j + 1, by omega, by omega, by go_num, Or.inr ⟨by omega, rfl, rfl⟩, fun m a1 a2 => ?_⟩
              by_cases hm : m = j
              · subst hm
                have := HD.out
                refine ⟨hin, fun e => ?_, fun e => ?_⟩
                · rcases HL.out with ⟨e, e1, e2⟩ | ⟨e, e1, e2⟩ <;> omega
                · rcases HL.out with ⟨e, e1, e2⟩ | ⟨e, e1, e2⟩ <;> omega
              · exact HO.out m a1 (by omega)
            case measure => simp [intOf]; omega
      · go_wp2
        go_ret2
        refine ⟨ret_wide (n := 0) (wd_no s k 4 144 191 hk C.out ?_) rfl rfl, rfl⟩
        rintro ⟨q1, q2, q3⟩
        omega
    · go_wp2
      go_ret2
      have e : j = 4 := by omega
      subst e
      refine ⟨ret_wide (n := 4) (wd_yes s k 4 144 191 hk C.out ?_ ?_ ?_) rfl rfl, rfl⟩
      · have := (HO.out 3 (by omega) (by omega)).1; omega
      · exact (HO.out 1 (by omega) (by omega)).2.1 rfl
      · intro m a1 a2; exact (HO.out m (by omega) (by omega)).2.2 a1

end Go.Proofs.YtcphhbofjkenaaaGreatDoor
