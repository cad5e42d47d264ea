/- The document's answer: words that are there, and numbers. -/
import Derived.Test.YtcphhbofjkenaaaGreatDoorRows
import Derived.WalkKit
import Derived.WalkLawsBesides
import Derived.WalkSpells
import Derived.Test.YtcphhbofjkenaaaGreatDoorM00

namespace Go.Proofs.YtcphhbofjkenaaaGreatDoor
open Go.RowKit
set_option linter.unusedVariables false
set_option linter.unusedSimpArgs false

set_option maxHeartbeats 400000 in
set_option maxRecDepth 100000 in
theorem there_0 (w : World) :
    Calls Tryz.prog 193 #[.string ⟨#[43]⟩] w fun e w' => e = .returned (.tuple #[.int .i64 2, .int .i64 1, .bool true]) ∧ w' = w := by
  go_enter Tryz.func193, Tryz.ntmps193
  go_wp2
  go_ret3
  exact ⟨rfl, rfl⟩
set_option maxHeartbeats 400000 in
set_option maxRecDepth 100000 in
theorem there_1 (w : World) :
    Calls Tryz.prog 193 #[.string ⟨#[45]⟩] w fun e w' => e = .returned (.tuple #[.int .i64 2, .int .i64 1, .bool true]) ∧ w' = w := by
  go_enter Tryz.func193, Tryz.ntmps193
  go_wp2
  go_ret3
  exact ⟨rfl, rfl⟩
set_option maxHeartbeats 400000 in
set_option maxRecDepth 100000 in
theorem there_2 (w : World) :
    Calls Tryz.prog 193 #[.string ⟨#[42]⟩] w fun e w' => e = .returned (.tuple #[.int .i64 2, .int .i64 1, .bool true]) ∧ w' = w := by
  go_enter Tryz.func193, Tryz.ntmps193
  go_wp2
  go_ret3
  exact ⟨rfl, rfl⟩
set_option maxHeartbeats 400000 in
set_option maxRecDepth 100000 in
theorem there_3 (w : World) :
    Calls Tryz.prog 193 #[.string ⟨#[97, 110, 100]⟩] w fun e w' => e = .returned (.tuple #[.int .i64 2, .int .i64 1, .bool true]) ∧ w' = w := by
  go_enter Tryz.func193, Tryz.ntmps193
  go_wp2
  go_ret3
  exact ⟨rfl, rfl⟩
set_option maxHeartbeats 400000 in
set_option maxRecDepth 100000 in
theorem there_4 (w : World) :
    Calls Tryz.prog 193 #[.string ⟨#[111, 114]⟩] w fun e w' => e = .returned (.tuple #[.int .i64 2, .int .i64 1, .bool true]) ∧ w' = w := by
  go_enter Tryz.func193, Tryz.ntmps193
  go_wp2
  go_ret3
  exact ⟨rfl, rfl⟩
set_option maxHeartbeats 400000 in
set_option maxRecDepth 100000 in
theorem there_5 (w : World) :
    Calls Tryz.prog 193 #[.string ⟨#[120, 111, 114]⟩] w fun e w' => e = .returned (.tuple #[.int .i64 2, .int .i64 1, .bool true]) ∧ w' = w := by
  go_enter Tryz.func193, Tryz.ntmps193
  go_wp2
  go_ret3
  exact ⟨rfl, rfl⟩
set_option maxHeartbeats 400000 in
set_option maxRecDepth 100000 in
theorem there_6 (w : World) :
    Calls Tryz.prog 193 #[.string ⟨#[47]⟩] w fun e w' => e = .returned (.tuple #[.int .i64 2, .int .i64 1, .bool true]) ∧ w' = w := by
  go_enter Tryz.func193, Tryz.ntmps193
  go_wp2
  go_ret3
  exact ⟨rfl, rfl⟩
set_option maxHeartbeats 400000 in
set_option maxRecDepth 100000 in
theorem there_7 (w : World) :
    Calls Tryz.prog 193 #[.string ⟨#[109, 111, 100]⟩] w fun e w' => e = .returned (.tuple #[.int .i64 2, .int .i64 1, .bool true]) ∧ w' = w := by
  go_enter Tryz.func193, Tryz.ntmps193
  go_wp2
  go_ret3
  exact ⟨rfl, rfl⟩
set_option maxHeartbeats 400000 in
set_option maxRecDepth 100000 in
theorem there_8 (w : World) :
    Calls Tryz.prog 193 #[.string ⟨#[61]⟩] w fun e w' => e = .returned (.tuple #[.int .i64 2, .int .i64 1, .bool true]) ∧ w' = w := by
  go_enter Tryz.func193, Tryz.ntmps193
  go_wp2
  go_ret3
  exact ⟨rfl, rfl⟩
set_option maxHeartbeats 400000 in
set_option maxRecDepth 100000 in
theorem there_9 (w : World) :
    Calls Tryz.prog 193 #[.string ⟨#[60]⟩] w fun e w' => e = .returned (.tuple #[.int .i64 2, .int .i64 1, .bool true]) ∧ w' = w := by
  go_enter Tryz.func193, Tryz.ntmps193
  go_wp2
  go_ret3
  exact ⟨rfl, rfl⟩
set_option maxHeartbeats 400000 in
set_option maxRecDepth 100000 in
theorem there_10 (w : World) :
    Calls Tryz.prog 193 #[.string ⟨#[62]⟩] w fun e w' => e = .returned (.tuple #[.int .i64 2, .int .i64 1, .bool true]) ∧ w' = w := by
  go_enter Tryz.func193, Tryz.ntmps193
  go_wp2
  go_ret3
  exact ⟨rfl, rfl⟩
set_option maxHeartbeats 400000 in
set_option maxRecDepth 100000 in
theorem there_11 (w : World) :
    Calls Tryz.prog 193 #[.string ⟨#[109, 105, 110]⟩] w fun e w' => e = .returned (.tuple #[.int .i64 2, .int .i64 1, .bool true]) ∧ w' = w := by
  go_enter Tryz.func193, Tryz.ntmps193
  go_wp2
  go_ret3
  exact ⟨rfl, rfl⟩
set_option maxHeartbeats 400000 in
set_option maxRecDepth 100000 in
theorem there_12 (w : World) :
    Calls Tryz.prog 193 #[.string ⟨#[109, 97, 120]⟩] w fun e w' => e = .returned (.tuple #[.int .i64 2, .int .i64 1, .bool true]) ∧ w' = w := by
  go_enter Tryz.func193, Tryz.ntmps193
  go_wp2
  go_ret3
  exact ⟨rfl, rfl⟩
set_option maxHeartbeats 400000 in
set_option maxRecDepth 100000 in
theorem there_13 (w : World) :
    Calls Tryz.prog 193 #[.string ⟨#[110, 105, 112]⟩] w fun e w' => e = .returned (.tuple #[.int .i64 2, .int .i64 1, .bool true]) ∧ w' = w := by
  go_enter Tryz.func193, Tryz.ntmps193
  go_wp2
  go_ret3
  exact ⟨rfl, rfl⟩
set_option maxHeartbeats 400000 in
set_option maxRecDepth 100000 in
theorem there_14 (w : World) :
    Calls Tryz.prog 193 #[.string ⟨#[110, 101, 103, 97, 116, 101]⟩] w fun e w' => e = .returned (.tuple #[.int .i64 1, .int .i64 1, .bool true]) ∧ w' = w := by
  go_enter Tryz.func193, Tryz.ntmps193
  go_wp2
  go_ret3
  exact ⟨rfl, rfl⟩
set_option maxHeartbeats 400000 in
set_option maxRecDepth 100000 in
theorem there_15 (w : World) :
    Calls Tryz.prog 193 #[.string ⟨#[97, 98, 115]⟩] w fun e w' => e = .returned (.tuple #[.int .i64 1, .int .i64 1, .bool true]) ∧ w' = w := by
  go_enter Tryz.func193, Tryz.ntmps193
  go_wp2
  go_ret3
  exact ⟨rfl, rfl⟩
set_option maxHeartbeats 400000 in
set_option maxRecDepth 100000 in
theorem there_16 (w : World) :
    Calls Tryz.prog 193 #[.string ⟨#[48, 61]⟩] w fun e w' => e = .returned (.tuple #[.int .i64 1, .int .i64 1, .bool true]) ∧ w' = w := by
  go_enter Tryz.func193, Tryz.ntmps193
  go_wp2
  go_ret3
  exact ⟨rfl, rfl⟩
set_option maxHeartbeats 400000 in
set_option maxRecDepth 100000 in
theorem there_17 (w : World) :
    Calls Tryz.prog 193 #[.string ⟨#[64]⟩] w fun e w' => e = .returned (.tuple #[.int .i64 1, .int .i64 1, .bool true]) ∧ w' = w := by
  go_enter Tryz.func193, Tryz.ntmps193
  go_wp2
  go_ret3
  exact ⟨rfl, rfl⟩
set_option maxHeartbeats 400000 in
set_option maxRecDepth 100000 in
theorem there_18 (w : World) :
    Calls Tryz.prog 193 #[.string ⟨#[100, 117, 112]⟩] w fun e w' => e = .returned (.tuple #[.int .i64 1, .int .i64 2, .bool true]) ∧ w' = w := by
  go_enter Tryz.func193, Tryz.ntmps193
  go_wp2
  go_ret3
  exact ⟨rfl, rfl⟩
set_option maxHeartbeats 400000 in
set_option maxRecDepth 100000 in
theorem there_19 (w : World) :
    Calls Tryz.prog 193 #[.string ⟨#[100, 114, 111, 112]⟩] w fun e w' => e = .returned (.tuple #[.int .i64 1, .int .i64 0, .bool true]) ∧ w' = w := by
  go_enter Tryz.func193, Tryz.ntmps193
  go_wp2
  go_ret3
  exact ⟨rfl, rfl⟩
set_option maxHeartbeats 400000 in
set_option maxRecDepth 100000 in
theorem there_20 (w : World) :
    Calls Tryz.prog 193 #[.string ⟨#[111, 117, 116]⟩] w fun e w' => e = .returned (.tuple #[.int .i64 1, .int .i64 0, .bool true]) ∧ w' = w := by
  go_enter Tryz.func193, Tryz.ntmps193
  go_wp2
  go_ret3
  exact ⟨rfl, rfl⟩
set_option maxHeartbeats 400000 in
set_option maxRecDepth 100000 in
theorem there_21 (w : World) :
    Calls Tryz.prog 193 #[.string ⟨#[115, 119, 97, 112]⟩] w fun e w' => e = .returned (.tuple #[.int .i64 2, .int .i64 2, .bool true]) ∧ w' = w := by
  go_enter Tryz.func193, Tryz.ntmps193
  go_wp2
  go_ret3
  exact ⟨rfl, rfl⟩
set_option maxHeartbeats 400000 in
set_option maxRecDepth 100000 in
theorem there_22 (w : World) :
    Calls Tryz.prog 193 #[.string ⟨#[111, 118, 101, 114]⟩] w fun e w' => e = .returned (.tuple #[.int .i64 2, .int .i64 3, .bool true]) ∧ w' = w := by
  go_enter Tryz.func193, Tryz.ntmps193
  go_wp2
  go_ret3
  exact ⟨rfl, rfl⟩
set_option maxHeartbeats 400000 in
set_option maxRecDepth 100000 in
theorem there_23 (w : World) :
    Calls Tryz.prog 193 #[.string ⟨#[116, 117, 99, 107]⟩] w fun e w' => e = .returned (.tuple #[.int .i64 2, .int .i64 3, .bool true]) ∧ w' = w := by
  go_enter Tryz.func193, Tryz.ntmps193
  go_wp2
  go_ret3
  exact ⟨rfl, rfl⟩
set_option maxHeartbeats 400000 in
set_option maxRecDepth 100000 in
theorem there_24 (w : World) :
    Calls Tryz.prog 193 #[.string ⟨#[114, 111, 116]⟩] w fun e w' => e = .returned (.tuple #[.int .i64 3, .int .i64 3, .bool true]) ∧ w' = w := by
  go_enter Tryz.func193, Tryz.ntmps193
  go_wp2
  go_ret3
  exact ⟨rfl, rfl⟩
set_option maxHeartbeats 400000 in
set_option maxRecDepth 100000 in
theorem there_25 (w : World) :
    Calls Tryz.prog 193 #[.string ⟨#[33]⟩] w fun e w' => e = .returned (.tuple #[.int .i64 2, .int .i64 0, .bool true]) ∧ w' = w := by
  go_enter Tryz.func193, Tryz.ntmps193
  go_wp2
  go_ret3
  exact ⟨rfl, rfl⟩
set_option maxHeartbeats 400000 in
set_option maxRecDepth 100000 in
theorem there_26 (w : World) :
    Calls Tryz.prog 193 #[.string ⟨#[105, 110]⟩] w fun e w' => e = .returned (.tuple #[.int .i64 0, .int .i64 1, .bool true]) ∧ w' = w := by
  go_enter Tryz.func193, Tryz.ntmps193
  go_wp2
  go_ret3
  exact ⟨rfl, rfl⟩
set_option maxHeartbeats 400000 in
set_option maxRecDepth 100000 in
theorem there_27 (w : World) :
    Calls Tryz.prog 193 #[.string ⟨#[105]⟩] w fun e w' => e = .returned (.tuple #[.int .i64 0, .int .i64 1, .bool true]) ∧ w' = w := by
  go_enter Tryz.func193, Tryz.ntmps193
  go_wp2
  go_ret3
  exact ⟨rfl, rfl⟩
set_option maxHeartbeats 4000000 in
set_option maxRecDepth 100000 in
theorem there_no (s : ByteArray) (w : World) (h0 : (s.toList == [43]) = false) (h1 : (s.toList == [45]) = false) (h2 : (s.toList == [42]) = false) (h3 : (s.toList == [97, 110, 100]) = false) (h4 : (s.toList == [111, 114]) = false) (h5 : (s.toList == [120, 111, 114]) = false) (h6 : (s.toList == [47]) = false) (h7 : (s.toList == [109, 111, 100]) = false) (h8 : (s.toList == [61]) = false) (h9 : (s.toList == [60]) = false) (h10 : (s.toList == [62]) = false) (h11 : (s.toList == [109, 105, 110]) = false) (h12 : (s.toList == [109, 97, 120]) = false) (h13 : (s.toList == [110, 105, 112]) = false) (h14 : (s.toList == [110, 101, 103, 97, 116, 101]) = false) (h15 : (s.toList == [97, 98, 115]) = false) (h16 : (s.toList == [48, 61]) = false) (h17 : (s.toList == [64]) = false) (h18 : (s.toList == [100, 117, 112]) = false) (h19 : (s.toList == [100, 114, 111, 112]) = false) (h20 : (s.toList == [111, 117, 116]) = false) (h21 : (s.toList == [115, 119, 97, 112]) = false) (h22 : (s.toList == [111, 118, 101, 114]) = false) (h23 : (s.toList == [116, 117, 99, 107]) = false) (h24 : (s.toList == [114, 111, 116]) = false) (h25 : (s.toList == [33]) = false) (h26 : (s.toList == [105, 110]) = false) (h27 : (s.toList == [105]) = false) :
    Calls Tryz.prog 193 #[.string s] w fun e w' => e = .returned (.tuple #[.int .i64 0, .int .i64 0, .bool false]) ∧ w' = w := by
  go_enter Tryz.func193, Tryz.ntmps193
  go_wp2
  go_ret3
  exact ⟨rfl, rfl⟩

theorem ba_of_list {s : ByteArray} {l : List UInt8} (h : (s.toList == l) = true) : s = ⟨l.toArray⟩ := by
  have e : s.data.toList = l := by rw [← Go.Lib.toList_data]; simpa using h
  cases s with
  | mk d => simp at e; subst e; simp

theorem ba_list (l : List UInt8) : (⟨l.toArray⟩ : ByteArray).toList = l := by rw [Go.Lib.toList_data]

theorem ref_there (s : ByteArray) (w : World) :
    Calls Tryz.prog 193 #[.string s] w fun e w' => e = .returned (.tuple #[.int .i64 (thereS s).1, .int .i64 (thereS s).2.1, .bool (thereS s).2.2]) ∧ w' = w := by
  by_cases h0 : (s.toList == [43]) = true
  · rw [ba_of_list h0]
    have e : thereS ⟨[43].toArray⟩ = (2, 1, true) := by rw [thereS, ba_list]; rfl
    rw [e]; exact there_0 w
  by_cases h1 : (s.toList == [45]) = true
  · rw [ba_of_list h1]
    have e : thereS ⟨[45].toArray⟩ = (2, 1, true) := by rw [thereS, ba_list]; rfl
    rw [e]; exact there_1 w
  by_cases h2 : (s.toList == [42]) = true
  · rw [ba_of_list h2]
    have e : thereS ⟨[42].toArray⟩ = (2, 1, true) := by rw [thereS, ba_list]; rfl
    rw [e]; exact there_2 w
  by_cases h3 : (s.toList == [97, 110, 100]) = true
  · rw [ba_of_list h3]
    have e : thereS ⟨[97, 110, 100].toArray⟩ = (2, 1, true) := by rw [thereS, ba_list]; rfl
    rw [e]; exact there_3 w
  by_cases h4 : (s.toList == [111, 114]) = true
  · rw [ba_of_list h4]
    have e : thereS ⟨[111, 114].toArray⟩ = (2, 1, true) := by rw [thereS, ba_list]; rfl
    rw [e]; exact there_4 w
  by_cases h5 : (s.toList == [120, 111, 114]) = true
  · rw [ba_of_list h5]
    have e : thereS ⟨[120, 111, 114].toArray⟩ = (2, 1, true) := by rw [thereS, ba_list]; rfl
    rw [e]; exact there_5 w
  by_cases h6 : (s.toList == [47]) = true
  · rw [ba_of_list h6]
    have e : thereS ⟨[47].toArray⟩ = (2, 1, true) := by rw [thereS, ba_list]; rfl
    rw [e]; exact there_6 w
  by_cases h7 : (s.toList == [109, 111, 100]) = true
  · rw [ba_of_list h7]
    have e : thereS ⟨[109, 111, 100].toArray⟩ = (2, 1, true) := by rw [thereS, ba_list]; rfl
    rw [e]; exact there_7 w
  by_cases h8 : (s.toList == [61]) = true
  · rw [ba_of_list h8]
    have e : thereS ⟨[61].toArray⟩ = (2, 1, true) := by rw [thereS, ba_list]; rfl
    rw [e]; exact there_8 w
  by_cases h9 : (s.toList == [60]) = true
  · rw [ba_of_list h9]
    have e : thereS ⟨[60].toArray⟩ = (2, 1, true) := by rw [thereS, ba_list]; rfl
    rw [e]; exact there_9 w
  by_cases h10 : (s.toList == [62]) = true
  · rw [ba_of_list h10]
    have e : thereS ⟨[62].toArray⟩ = (2, 1, true) := by rw [thereS, ba_list]; rfl
    rw [e]; exact there_10 w
  by_cases h11 : (s.toList == [109, 105, 110]) = true
  · rw [ba_of_list h11]
    have e : thereS ⟨[109, 105, 110].toArray⟩ = (2, 1, true) := by rw [thereS, ba_list]; rfl
    rw [e]; exact there_11 w
  by_cases h12 : (s.toList == [109, 97, 120]) = true
  · rw [ba_of_list h12]
    have e : thereS ⟨[109, 97, 120].toArray⟩ = (2, 1, true) := by rw [thereS, ba_list]; rfl
    rw [e]; exact there_12 w
  by_cases h13 : (s.toList == [110, 105, 112]) = true
  · rw [ba_of_list h13]
    have e : thereS ⟨[110, 105, 112].toArray⟩ = (2, 1, true) := by rw [thereS, ba_list]; rfl
    rw [e]; exact there_13 w
  by_cases h14 : (s.toList == [110, 101, 103, 97, 116, 101]) = true
  · rw [ba_of_list h14]
    have e : thereS ⟨[110, 101, 103, 97, 116, 101].toArray⟩ = (1, 1, true) := by rw [thereS, ba_list]; rfl
    rw [e]; exact there_14 w
  by_cases h15 : (s.toList == [97, 98, 115]) = true
  · rw [ba_of_list h15]
    have e : thereS ⟨[97, 98, 115].toArray⟩ = (1, 1, true) := by rw [thereS, ba_list]; rfl
    rw [e]; exact there_15 w
  by_cases h16 : (s.toList == [48, 61]) = true
  · rw [ba_of_list h16]
    have e : thereS ⟨[48, 61].toArray⟩ = (1, 1, true) := by rw [thereS, ba_list]; rfl
    rw [e]; exact there_16 w
  by_cases h17 : (s.toList == [64]) = true
  · rw [ba_of_list h17]
    have e : thereS ⟨[64].toArray⟩ = (1, 1, true) := by rw [thereS, ba_list]; rfl
    rw [e]; exact there_17 w
  by_cases h18 : (s.toList == [100, 117, 112]) = true
  · rw [ba_of_list h18]
    have e : thereS ⟨[100, 117, 112].toArray⟩ = (1, 2, true) := by rw [thereS, ba_list]; rfl
    rw [e]; exact there_18 w
  by_cases h19 : (s.toList == [100, 114, 111, 112]) = true
  · rw [ba_of_list h19]
    have e : thereS ⟨[100, 114, 111, 112].toArray⟩ = (1, 0, true) := by rw [thereS, ba_list]; rfl
    rw [e]; exact there_19 w
  by_cases h20 : (s.toList == [111, 117, 116]) = true
  · rw [ba_of_list h20]
    have e : thereS ⟨[111, 117, 116].toArray⟩ = (1, 0, true) := by rw [thereS, ba_list]; rfl
    rw [e]; exact there_20 w
  by_cases h21 : (s.toList == [115, 119, 97, 112]) = true
  · rw [ba_of_list h21]
    have e : thereS ⟨[115, 119, 97, 112].toArray⟩ = (2, 2, true) := by rw [thereS, ba_list]; rfl
    rw [e]; exact there_21 w
  by_cases h22 : (s.toList == [111, 118, 101, 114]) = true
  · rw [ba_of_list h22]
    have e : thereS ⟨[111, 118, 101, 114].toArray⟩ = (2, 3, true) := by rw [thereS, ba_list]; rfl
    rw [e]; exact there_22 w
  by_cases h23 : (s.toList == [116, 117, 99, 107]) = true
  · rw [ba_of_list h23]
    have e : thereS ⟨[116, 117, 99, 107].toArray⟩ = (2, 3, true) := by rw [thereS, ba_list]; rfl
    rw [e]; exact there_23 w
  by_cases h24 : (s.toList == [114, 111, 116]) = true
  · rw [ba_of_list h24]
    have e : thereS ⟨[114, 111, 116].toArray⟩ = (3, 3, true) := by rw [thereS, ba_list]; rfl
    rw [e]; exact there_24 w
  by_cases h25 : (s.toList == [33]) = true
  · rw [ba_of_list h25]
    have e : thereS ⟨[33].toArray⟩ = (2, 0, true) := by rw [thereS, ba_list]; rfl
    rw [e]; exact there_25 w
  by_cases h26 : (s.toList == [105, 110]) = true
  · rw [ba_of_list h26]
    have e : thereS ⟨[105, 110].toArray⟩ = (0, 1, true) := by rw [thereS, ba_list]; rfl
    rw [e]; exact there_26 w
  by_cases h27 : (s.toList == [105]) = true
  · rw [ba_of_list h27]
    have e : thereS ⟨[105].toArray⟩ = (0, 1, true) := by rw [thereS, ba_list]; rfl
    rw [e]; exact there_27 w
  have e : thereS s = (0, 0, false) := by
    unfold thereS thereL
    have : tab.find? (fun r => r.1 == s.toList) = none := by
      rw [List.find?_eq_none]
      intro r hr
      simp only [tab, List.mem_cons, List.not_mem_nil, or_false] at hr
      simp only [beq_iff_eq] at *
      rcases hr with rfl | rfl | rfl | rfl | rfl | rfl | rfl | rfl | rfl | rfl | rfl | rfl | rfl | rfl | rfl | rfl | rfl | rfl | rfl | rfl | rfl | rfl | rfl | rfl | rfl | rfl | rfl | rfl <;> (intro e; simp only at e; simp_all)
    rw [this]
  rw [e]
  exact there_no s w (Bool.eq_false_iff.2 h0) (Bool.eq_false_iff.2 h1) (Bool.eq_false_iff.2 h2) (Bool.eq_false_iff.2 h3) (Bool.eq_false_iff.2 h4) (Bool.eq_false_iff.2 h5) (Bool.eq_false_iff.2 h6) (Bool.eq_false_iff.2 h7) (Bool.eq_false_iff.2 h8) (Bool.eq_false_iff.2 h9) (Bool.eq_false_iff.2 h10) (Bool.eq_false_iff.2 h11) (Bool.eq_false_iff.2 h12) (Bool.eq_false_iff.2 h13) (Bool.eq_false_iff.2 h14) (Bool.eq_false_iff.2 h15) (Bool.eq_false_iff.2 h16) (Bool.eq_false_iff.2 h17) (Bool.eq_false_iff.2 h18) (Bool.eq_false_iff.2 h19) (Bool.eq_false_iff.2 h20) (Bool.eq_false_iff.2 h21) (Bool.eq_false_iff.2 h22) (Bool.eq_false_iff.2 h23) (Bool.eq_false_iff.2 h24) (Bool.eq_false_iff.2 h25) (Bool.eq_false_iff.2 h26) (Bool.eq_false_iff.2 h27)

end Go.Proofs.YtcphhbofjkenaaaGreatDoor
