import Derived.Test.YtcphhbofjkenaaaGreatDoorK15
import Derived.Test.YtcphhbofjkenaaaGreatDoorK18

namespace Go.Proofs.YtcphhbofjkenaaaGreatDoor
open Go Go.RowKit
set_option linter.unusedVariables false
set_option linter.unusedSimpArgs false

def isBad (s : ByteArray) (pos : Nat) : Bool := ((Utf8.decode s pos).1 == 65533) && !Lib.hasPrefix (s.extract pos s.size).data.toList [239, 191, 189]
def badF (s : ByteArray) : Nat → Nat → Option Nat
  | 0, _ => none
  | f + 1, pos => if pos < s.size then (if isBad s pos = true then some pos else badF s f (pos + (Utf8.decode s pos).2)) else none
def badRes : Option Nat → Value
  | some k => .tuple #[.int .i64 k, .bool true]
  | none => .tuple #[.int .i64 0, .bool false]

set_option maxRecDepth 100000 in
set_option maxHeartbeats 2000000 in
theorem tok_broken (s : ByteArray) (w : World) (hs : s.size ≤ 200000000000000) :
    Calls Tryz.prog 76 #[.string s] w fun e w' => e = .returned (badRes (badF s s.size 0)) ∧ Below w.heap.size w w' := by
  obtain ⟨R, hR⟩ : ∃ R, R = badF s s.size 0 := ⟨_, rfl⟩
  rw [← hR]
  have HR := hidden hR
  have HS := hidden hs
  clear hR hs
  go_enter Tryz.func76, Tryz.ntmps76
  go_wp2_with fail
  go_loopw [4] (fun _ wr => ∃ (pos fu : Nat), wr = w.iter s pos ∧ pos ≤ s.size ∧ s.size ≤ pos + fu ∧ Hid (R = badF s fu pos)) (fun _ wr => s.size - wr.iterPos w.heap.size)
  case atStart => exact ⟨0, s.size, rfl, by omega, by omega, HR⟩
  case round =>
    obtain ⟨pos, fu, rfl, hpl, hfu, HRR⟩ := hrel
    by_cases hp : pos < s.size
    · have hnx : ∀ ty, (Instr.next (.pointer (some ⟨w.heap.size, 0, none⟩)) true ty).run Tryz.prog (w.iter s pos) = _ := fun ty => run_next_any w s pos ty hp
      have hwd := Lib.decode_width_pos s pos hp
      have hend := decode_end_le s pos hp
      obtain ⟨c, hc⟩ : ∃ c : Int, c = ((Utf8.decode s pos).1 : Int) := ⟨_, rfl⟩
      obtain ⟨wd, hwdd⟩ : ∃ wd, wd = (Utf8.decode s pos).2 := ⟨_, rfl⟩
      rw [← hc, ← hwdd] at hnx
      rw [← hwdd] at hwd hend
      have hps : (pos : Int) ≤ (s.size : Int) := by omega
      have hp0 : (0 : Int) ≤ (pos : Int) := by omega
      have HC := hidden hc; have HWD := hidden hwdd; have HP := hidden hp; have HPL := hidden hpl; have HFU := hidden hfu; have HW := hidden hwd; have HE := hidden hend
      clear hc hwdd hp hpl hfu hwd hend
      by_cases hr : (c == 65533) = true
      · go_wp2_with fail
        refine (Tryz.strings_HasPrefix (s.extract pos s.size) ⟨#[239, 191, 189]⟩ _).mono ?_
        rintro e w1 ⟨rfl, rfl⟩
        have hcn : ((Utf8.decode s pos).1 == 65533) = true := by
          have h1 : c = 65533 := by simpa using hr
          have h2 := HC.out
          rw [beq_iff_eq]; omega
        by_cases hq : Lib.hasPrefix (s.extract pos s.size).data.toList [239, 191, 189] = true
        · have hq2 : Lib.hasPrefix (s.extract pos s.size).data.toList (⟨#[239, 191, 189]⟩ : ByteArray).data.toList = true := hq
          have HBAD := hidden (show isBad s pos = false by rw [isBad, hcn, hq]; rfl)
          rw [hq2]
          clear hq hq2 hcn
          go_wp2_with fail
          go_roundw
          case rel =>
            cases fu with
            | zero => have := HFU.out; have := HP.out; omega
            | succ fu =>
              refine ⟨pos + wd, fu, rfl, HE.out, by have := HFU.out; have := HW.out; omega, ?_⟩
              have := HRR.out
              rw [badF, if_pos HP.out, if_neg (by rw [HBAD.out]; exact Bool.false_ne_true), ← HWD.out] at this
              exact this
          case measure =>
            have := HW.out; have := HP.out
            simp
            omega

        · have hq0 : Lib.hasPrefix (s.extract pos s.size).data.toList [239, 191, 189] = false := by simpa using hq
          have hq2 : Lib.hasPrefix (s.extract pos s.size).data.toList (⟨#[239, 191, 189]⟩ : ByteArray).data.toList = false := hq0
          have HX := hidden (show R = some pos by
            have := HRR.out
            have hb : isBad s pos = true := by rw [isBad, hcn, hq0]; rfl
            cases fu with
            | zero => have := HFU.out; have := HP.out; omega
            | succ fu => rw [badF, if_pos HP.out, if_pos hb] at this; exact this)
          rw [hq2]
          clear hq hq0 hq2 hcn
          go_wp2_with fail
          refine bodyPost_ret (v := .tuple #[.int .i64 pos, .bool true]) (by simp [results, Tryz.results76, go_sem]) rfl ⟨?_, (Below.refl _ _).alloc (Nat.le_refl _) _⟩
          rw [HX.out]; rfl
      · have hr' : (c == 65533) = false := by simpa using hr
        have HBAD := hidden (show isBad s pos = false by
          have h1 : ((Utf8.decode s pos).1 == 65533) = false := by
            have h2 := HC.out
            have h3 : ¬ c = 65533 := by simpa using hr
            rw [beq_eq_false_iff_ne]; omega
          rw [isBad, h1]; rfl)
        go_wp2_with fail
        go_roundw
        case rel =>
          cases fu with
          | zero => have := HFU.out; have := HP.out; omega
          | succ fu =>
            refine ⟨pos + wd, fu, rfl, HE.out, by have := HFU.out; have := HW.out; omega, ?_⟩
            have := HRR.out
            rw [badF, if_pos HP.out, if_neg (by rw [HBAD.out]; exact Bool.false_ne_true), ← HWD.out] at this
            exact this
        case measure =>
          have := HW.out; have := HP.out
          simp
          omega
    · have hnx : ∀ ty, (Instr.next (.pointer (some ⟨w.heap.size, 0, none⟩)) true ty).run Tryz.prog (w.iter s pos) = _ := fun ty => run_next_end w s pos ty hp
      have HX := hidden (show R = none by
        have := HRR.out
        cases fu with
        | zero => exact this
        | succ fu => rw [badF, if_neg hp] at this; exact this)
      clear hp hpl hfu
      go_wp2_with fail
      refine bodyPost_ret (v := .tuple #[.int .i64 0, .bool false]) (by simp [results, Tryz.results76, go_sem]) rfl ⟨?_, (Below.refl _ _).alloc (Nat.le_refl _) _⟩
      rw [HX.out]; rfl

end Go.Proofs.YtcphhbofjkenaaaGreatDoor
