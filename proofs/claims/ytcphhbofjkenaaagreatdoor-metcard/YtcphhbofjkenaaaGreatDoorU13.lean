import Derived.Lib.AtoiErrMem
import Derived.Test.YtcphhbofjkenaaaGreatDoorUs
import Derived.Test.YtcphhbofjkenaaaGreatDoorU10
namespace Go.Proofs.YtcphhbofjkenaaaGreatDoor
open Go Go.RowKit
set_option linter.unusedVariables false
set_option linter.unusedSimpArgs false
def numP (s : ByteArray) : Int × Bool :=
 match Lib.parseIntB 32 s.data.toList with
 | .ok v => if Lib.hasPrefix s.data.toList [43] = true then (0, false) else (v, true)
 | _ => (0, false)
set_option maxHeartbeats 2000000 in
theorem tok_number (s : ByteArray) (w : World) (hs : s.size ≤ 100000000) (ht : Tab w) :
  Calls Tryz.prog 162 #[.string s] w fun e w' => e = .returned (.tuple #[.int .i64 (numP s).1, .bool (numP s).2]) ∧ Below w.heap.size w w' := by
 obtain ⟨R, hR⟩ : ∃ R, R = numP s := ⟨_, rfl⟩
 rw [← hR]
 have HP := hidden (fun w' => Tryz.strings_HasPrefix s ⟨#[43]⟩ w')
 obtain ⟨_, ⟨e1, a1, b1⟩, ⟨e2, a2, b2⟩⟩ := ht
 unfold numP at hR
 cases hp : Lib.parseIntB 32 s.data.toList with
 | «syntax» =>
  rw [hp] at hR
  have H1 := hidden (Tryz.strconv_ParseInt_10_at32_syntax s (by omega) hp e1 w a1 b1)
  clear hp a1 b1 a2 b2 HP hs
  subst hR
  go_enter Tryz.func162, Tryz.ntmps162
  go_wp2_with fail
  refine H1.out.mono ?_
  rintro e w1 ⟨n, rfl, _, _, hb⟩
  have HB := hidden hb
  clear hb H1
  go_wp2_with fail
  refine bodyPost_ret (v := .tuple #[.int .i64 0, .bool false]) (by simp [results, Tryz.results162, go_sem]) rfl ⟨rfl, HB.out⟩
 | range =>
  rw [hp] at hR
  have H1 := hidden (Tryz.strconv_ParseInt_10_at32_range s (by omega) hp e2 w a2 b2)
  clear hp a1 b1 a2 b2 HP hs
  subst hR
  go_enter Tryz.func162, Tryz.ntmps162
  go_wp2_with fail
  refine H1.out.mono ?_
  rintro e w1 ⟨n, rfl, _, _, hb⟩
  have HB := hidden hb
  clear hb H1
  go_wp2_with fail
  refine bodyPost_ret (v := .tuple #[.int .i64 0, .bool false]) (by simp [results, Tryz.results162, go_sem]) rfl ⟨rfl, HB.out⟩
 | ok v =>
  rw [hp] at hR
  simp only at hR
  have H1 := hidden (Tryz.strconv_ParseInt_10_at32_ok s (by omega) v hp w)
  clear hp a1 b1 a2 b2 hs
  obtain ⟨q, hq⟩ : ∃ q, q = Lib.hasPrefix s.data.toList [43] := ⟨_, rfl⟩
  have hq2 : Lib.hasPrefix s.data.toList (⟨#[43]⟩ : ByteArray).data.toList = q := hq.symm
  rw [hq2] at HP
  rw [← hq] at hR
  clear hq hq2
  go_enter Tryz.func162, Tryz.ntmps162
  go_wp2_with fail
  refine H1.out.mono ?_
  rintro e w1 ⟨rfl, hw⟩
  have hb : Below w.heap.size w w1 := by
   rcases hw with rfl | ⟨t, rfl⟩
   ·exact Below.refl _ _
   ·exact Lib.bytesWorld_below w _ t
  have HB := hidden hb
  clear hb H1 hw
  go_wp2_with fail
  refine (HP.out w1).mono ?_
  rintro e w2 ⟨rfl, rfl⟩
  cases q
  ·simp only [Bool.false_eq_true, if_false] at hR
   subst hR
   go_wp2_with fail
   refine bodyPost_ret (v := .tuple #[.int .i64 v, .bool true]) (by simp [results, Tryz.results162, go_sem]) rfl ⟨rfl, HB.out⟩
  ·simp only [if_true] at hR
   subst hR
   go_wp2_with fail
   refine bodyPost_ret (v := .tuple #[.int .i64 0, .bool false]) (by simp [results, Tryz.results162, go_sem]) rfl ⟨rfl, HB.out⟩
end Go.Proofs.YtcphhbofjkenaaaGreatDoor
