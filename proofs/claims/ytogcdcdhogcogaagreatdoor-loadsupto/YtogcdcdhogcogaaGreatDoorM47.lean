/- The law's small functions. -/
import Derived.Laws.BytesArg
import Derived.Test.YtogcdcdhogcogaaGreatDoorM40
import Derived.Test.YtogcdcdhogcogaaGreatDoorM45
import Derived.Test.YtogcdcdhogcogaaGreatDoorM46

namespace Go.Proofs.YtogcdcdhogcogaaGreatDoor
open Go Go.RowKit
set_option linter.unusedVariables false
set_option linter.unusedSimpArgs false

/-- Which of n things a raw number speaks of. -/
def pickS (c n : Int) : Int := if c < 0 then -((c + 1).tmod n) else c % n
theorem pickS_bd (c n : Int) (hn : 0 < n) : 0 ≤ pickS c n ∧ pickS c n < n := by
  unfold pickS
  split
  · rename_i h
    have e : -((c + 1).tmod n) = (-(c + 1)) % n := by
      rw [← Int.neg_tmod, Int.tmod_eq_emod_of_nonneg (by omega)]
    rw [e]
    exact ⟨Int.emod_nonneg _ (by omega), Int.emod_lt_of_pos _ hn⟩
  · exact ⟨Int.emod_nonneg _ (by omega), Int.emod_lt_of_pos _ hn⟩

set_option maxHeartbeats 2000000 in
theorem law_pick (c n : Int) (w : World) (hn : 0 < n) (hn2 : n ≤ 1000000000) (h0 : -9223372036854775808 ≤ c) (h1 : c ≤ 9223372036854775807) :
    Calls Tryz.prog 54 #[.int .i64 c, .int .i64 n] w fun e w' => e = .returned (.int .i64 (pickS c n)) ∧ w' = w := by
  by_cases hc : c < 0
  · have e : pickS c n = -((c + 1).tmod n) := by unfold pickS; rw [if_pos hc]
    rw [e]
    clear e
    go_enter Tryz.func54, Tryz.ntmps54
    go_wp2
    go_ret
    exact ⟨rfl, rfl⟩
  · have e : pickS c n = c % n := by unfold pickS; rw [if_neg hc]
    rw [e]
    clear e
    have hc' : 0 ≤ c := by omega
    go_enter Tryz.func54, Tryz.ntmps54
    go_wp2
    go_ret
    exact ⟨rfl, rfl⟩

/-- The text of the n-th list, fuel first. -/
def markG : Nat → Nat → ByteArray → ByteArray
  | 0, _, s => s
  | f + 1, k, s => if 0 < k then markG f (k / 2) (s ++ strOfNums [48 + (k : Int) % 2]) else s
def markS (q : Nat) : ByteArray := markG (q + 1) q ⟨#[109]⟩

theorem one_size (x : Int) : (strOfNums [x]).size = 1 := rfl

set_option maxRecDepth 100000 in
set_option maxHeartbeats 2000000 in
theorem law_mark (n : Nat) (w : World) (hn : n ≤ 1000000000) :
    Calls Tryz.prog 61 #[.int .i64 n] w fun e w' => e = .returned (.string (markS (n / 4))) ∧ Below w.heap.size w w' := by
  obtain ⟨R, hR⟩ : ∃ R, R = markS (n / 4) := ⟨_, rfl⟩
  rw [← hR]
  have HR := hidden hR
  clear hR
  go_enter Tryz.func61, Tryz.ntmps61
  go_wp2
  go_loopw [3, 4] (fun s k wr => ∃ (x : ByteArray) (j f : Nat), s = .string x ∧ k = .int .i64 j ∧ Hid (R = markG f j x) ∧ Hid (j < f ∧ f ≤ 1000000001 ∧ x.size + f ≤ 1000000005) ∧ Hid (Below w.heap.size w wr)) (fun _ k _ => (intOf k).toNat)
  case atStart => exact ⟨_, n / 4, n / 4 + 1, rfl, by go_num, HR, ⟨by omega, by omega, by have : (ByteArray.mk #[109]).size = 1 := rfl; omega⟩, Below.refl _ _⟩
  case round =>
    clear HR
    obtain ⟨x, j, f, rfl, rfl, HRR, HF, HB⟩ := hrel
    obtain ⟨f1, f2, f3⟩ := HF.out
    obtain ⟨f, rfl⟩ : ∃ f', f = f' + 1 := ⟨f - 1, by omega⟩
    by_cases h0 : 0 < j
    · have hj0 : (0 : Int) < (j : Int) := by omega
      have hj1 : (j : Int) ≤ 1000000000 := by omega
      have hcv := run_convert_bytes_arg (P := Tryz.prog) (wr.alloc (Obj.cells #[Value.int .u8 (48 + (j : Int) % 2)] 5)) 91 5 Tryz.underlying91 Tryz.underlying5 wr.heap.size 0 1 1 [48 + (j : Int) % 2] rfl (fun i hi => by
        obtain rfl : i = 0 := by omega
        simp) 9 Tryz.underlying9
      have hz : ¬ 9223372036854775807 < x.size + (strOfNums [48 + (j : Int) % 2]).size := by rw [one_size]; omega
      have hsz := hidden (one_size (48 + (j : Int) % 2))
      have hrr := HRR.out
      rw [markG, if_pos h0] at hrr
      have HR2 := hidden hrr
      clear hrr HRR f1 f2 f3
      go_wp2
      go_roundw
      case rel =>
        obtain ⟨f1, f2, f3⟩ := HF.out
        refine ⟨_, j / 2, f, rfl, by go_num, HR2, ⟨by omega, by omega, ?_⟩, HB.out.alloc HB.out.size _⟩
        rw [ByteArray.size_append, hsz.out]; omega
      case measure => simp [intOf]; omega
    · obtain rfl : j = 0 := by omega
      have hrr := HRR.out
      rw [markG, if_neg (by omega)] at hrr
      have HR2 := hidden hrr
      clear hrr HRR f1 f2 f3
      go_wp2
      rw [HR2.out]
      go_ret
      exact ⟨rfl, HB.out⟩

set_option maxHeartbeats 2000000 in
theorem law_among (b : Nat) (cap : Nat) (l : List Int) (k : Int) (w : World) (hl : l.length ≤ 100) (hcap : l.length ≤ cap) (hc : ∀ j (h : j < l.length), w.cell? ⟨b, j, none⟩ = some (.int .i64 l[j])) :
    Calls Tryz.prog 30 #[.slice (some ⟨b, 0, none⟩) l.length cap, .int .i64 k] w fun e w' => e = .returned (.bool (l.any (fun x => x == k))) ∧ w' = w := by
  obtain ⟨r, hr⟩ : ∃ r, r = l.any (fun x => x == k) := ⟨_, rfl⟩
  rw [← hr]
  have HC : Hid _ := hc
  clear hc
  go_enter Tryz.func30, Tryz.ntmps30
  go_wp2
  go_loop [5] (fun i => ∃ j : Nat, j ≤ l.length ∧ i = .int .i64 j ∧ Hid (∀ x (h : x < l.length), x < j → (l[x] == k) = false)) (fun i => l.length - (intOf i).toNat)
  case atStart => exact ⟨0, Nat.zero_le _, rfl, fun x h h' => by omega⟩
  case round =>
    obtain ⟨j, hj, rfl, HJ⟩ := hrel
    by_cases hlt : j < l.length
    · obtain ⟨x, hx⟩ : ∃ x, x = l[j] := ⟨_, rfl⟩
      have hcx : w.cell? ⟨b, j, none⟩ = some (.int .i64 x) := by rw [hx]; exact HC.out j hlt
      by_cases he : (x == k) = true
      · have HR : Hid (r = true) := by
          show r = true
          rw [hr, List.any_eq_true]
          exact ⟨l[j], List.getElem_mem hlt, by rw [← hx]; exact he⟩
        clear hr hx
        go_wp2
        go_ret
        exact ⟨ret_bool HR.out.symm, rfl⟩
      · have he' : (x == k) = false := by simpa using he
        have HX : Hid (x = l[j]) := hx
        clear hx he
        go_wp2
        go_round
        case rel =>
          refine ⟨j + 1, by omega, by go_num, fun y hy hy' => ?_⟩
          by_cases e : y = j
          · subst e; rw [← HX.out]; exact he'
          · exact HJ.out y hy (by omega)
        case measure => simp [intOf]; omega
    · have HR : Hid (r = false) := by
        show r = false
        rw [hr, List.any_eq_false]
        intro y hy
        obtain ⟨k, hk, rfl⟩ := List.getElem_of_mem hy
        have := HJ.out k hk (by omega)
        simpa using this
      clear hr
      go_wp2
      go_ret
      exact ⟨ret_bool HR.out.symm, rfl⟩

end Go.Proofs.YtogcdcdhogcogaaGreatDoor
