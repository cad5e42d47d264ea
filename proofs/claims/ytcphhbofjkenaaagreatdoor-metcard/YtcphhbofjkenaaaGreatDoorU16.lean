import Derived.Laws.RangeAny
import Derived.Laws.RangeString
import Derived.Lib.QuoteLoop
import Derived.Lib.TrimUEq
import Derived.Lib.Walk
import Derived.LoopTactic
import Derived.StillTailTactics
import Derived.Test.YtcphhbofjkenaaaGreatDoorU13
namespace Go.Proofs.YtcphhbofjkenaaaGreatDoor
set_option maxRecDepth 100000
set_option maxHeartbeats 16000000
open Go.RowKit
set_option linter.unusedVariables false
set_option linter.unusedSimpArgs false
def kBlank (c : Int) : Bool := c == 32 || c == 9 || c == 10
def kInk (c : Int) : Bool := !(c == 32 || c == 9 || c == 10)
def kLine (c : Int) : Bool := c == 10
theorem is_blank (c : Int) (w : World) : Calls Tryz.prog 153 #[.int .i32 c] w fun e w' => e = .returned (.bool (kBlank c)) ∧ w' = w := by
 unfold kBlank
 by_cases h1 : (c == 32) = true
 ·go_enter Tryz.func153, Tryz.ntmps153
  go_wp2
  go_ret
  exact ⟨by simp [h1], rfl⟩
 ·have h1' : (c == 32) = false := by simpa using h1
  by_cases h2 : (c == 9) = true
  ·go_enter Tryz.func153, Tryz.ntmps153
   go_wp2
   go_ret
   exact ⟨by simp [h1', h2], rfl⟩
  ·have h2' : (c == 9) = false := by simpa using h2
   go_enter Tryz.func153, Tryz.ntmps153
   go_wp2
   go_ret
   exact ⟨by simp [h1', h2'], rfl⟩
theorem is_ink (c : Int) (w : World) : Calls Tryz.prog 152 #[.int .i32 c] w fun e w' => e = .returned (.bool (kInk c)) ∧ w' = w := by
 unfold kInk
 go_enter Tryz.func152, Tryz.ntmps152
 go_wp2_with fail
 refine (is_blank c w).mono ?_
 rintro e w' ⟨rfl, rfl⟩
 unfold kBlank
 go_wp2_with fail
 go_ret
 exact ⟨by simp, rfl⟩
theorem ends_line (c : Int) (w : World) : Calls Tryz.prog 120 #[.int .i32 c] w fun e w' => e = .returned (.bool (kLine c)) ∧ w' = w := by
 unfold kLine
 go_enter Tryz.func120, Tryz.ntmps120
 go_wp2
 go_ret
 exact ⟨rfl, rfl⟩
def passF (kd : Int → Bool) (t : ByteArray) : Nat → Nat → Nat
 | 0, _ => t.size
 | f + 1, pos => if pos < t.size then (if kd (Utf8.decode t pos).1 = true then pos else passF kd t f (pos + (Utf8.decode t pos).2)) else t.size
theorem decode_end_le (t : ByteArray) (pos : Nat) (h : pos < t.size) : pos + (Utf8.decode t pos).2 ≤ t.size := by
 rw [Lib.decode_N]
 have hl := Lib.size_eq t
 have := Lib.decodeN_width_le (t.data.toList.length - pos) (t.data.toList.getD pos 0).toNat (t.data.toList.getD (pos + 1) 0).toNat (t.data.toList.getD (pos + 2) 0).toNat (t.data.toList.getD (pos + 3) 0).toNat (by omega)
 omega
theorem rd_pass_isInk (rb : Nat) (s : ByteArray) (at' : Nat)
  (w : World) (h : at' ≤ s.size) (hs : s.size ≤ 200000000000000) (hb : Blk w rb #[.string s, .int .i64 at'] 199) :
  Calls Tryz.prog 119 #[.pointer (some ⟨rb, 0, none⟩), .func (.func 152) #[] #[]] w fun e w' => e = .returned (.tuple #[]) ∧ Blk w' rb #[.string s, .int .i64 (at' + passF kInk (s.extract at' s.size) (s.size - at') 0 : Nat)] 199 ∧ Chg (fun k => k = rb) w w' := by
 have c0 : w.cell? ⟨rb, 0, none⟩ = some (.string s) := hb.cell 0 _ rfl
 have c1 : w.cell? ⟨rb, 1, none⟩ = some (.int .i64 at') := hb.cell 1 _ rfl
 have h1 : (at' : Int) ≤ (s.size : Int) := by omega
 have h0 : (0 : Int) ≤ (at' : Int) := by omega
 obtain ⟨R, hR⟩ : ∃ R, R = passF kInk (s.extract at' s.size) (s.size - at') 0 := ⟨_, rfl⟩
 rw [← hR]
 have HR0 := hidden hR
 clear hR
 have HK := hidden is_ink
 have HB := hidden hb
 have HS := hidden hs
 have HH := hidden h
 clear hb hs h
 go_enter Tryz.func119, Tryz.ntmps119
 go_wp2_with fail
 go_still_tail 9, (by kernel_rfl)
 go_wp2_with fail
 obtain ⟨V, hV⟩ : ∃ V : World, V = w.drew := ⟨_, rfl⟩
 have hVs : V.heap.size = w.heap.size := by rw [hV]; rfl
 have hVB : Below w.heap.size w V := by rw [hV]; exact (Below.refl _ _).drew
 obtain ⟨t, ht⟩ : ∃ t, t = s.extract at' s.size := ⟨_, rfl⟩
 have hts : t.size = s.size - at' := by rw [ht]; simp
 rw [← hV, ← ht]
 rw [← hVs]
 have hR : R = passF kInk t (s.size - at') 0 := by rw [ht]; exact HR0.out
 have v0 := (hVB.cell (p := ⟨rb, 0, none⟩) HB.out.lt).trans c0
 have v1 := (hVB.cell (p := ⟨rb, 1, none⟩) HB.out.lt).trans c1
 have hrV : rb < V.heap.size := by rw [hVs]; exact HB.out.lt
 have fv1 : V.frozen? ⟨rb, 1, none⟩ = false := (hVB.frozen (p := ⟨rb, 1, none⟩) HB.out.lt).trans (HB.out.frozen 1)
 have i0 : ∀ p, (V.iter t p).cell? ⟨rb, 0, none⟩ = some (.string s) := fun p => (((Below.refl _ V).alloc (Nat.le_refl _) _).cell (p := ⟨rb, 0, none⟩) hrV).trans v0
 have i1 : ∀ p, (V.iter t p).cell? ⟨rb, 1, none⟩ = some (.int .i64 at') := fun p => (((Below.refl _ V).alloc (Nat.le_refl _) _).cell (p := ⟨rb, 1, none⟩) hrV).trans v1
 have fi1 : ∀ p, (V.iter t p).frozen? ⟨rb, 1, none⟩ = false := fun p => (((Below.refl _ V).alloc (Nat.le_refl _) _).frozen (p := ⟨rb, 1, none⟩) hrV).trans fv1
 have HIT := hidden (fun p (u : Value) => (show Blk ((V.iter t p).setCell ⟨rb, 1, none⟩ u) rb #[.string s, u] 199 ∧ Chg (fun k => k = rb) w ((V.iter t p).setCell ⟨rb, 1, none⟩ u) from ⟨by have := (((HB.out.sub hVB HB.out.lt).alloc (.stringIter t p)).set (o := 1) u); simpa [World.iter] using this, ((Chg.ofBelow (S := fun k => k = rb) hVB).alloc _).setCell (p := ⟨rb, 1, none⟩) rfl u⟩))
 have HR := hidden hR; have HT := hidden ht; have HTS := hidden hts; have HVB := hidden hVB; have HVS := hidden hVs
 clear hV ht hts hVB hVs hR c0 c1
 go_loopw [4] (fun _ wr => ∃ (pos fu : Nat), wr = V.iter t pos ∧ pos ≤ t.size ∧ t.size ≤ pos + fu ∧ Hid (R = passF kInk t fu pos)) (fun _ wr => t.size - wr.iterPos V.heap.size)
 case atStart => exact ⟨0, s.size - at', rfl, by omega, by have := HTS.out; omega, HR⟩
 case round =>
  obtain ⟨pos, fu, rfl, hpl, hfu, HRR⟩ := hrel
  by_cases hp : pos < t.size
  ·have hnx : ∀ ty, (Instr.next (.pointer (some ⟨V.heap.size, 0, none⟩)) true ty).run Tryz.prog (V.iter t pos) = _ := fun ty => run_next_any V t pos ty hp
   have hwd := Lib.decode_width_pos t pos hp
   obtain ⟨c, hc⟩ : ∃ c, c = (Utf8.decode t pos).1 := ⟨_, rfl⟩
   obtain ⟨wd, hwdd⟩ : ∃ wd, wd = (Utf8.decode t pos).2 := ⟨_, rfl⟩
   rw [← hc, ← hwdd] at hnx
   rw [← hwdd] at hwd
   have HC := hidden hc; have HWD := hidden hwdd; have HP := hidden hp; have HPL := hidden hpl; have HFU := hidden hfu; have HW := hidden hwd
   clear hc hwdd hp hpl hfu hwd
   go_wp2_with fail
   refine (HK.out c _).mono ?_
   rintro e w' ⟨rfl, rfl⟩
   by_cases hk : kInk c = true
   ·have HX := hidden (show R = pos by
     have := HRR.out
     cases fu with
     | zero => have := HFU.out; have := HP.out; omega
     | succ fu => rw [passF, if_pos HP.out, ← HC.out, if_pos hk] at this; exact this)
    have hpi : (pos : Int) ≤ 200000000000000 := by have := HP.out; have := HTS.out; have := HS.out; omega
    have hai : (at' : Int) ≤ 200000000000000 := by have := HH.out; have := HS.out; omega
    have hp0 : (0 : Int) ≤ (pos : Int) := by omega
    go_wp2_with fail
    refine bodyPost_ret (results_none rfl _ _ _) rfl ?_
    have hq := HIT.out (pos + wd) (.int .i64 ((at' : Int) + (pos : Int)))
    have hz : ((at' + R : Nat) : Int) = (at' : Int) + (pos : Int) := by rw [HX.out]; omega
    rw [hz]
    exact ⟨rfl, hq.1, hq.2⟩
   ·have hk' : kInk c = false := by simpa using hk
    go_wp2_with fail
    go_roundw
    case rel =>
     cases fu with
     | zero => have := HFU.out; have := HP.out; omega
     | succ fu =>
      refine ⟨pos + wd, fu, rfl, ?_, by have := HFU.out; have := HW.out; omega, ?_⟩
      ·rw [HWD.out]; exact decode_end_le t pos HP.out
      ·have := HRR.out
       rw [passF, if_pos HP.out, ← HC.out, if_neg hk, ← HWD.out] at this
       exact this
    case measure =>
     have := HW.out; have := HP.out
     simp
     omega
  ·have hnx : ∀ ty, (Instr.next (.pointer (some ⟨V.heap.size, 0, none⟩)) true ty).run Tryz.prog (V.iter t pos) = _ := fun ty => run_next_end V t pos ty hp
   have HX := hidden (show R = t.size by
    have := HRR.out
    cases fu with
    | zero => exact this
    | succ fu => rw [passF, if_neg hp] at this; exact this)
   clear hp hpl hfu
   go_wp2_with fail
   go_end0
   have hq := HIT.out pos (.int .i64 s.size)
   have hz : ((at' + R : Nat) : Int) = (s.size : Int) := by rw [HX.out, HTS.out]; have := HH.out; omega
   rw [hz]
   exact ⟨rfl, hq.1, hq.2⟩
theorem rd_pass_isBlank (rb : Nat) (s : ByteArray) (at' : Nat)
  (w : World) (h : at' ≤ s.size) (hs : s.size ≤ 200000000000000) (hb : Blk w rb #[.string s, .int .i64 at'] 199) :
  Calls Tryz.prog 119 #[.pointer (some ⟨rb, 0, none⟩), .func (.func 153) #[] #[]] w fun e w' => e = .returned (.tuple #[]) ∧ Blk w' rb #[.string s, .int .i64 (at' + passF kBlank (s.extract at' s.size) (s.size - at') 0 : Nat)] 199 ∧ Chg (fun k => k = rb) w w' := by
 have c0 : w.cell? ⟨rb, 0, none⟩ = some (.string s) := hb.cell 0 _ rfl
 have c1 : w.cell? ⟨rb, 1, none⟩ = some (.int .i64 at') := hb.cell 1 _ rfl
 have h1 : (at' : Int) ≤ (s.size : Int) := by omega
 have h0 : (0 : Int) ≤ (at' : Int) := by omega
 obtain ⟨R, hR⟩ : ∃ R, R = passF kBlank (s.extract at' s.size) (s.size - at') 0 := ⟨_, rfl⟩
 rw [← hR]
 have HR0 := hidden hR
 clear hR
 have HK := hidden is_blank
 have HB := hidden hb
 have HS := hidden hs
 have HH := hidden h
 clear hb hs h
 go_enter Tryz.func119, Tryz.ntmps119
 go_wp2_with fail
 go_still_tail 9, (by kernel_rfl)
 go_wp2_with fail
 obtain ⟨V, hV⟩ : ∃ V : World, V = w.drew := ⟨_, rfl⟩
 have hVs : V.heap.size = w.heap.size := by rw [hV]; rfl
 have hVB : Below w.heap.size w V := by rw [hV]; exact (Below.refl _ _).drew
 obtain ⟨t, ht⟩ : ∃ t, t = s.extract at' s.size := ⟨_, rfl⟩
 have hts : t.size = s.size - at' := by rw [ht]; simp
 rw [← hV, ← ht]
 rw [← hVs]
 have hR : R = passF kBlank t (s.size - at') 0 := by rw [ht]; exact HR0.out
 have v0 := (hVB.cell (p := ⟨rb, 0, none⟩) HB.out.lt).trans c0
 have v1 := (hVB.cell (p := ⟨rb, 1, none⟩) HB.out.lt).trans c1
 have hrV : rb < V.heap.size := by rw [hVs]; exact HB.out.lt
 have fv1 : V.frozen? ⟨rb, 1, none⟩ = false := (hVB.frozen (p := ⟨rb, 1, none⟩) HB.out.lt).trans (HB.out.frozen 1)
 have i0 : ∀ p, (V.iter t p).cell? ⟨rb, 0, none⟩ = some (.string s) := fun p => (((Below.refl _ V).alloc (Nat.le_refl _) _).cell (p := ⟨rb, 0, none⟩) hrV).trans v0
 have i1 : ∀ p, (V.iter t p).cell? ⟨rb, 1, none⟩ = some (.int .i64 at') := fun p => (((Below.refl _ V).alloc (Nat.le_refl _) _).cell (p := ⟨rb, 1, none⟩) hrV).trans v1
 have fi1 : ∀ p, (V.iter t p).frozen? ⟨rb, 1, none⟩ = false := fun p => (((Below.refl _ V).alloc (Nat.le_refl _) _).frozen (p := ⟨rb, 1, none⟩) hrV).trans fv1
 have HIT := hidden (fun p (u : Value) => (show Blk ((V.iter t p).setCell ⟨rb, 1, none⟩ u) rb #[.string s, u] 199 ∧ Chg (fun k => k = rb) w ((V.iter t p).setCell ⟨rb, 1, none⟩ u) from ⟨by have := (((HB.out.sub hVB HB.out.lt).alloc (.stringIter t p)).set (o := 1) u); simpa [World.iter] using this, ((Chg.ofBelow (S := fun k => k = rb) hVB).alloc _).setCell (p := ⟨rb, 1, none⟩) rfl u⟩))
 have HR := hidden hR; have HT := hidden ht; have HTS := hidden hts; have HVB := hidden hVB; have HVS := hidden hVs
 clear hV ht hts hVB hVs hR c0 c1
 go_loopw [4] (fun _ wr => ∃ (pos fu : Nat), wr = V.iter t pos ∧ pos ≤ t.size ∧ t.size ≤ pos + fu ∧ Hid (R = passF kBlank t fu pos)) (fun _ wr => t.size - wr.iterPos V.heap.size)
 case atStart => exact ⟨0, s.size - at', rfl, by omega, by have := HTS.out; omega, HR⟩
 case round =>
  obtain ⟨pos, fu, rfl, hpl, hfu, HRR⟩ := hrel
  by_cases hp : pos < t.size
  ·have hnx : ∀ ty, (Instr.next (.pointer (some ⟨V.heap.size, 0, none⟩)) true ty).run Tryz.prog (V.iter t pos) = _ := fun ty => run_next_any V t pos ty hp
   have hwd := Lib.decode_width_pos t pos hp
   obtain ⟨c, hc⟩ : ∃ c, c = (Utf8.decode t pos).1 := ⟨_, rfl⟩
   obtain ⟨wd, hwdd⟩ : ∃ wd, wd = (Utf8.decode t pos).2 := ⟨_, rfl⟩
   rw [← hc, ← hwdd] at hnx
   rw [← hwdd] at hwd
   have HC := hidden hc; have HWD := hidden hwdd; have HP := hidden hp; have HPL := hidden hpl; have HFU := hidden hfu; have HW := hidden hwd
   clear hc hwdd hp hpl hfu hwd
   go_wp2_with fail
   refine (HK.out c _).mono ?_
   rintro e w' ⟨rfl, rfl⟩
   by_cases hk : kBlank c = true
   ·have HX := hidden (show R = pos by
     have := HRR.out
     cases fu with
     | zero => have := HFU.out; have := HP.out; omega
     | succ fu => rw [passF, if_pos HP.out, ← HC.out, if_pos hk] at this; exact this)
    have hpi : (pos : Int) ≤ 200000000000000 := by have := HP.out; have := HTS.out; have := HS.out; omega
    have hai : (at' : Int) ≤ 200000000000000 := by have := HH.out; have := HS.out; omega
    have hp0 : (0 : Int) ≤ (pos : Int) := by omega
    go_wp2_with fail
    refine bodyPost_ret (results_none rfl _ _ _) rfl ?_
    have hq := HIT.out (pos + wd) (.int .i64 ((at' : Int) + (pos : Int)))
    have hz : ((at' + R : Nat) : Int) = (at' : Int) + (pos : Int) := by rw [HX.out]; omega
    rw [hz]
    exact ⟨rfl, hq.1, hq.2⟩
   ·have hk' : kBlank c = false := by simpa using hk
    go_wp2_with fail
    go_roundw
    case rel =>
     cases fu with
     | zero => have := HFU.out; have := HP.out; omega
     | succ fu =>
      refine ⟨pos + wd, fu, rfl, ?_, by have := HFU.out; have := HW.out; omega, ?_⟩
      ·rw [HWD.out]; exact decode_end_le t pos HP.out
      ·have := HRR.out
       rw [passF, if_pos HP.out, ← HC.out, if_neg hk, ← HWD.out] at this
       exact this
    case measure =>
     have := HW.out; have := HP.out
     simp
     omega
  ·have hnx : ∀ ty, (Instr.next (.pointer (some ⟨V.heap.size, 0, none⟩)) true ty).run Tryz.prog (V.iter t pos) = _ := fun ty => run_next_end V t pos ty hp
   have HX := hidden (show R = t.size by
    have := HRR.out
    cases fu with
    | zero => exact this
    | succ fu => rw [passF, if_neg hp] at this; exact this)
   clear hp hpl hfu
   go_wp2_with fail
   go_end0
   have hq := HIT.out pos (.int .i64 s.size)
   have hz : ((at' + R : Nat) : Int) = (s.size : Int) := by rw [HX.out, HTS.out]; have := HH.out; omega
   rw [hz]
   exact ⟨rfl, hq.1, hq.2⟩
theorem rd_pass_endsLine (rb : Nat) (s : ByteArray) (at' : Nat)
  (w : World) (h : at' ≤ s.size) (hs : s.size ≤ 200000000000000) (hb : Blk w rb #[.string s, .int .i64 at'] 199) :
  Calls Tryz.prog 119 #[.pointer (some ⟨rb, 0, none⟩), .func (.func 120) #[] #[]] w fun e w' => e = .returned (.tuple #[]) ∧ Blk w' rb #[.string s, .int .i64 (at' + passF kLine (s.extract at' s.size) (s.size - at') 0 : Nat)] 199 ∧ Chg (fun k => k = rb) w w' := by
 have c0 : w.cell? ⟨rb, 0, none⟩ = some (.string s) := hb.cell 0 _ rfl
 have c1 : w.cell? ⟨rb, 1, none⟩ = some (.int .i64 at') := hb.cell 1 _ rfl
 have h1 : (at' : Int) ≤ (s.size : Int) := by omega
 have h0 : (0 : Int) ≤ (at' : Int) := by omega
 obtain ⟨R, hR⟩ : ∃ R, R = passF kLine (s.extract at' s.size) (s.size - at') 0 := ⟨_, rfl⟩
 rw [← hR]
 have HR0 := hidden hR
 clear hR
 have HK := hidden ends_line
 have HB := hidden hb
 have HS := hidden hs
 have HH := hidden h
 clear hb hs h
 go_enter Tryz.func119, Tryz.ntmps119
 go_wp2_with fail
 go_still_tail 9, (by kernel_rfl)
 go_wp2_with fail
 obtain ⟨V, hV⟩ : ∃ V : World, V = w.drew := ⟨_, rfl⟩
 have hVs : V.heap.size = w.heap.size := by rw [hV]; rfl
 have hVB : Below w.heap.size w V := by rw [hV]; exact (Below.refl _ _).drew
 obtain ⟨t, ht⟩ : ∃ t, t = s.extract at' s.size := ⟨_, rfl⟩
 have hts : t.size = s.size - at' := by rw [ht]; simp
 rw [← hV, ← ht]
 rw [← hVs]
 have hR : R = passF kLine t (s.size - at') 0 := by rw [ht]; exact HR0.out
 have v0 := (hVB.cell (p := ⟨rb, 0, none⟩) HB.out.lt).trans c0
 have v1 := (hVB.cell (p := ⟨rb, 1, none⟩) HB.out.lt).trans c1
 have hrV : rb < V.heap.size := by rw [hVs]; exact HB.out.lt
 have fv1 : V.frozen? ⟨rb, 1, none⟩ = false := (hVB.frozen (p := ⟨rb, 1, none⟩) HB.out.lt).trans (HB.out.frozen 1)
 have i0 : ∀ p, (V.iter t p).cell? ⟨rb, 0, none⟩ = some (.string s) := fun p => (((Below.refl _ V).alloc (Nat.le_refl _) _).cell (p := ⟨rb, 0, none⟩) hrV).trans v0
 have i1 : ∀ p, (V.iter t p).cell? ⟨rb, 1, none⟩ = some (.int .i64 at') := fun p => (((Below.refl _ V).alloc (Nat.le_refl _) _).cell (p := ⟨rb, 1, none⟩) hrV).trans v1
 have fi1 : ∀ p, (V.iter t p).frozen? ⟨rb, 1, none⟩ = false := fun p => (((Below.refl _ V).alloc (Nat.le_refl _) _).frozen (p := ⟨rb, 1, none⟩) hrV).trans fv1
 have HIT := hidden (fun p (u : Value) => (show Blk ((V.iter t p).setCell ⟨rb, 1, none⟩ u) rb #[.string s, u] 199 ∧ Chg (fun k => k = rb) w ((V.iter t p).setCell ⟨rb, 1, none⟩ u) from ⟨by have := (((HB.out.sub hVB HB.out.lt).alloc (.stringIter t p)).set (o := 1) u); simpa [World.iter] using this, ((Chg.ofBelow (S := fun k => k = rb) hVB).alloc _).setCell (p := ⟨rb, 1, none⟩) rfl u⟩))
 have HR := hidden hR; have HT := hidden ht; have HTS := hidden hts; have HVB := hidden hVB; have HVS := hidden hVs
 clear hV ht hts hVB hVs hR c0 c1
 go_loopw [4] (fun _ wr => ∃ (pos fu : Nat), wr = V.iter t pos ∧ pos ≤ t.size ∧ t.size ≤ pos + fu ∧ Hid (R = passF kLine t fu pos)) (fun _ wr => t.size - wr.iterPos V.heap.size)
 case atStart => exact ⟨0, s.size - at', rfl, by omega, by have := HTS.out; omega, HR⟩
 case round =>
  obtain ⟨pos, fu, rfl, hpl, hfu, HRR⟩ := hrel
  by_cases hp : pos < t.size
  ·have hnx : ∀ ty, (Instr.next (.pointer (some ⟨V.heap.size, 0, none⟩)) true ty).run Tryz.prog (V.iter t pos) = _ := fun ty => run_next_any V t pos ty hp
   have hwd := Lib.decode_width_pos t pos hp
   obtain ⟨c, hc⟩ : ∃ c, c = (Utf8.decode t pos).1 := ⟨_, rfl⟩
   obtain ⟨wd, hwdd⟩ : ∃ wd, wd = (Utf8.decode t pos).2 := ⟨_, rfl⟩
   rw [← hc, ← hwdd] at hnx
   rw [← hwdd] at hwd
   have HC := hidden hc; have HWD := hidden hwdd; have HP := hidden hp; have HPL := hidden hpl; have HFU := hidden hfu; have HW := hidden hwd
   clear hc hwdd hp hpl hfu hwd
   go_wp2_with fail
   refine (HK.out c _).mono ?_
   rintro e w' ⟨rfl, rfl⟩
   by_cases hk : kLine c = true
   ·have HX := hidden (show R = pos by
     have := HRR.out
     cases fu with
     | zero => have := HFU.out; have := HP.out; omega
     | succ fu => rw [passF, if_pos HP.out, ← HC.out, if_pos hk] at this; exact this)
    have hpi : (pos : Int) ≤ 200000000000000 := by have := HP.out; have := HTS.out; have := HS.out; omega
    have hai : (at' : Int) ≤ 200000000000000 := by have := HH.out; have := HS.out; omega
    have hp0 : (0 : Int) ≤ (pos : Int) := by omega
    go_wp2_with fail
    refine bodyPost_ret (results_none rfl _ _ _) rfl ?_
    have hq := HIT.out (pos + wd) (.int .i64 ((at' : Int) + (pos : Int)))
    have hz : ((at' + R : Nat) : Int) = (at' : Int) + (pos : Int) := by rw [HX.out]; omega
    rw [hz]
    exact ⟨rfl, hq.1, hq.2⟩
   ·have hk' : kLine c = false := by simpa using hk
    go_wp2_with fail
    go_roundw
    case rel =>
     cases fu with
     | zero => have := HFU.out; have := HP.out; omega
     | succ fu =>
      refine ⟨pos + wd, fu, rfl, ?_, by have := HFU.out; have := HW.out; omega, ?_⟩
      ·rw [HWD.out]; exact decode_end_le t pos HP.out
      ·have := HRR.out
       rw [passF, if_pos HP.out, ← HC.out, if_neg hk, ← HWD.out] at this
       exact this
    case measure =>
     have := HW.out; have := HP.out
     simp
     omega
  ·have hnx : ∀ ty, (Instr.next (.pointer (some ⟨V.heap.size, 0, none⟩)) true ty).run Tryz.prog (V.iter t pos) = _ := fun ty => run_next_end V t pos ty hp
   have HX := hidden (show R = t.size by
    have := HRR.out
    cases fu with
    | zero => exact this
    | succ fu => rw [passF, if_neg hp] at this; exact this)
   clear hp hpl hfu
   go_wp2_with fail
   go_end0
   have hq := HIT.out pos (.int .i64 s.size)
   have hz : ((at' + R : Nat) : Int) = (s.size : Int) := by rw [HX.out, HTS.out]; have := HH.out; omega
   rw [hz]
   exact ⟨rfl, hq.1, hq.2⟩
end Go.Proofs.YtcphhbofjkenaaaGreatDoor
namespace Go.Proofs.YtcphhbofjkenaaaGreatDoor
set_option maxRecDepth 100000
set_option maxHeartbeats 16000000
open Go Go.RowKit
set_option linter.unusedVariables false
set_option linter.unusedSimpArgs false
theorem decode_lo (t : ByteArray) (pos : Nat) (h : byt t pos < 128) : Utf8.decode t pos = (byt t pos, 1) := by
 have h' : (t.get! pos).toNat < 128 := h
 rw [Lib.decode_at, Lib.decodeN, if_pos h']; rfl
theorem decode_hi (t : ByteArray) (pos : Nat) (h : 128 ≤ byt t pos) : 128 ≤ (Utf8.decode t pos).1 ∧ ∀ k, k < (Utf8.decode t pos).2 → 128 ≤ byt t (pos + k) := by
 have e0 : (t.get! pos).toNat = byt t pos := rfl
 have e1 : (t.get! (pos + 1)).toNat = byt t (pos + 1) := rfl
 have e2 : (t.get! (pos + 2)).toNat = byt t (pos + 2) := rfl
 have e3 : (t.get! (pos + 3)).toNat = byt t (pos + 3) := rfl
 rw [Lib.decode_at, e0, e1, e2, e3]
 have key : ∀ k, k = 0 → 128 ≤ byt t (pos + k) := fun k hk => by subst hk; exact h
 unfold Lib.decodeN
 repeat' split
 all_goals first
  | omega
  | (refine ⟨by simp only; omega, fun k hk => ?_⟩
     simp only at hk
     match k, hk with
     | 0, _ => exact key 0 rfl
     | 1, _ => omega
     | 2, _ => omega
     | 3, _ => omega
     | k + 4, hk => omega)
theorem passF_scan (kd : Int → Bool) (p : Nat → Bool) (hlo : ∀ b : Nat, b < 128 → kd b = p b) (hhi : ∀ c b : Nat, 128 ≤ c → 128 ≤ b → kd c = p b) (t : ByteArray) :
  ∀ (f pos : Nat), t.size - pos ≤ f → pos ≤ t.size → passF kd t f pos = scan p t pos
 | 0, pos, hf, hp => by
  rw [passF]
  exact (scan_eq (by omega) (Nat.le_refl _) (fun x h1 h2 => by omega) (Or.inl rfl)).symm
 | f + 1, pos, hf, hp => by
  rw [passF]
  by_cases h : pos < t.size
  ·rw [if_pos h]
   have hw := Lib.decode_width_pos t pos h
   have he := decode_end_le t pos h
   have ih := passF_scan kd p hlo hhi t f (pos + (Utf8.decode t pos).2) (by omega) he
   obtain ⟨a1, a2, a3, a4⟩ := scan_spec p t (pos + (Utf8.decode t pos).2) he
   by_cases hb : byt t pos < 128
   ·have hd := decode_lo t pos hb
    by_cases hk : kd (Utf8.decode t pos).1 = true
    ·rw [if_pos hk]
     refine (scan_eq (Nat.le_refl _) (by omega) (fun x h1 h2 => by omega) (Or.inr ?_)).symm
     rw [hd] at hk; rw [← hlo _ hb]; exact hk
    ·rw [if_neg hk, ih]
     refine (scan_eq (by omega) a2 (fun x h1 h2 => ?_) a4).symm
     by_cases hx : x = pos
     ·subst hx
      rw [hd] at hk; rw [← hlo _ hb]; simpa using hk
     ·exact a3 x (by rw [hd]; simp only; omega) h2
   ·obtain ⟨d1, d2⟩ := decode_hi t pos (by omega)
    by_cases hk : kd (Utf8.decode t pos).1 = true
    ·rw [if_pos hk]
     refine (scan_eq (Nat.le_refl _) (by omega) (fun x h1 h2 => by omega) (Or.inr ?_)).symm
     rw [← hhi _ _ d1 (by omega)]; exact hk
    ·rw [if_neg hk, ih]
     refine (scan_eq (by omega) a2 (fun x h1 h2 => ?_) a4).symm
     by_cases hx : x < pos + (Utf8.decode t pos).2
     ·have := d2 (x - pos) (by omega)
      rw [show pos + (x - pos) = x by omega] at this
      rw [← hhi _ _ d1 this]; simpa using hk
     ·exact a3 x (by omega) h2
  ·rw [if_neg h]
   exact (scan_eq (by omega) (Nat.le_refl _) (fun x h1 h2 => by omega) (Or.inl rfl)).symm
theorem byt_extract (s : ByteArray) (a k : Nat) (h : a + k < s.size) : byt (s.extract a s.size) k = byt s (a + k) := by
 have h1 : k < (s.extract a s.size).size := by simp; omega
 rw [← byt_eq _ _ h1, ← byt_eq _ _ h]
 simp [ByteArray.getElem_extract]
theorem scan_extract (p : Nat → Bool) (s : ByteArray) (a : Nat) (h : a ≤ s.size) : a + scan p (s.extract a s.size) 0 = scan p s a := by
 have hs : (s.extract a s.size).size = s.size - a := by simp
 obtain ⟨a1, a2, a3, a4⟩ := scan_spec p (s.extract a s.size) 0 (by omega)
 rw [hs] at a2 a4
 refine (scan_eq (by omega) (by omega) (fun x h1 h2 => ?_) ?_).symm
 ·have := a3 (x - a) (by omega) (by omega)
  rw [byt_extract s a (x - a) (by omega), show a + (x - a) = x by omega] at this
  exact this
 ·rcases a4 with a4 | a4
  ·exact Or.inl (by omega)
  ·by_cases e : scan p (s.extract a s.size) 0 = s.size - a
   ·exact Or.inl (by omega)
   ·exact Or.inr (by rw [← byt_extract s a _ (by omega)]; exact a4)
theorem kBlank_nat (b : Nat) : kBlank (b : Int) = blk b := by
 rw [Bool.eq_iff_iff]; simp only [kBlank, blk, Bool.or_eq_true, beq_iff_eq]; omega
theorem kInk_nat (b : Nat) : kInk (b : Int) = ink b := by
 have := kBlank_nat b
 simp only [kBlank] at this
 simp only [kInk, ink, this]
theorem kLine_nat (b : Nat) : kLine (b : Int) = eol b := by
 rw [Bool.eq_iff_iff]; simp only [kLine, eol, beq_iff_eq]; omega
theorem blk_hi (b : Nat) (h : 128 ≤ b) : blk b = false := by
 rw [Bool.eq_false_iff]; simp only [blk, ne_eq, Bool.or_eq_true, beq_iff_eq]; omega
theorem eol_hi (b : Nat) (h : 128 ≤ b) : eol b = false := by
 rw [Bool.eq_false_iff]; simp only [eol, ne_eq, beq_iff_eq]; omega
theorem pass_blank (s : ByteArray) (a : Nat) (h : a ≤ s.size) : a + passF kBlank (s.extract a s.size) (s.size - a) 0 = scan blk s a := by
 rw [passF_scan kBlank blk (fun b _ => kBlank_nat b) (fun c b hc hb => by rw [kBlank_nat, blk_hi c hc, blk_hi b hb]) _ _ _ (by simp) (by omega), scan_extract blk s a h]
theorem pass_ink (s : ByteArray) (a : Nat) (h : a ≤ s.size) : a + passF kInk (s.extract a s.size) (s.size - a) 0 = scan ink s a := by
 rw [passF_scan kInk ink (fun b _ => kInk_nat b) (fun c b hc hb => by rw [kInk_nat]; simp only [ink, blk_hi c hc, blk_hi b hb]) _ _ _ (by simp) (by omega), scan_extract ink s a h]
theorem pass_line (s : ByteArray) (a : Nat) (h : a ≤ s.size) : a + passF kLine (s.extract a s.size) (s.size - a) 0 = scan eol s a := by
 rw [passF_scan kLine eol (fun b _ => kLine_nat b) (fun c b hc hb => by rw [kLine_nat, eol_hi c hc, eol_hi b hb]) _ _ _ (by simp) (by omega), scan_extract eol s a h]
def rdC (s : ByteArray) (a : Nat) : Array Value := #[.string s, .int .i64 a]
def cutB (s : ByteArray) (a : Nat) : Nat := scan ink s a
def cutE (s : ByteArray) (a : Nat) : Nat := scan blk s (scan ink s a)
theorem Blk.rdC {w : World} {b : Nat} {t : TypeId} {s : ByteArray} {a : Nat} (h : Blk w b (rdC s a) t) : w.cell? ⟨b, 0, none⟩ = some (.string s) ∧ w.cell? ⟨b, 1, none⟩ = some (.int .i64 a) := ⟨h.cell 0 _ rfl, h.cell 1 _ rfl⟩
theorem rd_cut (rb : Nat) (s : ByteArray) (a : Nat) (w : World) (h : a ≤ s.size) (hs : s.size ≤ 200000000000000) (hb : Blk w rb (rdC s a) 199) :
  Calls Tryz.prog 118 #[.pointer (some ⟨rb, 0, none⟩)] w fun e w' => e = .returned (.agg #[.string (s.extract (cutB s a) (cutE s a)), .int .i64 (cutB s a)]) ∧ Blk w' rb (rdC s (cutE s a)) 199 ∧ Chg (fun k => k = rb) w w' := by
 have hB := (scan_spec ink s a h)
 have hE := (scan_spec blk s (scan ink s a) hB.2.1)
 obtain ⟨x, hx⟩ : ∃ x, x = cutB s a := ⟨_, rfl⟩
 obtain ⟨y, hy⟩ : ∃ y, y = cutE s a := ⟨_, rfl⟩
 have hxs : x ≤ s.size := by rw [hx]; exact hB.2.1
 have hxy : x ≤ y := by rw [hx, hy]; exact hE.1
 have hys : y ≤ s.size := by rw [hy]; exact hE.2.1
 have p1 := pass_ink s a h
 have p2 := pass_blank s x hxs
 have hyx : scan blk s x = y := by rw [hx, hy]; rfl
 have hxa : scan ink s a = x := by rw [hx]; rfl
 rw [hxa] at p1
 rw [hyx] at p2
 rw [← hx, ← hy]
 have hlt := hb.lt
 have H1 := hidden (rd_pass_isInk rb s a (w.alloc (.cells #[.string ⟨#[]⟩, .int .i64 0] 163 (0, 0))) h hs (Blk.alloc hb _))
 rw [p1] at H1
 have H2 := hidden (fun w' (hb' : Blk w' rb (rdC s x) 199) => rd_pass_isBlank rb s x w' hxs hs hb')
 rw [p2] at H2
 have hk0 := blk_new w #[.string ⟨#[]⟩, .int .i64 0] 163
 have HX := hidden hxs; have HXY := hidden hxy; have HYS := hidden hys; have HK0 := hidden hk0; have HS := hidden hs
 clear hB hE hx hy hxs hxy hys p1 p2 hyx hxa h hs hb hk0
 go_enter Tryz.func118, Tryz.ntmps118
 go_wp2_with fail
 refine H1.out.mono ?_
 rintro e w1 ⟨rfl, hb1, hc1⟩
 have hk1 := HK0.out.chg hc1 (fun e => by omega)
 obtain ⟨c0, c1⟩ := Blk.rdC (s := s) (a := x) hb1
 have HB1 := hidden (show Blk w1 rb (rdC s x) 199 from hb1)
 have HC1 := hidden (((Chg.refl (fun k => k = rb) w).alloc _).trans hc1)
 have HK1 := hidden hk1
 clear H1 HK0 hb1 hc1 hk1
 go_wp2_with fail
 refine (H2.out w1 HB1.out).mono ?_
 rintro e w2 ⟨rfl, hb2, hc2⟩
 have hk2 := HK1.out.chg hc2 (fun e => by omega)
 clear c0 c1
 obtain ⟨c0, c1⟩ := Blk.rdC (s := s) (a := y) hb2
 have k0 : w2.cell? ⟨w.heap.size, 0, none⟩ = some (.string ⟨#[]⟩) := hk2.cell 0 _ rfl
 have k1 : w2.cell? ⟨w.heap.size, 1, none⟩ = some (.int .i64 0) := hk2.cell 1 _ rfl
 have f0 := hk2.frozen 0; have f1 := hk2.frozen 1
 have HB2 := hidden (show Blk w2 rb (rdC s y) 199 from hb2)
 have HC2 := hidden (HC1.out.trans hc2)
 have hx0 : (0 : Int) ≤ (x : Int) := by omega
 have hxy : (x : Int) ≤ (y : Int) := by have := HXY.out; omega
 have hys : (y : Int) ≤ (s.size : Int) := by have := HYS.out; omega
 clear H2 HB1 HC1 HK1 hb2 hc2 hk2
 go_wp2_with fail
 go_still_tail 12, (by kernel_rfl)
 go_wp2_with fail
 refine bodyPost_ret (v := .agg #[.string (s.extract x y), .int .i64 x]) (by simp [results, Tryz.results118, go_sem, k0, k1]) rfl ⟨rfl, ?_, ?_⟩
 ·exact ((HB2.out.setOther (by simp; omega) _).setOther (by simp; omega) _)
 ·exact (HC2.out.thru ((((Chg.refl (fun k => k = w.heap.size) w2).setCell (p := ⟨w.heap.size, 0, none⟩) rfl _).setCell (p := ⟨w.heap.size, 1, none⟩) rfl _)) (fun k hk e => by omega)).drew
def nextF (s : ByteArray) : Nat → Nat → ByteArray × Nat × Nat
 | 0, a => (s.extract (cutB s a) (cutE s a), cutB s a, cutE s a)
 | f + 1, a => if ((s.extract (cutB s a) (cutE s a)).toList == [92]) = true then nextF s f (scan eol s (cutE s a)) else (s.extract (cutB s a) (cutE s a), cutB s a, cutE s a)
def atOf (w : World) (rb : Nat) : Nat := match w.cell? ⟨rb, 1, none⟩ with | some (.int _ n) => n.toNat | _ => 0
theorem cut_le (s : ByteArray) (a : Nat) (h : a ≤ s.size) : a ≤ cutB s a ∧ cutB s a ≤ cutE s a ∧ cutE s a ≤ s.size := by
 have hB := (scan_spec ink s a h)
 have hE := (scan_spec blk s (scan ink s a) hB.2.1)
 exact ⟨hB.1, hE.1, hE.2.1⟩
theorem rd_next (rb : Nat) (s : ByteArray) (a : Nat) (w : World) (h : a ≤ s.size) (hs : s.size ≤ 200000000000000) (hb : Blk w rb (rdC s a) 199) :
  Calls Tryz.prog 78 #[.pointer (some ⟨rb, 0, none⟩)] w fun e w' => e = .returned (.agg #[.string (nextF s (s.size - a) a).1, .int .i64 (nextF s (s.size - a) a).2.1]) ∧ Blk w' rb (rdC s (nextF s (s.size - a) a).2.2) 199 ∧ Chg (fun k => k = rb) w w' := by
 obtain ⟨R, hR⟩ : ∃ R, R = nextF s (s.size - a) a := ⟨_, rfl⟩
 rw [← hR]
 have hlt := hb.lt
 have HR := hidden hR; have HB := hidden hb; have HH := hidden h; have HS := hidden hs
 clear hR hb h hs
 go_enter Tryz.func78, Tryz.ntmps78
 go_wp2_with fail
 go_loopw [3] (fun _ wr => ∃ (b f : Nat), b ≤ s.size ∧ s.size - b ≤ f ∧ Hid (R = nextF s f b) ∧ Blk wr rb (rdC s b) 199 ∧ Blk wr w.heap.size #[.string ⟨#[]⟩, .int .i64 0] 163 ∧ Chg (fun k => k = rb) w wr) (fun _ wr => s.size - atOf wr rb)
 case atStart => exact ⟨a, s.size - a, HH.out, Nat.le_refl _, HR, HB.out.alloc _, blk_new w _ _, (Chg.refl _ w).alloc _⟩
 case round =>
  clear HR
  obtain ⟨b, f, hbs, hf, HR, hb, hk, hc⟩ := hrel
  obtain ⟨l1, l2, l3⟩ := cut_le s b hbs
  have H1 := hidden (rd_cut rb s b wr hbs HS.out hb)
  have hat : atOf wr rb = b := by unfold atOf; rw [(Blk.rdC hb).2]; simp
  have HAT := hidden hat
  have hL := hidden (fun w' (hb' : Blk w' rb (rdC s (cutE s b)) 199) => rd_pass_endsLine rb s (cutE s b) w' l3 HS.out hb')
  rw [pass_line s (cutE s b) l3] at hL
  obtain ⟨t, ht⟩ : ∃ t, t = s.extract (cutB s b) (cutE s b) := ⟨_, rfl⟩
  rw [← ht] at H1
  obtain ⟨x, hx⟩ : ∃ x, x = cutB s b := ⟨_, rfl⟩
  obtain ⟨y, hy⟩ : ∃ y, y = cutE s b := ⟨_, rfl⟩
  rw [← hx, ← hy] at H1
  rw [← hy] at hL
  have HTT := hidden ht; have HX := hidden hx; have HY := hidden hy; have HL1 := hidden l1; have HL2 := hidden l2; have HL3 := hidden l3; have HK := hidden hk; have HC := hidden hc; have HBS := hidden hbs; have HF := hidden hf
  clear hat ht hx hy l1 l2 l3 hk hc hb hbs hf
  go_wp2_with fail
  refine H1.out.mono ?_
  rintro e w1 ⟨rfl, hb1, hc1⟩
  have hk1 := HK.out.chg hc1 (fun e => by omega)
  have k0 : w1.cell? ⟨w.heap.size, 0, none⟩ = some (.string ⟨#[]⟩) := hk1.cell 0 _ rfl
  have k1 : w1.cell? ⟨w.heap.size, 1, none⟩ = some (.int .i64 0) := hk1.cell 1 _ rfl
  have f0 := hk1.frozen 0; have f1 := hk1.frozen 1
  have hl1 := hk1.lt
  have HB1 := hidden hb1; have HC1 := hidden (HC.out.trans hc1); have HK1 := hidden hk1
  clear H1 hb1 hc1 hk1 HK HC
  by_cases hn : (t.toList == [92]) = true
  ·have hn2 : (t.toList != [92]) = false := by simp at hn ⊢; exact hn
   go_wp2_with fail
   refine (hL.out _ (HB1.out.alloc _)).mono ?_
   rintro e w2 ⟨rfl, hb2, hc2⟩
   go_wp2_with fail
   go_roundw
   case rel =>
    have hlt2 : x < y := by
     have h3 : t.size = y - x := by rw [HTT.out, HX.out, HY.out]; have := HL3.out; simp; omega
     have h4 := ba_of_list hn
     have h5 : t.size = 1 := by rw [h4]; rfl
     omega
    have hsp := scan_spec eol s y (by rw [HY.out]; exact HL3.out)
    cases f with
    | zero => exfalso; have := HF.out; have := HL1.out; have := HX.out; have := HY.out; have := HL3.out; omega
    | succ f =>
     refine ⟨scan eol s y, f, hsp.2.1, ?_, ?_, hb2, (HK1.out.alloc _).chg hc2 (fun e => by omega), (HC1.out.alloc _).trans hc2⟩
     ·have := HF.out; have := HL1.out; have := HX.out; have := HY.out; omega
     ·have := HR.out
      rw [nextF, ← HTT.out, if_pos hn, ← HY.out] at this
      exact this
   case measure =>
    have hlt2 : x < y := by
     have h3 : t.size = y - x := by rw [HTT.out, HX.out, HY.out]; have := HL3.out; simp; omega
     have h4 := ba_of_list hn
     have h5 : t.size = 1 := by rw [h4]; rfl
     omega
    have hsp := scan_spec eol s y (by rw [HY.out]; exact HL3.out)
    have e1 : atOf w2 rb = scan eol s y := by
     unfold atOf
     rw [show w2.cell? ⟨rb, 1, none⟩ = some (.int .i64 (scan eol s y)) from hb2.cell 1 _ rfl]; simp
    rw [e1, HAT.out]
    have := HL1.out; have := HX.out; have := HY.out; have := HL3.out
    omega
  ·have hn2 : (t.toList != [92]) = true := by simp at hn ⊢; exact hn
   go_wp2_with fail
   have hRe : R = (t, x, y) := by
    have := HR.out
    cases f with
    | zero => rw [nextF, ← HTT.out, ← HX.out, ← HY.out] at this; exact this
    | succ f => rw [nextF, ← HTT.out, if_neg hn, ← HX.out, ← HY.out] at this; exact this
   rw [hRe]
   refine bodyPost_ret (v := .agg #[.string t, .int .i64 x]) (by simp [results, Tryz.results78, go_sem, k0, k1, hl1]) rfl ⟨rfl, ?_, ?_⟩
   ·exact ((HB1.out.setOther (by simp; omega) _).setOther (by simp; omega) _).alloc _
   ·exact (HC1.out.thru ((((Chg.refl (fun k => k = w.heap.size) w1).setCell (p := ⟨w.heap.size, 0, none⟩) rfl _).setCell (p := ⟨w.heap.size, 1, none⟩) rfl _)) (fun k hk e => by omega)).alloc _
def isBad (s : ByteArray) (pos : Nat) : Bool := ((Utf8.decode s pos).1 == 65533) && !Lib.hasPrefix (s.extract pos s.size).data.toList [239, 191, 189]
def badF (s : ByteArray) : Nat → Nat → Option Nat
 | 0, _ => none
 | f + 1, pos => if pos < s.size then (if isBad s pos = true then some pos else badF s f (pos + (Utf8.decode s pos).2)) else none
def badRes : Option Nat → Value
 | some k => .tuple #[.int .i64 k, .bool true]
 | none => .tuple #[.int .i64 0, .bool false]
theorem tok_broken (s : ByteArray) (w : World) (hs : s.size ≤ 200000000000000) :
  Calls Tryz.prog 76 #[.string s] w fun e w' => e = .returned (badRes (badF s s.size 0)) ∧ Below w.heap.size w w' := by
 obtain ⟨R, hR⟩ : ∃ R, R = badF s s.size 0 := ⟨_, rfl⟩
 rw [← hR]
 have HR := hidden hR
 have HS := hidden hs
 clear hR hs
 go_enter Tryz.func76, Tryz.ntmps76
 go_wp2_with fail
 go_loopw [4] (fun _ wr => ∃ (pos fu : Nat), wr = w.iter s pos ∧ pos ≤ s.size ∧ s.size ≤ pos + fu ∧ Hid (R = badF s fu pos)) (fun _ wr => s.size - wr.iterPos w.heap.size)
 case atStart => exact ⟨0, s.size, rfl, by omega, by omega, HR⟩
 case round =>
  obtain ⟨pos, fu, rfl, hpl, hfu, HRR⟩ := hrel
  by_cases hp : pos < s.size
  ·have hnx : ∀ ty, (Instr.next (.pointer (some ⟨w.heap.size, 0, none⟩)) true ty).run Tryz.prog (w.iter s pos) = _ := fun ty => run_next_any w s pos ty hp
   have hwd := Lib.decode_width_pos s pos hp
   have hend := decode_end_le s pos hp
   obtain ⟨c, hc⟩ : ∃ c : Int, c = ((Utf8.decode s pos).1 : Int) := ⟨_, rfl⟩
   obtain ⟨wd, hwdd⟩ : ∃ wd, wd = (Utf8.decode s pos).2 := ⟨_, rfl⟩
   rw [← hc, ← hwdd] at hnx
   rw [← hwdd] at hwd hend
   have hps : (pos : Int) ≤ (s.size : Int) := by omega
   have hp0 : (0 : Int) ≤ (pos : Int) := by omega
   have HC := hidden hc; have HWD := hidden hwdd; have HP := hidden hp; have HPL := hidden hpl; have HFU := hidden hfu; have HW := hidden hwd; have HE := hidden hend
   clear hc hwdd hp hpl hfu hwd hend
   by_cases hr : (c == 65533) = true
   ·go_wp2_with fail
    refine (Tryz.strings_HasPrefix (s.extract pos s.size) ⟨#[239, 191, 189]⟩ _).mono ?_
    rintro e w1 ⟨rfl, rfl⟩
    have hcn : ((Utf8.decode s pos).1 == 65533) = true := by
     have h1 : c = 65533 := by simpa using hr
     have h2 := HC.out
     rw [beq_iff_eq]; omega
    by_cases hq : Lib.hasPrefix (s.extract pos s.size).data.toList [239, 191, 189] = true
    ·have hq2 : Lib.hasPrefix (s.extract pos s.size).data.toList (⟨#[239, 191, 189]⟩ : ByteArray).data.toList = true := hq
     have HBAD := hidden (show isBad s pos = false by rw [isBad, hcn, hq]; rfl)
     rw [hq2]
     clear hq hq2 hcn
     go_wp2_with fail
     go_roundw
     case rel =>
      cases fu with
      | zero => have := HFU.out; have := HP.out; omega
      | succ fu =>
       refine ⟨pos + wd, fu, rfl, HE.out, by have := HFU.out; have := HW.out; omega, ?_⟩
       have := HRR.out
       rw [badF, if_pos HP.out, if_neg (by rw [HBAD.out]; exact Bool.false_ne_true), ← HWD.out] at this
       exact this
     case measure =>
      have := HW.out; have := HP.out
      simp
      omega
    ·have hq0 : Lib.hasPrefix (s.extract pos s.size).data.toList [239, 191, 189] = false := by simpa using hq
     have hq2 : Lib.hasPrefix (s.extract pos s.size).data.toList (⟨#[239, 191, 189]⟩ : ByteArray).data.toList = false := hq0
     have HX := hidden (show R = some pos by
      have := HRR.out
      have hb : isBad s pos = true := by rw [isBad, hcn, hq0]; rfl
      cases fu with
      | zero => have := HFU.out; have := HP.out; omega
      | succ fu => rw [badF, if_pos HP.out, if_pos hb] at this; exact this)
     rw [hq2]
     clear hq hq0 hq2 hcn
     go_wp2_with fail
     refine bodyPost_ret (v := .tuple #[.int .i64 pos, .bool true]) (by simp [results, Tryz.results76, go_sem]) rfl ⟨?_, (Below.refl _ _).alloc (Nat.le_refl _) _⟩
     rw [HX.out]; rfl
   ·have hr' : (c == 65533) = false := by simpa using hr
    have HBAD := hidden (show isBad s pos = false by
     have h1 : ((Utf8.decode s pos).1 == 65533) = false := by
      have h2 := HC.out
      have h3 : ¬ c = 65533 := by simpa using hr
      rw [beq_eq_false_iff_ne]; omega
     rw [isBad, h1]; rfl)
    go_wp2_with fail
    go_roundw
    case rel =>
     cases fu with
     | zero => have := HFU.out; have := HP.out; omega
     | succ fu =>
      refine ⟨pos + wd, fu, rfl, HE.out, by have := HFU.out; have := HW.out; omega, ?_⟩
      have := HRR.out
      rw [badF, if_pos HP.out, if_neg (by rw [HBAD.out]; exact Bool.false_ne_true), ← HWD.out] at this
      exact this
    case measure =>
     have := HW.out; have := HP.out
     simp
     omega
  ·have hnx : ∀ ty, (Instr.next (.pointer (some ⟨w.heap.size, 0, none⟩)) true ty).run Tryz.prog (w.iter s pos) = _ := fun ty => run_next_end w s pos ty hp
   have HX := hidden (show R = none by
    have := HRR.out
    cases fu with
    | zero => exact this
    | succ fu => rw [badF, if_neg hp] at this; exact this)
   clear hp hpl hfu
   go_wp2_with fail
   refine bodyPost_ret (v := .tuple #[.int .i64 0, .bool false]) (by simp [results, Tryz.results76, go_sem]) rfl ⟨?_, (Below.refl _ _).alloc (Nat.le_refl _) _⟩
   rw [HX.out]; rfl
end Go.Proofs.YtcphhbofjkenaaaGreatDoor
