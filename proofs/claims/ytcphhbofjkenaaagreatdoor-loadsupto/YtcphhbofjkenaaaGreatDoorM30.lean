/- The program: reading a loop. -/
import Derived.Test.YtcphhbofjkenaaaGreatDoorM21

namespace Go.Proofs.YtcphhbofjkenaaaGreatDoor
open Go.RowKit
set_option linter.unusedVariables false
set_option linter.unusedSimpArgs false

/-- This so many times, as the program has it. -/
def Inf.timesP (a : Inf) (n : Int) : Inf := if n = 0 then ⟨0, 0, 0, 0, a.str⟩ else { a with steps := min (a.steps * n) 1000000001 }

theorem eff_times (a : Inf) (n : Int) (h0 : 0 ≤ n) (h1 : n ≤ 1000) (hs0 : 0 ≤ a.steps) (hs1 : a.steps ≤ 1000000001) (w : World) :
    Calls Tryz.prog 189 #[a.tm, .int .i64 n] w fun e w' => e = .returned (a.timesP n).tm ∧ Below w.heap.size w w' := by
  unfold Inf.timesP
  by_cases h : n = 0
  · subst h
    rw [if_pos rfl]
    exact eff_times1 a.need a.net a.high a.steps (!a.str) w
  · rw [if_neg h]
    exact eff_times0 a.need a.net a.high a.steps n (!a.str) w h h0 h1 hs0 hs1

set_option maxHeartbeats 4000000 in
theorem def_loop_no {w0 w : World} {rb bb db : Nat} {rc : RC} {ev bcv dcv bv : Value} {es : List PE} {nv nt : Int} {pc dc : List Int} {tk : Int} {bs : List PB} {b : PB} {kn : Inf}
    (h : DS w0 w rb rc bb db ev bcv dcv bv es nv nt pc dc tk (bs ++ [b]) kn) (hop : b.opener ≠ 31) (hl : bs.length ≤ 10000000) :
    Calls Tryz.prog 161 #[.pointer (some ⟨db, 0, none⟩)] w fun e w' => e = .returned (.int .i64 5) ∧ DS w0 w' rb rc bb db ev bcv dcv bv es nv nt pc dc tk (bs ++ [b]) kn := by
  obtain ⟨g, cap, hv, hcap, hge, hg, hfr, hcell⟩ := h.last
  have H1 := hidden (def_inner h (by omega) g cap hv hcap)
  have d0 : w.cell? ⟨g, bs.length * 17, none⟩ = some (.int .i64 b.opener) := by simpa using hcell 0 _ rfl
  have hob : (b.opener != 31) = true := by simpa using hop
  have hob2 : (b.opener == 31) = false := by simpa using hop
  have HD := hidden h
  clear h hcell hfr hop
  go_enter Tryz.func161, Tryz.ntmps161
  go_wp2_with fail
  refine H1.out.mono ?_
  rintro e w1 ⟨rfl, hb1⟩
  replace d0 := (hb1.cell (p := ⟨g, bs.length * 17, none⟩) hg).trans d0
  have HB := hidden hb1
  clear H1 hb1
  go_wp2_with fail
  go_ret
  exact ⟨rfl, HD.out.below HB.out⟩

set_option maxHeartbeats 4000000 in
theorem def_loop_diff {w0 w : World} {rb bb db : Nat} {rc : RC} {ev bcv dcv bv : Value} {es : List PE} {nv nt : Int} {pc dc : List Int} {tk : Int} {bs : List PB} {b : PB} {kn : Inf}
    (h : DS w0 w rb rc bb db ev bcv dcv bv es nv nt pc dc tk (bs ++ [b]) kn) (hop : b.opener = 31) (hne : b.does.net ≠ 0) (hl : bs.length ≤ 10000000) :
    Calls Tryz.prog 161 #[.pointer (some ⟨db, 0, none⟩)] w fun e w' => e = .returned (.int .i64 6) ∧ DS w0 w' rb rc bb db ev bcv dcv bv es nv nt pc dc tk (bs ++ [b]) kn := by
  obtain ⟨g, cap, hv, hcap, hge, hg, hfr, hcell⟩ := h.last
  have H1 := hidden (def_inner h (by omega) g cap hv hcap)
  have d0 : w.cell? ⟨g, bs.length * 17, none⟩ = some (.int .i64 b.opener) := by simpa using hcell 0 _ rfl
  have d4 : w.cell? ⟨g, bs.length * 17 + 4, none⟩ = some (.int .i64 b.does.need) := hcell 4 _ rfl
  have d5 : w.cell? ⟨g, bs.length * 17 + 5, none⟩ = some (.int .i64 b.does.net) := hcell 5 _ rfl
  have d6 : w.cell? ⟨g, bs.length * 17 + 6, none⟩ = some (.int .i64 b.does.high) := hcell 6 _ rfl
  have hnb : (b.does.net == 0) = false := by simpa using hne
  have HA := hidden (fun w' => eff_level b.does.need b.does.net b.does.high w')
  rw [hnb] at HA
  rw [hop] at d0
  have HD := hidden h
  clear h hcell hfr hop hne
  go_enter Tryz.func161, Tryz.ntmps161
  go_wp2_with fail
  refine H1.out.mono ?_
  rintro e w1 ⟨rfl, hb1⟩
  replace d0 := (hb1.cell (p := ⟨g, bs.length * 17, none⟩) hg).trans d0
  replace d4 := (hb1.cell (p := ⟨g, bs.length * 17 + 4, none⟩) hg).trans d4
  replace d5 := (hb1.cell (p := ⟨g, bs.length * 17 + 5, none⟩) hg).trans d5
  replace d6 := (hb1.cell (p := ⟨g, bs.length * 17 + 6, none⟩) hg).trans d6
  have HB := hidden hb1
  clear H1 hb1
  go_wp2_with fail
  refine (HA.out _).mono ?_
  rintro e w2 ⟨rfl, hb2⟩
  have HB2 := hidden hb2
  clear hb2
  go_wp2_with fail
  go_ret
  exact ⟨rfl, (HD.out.below HB.out).below HB2.out⟩

set_option maxHeartbeats 4000000 in
theorem def_loop {c : PB} {w0 w : World} {rb bb db : Nat} {rc : RC} {ev bcv dcv bv : Value} {es : List PE} {nv nt : Int} {pc dc : List Int} {tk : Int} {bs : List PB} {b : PB} {kn : Inf}
    (h : DS w0 w rb rc bb db ev bcv dcv bv es nv nt pc dc tk (bs ++ [c] ++ [b]) kn) (hop : b.opener = 31) (heq : b.does.net = 0) (k : Nat) (hk : b.hole = k) (hk1 : pc.length ≤ k) (hk2 : k < dc.length) (ht0 : 0 ≤ b.times) (ht1 : b.times ≤ 1000)
    (hbd : b.does.Ok) (hso : (b.does.then (opInf 32)).Ok) (hor : ((b.does.then (opInf 32)).timesP b.times).Ok) (hcd : c.does.Ok) (hl : bs.length ≤ 10000000) (hc : dc.length ≤ 10000000) :
    Calls Tryz.prog 161 #[.pointer (some ⟨db, 0, none⟩)] w fun e w' => e = .returned (.int .i64 0) ∧ (∃ dcv' bv', DS w0 w' rb rc bb db ev bcv dcv' bv' es nv nt pc ((dc ++ [32, (k : Int) + 1]).set k (dc.length + 2)) tk (bs ++ [c.add ((b.does.then (opInf 32)).timesP b.times)]) kn) := by
  obtain ⟨g, cap, hv, hcap, hge, hg, hfr, hcell⟩ := h.last
  have H1 := hidden (def_inner h (by simp; omega) g cap hv hcap)
  simp only [List.length_append, List.length_singleton] at hcell
  have d0 : w.cell? ⟨g, (bs.length + 1) * 17, none⟩ = some (.int .i64 b.opener) := by simpa using hcell 0 _ rfl
  have d2 : w.cell? ⟨g, (bs.length + 1) * 17 + 2, none⟩ = some (.int .i64 b.hole) := hcell 2 _ rfl
  have d4 : w.cell? ⟨g, (bs.length + 1) * 17 + 4, none⟩ = some (.int .i64 b.does.need) := hcell 4 _ rfl
  have d5 : w.cell? ⟨g, (bs.length + 1) * 17 + 5, none⟩ = some (.int .i64 b.does.net) := hcell 5 _ rfl
  have d6 : w.cell? ⟨g, (bs.length + 1) * 17 + 6, none⟩ = some (.int .i64 b.does.high) := hcell 6 _ rfl
  have hnb : (b.does.net == 0) = true := by simpa using heq
  have HA := hidden (fun w' => eff_level b.does.need b.does.net b.does.high w')
  rw [hnb] at HA
  rw [hop] at d0
  rw [hk] at d2
  have hk8 : (k : Int) ≤ 10000000 := by omega
  have HD := hidden h
  have HK := hidden hk
  have HEQ := hidden heq
  clear h hcell hfr hk heq hop
  go_enter Tryz.func161, Tryz.ntmps161
  go_wp2_with fail
  refine H1.out.mono ?_
  rintro e w1 ⟨rfl, hb1⟩
  simp only [List.length_append, List.length_singleton]
  replace d0 := (hb1.cell (p := ⟨g, (bs.length + 1) * 17, none⟩) hg).trans d0
  replace d2 := (hb1.cell (p := ⟨g, (bs.length + 1) * 17 + 2, none⟩) hg).trans d2
  replace d4 := (hb1.cell (p := ⟨g, (bs.length + 1) * 17 + 4, none⟩) hg).trans d4
  replace d5 := (hb1.cell (p := ⟨g, (bs.length + 1) * 17 + 5, none⟩) hg).trans d5
  replace d6 := (hb1.cell (p := ⟨g, (bs.length + 1) * 17 + 6, none⟩) hg).trans d6
  have hg1 : g < w1.heap.size := Nat.lt_of_lt_of_le hg hb1.size
  have HB := hidden hb1
  clear H1 hb1
  go_wp2_with fail
  refine (HA.out _).mono ?_
  rintro e w2 ⟨rfl, hb2⟩
  replace d2 := (hb2.cell (p := ⟨g, (bs.length + 1) * 17 + 2, none⟩) hg1).trans d2
  have hdq := (HD.out.below HB.out).below hb2
  clear hb2 d0 d4 d5 d6 HB
  obtain ⟨h1, hs1⟩ := hdq.src1 ((k : Int) + 1)
  have H1 := hidden (def_emit h1 32 _ [(k : Int) + 1] hs1 (by omega))
  clear h1 hs1 hdq
  go_wp2_with fail
  refine H1.out.mono ?_
  rintro e w3 ⟨rfl, ⟨v1, h2⟩, _⟩
  have H2 := hidden (code_effect 32 w3 (by omega) h2.tab)
  have HD2 := hidden h2
  clear H1 h2 d2
  go_wp2_with fail
  refine H2.out.mono ?_
  rintro e w4 ⟨rfl, hb4⟩
  have H3 := hidden (def_add (HD2.out.below hb4) (opInf 32) (opInf_ok 32 (by omega)) hbd (by simp; omega))
  clear H2 HD2 hb4
  go_wp2_with fail
  refine H3.out.mono ?_
  rintro e w5 ⟨rfl, h5, _⟩
  have HD5 := hidden h5
  clear H3 h5
  go_wp2_with fail
  refine (def_close HD5.out k HK.out hk1 (by simp; omega) (by simp; omega) (by simp; omega)).mono ?_
  rintro e w6 ⟨rfl, ⟨bv6, h6⟩, _⟩
  have HD6 := hidden h6
  clear h6 HD5
  obtain ⟨r, hr⟩ : ∃ r, r = b.does.then (opInf 32) := ⟨_, rfl⟩
  simp only [PB.val, PB.cells, PB.add]
  rw [← hr] at hor hso ⊢
  have HRR := hidden hr
  clear hr
  go_wp2_with fail
  refine (eff_times r b.times ht0 ht1 hso.s0 hso.s1 _).mono ?_
  rintro e w7 ⟨rfl, hb7⟩
  have HD7 := hidden ((HD6.out.below ((Below.refl _ _).alloc (Nat.le_refl _) _)).below hb7)
  clear HD6 hb7
  go_wp2_with fail
  refine (def_add HD7.out (r.timesP b.times) hor hcd (by omega)).mono ?_
  rintro e w8 ⟨rfl, h8, _⟩
  have HD8 := hidden h8
  clear HD7 h8
  go_wp2_with fail
  go_ret
  exact ⟨rfl, v1, bv6, by rw [← HRR.out]; simpa using HD8.out⟩

end Go.Proofs.YtcphhbofjkenaaaGreatDoor
