/- The program: reading a then. -/
import Derived.Test.YtcphhbofjkenaaaGreatDoorM21

namespace Go.Proofs.YtcphhbofjkenaaaGreatDoor
open Go.RowKit
set_option linter.unusedVariables false
set_option linter.unusedSimpArgs false

/-- This or the other, of the same net, as the program has it. -/
def Inf.orP (a b : Inf) : Inf := ⟨max a.need b.need, a.net, max a.high b.high, max a.steps b.steps, a.str && b.str⟩

theorem eff_or (a b : Inf) (w : World) :
    Calls Tryz.prog 187 #[a.tm, b.tm] w fun e w' => e = .returned (a.orP b).tm ∧ Below w.heap.size w w' := by
  refine (eff_or0 a.need a.net a.high a.steps b.need b.net b.high b.steps (!a.str) (!b.str) w).mono ?_
  rintro e w1 ⟨rfl, h⟩
  exact ⟨by simp [Inf.orP, Inf.tm], h⟩

set_option maxHeartbeats 4000000 in
theorem def_then_no {w0 w : World} {rb bb db : Nat} {rc : RC} {ev bcv dcv bv : Value} {es : List PE} {nv nt : Int} {pc dc : List Int} {tk : Int} {bs : List PB} {b : PB} {kn : Inf}
    (h : DS w0 w rb rc bb db ev bcv dcv bv es nv nt pc dc tk (bs ++ [b]) kn) (hop : b.opener ≠ 29) (hop2 : b.opener ≠ 30) (hl : bs.length ≤ 10000000) :
    Calls Tryz.prog 159 #[.pointer (some ⟨db, 0, none⟩)] w fun e w' => e = .returned (.int .i64 5) ∧ DS w0 w' rb rc bb db ev bcv dcv bv es nv nt pc dc tk (bs ++ [b]) kn := by
  obtain ⟨g, cap, hv, hcap, hge, hg, hfr, hcell⟩ := h.last
  have H1 := hidden (def_inner h (by omega) g cap hv hcap)
  have d0 : w.cell? ⟨g, bs.length * 17, none⟩ = some (.int .i64 b.opener) := by simpa using hcell 0 _ rfl
  have hob : (b.opener != 29) = true := by simpa using hop
  have hob2 : (b.opener != 30) = true := by simpa using hop2
  have HD := hidden h
  clear h hcell hfr hop hop2
  go_enter Tryz.func159, Tryz.ntmps159
  go_wp2_with fail
  refine H1.out.mono ?_
  rintro e w1 ⟨rfl, hb1⟩
  replace d0 := (hb1.cell (p := ⟨g, bs.length * 17, none⟩) hg).trans d0
  have HB := hidden hb1
  clear H1 hb1
  go_wp2_with fail
  go_ret
  exact ⟨rfl, HD.out.below HB.out⟩

set_option maxHeartbeats 4000000 in
theorem def_then_diff {w0 w : World} {rb bb db : Nat} {rc : RC} {ev bcv dcv bv : Value} {es : List PE} {nv nt : Int} {pc dc : List Int} {tk : Int} {bs : List PB} {b : PB} {kn : Inf}
    (h : DS w0 w rb rc bb db ev bcv dcv bv es nv nt pc dc tk (bs ++ [b]) kn) (hop : b.opener = 29 ∨ b.opener = 30) (hne : b.does.net ≠ b.other.net) (hl : bs.length ≤ 10000000) :
    Calls Tryz.prog 159 #[.pointer (some ⟨db, 0, none⟩)] w fun e w' => e = .returned (.int .i64 6) ∧ DS w0 w' rb rc bb db ev bcv dcv bv es nv nt pc dc tk (bs ++ [b]) kn := by
  obtain ⟨g, cap, hv, hcap, hge, hg, hfr, hcell⟩ := h.last
  have H1 := hidden (def_inner h (by omega) g cap hv hcap)
  have d0 : w.cell? ⟨g, bs.length * 17, none⟩ = some (.int .i64 b.opener) := by simpa using hcell 0 _ rfl
  have d4 : w.cell? ⟨g, bs.length * 17 + 4, none⟩ = some (.int .i64 b.does.need) := hcell 4 _ rfl
  have d5 : w.cell? ⟨g, bs.length * 17 + 5, none⟩ = some (.int .i64 b.does.net) := hcell 5 _ rfl
  have d6 : w.cell? ⟨g, bs.length * 17 + 6, none⟩ = some (.int .i64 b.does.high) := hcell 6 _ rfl
  have d9 : w.cell? ⟨g, bs.length * 17 + 9, none⟩ = some (.int .i64 b.other.need) := hcell 9 _ rfl
  have d10 : w.cell? ⟨g, bs.length * 17 + 10, none⟩ = some (.int .i64 b.other.net) := hcell 10 _ rfl
  have d11 : w.cell? ⟨g, bs.length * 17 + 11, none⟩ = some (.int .i64 b.other.high) := hcell 11 _ rfl
  have hnb : (b.does.net == b.other.net) = false := by simpa using hne
  have HA := hidden (fun w' => eff_agrees b.does.need b.does.net b.does.high b.other.need b.other.net b.other.high w')
  rw [hnb] at HA
  have HD := hidden h
  have hoo : ((b.opener != 29) && (b.opener != 30)) = false := by rcases hop with e | e <;> simp [e]
  clear h hcell hfr hne
  go_enter Tryz.func159, Tryz.ntmps159
  go_wp2_with fail
  refine H1.out.mono ?_
  rintro e w1 ⟨rfl, hb1⟩
  replace d0 := (hb1.cell (p := ⟨g, bs.length * 17, none⟩) hg).trans d0
  replace d4 := (hb1.cell (p := ⟨g, bs.length * 17 + 4, none⟩) hg).trans d4
  replace d5 := (hb1.cell (p := ⟨g, bs.length * 17 + 5, none⟩) hg).trans d5
  replace d6 := (hb1.cell (p := ⟨g, bs.length * 17 + 6, none⟩) hg).trans d6
  replace d9 := (hb1.cell (p := ⟨g, bs.length * 17 + 9, none⟩) hg).trans d9
  replace d10 := (hb1.cell (p := ⟨g, bs.length * 17 + 10, none⟩) hg).trans d10
  replace d11 := (hb1.cell (p := ⟨g, bs.length * 17 + 11, none⟩) hg).trans d11
  have hg1 : g < w1.heap.size := Nat.lt_of_lt_of_le hg hb1.size
  have HB := hidden hb1
  clear H1 hb1
  rcases hop with hop | hop
  all_goals
    rw [hop] at d0
    go_upto_region 4 with fail
    have hc := fun (B : Nat) (w0 : World) (u : Und B w0) (b o : Nat) (h : b < B) => u.cell b o h
    have hun := Und.ne
    refine wp_region_und w1.heap.size (by kernel_rfl) (by kernel_rfl) ?_
    repeat (go_big_quiet_step ((go_at_call 186; exact Und.calls (Nat.le_refl _) _ (HA.out _))))
    refine wpQuiet_nil ?_
    intro u
    obtain ⟨w2, hb2⟩ := u
    dsimp only
    have HB2 := hidden hb2
    clear hc hun hb2
    go_wp2_with fail
    go_ret
    exact ⟨rfl, (HD.out.below HB.out).below HB2.out⟩

set_option maxHeartbeats 4000000 in
theorem def_then {c : PB} {w0 w : World} {rb bb db : Nat} {rc : RC} {ev bcv dcv bv : Value} {es : List PE} {nv nt : Int} {pc dc : List Int} {tk : Int} {bs : List PB} {b : PB} {kn : Inf}
    (h : DS w0 w rb rc bb db ev bcv dcv bv es nv nt pc dc tk (bs ++ [c] ++ [b]) kn) (hop : b.opener = 29 ∨ b.opener = 30) (heq : b.does.net = b.other.net) (k : Nat) (hk : b.hole = k) (hk1 : pc.length ≤ k) (hk2 : k < dc.length) (hor : (b.does.orP b.other).Ok) (hcd : c.does.Ok) (hl : bs.length ≤ 10000000) (hc : dc.length ≤ 10000000) :
    Calls Tryz.prog 159 #[.pointer (some ⟨db, 0, none⟩)] w fun e w' => e = .returned (.int .i64 0) ∧ (∃ dcv' bv', DS w0 w' rb rc bb db ev bcv dcv' bv' es nv nt pc (dc.set k dc.length) tk (bs ++ [c.add (b.does.orP b.other)]) kn) := by
  obtain ⟨g, cap, hv, hcap, hge, hg, hfr, hcell⟩ := h.last
  have H1 := hidden (def_inner h (by simp; omega) g cap hv hcap)
  simp only [List.length_append, List.length_singleton] at hcell
  have d0 : w.cell? ⟨g, (bs.length + 1) * 17, none⟩ = some (.int .i64 b.opener) := by simpa using hcell 0 _ rfl
  have d4 : w.cell? ⟨g, (bs.length + 1) * 17 + 4, none⟩ = some (.int .i64 b.does.need) := hcell 4 _ rfl
  have d5 : w.cell? ⟨g, (bs.length + 1) * 17 + 5, none⟩ = some (.int .i64 b.does.net) := hcell 5 _ rfl
  have d6 : w.cell? ⟨g, (bs.length + 1) * 17 + 6, none⟩ = some (.int .i64 b.does.high) := hcell 6 _ rfl
  have d9 : w.cell? ⟨g, (bs.length + 1) * 17 + 9, none⟩ = some (.int .i64 b.other.need) := hcell 9 _ rfl
  have d10 : w.cell? ⟨g, (bs.length + 1) * 17 + 10, none⟩ = some (.int .i64 b.other.net) := hcell 10 _ rfl
  have d11 : w.cell? ⟨g, (bs.length + 1) * 17 + 11, none⟩ = some (.int .i64 b.other.high) := hcell 11 _ rfl
  have hnb : (b.does.net == b.other.net) = true := by simpa using heq
  have HA := hidden (fun w' => eff_agrees b.does.need b.does.net b.does.high b.other.need b.other.net b.other.high w')
  rw [hnb] at HA
  have HD := hidden h
  clear h hcell hfr heq
  go_enter Tryz.func159, Tryz.ntmps159
  go_wp2_with fail
  refine H1.out.mono ?_
  rintro e w1 ⟨rfl, hb1⟩
  simp only [List.length_append, List.length_singleton]
  replace d0 := (hb1.cell (p := ⟨g, (bs.length + 1) * 17, none⟩) hg).trans d0
  replace d4 := (hb1.cell (p := ⟨g, (bs.length + 1) * 17 + 4, none⟩) hg).trans d4
  replace d5 := (hb1.cell (p := ⟨g, (bs.length + 1) * 17 + 5, none⟩) hg).trans d5
  replace d6 := (hb1.cell (p := ⟨g, (bs.length + 1) * 17 + 6, none⟩) hg).trans d6
  replace d9 := (hb1.cell (p := ⟨g, (bs.length + 1) * 17 + 9, none⟩) hg).trans d9
  replace d10 := (hb1.cell (p := ⟨g, (bs.length + 1) * 17 + 10, none⟩) hg).trans d10
  replace d11 := (hb1.cell (p := ⟨g, (bs.length + 1) * 17 + 11, none⟩) hg).trans d11
  have hg1 : g < w1.heap.size := Nat.lt_of_lt_of_le hg hb1.size
  have HB := hidden hb1
  clear H1 hb1
  have hoo : b.opener = 29 ∨ b.opener = 30 := hop
  rcases hop with hop | hop
  all_goals
    rw [hop] at d0
    go_upto_region 4 with fail
    have hc := fun (B : Nat) (w0 : World) (u : Und B w0) (b o : Nat) (h : b < B) => u.cell b o h
    have hun := Und.ne
    refine wp_region_und w1.heap.size (by kernel_rfl) (by kernel_rfl) ?_
    repeat (go_big_quiet_step ((go_at_call 186; exact Und.calls (Nat.le_refl _) _ (HA.out _))))
    refine wpQuiet_nil ?_
    intro u
    obtain ⟨w2, hb2⟩ := u
    dsimp only
    have HDS2 := hidden ((HD.out.below HB.out).below hb2)
    clear hc hun hb2 d0 d4 d5 d6 d9 d10 d11
    go_wp2_with fail
    refine (def_close HDS2.out k hk hk1 hk2 (by simp; omega) (by omega)).mono ?_
    rintro e w3 ⟨rfl, ⟨bv3, h3⟩, _⟩
    have HD3 := hidden h3
    clear h3 HDS2
    simp only [PB.val, PB.cells]
    go_wp2_with fail
    refine (eff_or b.does b.other _).mono ?_
    rintro e w4 ⟨rfl, hb4⟩
    have HD4 := hidden ((HD3.out.below ((Below.refl _ _).alloc (Nat.le_refl _) _)).below hb4)
    clear HD3 hb4
    go_wp2_with fail
    refine (def_add HD4.out (b.does.orP b.other) hor hcd (by omega)).mono ?_
    rintro e w5 ⟨rfl, h5, _⟩
    have HD5 := hidden h5
    clear HD4 h5
    go_wp2_with fail
    go_ret
    exact ⟨rfl, _, _, HD5.out⟩

end Go.Proofs.YtcphhbofjkenaaaGreatDoor
