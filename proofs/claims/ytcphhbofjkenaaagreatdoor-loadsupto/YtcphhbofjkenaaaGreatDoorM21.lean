/- The program: reading an if. -/
import Derived.Test.YtcphhbofjkenaaaGreatDoorM20

namespace Go.Proofs.YtcphhbofjkenaaaGreatDoor
open Go.RowKit
set_option linter.unusedVariables false
set_option linter.unusedSimpArgs false

def PB.zero : PB := ⟨0, false, 0, 0, Inf.zero, Inf.zero, 0, 0, 0⟩

theorem opInf_ok (k : Nat) (h : k < 35) : (opInf k).Ok := by
  obtain ⟨a, b, c, d⟩ := opTab_bd k h
  constructor <;> simp only [opInf] <;> omega

/-- Behind an alloc, a definition's code does not lie in the new block. -/
theorem DS.src1 {w0 w : World} {rb bb db : Nat} {rc : RC} {ev bcv dcv bv : Value} {es : List PE} {nv nt : Int} {pc dc : List Int} {tk : Int} {bs : List PB} {kn : Inf}
    (h : DS w0 w rb rc bb db ev bcv dcv bv es nv nt pc dc tk bs kn) (x : Int) : DS w0 (w.alloc (.cells #[.int .i64 x] 3 (0, 0))) rb rc bb db ev bcv dcv bv es nv nt pc dc tk bs kn ∧ Src1 (w.alloc (.cells #[.int .i64 x] 3 (0, 0))) dcv (.slice (some ⟨w.heap.size, 0, none⟩) 1 1) [x] :=
  ⟨h.below ((Below.refl _ _).alloc (Nat.le_refl _) _), Or.inr ⟨w.heap.size, x, rfl, rfl, by simp, by simp, (h.there (Nat.le_refl _)).2.2.2.2.2.1⟩⟩

set_option maxHeartbeats 4000000 in
theorem def_if {w0 w : World} {rb bb db : Nat} {rc : RC} {ev bcv dcv bv : Value} {es : List PE} {nv nt : Int} {pc dc : List Int} {tk : Int} {bs : List PB} {b : PB} {kn : Inf}
    (h : DS w0 w rb rc bb db ev bcv dcv bv es nv nt pc dc tk (bs ++ [b]) kn) (hd : b.does.Ok) (hl : bs.length ≤ 10000000) (hc : dc.length ≤ 10000000) :
    Calls Tryz.prog 157 #[.pointer (some ⟨db, 0, none⟩)] w fun e w' => e = .returned (.int .i64 0) ∧ (∃ dcv' bv', DS w0 w' rb rc bb db ev bcv dcv' bv' es nv nt pc (dc ++ [29, 0]) tk (bs ++ [b.add (opInf 29)] ++ [PB.opened { PB.zero with opener := 29 } (b.add (opInf 29)) (dc.length + 2)]) kn) := by
  obtain ⟨h1, hs1⟩ := h.src1 0
  have H1 := hidden (def_emit h1 29 _ [0] hs1 (by omega))
  have HOK := hidden hd
  clear h h1 hs1 hd
  go_enter Tryz.func157, Tryz.ntmps157
  go_wp2_with fail
  refine H1.out.mono ?_
  rintro e w1 ⟨rfl, ⟨v1, h2⟩, _⟩
  have H2 := hidden (code_effect 29 w1 (by omega) h2.tab)
  have HD2 := hidden h2
  clear H1 h2
  go_wp2_with fail
  refine H2.out.mono ?_
  rintro e w2 ⟨rfl, hb2⟩
  have H3 := hidden (def_add (HD2.out.below hb2) (opInf 29) (opInf_ok 29 (by omega)) HOK.out (by omega))
  clear H2 HD2 hb2
  go_wp2_with fail
  refine H3.out.mono ?_
  rintro e w3 ⟨rfl, h3, _⟩
  have H4 := hidden (def_open h3 { PB.zero with opener := 29 } (by omega) (by simp) (by simp; omega))
  clear H3 h3
  go_wp2_with fail
  refine H4.out.mono ?_
  rintro e w4 ⟨rfl, ⟨bv', h4⟩, _⟩
  have H5 := hidden h4
  clear H4 h4
  go_wp2_with fail
  go_ret
  exact ⟨rfl, v1, bv', by simpa using H5.out⟩

end Go.Proofs.YtcphhbofjkenaaaGreatDoor

/- The program: reading a number. -/
namespace Go.Proofs.YtcphhbofjkenaaaGreatDoor
open Go.RowKit
set_option linter.unusedVariables false
set_option linter.unusedSimpArgs false

set_option maxHeartbeats 4000000 in
theorem def_number {w0 w : World} {rb bb db : Nat} {rc : RC} {ev bcv dcv bv : Value} {es : List PE} {nv nt : Int} {pc dc : List Int} {tk : Int} {bs : List PB} {b : PB} {kn : Inf}
    (h : DS w0 w rb rc bb db ev bcv dcv bv es nv nt pc dc tk (bs ++ [b]) kn) (x : Int) (hbd : b.does.Ok) (hn0 : 0 ≤ b.numbers) (hn1 : b.numbers ≤ 2) (hl : bs.length ≤ 10000000) (hc : dc.length ≤ 10000000) :
    Calls Tryz.prog 163 #[.pointer (some ⟨db, 0, none⟩), .int .i64 x] w fun e w' => e = .returned (.int .i64 0) ∧ (∃ dcv', DS w0 w' rb rc bb db ev bcv dcv' bv es nv nt pc (dc ++ [28, x]) tk (bs ++ [{ b.add (opInf 28) with numbers := min (b.numbers + 1) 2, a0 := b.a1, a1 := x }]) kn) := by
  obtain ⟨g, cap, hv, hcap, hge, hg, hfr, hcell⟩ := h.last
  have H1 := hidden (def_inner h (by omega) g cap hv hcap)
  have d14 : w.cell? ⟨g, bs.length * 17 + 14, none⟩ = some (.int .i64 b.numbers) := hcell 14 _ rfl
  have HD := hidden h
  have HOK := hidden hbd
  clear h hcell hfr hbd
  go_enter Tryz.func163, Tryz.ntmps163
  go_wp2_with fail
  refine H1.out.mono ?_
  rintro e w1 ⟨rfl, hb1⟩
  replace d14 := (hb1.cell (p := ⟨g, bs.length * 17 + 14, none⟩) hg).trans d14
  obtain ⟨h1, hs1⟩ := (HD.out.below hb1).src1 x
  have H2 := hidden (def_emit h1 28 _ [x] hs1 (by omega))
  clear H1 hb1 h1 hs1
  go_wp2_with fail
  refine H2.out.mono ?_
  rintro e w2 ⟨rfl, ⟨v1, h2⟩, _⟩
  have H3 := hidden (code_effect 28 w2 (by omega) h2.tab)
  have HD2 := hidden h2
  clear H2 h2 d14
  go_wp2_with fail
  refine H3.out.mono ?_
  rintro e w3 ⟨rfl, hb3⟩
  have H4 := hidden (def_add (HD2.out.below hb3) (opInf 28) (opInf_ok 28 (by omega)) HOK.out (by omega))
  clear H3 HD2 hb3
  go_wp2_with fail
  refine H4.out.mono ?_
  rintro e w4 ⟨rfl, h4, _⟩
  obtain ⟨g', cap', hv', hcap', hge', hg', hfr', hcell'⟩ := h4.last
  obtain ⟨rfl, rfl⟩ : g = g' ∧ cap = cap' := by rw [hv] at hv'; simpa using hv'
  have e14 : w4.cell? ⟨g, bs.length * 17 + 14, none⟩ = some (.int .i64 0) := hcell' 14 _ rfl
  have e15 : w4.cell? ⟨g, bs.length * 17 + 15, none⟩ = some (.int .i64 b.a0) := hcell' 15 _ rfl
  have e16 : w4.cell? ⟨g, bs.length * 17 + 16, none⟩ = some (.int .i64 b.a1) := hcell' 16 _ rfl
  have q14 := hfr' (bs.length * 17 + 14); have q15 := hfr' (bs.length * 17 + 15); have q16 := hfr' (bs.length * 17 + 16)
  have HD4 := hidden h4
  clear H4 h4 hcell' hfr' hv'
  go_wp2_with fail
  go_ret
  subst hv
  have hrow := HD4.out.row
  rw [List.length_append, List.length_singleton, List.flatMap_append, List.flatMap_singleton] at hrow
  have hF := flat_length PB.cells 17 (fun _ => rfl) bs
  have s1 := row_set_last hrow hF 14 (.int .i64 (min (b.numbers + 1) 2))
  have s2 := row_set_last s1 hF 15 (.int .i64 b.a1)
  have s3 := row_set_last s2 hF 16 (.int .i64 x)
  refine ⟨rfl, v1, HD4.out.setLast (b' := { b.add (opInf 28) with numbers := min (b.numbers + 1) 2, a0 := b.a1, a1 := x }) ?_ s3⟩
  exact (((Chg.refl (fun k => k = g) w4).setCell (p := ⟨g, bs.length * 17 + 14, none⟩) rfl _).setCell (p := ⟨g, bs.length * 17 + 15, none⟩) rfl _).setCell (p := ⟨g, bs.length * 17 + 16, none⟩) rfl _

end Go.Proofs.YtcphhbofjkenaaaGreatDoor
