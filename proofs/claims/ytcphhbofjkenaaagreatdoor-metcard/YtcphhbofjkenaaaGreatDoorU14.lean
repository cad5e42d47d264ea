import Derived.Test.YtcphhbofjkenaaaGreatDoorU12
namespace Go.Proofs.YtcphhbofjkenaaaGreatDoor
set_option maxHeartbeats 16000000
open Go.RowKit
set_option linter.unusedVariables false
set_option linter.unusedSimpArgs false
def PB.zero : PB := ⟨0, false, 0, 0, Inf.zero, Inf.zero, 0, 0, 0⟩
theorem opInf_ok (k : Nat) (h : k < 35) : (opInf k).Ok := by
 obtain ⟨a, b, c, d⟩ := opTab_bd k h
 constructor <;> simp only [opInf] <;> omega
theorem DS.src1 {w0 w : World} {rb bb db : Nat} {rc : RC} {ev bcv dcv bv : Value} {es : List PE} {nv nt : Int} {pc dc : List Int} {tk : Int} {bs : List PB} {kn : Inf}
  (h : DS w0 w rb rc bb db ev bcv dcv bv es nv nt pc dc tk bs kn) (x : Int) : DS w0 (w.alloc (.cells #[.int .i64 x] 3 (0, 0))) rb rc bb db ev bcv dcv bv es nv nt pc dc tk bs kn ∧ Src1 (w.alloc (.cells #[.int .i64 x] 3 (0, 0))) dcv (.slice (some ⟨w.heap.size, 0, none⟩) 1 1) [x] :=
 ⟨h.below ((Below.refl _ _).alloc (Nat.le_refl _) _), Or.inr ⟨w.heap.size, x, rfl, rfl, by simp, by simp, (h.there (Nat.le_refl _)).2.2.2.2.2.1⟩⟩
theorem def_if {w0 w : World} {rb bb db : Nat} {rc : RC} {ev bcv dcv bv : Value} {es : List PE} {nv nt : Int} {pc dc : List Int} {tk : Int} {bs : List PB} {b : PB} {kn : Inf}
  (h : DS w0 w rb rc bb db ev bcv dcv bv es nv nt pc dc tk (bs ++ [b]) kn) (hd : b.does.Ok) (hl : bs.length ≤ 10000000) (hc : dc.length ≤ 10000000) :
  Calls Tryz.prog 157 #[.pointer (some ⟨db, 0, none⟩)] w fun e w' => e = .returned (.int .i64 0) ∧ (∃ dcv' bv', DS w0 w' rb rc bb db ev bcv dcv' bv' es nv nt pc (dc ++ [29, 0]) tk (bs ++ [b.add (opInf 29)] ++ [PB.opened { PB.zero with opener := 29 } (b.add (opInf 29)) (dc.length + 2)]) kn) := by
 obtain ⟨h1, hs1⟩ := h.src1 0
 have H1 := hidden (def_emit h1 29 _ [0] hs1 (by omega))
 have HOK := hidden hd
 clear h h1 hs1 hd
 go_enter Tryz.func157, Tryz.ntmps157
 go_wp2_with fail
 refine H1.out.mono ?_
 rintro e w1 ⟨rfl, ⟨v1, h2⟩, _⟩
 have H2 := hidden (code_effect 29 w1 (by omega) h2.tab)
 have HD2 := hidden h2
 clear H1 h2
 go_wp2_with fail
 refine H2.out.mono ?_
 rintro e w2 ⟨rfl, hb2⟩
 have H3 := hidden (def_add (HD2.out.below hb2) (opInf 29) (opInf_ok 29 (by omega)) HOK.out (by omega))
 clear H2 HD2 hb2
 go_wp2_with fail
 refine H3.out.mono ?_
 rintro e w3 ⟨rfl, h3, _⟩
 have H4 := hidden (def_open h3 { PB.zero with opener := 29 } (by omega) (by simp) (by simp; omega))
 clear H3 h3
 go_wp2_with fail
 refine H4.out.mono ?_
 rintro e w4 ⟨rfl, ⟨bv', h4⟩, _⟩
 have H5 := hidden h4
 clear H4 h4
 go_wp2_with fail
 go_ret
 exact ⟨rfl, v1, bv', by simpa using H5.out⟩
end Go.Proofs.YtcphhbofjkenaaaGreatDoor
namespace Go.Proofs.YtcphhbofjkenaaaGreatDoor
set_option maxHeartbeats 16000000
open Go.RowKit
set_option linter.unusedVariables false
set_option linter.unusedSimpArgs false
theorem def_number {w0 w : World} {rb bb db : Nat} {rc : RC} {ev bcv dcv bv : Value} {es : List PE} {nv nt : Int} {pc dc : List Int} {tk : Int} {bs : List PB} {b : PB} {kn : Inf}
  (h : DS w0 w rb rc bb db ev bcv dcv bv es nv nt pc dc tk (bs ++ [b]) kn) (x : Int) (hbd : b.does.Ok) (hn0 : 0 ≤ b.numbers) (hn1 : b.numbers ≤ 2) (hl : bs.length ≤ 10000000) (hc : dc.length ≤ 10000000) :
  Calls Tryz.prog 163 #[.pointer (some ⟨db, 0, none⟩), .int .i64 x] w fun e w' => e = .returned (.int .i64 0) ∧ (∃ dcv', DS w0 w' rb rc bb db ev bcv dcv' bv es nv nt pc (dc ++ [28, x]) tk (bs ++ [{ b.add (opInf 28) with numbers := min (b.numbers + 1) 2, a0 := b.a1, a1 := x }]) kn) := by
 obtain ⟨g, cap, hv, hcap, hge, hg, hfr, hcell⟩ := h.last
 have H1 := hidden (def_inner h (by omega) g cap hv hcap)
 have d14 : w.cell? ⟨g, bs.length * 17 + 14, none⟩ = some (.int .i64 b.numbers) := hcell 14 _ rfl
 have HD := hidden h
 have HOK := hidden hbd
 clear h hcell hfr hbd
 go_enter Tryz.func163, Tryz.ntmps163
 go_wp2_with fail
 refine H1.out.mono ?_
 rintro e w1 ⟨rfl, hb1⟩
 replace d14 := (hb1.cell (p := ⟨g, bs.length * 17 + 14, none⟩) hg).trans d14
 obtain ⟨h1, hs1⟩ := (HD.out.below hb1).src1 x
 have H2 := hidden (def_emit h1 28 _ [x] hs1 (by omega))
 clear H1 hb1 h1 hs1
 go_wp2_with fail
 refine H2.out.mono ?_
 rintro e w2 ⟨rfl, ⟨v1, h2⟩, _⟩
 have H3 := hidden (code_effect 28 w2 (by omega) h2.tab)
 have HD2 := hidden h2
 clear H2 h2 d14
 go_wp2_with fail
 refine H3.out.mono ?_
 rintro e w3 ⟨rfl, hb3⟩
 have H4 := hidden (def_add (HD2.out.below hb3) (opInf 28) (opInf_ok 28 (by omega)) HOK.out (by omega))
 clear H3 HD2 hb3
 go_wp2_with fail
 refine H4.out.mono ?_
 rintro e w4 ⟨rfl, h4, _⟩
 obtain ⟨g', cap', hv', hcap', hge', hg', hfr', hcell'⟩ := h4.last
 obtain ⟨rfl, rfl⟩ : g = g' ∧ cap = cap' := by rw [hv] at hv'; simpa using hv'
 have e14 : w4.cell? ⟨g, bs.length * 17 + 14, none⟩ = some (.int .i64 0) := hcell' 14 _ rfl
 have e15 : w4.cell? ⟨g, bs.length * 17 + 15, none⟩ = some (.int .i64 b.a0) := hcell' 15 _ rfl
 have e16 : w4.cell? ⟨g, bs.length * 17 + 16, none⟩ = some (.int .i64 b.a1) := hcell' 16 _ rfl
 have q14 := hfr' (bs.length * 17 + 14); have q15 := hfr' (bs.length * 17 + 15); have q16 := hfr' (bs.length * 17 + 16)
 have HD4 := hidden h4
 clear H4 h4 hcell' hfr' hv'
 go_wp2_with fail
 go_ret
 subst hv
 have hrow := HD4.out.row
 rw [List.length_append, List.length_singleton, List.flatMap_append, List.flatMap_singleton] at hrow
 have hF := flat_length PB.cells 17 (fun _ => rfl) bs
 have s1 := row_set_last hrow hF 14 (.int .i64 (min (b.numbers + 1) 2))
 have s2 := row_set_last s1 hF 15 (.int .i64 b.a1)
 have s3 := row_set_last s2 hF 16 (.int .i64 x)
 refine ⟨rfl, v1, HD4.out.setLast (b' := { b.add (opInf 28) with numbers := min (b.numbers + 1) 2, a0 := b.a1, a1 := x }) ?_ s3⟩
 exact (((Chg.refl (fun k => k = g) w4).setCell (p := ⟨g, bs.length * 17 + 14, none⟩) rfl _).setCell (p := ⟨g, bs.length * 17 + 15, none⟩) rfl _).setCell (p := ⟨g, bs.length * 17 + 16, none⟩) rfl _
theorem def_else_no {w0 w : World} {rb bb db : Nat} {rc : RC} {ev bcv dcv bv : Value} {es : List PE} {nv nt : Int} {pc dc : List Int} {tk : Int} {bs : List PB} {b : PB} {kn : Inf}
  (h : DS w0 w rb rc bb db ev bcv dcv bv es nv nt pc dc tk (bs ++ [b]) kn) (hop : b.opener ≠ 29) (hl : bs.length ≤ 10000000) :
  Calls Tryz.prog 158 #[.pointer (some ⟨db, 0, none⟩)] w fun e w' => e = .returned (.int .i64 5) ∧ DS w0 w' rb rc bb db ev bcv dcv bv es nv nt pc dc tk (bs ++ [b]) kn := by
 obtain ⟨g, cap, hv, hcap, hge, hg, hfr, hcell⟩ := h.last
 have H1 := hidden (def_inner h (by omega) g cap hv hcap)
 have d0 : w.cell? ⟨g, bs.length * 17, none⟩ = some (.int .i64 b.opener) := by simpa using hcell 0 _ rfl
 have hob : (b.opener == 29) = false := by simpa using hop
 have HD := hidden h
 clear h hcell hfr hop
 go_enter Tryz.func158, Tryz.ntmps158
 go_wp2_with fail
 refine H1.out.mono ?_
 rintro e w1 ⟨rfl, hb1⟩
 replace d0 := (hb1.cell (p := ⟨g, bs.length * 17, none⟩) hg).trans d0
 have HB := hidden hb1
 clear H1 hb1
 go_wp2_with fail
 go_ret
 exact ⟨rfl, HD.out.below HB.out⟩
theorem def_else {c : PB} {w0 w : World} {rb bb db : Nat} {rc : RC} {ev bcv dcv bv : Value} {es : List PE} {nv nt : Int} {pc dc : List Int} {tk : Int} {bs : List PB} {b : PB} {kn : Inf}
  (h : DS w0 w rb rc bb db ev bcv dcv bv es nv nt pc dc tk (bs ++ [c] ++ [b]) kn) (hop : b.opener = 29) (hd : b.does.Ok) (k : Nat) (hk : b.hole = k) (hk1 : pc.length ≤ k) (hk2 : k < dc.length) (hl : bs.length ≤ 10000000) (hc : dc.length ≤ 10000000) :
  Calls Tryz.prog 158 #[.pointer (some ⟨db, 0, none⟩)] w fun e w' => e = .returned (.int .i64 0) ∧ (∃ dcv' bv', DS w0 w' rb rc bb db ev bcv dcv' bv' es nv nt pc ((dc ++ [30, 0]).set k (dc.length + 2)) tk (bs ++ [c] ++ [PB.opened { PB.zero with opener := 30, other := b.does.then (opInf 30) } c (dc.length + 2)]) kn) := by
 obtain ⟨g, cap, hv, hcap, hge, hg, hfr, hcell⟩ := h.last
 have H0 := hidden (def_inner h (by simp; omega) g cap hv hcap)
 have d0 : w.cell? ⟨g, (bs.length + 1) * 17, none⟩ = some (.int .i64 b.opener) := by simpa using hcell 0 _ rfl
 rw [hop] at d0
 have HD := hidden h
 have HOK := hidden hd
 clear h hcell hfr hd
 go_enter Tryz.func158, Tryz.ntmps158
 go_wp2_with fail
 refine H0.out.mono ?_
 rintro e w1 ⟨rfl, hb1⟩
 replace d0 := (hb1.cell (p := ⟨g, (bs.length + 1) * 17, none⟩) hg).trans d0
 have hds := HD.out.below hb1
 obtain ⟨h1, hs1⟩ := hds.src1 0
 have H1 := hidden (def_emit h1 30 _ [0] hs1 (by omega))
 clear H0 hb1 hds h1 hs1
 go_wp2_with fail
 refine H1.out.mono ?_
 rintro e w2 ⟨rfl, ⟨v1, h2⟩, _⟩
 have H2 := hidden (code_effect 30 w2 (by omega) h2.tab)
 have HD2 := hidden h2
 clear H1 h2 d0
 go_wp2_with fail
 refine H2.out.mono ?_
 rintro e w3 ⟨rfl, hb3⟩
 have H3 := hidden (def_add (HD2.out.below hb3) (opInf 30) (opInf_ok 30 (by omega)) HOK.out (by simp; omega))
 clear H2 HD2 hb3
 go_wp2_with fail
 refine H3.out.mono ?_
 rintro e w4 ⟨rfl, h4, _⟩
 have H4 := hidden (def_close h4 k hk hk1 (by simp; omega) (by simp; omega) (by simp; omega))
 clear H3 h4
 go_wp2_with fail
 refine H4.out.mono ?_
 rintro e w5 ⟨rfl, ⟨bv5, h5⟩, _⟩
 have HD5 := hidden h5
 clear H4 h5
 simp only [PB.val, PB.cells, PB.add]
 go_wp2_with fail
 refine (def_open (HD5.out.below ((Below.refl _ _).alloc (Nat.le_refl _) _)) { PB.zero with opener := 30, other := b.does.then (opInf 30) } (by omega) (by simp) (by simp; omega)).mono ?_
 rintro e w6 ⟨rfl, ⟨bv6, h6⟩, _⟩
 have HD6 := hidden h6
 clear h6 HD5
 go_wp2_with fail
 go_ret
 exact ⟨rfl, v1, bv6, by simpa using HD6.out⟩
theorem def_do_no {w0 w : World} {rb bb db : Nat} {rc : RC} {ev bcv dcv bv : Value} {es : List PE} {nv nt : Int} {pc dc : List Int} {tk : Int} {bs : List PB} {b : PB} {kn : Inf}
  (h : DS w0 w rb rc bb db ev bcv dcv bv es nv nt pc dc tk (bs ++ [b]) kn) (hn : b.numbers < 2) (hl : bs.length ≤ 10000000) :
  Calls Tryz.prog 160 #[.pointer (some ⟨db, 0, none⟩)] w fun e w' => e = .returned (.int .i64 5) ∧ DS w0 w' rb rc bb db ev bcv dcv bv es nv nt pc dc tk (bs ++ [b]) kn := by
 obtain ⟨g, cap, hv, hcap, hge, hg, hfr, hcell⟩ := h.last
 have H1 := hidden (def_inner h (by omega) g cap hv hcap)
 have d14 : w.cell? ⟨g, bs.length * 17 + 14, none⟩ = some (.int .i64 b.numbers) := hcell 14 _ rfl
 have HD := hidden h
 clear h hcell hfr
 go_enter Tryz.func160, Tryz.ntmps160
 go_wp2_with fail
 refine H1.out.mono ?_
 rintro e w1 ⟨rfl, hb1⟩
 replace d14 := (hb1.cell (p := ⟨g, bs.length * 17 + 14, none⟩) hg).trans d14
 have HB := hidden hb1
 clear H1 hb1
 go_wp2_with fail
 go_ret
 exact ⟨rfl, HD.out.below HB.out⟩
theorem def_do_much {w0 w : World} {rb bb db : Nat} {rc : RC} {ev bcv dcv bv : Value} {es : List PE} {nv nt : Int} {pc dc : List Int} {tk : Int} {bs : List PB} {b : PB} {kn : Inf}
  (h : DS w0 w rb rc bb db ev bcv dcv bv es nv nt pc dc tk (bs ++ [b]) kn) (hn : ¬ b.numbers < 2) (ha0 : -2147483648 ≤ b.a0) (ha1 : b.a0 ≤ 2147483647) (hb0 : -2147483648 ≤ b.a1) (hb1 : b.a1 ≤ 2147483647) (hm : 1000 < b.a0 - b.a1) (hl : bs.length ≤ 10000000) :
  Calls Tryz.prog 160 #[.pointer (some ⟨db, 0, none⟩)] w fun e w' => e = .returned (.int .i64 7) ∧ DS w0 w' rb rc bb db ev bcv dcv bv es nv nt pc dc tk (bs ++ [b]) kn := by
 obtain ⟨g, cap, hv, hcap, hge, hg, hfr, hcell⟩ := h.last
 have H1 := hidden (def_inner h (by omega) g cap hv hcap)
 have d14 : w.cell? ⟨g, bs.length * 17 + 14, none⟩ = some (.int .i64 b.numbers) := hcell 14 _ rfl
 have d15 : w.cell? ⟨g, bs.length * 17 + 15, none⟩ = some (.int .i64 b.a0) := hcell 15 _ rfl
 have d16 : w.cell? ⟨g, bs.length * 17 + 16, none⟩ = some (.int .i64 b.a1) := hcell 16 _ rfl
 have hmx : max 0 (b.a0 - b.a1) = b.a0 - b.a1 := by omega
 have HD := hidden h
 clear h hcell hfr
 go_enter Tryz.func160, Tryz.ntmps160
 go_wp2_with fail
 refine H1.out.mono ?_
 rintro e w1 ⟨rfl, hbb⟩
 replace d14 := (hbb.cell (p := ⟨g, bs.length * 17 + 14, none⟩) hg).trans d14
 replace d15 := (hbb.cell (p := ⟨g, bs.length * 17 + 15, none⟩) hg).trans d15
 replace d16 := (hbb.cell (p := ⟨g, bs.length * 17 + 16, none⟩) hg).trans d16
 have HB := hidden hbb
 clear H1 hbb
 go_wp2_with fail
 go_quiet (fail)
 go_wp2_with fail
 go_ret
 exact ⟨rfl, HD.out.below (HB.out.trans ⟨rfl, rfl, rfl, Nat.le_refl _, fun _ _ => rfl⟩)⟩
theorem def_do {w0 w : World} {rb bb db : Nat} {rc : RC} {ev bcv dcv bv : Value} {es : List PE} {nv nt : Int} {pc dc : List Int} {tk : Int} {bs : List PB} {b : PB} {kn : Inf}
  (h : DS w0 w rb rc bb db ev bcv dcv bv es nv nt pc dc tk (bs ++ [b]) kn) (hn : ¬ b.numbers < 2) (ha0 : -2147483648 ≤ b.a0) (ha1 : b.a0 ≤ 2147483647) (hb0 : -2147483648 ≤ b.a1) (hb1 : b.a1 ≤ 2147483647) (hm : ¬ 1000 < max 0 (b.a0 - b.a1)) (hd : b.does.Ok) (hl : bs.length ≤ 10000000) (hc : dc.length ≤ 10000000) :
  Calls Tryz.prog 160 #[.pointer (some ⟨db, 0, none⟩)] w fun e w' => e = .returned (.int .i64 0) ∧ (∃ dcv' bv', DS w0 w' rb rc bb db ev bcv dcv' bv' es nv nt pc (dc ++ [31, 0]) tk (bs ++ [b.add (opInf 31)] ++ [PB.opened { PB.zero with opener := 31, times := max 0 (b.a0 - b.a1) } (b.add (opInf 31)) (dc.length + 2)]) kn) := by
 obtain ⟨g, cap, hv, hcap, hge, hg, hfr, hcell⟩ := h.last
 have H1 := hidden (def_inner h (by omega) g cap hv hcap)
 have d14 : w.cell? ⟨g, bs.length * 17 + 14, none⟩ = some (.int .i64 b.numbers) := hcell 14 _ rfl
 have d15 : w.cell? ⟨g, bs.length * 17 + 15, none⟩ = some (.int .i64 b.a0) := hcell 15 _ rfl
 have d16 : w.cell? ⟨g, bs.length * 17 + 16, none⟩ = some (.int .i64 b.a1) := hcell 16 _ rfl
 have HD := hidden h
 have HOK := hidden hd
 clear h hcell hfr hd
 go_enter Tryz.func160, Tryz.ntmps160
 go_wp2_with fail
 refine H1.out.mono ?_
 rintro e w1 ⟨rfl, hbb⟩
 replace d14 := (hbb.cell (p := ⟨g, bs.length * 17 + 14, none⟩) hg).trans d14
 replace d15 := (hbb.cell (p := ⟨g, bs.length * 17 + 15, none⟩) hg).trans d15
 replace d16 := (hbb.cell (p := ⟨g, bs.length * 17 + 16, none⟩) hg).trans d16
 have HB := hidden hbb
 clear H1 hbb
 go_wp2_with fail
 go_quiet (fail)
 have hdq := HD.out.below (HB.out.trans (show Below w.heap.size w1 (w1.drewN nq) from ⟨rfl, rfl, rfl, Nat.le_refl _, fun _ _ => rfl⟩))
 obtain ⟨h1, hs1⟩ := hdq.src1 0
 have H1 := hidden (def_emit h1 31 _ [0] hs1 (by omega))
 clear h1 hs1 hdq
 go_wp2_with fail
 refine H1.out.mono ?_
 rintro e w2 ⟨rfl, ⟨v1, h2⟩, _⟩
 have H2 := hidden (code_effect 31 w2 (by omega) h2.tab)
 have HD2 := hidden h2
 clear H1 h2 d14 d15 d16
 go_wp2_with fail
 refine H2.out.mono ?_
 rintro e w3 ⟨rfl, hb3⟩
 have H3 := hidden (def_add (HD2.out.below hb3) (opInf 31) (opInf_ok 31 (by omega)) HOK.out (by omega))
 clear H2 HD2 hb3
 go_wp2_with fail
 refine H3.out.mono ?_
 rintro e w4 ⟨rfl, h4, _⟩
 have HD4 := hidden h4
 clear H3 h4
 go_wp2_with fail
 refine (def_open HD4.out { PB.zero with opener := 31, times := max 0 (b.a0 - b.a1) } (by omega) (by simp) (by simp; omega)).mono ?_
 rintro e w5 ⟨rfl, ⟨bv', h5⟩, _⟩
 have H5 := hidden h5
 clear HD4 h5
 go_wp2_with fail
 go_ret
 exact ⟨rfl, v1, bv', by simpa using H5.out⟩
end Go.Proofs.YtcphhbofjkenaaaGreatDoor
namespace Go.Proofs.YtcphhbofjkenaaaGreatDoor
set_option maxHeartbeats 16000000
open Go.RowKit
set_option linter.unusedVariables false
set_option linter.unusedSimpArgs false
def Inf.timesP (a : Inf) (n : Int) : Inf := if n = 0 then ⟨0, 0, 0, 0, a.str⟩ else { a with steps := min (a.steps * n) 1000000001 }
theorem eff_times (a : Inf) (n : Int) (h0 : 0 ≤ n) (h1 : n ≤ 1000) (hs0 : 0 ≤ a.steps) (hs1 : a.steps ≤ 1000000001) (w : World) :
  Calls Tryz.prog 189 #[a.tm, .int .i64 n] w fun e w' => e = .returned (a.timesP n).tm ∧ Below w.heap.size w w' := by
 unfold Inf.timesP
 by_cases h : n = 0
 ·subst h
  rw [if_pos rfl]
  exact eff_times1 a.need a.net a.high a.steps (!a.str) w
 ·rw [if_neg h]
  exact eff_times0 a.need a.net a.high a.steps n (!a.str) w h h0 h1 hs0 hs1
theorem def_loop_no {w0 w : World} {rb bb db : Nat} {rc : RC} {ev bcv dcv bv : Value} {es : List PE} {nv nt : Int} {pc dc : List Int} {tk : Int} {bs : List PB} {b : PB} {kn : Inf}
  (h : DS w0 w rb rc bb db ev bcv dcv bv es nv nt pc dc tk (bs ++ [b]) kn) (hop : b.opener ≠ 31) (hl : bs.length ≤ 10000000) :
  Calls Tryz.prog 161 #[.pointer (some ⟨db, 0, none⟩)] w fun e w' => e = .returned (.int .i64 5) ∧ DS w0 w' rb rc bb db ev bcv dcv bv es nv nt pc dc tk (bs ++ [b]) kn := by
 obtain ⟨g, cap, hv, hcap, hge, hg, hfr, hcell⟩ := h.last
 have H1 := hidden (def_inner h (by omega) g cap hv hcap)
 have d0 : w.cell? ⟨g, bs.length * 17, none⟩ = some (.int .i64 b.opener) := by simpa using hcell 0 _ rfl
 have hob : (b.opener != 31) = true := by simpa using hop
 have hob2 : (b.opener == 31) = false := by simpa using hop
 have HD := hidden h
 clear h hcell hfr hop
 go_enter Tryz.func161, Tryz.ntmps161
 go_wp2_with fail
 refine H1.out.mono ?_
 rintro e w1 ⟨rfl, hb1⟩
 replace d0 := (hb1.cell (p := ⟨g, bs.length * 17, none⟩) hg).trans d0
 have HB := hidden hb1
 clear H1 hb1
 go_wp2_with fail
 go_ret
 exact ⟨rfl, HD.out.below HB.out⟩
theorem def_loop_diff {w0 w : World} {rb bb db : Nat} {rc : RC} {ev bcv dcv bv : Value} {es : List PE} {nv nt : Int} {pc dc : List Int} {tk : Int} {bs : List PB} {b : PB} {kn : Inf}
  (h : DS w0 w rb rc bb db ev bcv dcv bv es nv nt pc dc tk (bs ++ [b]) kn) (hop : b.opener = 31) (hne : b.does.net ≠ 0) (hl : bs.length ≤ 10000000) :
  Calls Tryz.prog 161 #[.pointer (some ⟨db, 0, none⟩)] w fun e w' => e = .returned (.int .i64 6) ∧ DS w0 w' rb rc bb db ev bcv dcv bv es nv nt pc dc tk (bs ++ [b]) kn := by
 obtain ⟨g, cap, hv, hcap, hge, hg, hfr, hcell⟩ := h.last
 have H1 := hidden (def_inner h (by omega) g cap hv hcap)
 have d0 : w.cell? ⟨g, bs.length * 17, none⟩ = some (.int .i64 b.opener) := by simpa using hcell 0 _ rfl
 have d4 : w.cell? ⟨g, bs.length * 17 + 4, none⟩ = some (.int .i64 b.does.need) := hcell 4 _ rfl
 have d5 : w.cell? ⟨g, bs.length * 17 + 5, none⟩ = some (.int .i64 b.does.net) := hcell 5 _ rfl
 have d6 : w.cell? ⟨g, bs.length * 17 + 6, none⟩ = some (.int .i64 b.does.high) := hcell 6 _ rfl
 have hnb : (b.does.net == 0) = false := by simpa using hne
 have HA := hidden (fun w' => eff_level b.does.need b.does.net b.does.high w')
 rw [hnb] at HA
 rw [hop] at d0
 have HD := hidden h
 clear h hcell hfr hop hne
 go_enter Tryz.func161, Tryz.ntmps161
 go_wp2_with fail
 refine H1.out.mono ?_
 rintro e w1 ⟨rfl, hb1⟩
 replace d0 := (hb1.cell (p := ⟨g, bs.length * 17, none⟩) hg).trans d0
 replace d4 := (hb1.cell (p := ⟨g, bs.length * 17 + 4, none⟩) hg).trans d4
 replace d5 := (hb1.cell (p := ⟨g, bs.length * 17 + 5, none⟩) hg).trans d5
 replace d6 := (hb1.cell (p := ⟨g, bs.length * 17 + 6, none⟩) hg).trans d6
 have HB := hidden hb1
 clear H1 hb1
 go_wp2_with fail
 refine (HA.out _).mono ?_
 rintro e w2 ⟨rfl, hb2⟩
 have HB2 := hidden hb2
 clear hb2
 go_wp2_with fail
 go_ret
 exact ⟨rfl, (HD.out.below HB.out).below HB2.out⟩
theorem def_loop {c : PB} {w0 w : World} {rb bb db : Nat} {rc : RC} {ev bcv dcv bv : Value} {es : List PE} {nv nt : Int} {pc dc : List Int} {tk : Int} {bs : List PB} {b : PB} {kn : Inf}
  (h : DS w0 w rb rc bb db ev bcv dcv bv es nv nt pc dc tk (bs ++ [c] ++ [b]) kn) (hop : b.opener = 31) (heq : b.does.net = 0) (k : Nat) (hk : b.hole = k) (hk1 : pc.length ≤ k) (hk2 : k < dc.length) (ht0 : 0 ≤ b.times) (ht1 : b.times ≤ 1000)
  (hbd : b.does.Ok) (hso : (b.does.then (opInf 32)).Ok) (hor : ((b.does.then (opInf 32)).timesP b.times).Ok) (hcd : c.does.Ok) (hl : bs.length ≤ 10000000) (hc : dc.length ≤ 10000000) :
  Calls Tryz.prog 161 #[.pointer (some ⟨db, 0, none⟩)] w fun e w' => e = .returned (.int .i64 0) ∧ (∃ dcv' bv', DS w0 w' rb rc bb db ev bcv dcv' bv' es nv nt pc ((dc ++ [32, (k : Int) + 1]).set k (dc.length + 2)) tk (bs ++ [c.add ((b.does.then (opInf 32)).timesP b.times)]) kn) := by
 obtain ⟨g, cap, hv, hcap, hge, hg, hfr, hcell⟩ := h.last
 have H1 := hidden (def_inner h (by simp; omega) g cap hv hcap)
 simp only [List.length_append, List.length_singleton] at hcell
 have d0 : w.cell? ⟨g, (bs.length + 1) * 17, none⟩ = some (.int .i64 b.opener) := by simpa using hcell 0 _ rfl
 have d2 : w.cell? ⟨g, (bs.length + 1) * 17 + 2, none⟩ = some (.int .i64 b.hole) := hcell 2 _ rfl
 have d4 : w.cell? ⟨g, (bs.length + 1) * 17 + 4, none⟩ = some (.int .i64 b.does.need) := hcell 4 _ rfl
 have d5 : w.cell? ⟨g, (bs.length + 1) * 17 + 5, none⟩ = some (.int .i64 b.does.net) := hcell 5 _ rfl
 have d6 : w.cell? ⟨g, (bs.length + 1) * 17 + 6, none⟩ = some (.int .i64 b.does.high) := hcell 6 _ rfl
 have hnb : (b.does.net == 0) = true := by simpa using heq
 have HA := hidden (fun w' => eff_level b.does.need b.does.net b.does.high w')
 rw [hnb] at HA
 rw [hop] at d0
 rw [hk] at d2
 have hk8 : (k : Int) ≤ 10000000 := by omega
 have HD := hidden h
 have HK := hidden hk
 have HEQ := hidden heq
 clear h hcell hfr hk heq hop
 go_enter Tryz.func161, Tryz.ntmps161
 go_wp2_with fail
 refine H1.out.mono ?_
 rintro e w1 ⟨rfl, hb1⟩
 simp only [List.length_append, List.length_singleton]
 replace d0 := (hb1.cell (p := ⟨g, (bs.length + 1) * 17, none⟩) hg).trans d0
 replace d2 := (hb1.cell (p := ⟨g, (bs.length + 1) * 17 + 2, none⟩) hg).trans d2
 replace d4 := (hb1.cell (p := ⟨g, (bs.length + 1) * 17 + 4, none⟩) hg).trans d4
 replace d5 := (hb1.cell (p := ⟨g, (bs.length + 1) * 17 + 5, none⟩) hg).trans d5
 replace d6 := (hb1.cell (p := ⟨g, (bs.length + 1) * 17 + 6, none⟩) hg).trans d6
 have hg1 : g < w1.heap.size := Nat.lt_of_lt_of_le hg hb1.size
 have HB := hidden hb1
 clear H1 hb1
 go_wp2_with fail
 refine (HA.out _).mono ?_
 rintro e w2 ⟨rfl, hb2⟩
 replace d2 := (hb2.cell (p := ⟨g, (bs.length + 1) * 17 + 2, none⟩) hg1).trans d2
 have hdq := (HD.out.below HB.out).below hb2
 clear hb2 d0 d4 d5 d6 HB
 obtain ⟨h1, hs1⟩ := hdq.src1 ((k : Int) + 1)
 have H1 := hidden (def_emit h1 32 _ [(k : Int) + 1] hs1 (by omega))
 clear h1 hs1 hdq
 go_wp2_with fail
 refine H1.out.mono ?_
 rintro e w3 ⟨rfl, ⟨v1, h2⟩, _⟩
 have H2 := hidden (code_effect 32 w3 (by omega) h2.tab)
 have HD2 := hidden h2
 clear H1 h2 d2
 go_wp2_with fail
 refine H2.out.mono ?_
 rintro e w4 ⟨rfl, hb4⟩
 have H3 := hidden (def_add (HD2.out.below hb4) (opInf 32) (opInf_ok 32 (by omega)) hbd (by simp; omega))
 clear H2 HD2 hb4
 go_wp2_with fail
 refine H3.out.mono ?_
 rintro e w5 ⟨rfl, h5, _⟩
 have HD5 := hidden h5
 clear H3 h5
 go_wp2_with fail
 refine (def_close HD5.out k HK.out hk1 (by simp; omega) (by simp; omega) (by simp; omega)).mono ?_
 rintro e w6 ⟨rfl, ⟨bv6, h6⟩, _⟩
 have HD6 := hidden h6
 clear h6 HD5
 obtain ⟨r, hr⟩ : ∃ r, r = b.does.then (opInf 32) := ⟨_, rfl⟩
 simp only [PB.val, PB.cells, PB.add]
 rw [← hr] at hor hso ⊢
 have HRR := hidden hr
 clear hr
 go_wp2_with fail
 refine (eff_times r b.times ht0 ht1 hso.s0 hso.s1 _).mono ?_
 rintro e w7 ⟨rfl, hb7⟩
 have HD7 := hidden ((HD6.out.below ((Below.refl _ _).alloc (Nat.le_refl _) _)).below hb7)
 clear HD6 hb7
 go_wp2_with fail
 refine (def_add HD7.out (r.timesP b.times) hor hcd (by omega)).mono ?_
 rintro e w8 ⟨rfl, h8, _⟩
 have HD8 := hidden h8
 clear HD7 h8
 go_wp2_with fail
 go_ret
 exact ⟨rfl, v1, bv6, by rw [← HRR.out]; simpa using HD8.out⟩
def Inf.orP (a b : Inf) : Inf := ⟨max a.need b.need, a.net, max a.high b.high, max a.steps b.steps, a.str && b.str⟩
theorem eff_or (a b : Inf) (w : World) :
  Calls Tryz.prog 187 #[a.tm, b.tm] w fun e w' => e = .returned (a.orP b).tm ∧ Below w.heap.size w w' := by
 refine (eff_or0 a.need a.net a.high a.steps b.need b.net b.high b.steps (!a.str) (!b.str) w).mono ?_
 rintro e w1 ⟨rfl, h⟩
 exact ⟨by simp [Inf.orP, Inf.tm], h⟩
theorem def_then_no {w0 w : World} {rb bb db : Nat} {rc : RC} {ev bcv dcv bv : Value} {es : List PE} {nv nt : Int} {pc dc : List Int} {tk : Int} {bs : List PB} {b : PB} {kn : Inf}
  (h : DS w0 w rb rc bb db ev bcv dcv bv es nv nt pc dc tk (bs ++ [b]) kn) (hop : b.opener ≠ 29) (hop2 : b.opener ≠ 30) (hl : bs.length ≤ 10000000) :
  Calls Tryz.prog 159 #[.pointer (some ⟨db, 0, none⟩)] w fun e w' => e = .returned (.int .i64 5) ∧ DS w0 w' rb rc bb db ev bcv dcv bv es nv nt pc dc tk (bs ++ [b]) kn := by
 obtain ⟨g, cap, hv, hcap, hge, hg, hfr, hcell⟩ := h.last
 have H1 := hidden (def_inner h (by omega) g cap hv hcap)
 have d0 : w.cell? ⟨g, bs.length * 17, none⟩ = some (.int .i64 b.opener) := by simpa using hcell 0 _ rfl
 have hob : (b.opener != 29) = true := by simpa using hop
 have hob2 : (b.opener != 30) = true := by simpa using hop2
 have HD := hidden h
 clear h hcell hfr hop hop2
 go_enter Tryz.func159, Tryz.ntmps159
 go_wp2_with fail
 refine H1.out.mono ?_
 rintro e w1 ⟨rfl, hb1⟩
 replace d0 := (hb1.cell (p := ⟨g, bs.length * 17, none⟩) hg).trans d0
 have HB := hidden hb1
 clear H1 hb1
 go_wp2_with fail
 go_ret
 exact ⟨rfl, HD.out.below HB.out⟩
theorem def_then_diff {w0 w : World} {rb bb db : Nat} {rc : RC} {ev bcv dcv bv : Value} {es : List PE} {nv nt : Int} {pc dc : List Int} {tk : Int} {bs : List PB} {b : PB} {kn : Inf}
  (h : DS w0 w rb rc bb db ev bcv dcv bv es nv nt pc dc tk (bs ++ [b]) kn) (hop : b.opener = 29 ∨ b.opener = 30) (hne : b.does.net ≠ b.other.net) (hl : bs.length ≤ 10000000) :
  Calls Tryz.prog 159 #[.pointer (some ⟨db, 0, none⟩)] w fun e w' => e = .returned (.int .i64 6) ∧ DS w0 w' rb rc bb db ev bcv dcv bv es nv nt pc dc tk (bs ++ [b]) kn := by
 obtain ⟨g, cap, hv, hcap, hge, hg, hfr, hcell⟩ := h.last
 have H1 := hidden (def_inner h (by omega) g cap hv hcap)
 have d0 : w.cell? ⟨g, bs.length * 17, none⟩ = some (.int .i64 b.opener) := by simpa using hcell 0 _ rfl
 have d4 : w.cell? ⟨g, bs.length * 17 + 4, none⟩ = some (.int .i64 b.does.need) := hcell 4 _ rfl
 have d5 : w.cell? ⟨g, bs.length * 17 + 5, none⟩ = some (.int .i64 b.does.net) := hcell 5 _ rfl
 have d6 : w.cell? ⟨g, bs.length * 17 + 6, none⟩ = some (.int .i64 b.does.high) := hcell 6 _ rfl
 have d9 : w.cell? ⟨g, bs.length * 17 + 9, none⟩ = some (.int .i64 b.other.need) := hcell 9 _ rfl
 have d10 : w.cell? ⟨g, bs.length * 17 + 10, none⟩ = some (.int .i64 b.other.net) := hcell 10 _ rfl
 have d11 : w.cell? ⟨g, bs.length * 17 + 11, none⟩ = some (.int .i64 b.other.high) := hcell 11 _ rfl
 have hnb : (b.does.net == b.other.net) = false := by simpa using hne
 have HA := hidden (fun w' => eff_agrees b.does.need b.does.net b.does.high b.other.need b.other.net b.other.high w')
 rw [hnb] at HA
 have HD := hidden h
 have hoo : ((b.opener != 29) && (b.opener != 30)) = false := by rcases hop with e | e <;> simp [e]
 clear h hcell hfr hne
 go_enter Tryz.func159, Tryz.ntmps159
 go_wp2_with fail
 refine H1.out.mono ?_
 rintro e w1 ⟨rfl, hb1⟩
 replace d0 := (hb1.cell (p := ⟨g, bs.length * 17, none⟩) hg).trans d0
 replace d4 := (hb1.cell (p := ⟨g, bs.length * 17 + 4, none⟩) hg).trans d4
 replace d5 := (hb1.cell (p := ⟨g, bs.length * 17 + 5, none⟩) hg).trans d5
 replace d6 := (hb1.cell (p := ⟨g, bs.length * 17 + 6, none⟩) hg).trans d6
 replace d9 := (hb1.cell (p := ⟨g, bs.length * 17 + 9, none⟩) hg).trans d9
 replace d10 := (hb1.cell (p := ⟨g, bs.length * 17 + 10, none⟩) hg).trans d10
 replace d11 := (hb1.cell (p := ⟨g, bs.length * 17 + 11, none⟩) hg).trans d11
 have hg1 : g < w1.heap.size := Nat.lt_of_lt_of_le hg hb1.size
 have HB := hidden hb1
 clear H1 hb1
 rcases hop with hop | hop
 all_goals
  rw [hop] at d0
  go_upto_region 4 with fail
  have hc := fun (B : Nat) (w0 : World) (u : Und B w0) (b o : Nat) (h : b < B) => u.cell b o h
  have hun := Und.ne
  refine wp_region_und w1.heap.size (by kernel_rfl) (by kernel_rfl) ?_
  repeat (go_big_quiet_step ((go_at_call 186; exact Und.calls (Nat.le_refl _) _ (HA.out _))))
  refine wpQuiet_nil ?_
  intro u
  obtain ⟨w2, hb2⟩ := u
  dsimp only
  have HB2 := hidden hb2
  clear hc hun hb2
  go_wp2_with fail
  go_ret
  exact ⟨rfl, (HD.out.below HB.out).below HB2.out⟩
theorem def_then {c : PB} {w0 w : World} {rb bb db : Nat} {rc : RC} {ev bcv dcv bv : Value} {es : List PE} {nv nt : Int} {pc dc : List Int} {tk : Int} {bs : List PB} {b : PB} {kn : Inf}
  (h : DS w0 w rb rc bb db ev bcv dcv bv es nv nt pc dc tk (bs ++ [c] ++ [b]) kn) (hop : b.opener = 29 ∨ b.opener = 30) (heq : b.does.net = b.other.net) (k : Nat) (hk : b.hole = k) (hk1 : pc.length ≤ k) (hk2 : k < dc.length) (hor : (b.does.orP b.other).Ok) (hcd : c.does.Ok) (hl : bs.length ≤ 10000000) (hc : dc.length ≤ 10000000) :
  Calls Tryz.prog 159 #[.pointer (some ⟨db, 0, none⟩)] w fun e w' => e = .returned (.int .i64 0) ∧ (∃ dcv' bv', DS w0 w' rb rc bb db ev bcv dcv' bv' es nv nt pc (dc.set k dc.length) tk (bs ++ [c.add (b.does.orP b.other)]) kn) := by
 obtain ⟨g, cap, hv, hcap, hge, hg, hfr, hcell⟩ := h.last
 have H1 := hidden (def_inner h (by simp; omega) g cap hv hcap)
 simp only [List.length_append, List.length_singleton] at hcell
 have d0 : w.cell? ⟨g, (bs.length + 1) * 17, none⟩ = some (.int .i64 b.opener) := by simpa using hcell 0 _ rfl
 have d4 : w.cell? ⟨g, (bs.length + 1) * 17 + 4, none⟩ = some (.int .i64 b.does.need) := hcell 4 _ rfl
 have d5 : w.cell? ⟨g, (bs.length + 1) * 17 + 5, none⟩ = some (.int .i64 b.does.net) := hcell 5 _ rfl
 have d6 : w.cell? ⟨g, (bs.length + 1) * 17 + 6, none⟩ = some (.int .i64 b.does.high) := hcell 6 _ rfl
 have d9 : w.cell? ⟨g, (bs.length + 1) * 17 + 9, none⟩ = some (.int .i64 b.other.need) := hcell 9 _ rfl
 have d10 : w.cell? ⟨g, (bs.length + 1) * 17 + 10, none⟩ = some (.int .i64 b.other.net) := hcell 10 _ rfl
 have d11 : w.cell? ⟨g, (bs.length + 1) * 17 + 11, none⟩ = some (.int .i64 b.other.high) := hcell 11 _ rfl
 have hnb : (b.does.net == b.other.net) = true := by simpa using heq
 have HA := hidden (fun w' => eff_agrees b.does.need b.does.net b.does.high b.other.need b.other.net b.other.high w')
 rw [hnb] at HA
 have HD := hidden h
 clear h hcell hfr heq
 go_enter Tryz.func159, Tryz.ntmps159
 go_wp2_with fail
 refine H1.out.mono ?_
 rintro e w1 ⟨rfl, hb1⟩
 simp only [List.length_append, List.length_singleton]
 replace d0 := (hb1.cell (p := ⟨g, (bs.length + 1) * 17, none⟩) hg).trans d0
 replace d4 := (hb1.cell (p := ⟨g, (bs.length + 1) * 17 + 4, none⟩) hg).trans d4
 replace d5 := (hb1.cell (p := ⟨g, (bs.length + 1) * 17 + 5, none⟩) hg).trans d5
 replace d6 := (hb1.cell (p := ⟨g, (bs.length + 1) * 17 + 6, none⟩) hg).trans d6
 replace d9 := (hb1.cell (p := ⟨g, (bs.length + 1) * 17 + 9, none⟩) hg).trans d9
 replace d10 := (hb1.cell (p := ⟨g, (bs.length + 1) * 17 + 10, none⟩) hg).trans d10
 replace d11 := (hb1.cell (p := ⟨g, (bs.length + 1) * 17 + 11, none⟩) hg).trans d11
 have hg1 : g < w1.heap.size := Nat.lt_of_lt_of_le hg hb1.size
 have HB := hidden hb1
 clear H1 hb1
 have hoo : b.opener = 29 ∨ b.opener = 30 := hop
 rcases hop with hop | hop
 all_goals
  rw [hop] at d0
  go_upto_region 4 with fail
  have hc := fun (B : Nat) (w0 : World) (u : Und B w0) (b o : Nat) (h : b < B) => u.cell b o h
  have hun := Und.ne
  refine wp_region_und w1.heap.size (by kernel_rfl) (by kernel_rfl) ?_
  repeat (go_big_quiet_step ((go_at_call 186; exact Und.calls (Nat.le_refl _) _ (HA.out _))))
  refine wpQuiet_nil ?_
  intro u
  obtain ⟨w2, hb2⟩ := u
  dsimp only
  have HDS2 := hidden ((HD.out.below HB.out).below hb2)
  clear hc hun hb2 d0 d4 d5 d6 d9 d10 d11
  go_wp2_with fail
  refine (def_close HDS2.out k hk hk1 hk2 (by simp; omega) (by omega)).mono ?_
  rintro e w3 ⟨rfl, ⟨bv3, h3⟩, _⟩
  have HD3 := hidden h3
  clear h3 HDS2
  simp only [PB.val, PB.cells]
  go_wp2_with fail
  refine (eff_or b.does b.other _).mono ?_
  rintro e w4 ⟨rfl, hb4⟩
  have HD4 := hidden ((HD3.out.below ((Below.refl _ _).alloc (Nat.le_refl _) _)).below hb4)
  clear HD3 hb4
  go_wp2_with fail
  refine (def_add HD4.out (b.does.orP b.other) hor hcd (by omega)).mono ?_
  rintro e w5 ⟨rfl, h5, _⟩
  have HD5 := hidden h5
  clear HD4 h5
  go_wp2_with fail
  go_ret
  exact ⟨rfl, _, _, HD5.out⟩
theorem DS.setKnown {w0 w : World} {rb bb db : Nat} {rc : RC} {ev bcv dcv bv : Value} {es : List PE} {nv nt : Int} {pc dc : List Int} {tk : Int} {bs : List PB} {kn : Inf}
  (h : DS w0 w rb rc bb db ev bcv dcv bv es nv nt pc dc tk bs kn) (k : Inf) :
  DS w0 (((((w.setCell ⟨db, 4, none⟩ (.int .i64 k.need)).setCell ⟨db, 5, none⟩ (.int .i64 k.net)).setCell ⟨db, 6, none⟩ (.int .i64 k.high)).setCell ⟨db, 7, none⟩ (.int .i64 k.steps)).setCell ⟨db, 8, none⟩ (.bool (!k.str))) rb rc bb db ev bcv dcv bv es nv nt pc dc tk bs k := by
 have hrb := h.rdr.1
 have hgb := h.rdr.2
 have hc : Chg (fun b => b = db) w (((((w.setCell ⟨db, 4, none⟩ (.int .i64 k.need)).setCell ⟨db, 5, none⟩ (.int .i64 k.net)).setCell ⟨db, 6, none⟩ (.int .i64 k.high)).setCell ⟨db, 7, none⟩ (.int .i64 k.steps)).setCell ⟨db, 8, none⟩ (.bool (!k.str))) :=
  (((((Chg.refl (fun b => b = db) w).setCell (p := ⟨db, 4, none⟩) rfl _).setCell (p := ⟨db, 5, none⟩) rfl _).setCell (p := ⟨db, 6, none⟩) rfl _).setCell (p := ⟨db, 7, none⟩) rfl _).setCell (p := ⟨db, 8, none⟩) rfl _
 have n1 : bb ≠ db := by rintro rfl; exact absurd (blk_type h.sys.blk h.blk) (by decide)
 have n2 : rb ≠ db := by rintro rfl; exact absurd (blk_type hrb h.blk) (by decide)
 have no : ∀ {base : Nat} {e : TypeId} {size n : Nat} {v : Value} {xs : List Value}, w.ownsRow base e size v n xs → 209 ≠ e → ∀ k, v.ownBlock = some k → ¬ k = db := fun ho hne k hk e => own_blk ho h.blk hne (by rw [hk, e])
 refine ⟨h.sys.chg hc n1 (no h.sys.row (by decide)) (no h.sys.cod (by decide)), ?_, ownsRow_chg h.cod hc (no h.cod (by decide)), ownsRow_chg h.row hc (no h.row (by decide)), h.tab.chg hc (fun k e => by have := h.new; have := h.tl; omega), ⟨hrb.chg hc n2, hgb.chg hc (fun e => blk_ne h.blk hgb (by decide) e.symm)⟩, h.ru, h.tl, h.pre, h.new, h.loc, h.frm.thru hc (fun k hk e => by have := h.new; omega)⟩
 have := ((((h.blk.set (o := 4) (.int .i64 k.need)).set (o := 5) (.int .i64 k.net)).set (o := 6) (.int .i64 k.high)).set (o := 7) (.int .i64 k.steps)).set (o := 8) (.bool (!k.str))
 simpa [defC] using this
theorem DS.clear {w0 w : World} {rb bb db : Nat} {rc : RC} {ev bcv dcv bv : Value} {es : List PE} {nv nt : Int} {pc dc : List Int} {tk : Int} {bs : List PB} {kn : Inf}
  (h : DS w0 w rb rc bb db ev bcv dcv bv es nv nt pc dc tk bs kn) : DS w0 (w.setCell ⟨db, 3, none⟩ (.slice none 0 0)) rb rc bb db ev bcv dcv (.slice none 0 0) es nv nt pc dc tk [] kn := by
 have hrb := h.rdr.1
 have hgb := h.rdr.2
 have hc : Chg (fun b => b = db) w (w.setCell ⟨db, 3, none⟩ (.slice none 0 0)) := (Chg.refl (fun b => b = db) w).setCell (p := ⟨db, 3, none⟩) rfl _
 have n1 : bb ≠ db := by rintro rfl; exact absurd (blk_type h.sys.blk h.blk) (by decide)
 have n2 : rb ≠ db := by rintro rfl; exact absurd (blk_type hrb h.blk) (by decide)
 have no : ∀ {base : Nat} {e : TypeId} {size n : Nat} {v : Value} {xs : List Value}, w.ownsRow base e size v n xs → 209 ≠ e → ∀ k, v.ownBlock = some k → ¬ k = db := fun ho hne k hk e => own_blk ho h.blk hne (by rw [hk, e])
 refine ⟨h.sys.chg hc n1 (no h.sys.row (by decide)) (no h.sys.cod (by decide)), ?_, ownsRow_chg h.cod hc (no h.cod (by decide)), World.ownsRow_nil _ _ _ _, h.tab.chg hc (fun k e => by have := h.new; have := h.tl; omega), ⟨hrb.chg hc n2, hgb.chg hc (fun e => blk_ne h.blk hgb (by decide) e.symm)⟩, h.ru, h.tl, h.pre, h.new, h.loc, h.frm.thru hc (fun k hk e => by have := h.new; omega)⟩
 have := h.blk.set (o := 3) (.slice none 0 0)
 simpa [defC] using this
theorem def_end_no {w0 w : World} {rb bb db : Nat} {rc : RC} {ev bcv dcv bv : Value} {es : List PE} {nv nt : Int} {pc dc : List Int} {tk : Int} {bs : List PB} {b : PB} {kn : Inf}
  (h : DS w0 w rb rc bb db ev bcv dcv bv es nv nt pc dc tk (bs ++ [b]) kn) (hop : b.opener ≠ 34) (hl : bs.length ≤ 10000000) :
  Calls Tryz.prog 156 #[.pointer (some ⟨db, 0, none⟩)] w fun e w' => e = .returned (.int .i64 5) ∧ DS w0 w' rb rc bb db ev bcv dcv bv es nv nt pc dc tk (bs ++ [b]) kn := by
 obtain ⟨g, cap, hv, hcap, hge, hg, hfr, hcell⟩ := h.last
 have H1 := hidden (def_inner h (by omega) g cap hv hcap)
 have d0 : w.cell? ⟨g, bs.length * 17, none⟩ = some (.int .i64 b.opener) := by simpa using hcell 0 _ rfl
 have hob : (b.opener != 34) = true := by simpa using hop
 have hob2 : (b.opener == 34) = false := by simpa using hop
 have HD := hidden h
 clear h hcell hfr hop
 go_enter Tryz.func156, Tryz.ntmps156
 go_wp2_with fail
 refine H1.out.mono ?_
 rintro e w1 ⟨rfl, hb1⟩
 replace d0 := (hb1.cell (p := ⟨g, bs.length * 17, none⟩) hg).trans d0
 have HB := hidden hb1
 clear H1 hb1
 go_wp2_with fail
 go_ret
 exact ⟨rfl, HD.out.below HB.out⟩
def endErr (steps nt tk : Int) : Int := if 1000000000 < steps then 7 else if 400 < nt + tk then 8 else 0
def EndPost (w0 : World) (rb : Nat) (rc : RC) (bb db : Nat) (ev bcv : Value) (es : List PE) (nv nt : Int) (pc dc : List Int) (tk : Int) (r : Inf) (R : Int) (e : Ending) (w' : World) : Prop :=
 e = .returned (.int .i64 R) ∧ ∃ dcv' bv' bs', DS w0 w' rb rc bb db ev bcv dcv' bv' es nv nt pc (dc ++ [34]) tk bs' r ∧ (R = 0 → bs' = [])
theorem def_end {w0 w : World} {rb bb db : Nat} {rc : RC} {ev bcv dcv bv : Value} {es : List PE} {nv nt : Int} {pc dc : List Int} {tk : Int} {b : PB} {kn : Inf}
  (h : DS w0 w rb rc bb db ev bcv dcv bv es nv nt pc dc tk [b] kn) (hop : b.opener = 34) (hbd : b.does.Ok) (hc : dc.length ≤ 10000000) (hnt0 : 0 ≤ nt) (hnt1 : nt ≤ 100000) (htk0 : 0 ≤ tk) (htk1 : tk ≤ 100000000) :
  Calls Tryz.prog 156 #[.pointer (some ⟨db, 0, none⟩)] w (EndPost w0 rb rc bb db ev bcv es nv nt pc dc tk (b.does.then (opInf 34)) (endErr (b.does.then (opInf 34)).steps nt tk)) := by
 obtain ⟨r, hr⟩ : ∃ r, r = b.does.then (opInf 34) := ⟨_, rfl⟩
 rw [← hr]
 have HRR := hidden hr
 clear hr
 obtain ⟨R, hR⟩ : ∃ R, R = endErr r.steps nt tk := ⟨_, rfl⟩
 rw [← hR]
 have HR := hidden hR
 clear hR
 obtain ⟨g, cap, hv, hcap, hge, hg, hfr, hcell⟩ := DS.last (bs := []) h
 have H1 := hidden (def_inner (bs := []) h (by simp) g cap hv hcap)
 simp only [List.length_nil, Nat.zero_mul, Nat.zero_add] at hcell
 have d0 : w.cell? ⟨g, 0, none⟩ = some (.int .i64 b.opener) := by simpa using hcell 0 _ rfl
 rw [hop] at d0
 have HD := hidden h
 have HOK := hidden hbd
 clear h hcell hfr hop hbd
 go_enter Tryz.func156, Tryz.ntmps156
 go_wp2_with fail
 refine H1.out.mono ?_
 rintro e w1 ⟨rfl, hb1⟩
 simp only [List.length_nil, Nat.zero_mul]
 replace d0 := (hb1.cell (p := ⟨g, 0, none⟩) hg).trans d0
 have H2 := hidden (def_emit (HD.out.below hb1) 34 (.slice none 0 0) [] (Or.inl ⟨rfl, rfl⟩) (by omega))
 clear H1 hb1
 go_wp2_with fail
 refine H2.out.mono ?_
 rintro e w2 ⟨rfl, ⟨v1, h2⟩, _⟩
 have H3 := hidden (code_effect 34 w2 (by omega) h2.tab)
 have HD2 := hidden h2
 clear H2 h2 d0
 go_wp2_with fail
 refine H3.out.mono ?_
 rintro e w3 ⟨rfl, hb3⟩
 have H4 := hidden (def_add (bs := []) (HD2.out.below hb3) (opInf 34) (opInf_ok 34 (by omega)) HOK.out (by simp))
 clear H3 HD2 hb3
 go_wp2_with fail
 refine H4.out.mono ?_
 rintro e w4 ⟨rfl, h4, _⟩
 simp only [List.nil_append] at h4
 obtain ⟨g', cap', hv', hcap', hge', hg', hfr', hcell'⟩ := DS.last (bs := []) h4
 obtain ⟨rfl, rfl⟩ : g = g' ∧ cap = cap' := by rw [hv] at hv'; simpa using hv'
 simp only [List.length_nil, Nat.zero_mul, Nat.zero_add] at hcell'
 have e4 : w4.cell? ⟨g, 4, none⟩ = some (.int .i64 r.need) := by rw [HRR.out]; exact hcell' 4 _ rfl
 have e5 : w4.cell? ⟨g, 5, none⟩ = some (.int .i64 r.net) := by rw [HRR.out]; exact hcell' 5 _ rfl
 have e6 : w4.cell? ⟨g, 6, none⟩ = some (.int .i64 r.high) := by rw [HRR.out]; exact hcell' 6 _ rfl
 have e7 : w4.cell? ⟨g, 7, none⟩ = some (.int .i64 r.steps) := by rw [HRR.out]; exact hcell' 7 _ rfl
 have e8 : w4.cell? ⟨g, 8, none⟩ = some (.bool (!r.str)) := by rw [HRR.out]; exact hcell' 8 _ rfl
 have H5 := hidden (def_inner (bs := []) h4 (by simp) g cap hv hcap)
 have HD4 := hidden h4
 clear H4 h4 hcell' hfr' hv'
 go_wp2_with fail
 refine H5.out.mono ?_
 rintro e w5 ⟨rfl, hb5⟩
 simp only [List.length_nil, Nat.zero_mul]
 have hd5 := HD4.out.below hb5
 replace e4 := (hb5.cell (p := ⟨g, 4, none⟩) hg').trans e4
 replace e5 := (hb5.cell (p := ⟨g, 5, none⟩) hg').trans e5
 replace e6 := (hb5.cell (p := ⟨g, 6, none⟩) hg').trans e6
 replace e7 := (hb5.cell (p := ⟨g, 7, none⟩) hg').trans e7
 replace e8 := (hb5.cell (p := ⟨g, 8, none⟩) hg').trans e8
 have k4 := hd5.blk.cell 4 _ rfl; have k5 := hd5.blk.cell 5 _ rfl; have k6 := hd5.blk.cell 6 _ rfl; have k7 := hd5.blk.cell 7 _ rfl; have k8 := hd5.blk.cell 8 _ rfl
 have q4 := hd5.blk.frozen 4; have q5 := hd5.blk.frozen 5; have q6 := hd5.blk.frozen 6; have q7 := hd5.blk.frozen 7; have q8 := hd5.blk.frozen 8
 simp only [defC, List.getElem_toArray, List.getElem_cons_succ, List.getElem_cons_zero] at k4 k5 k6 k7 k8
 have hdk := hd5.setKnown r
 obtain ⟨V, hV⟩ : ∃ V : World, V = ((((w5.setCell ⟨db, 4, none⟩ (.int .i64 r.need)).setCell ⟨db, 5, none⟩ (.int .i64 r.net)).setCell ⟨db, 6, none⟩ (.int .i64 r.high)).setCell ⟨db, 7, none⟩ (.int .i64 r.steps)).setCell ⟨db, 8, none⟩ (.bool (!r.str)) := ⟨_, rfl⟩
 rw [← hV] at hdk
 have HDV := hidden hdk
 clear H5 hb5 hd5 HD4 hdk
 go_upto_region 6 with fail
 rw [← hV]
 clear hV e4 e5 e6 e7 e8 k4 k5 k6 k7 k8 q4 q5 q6 q7 q8
 have k4 := HDV.out.blk.cell 4 _ rfl; have k5 := HDV.out.blk.cell 5 _ rfl; have k6 := HDV.out.blk.cell 6 _ rfl; have k7 := HDV.out.blk.cell 7 _ rfl; have k8 := HDV.out.blk.cell 8 _ rfl
 simp only [defC, List.getElem_toArray, List.getElem_cons_succ, List.getElem_cons_zero] at k4 k5 k6 k7 k8
 go_wp2_with fail
 refine (eff_long r.need r.net r.high r.steps (!r.str) V).mono ?_
 rintro e w6 ⟨rfl, hb6⟩
 have hd6 := HDV.out.below hb6
 obtain ⟨c0, c1, c2, c3⟩ := hd6.def
 have hbb2 : w6.cell? ⟨bb, 2, none⟩ = some (.int .i64 nt) := hd6.sys.blk.cell 2 _ rfl
 have q3 := hd6.blk.frozen 3
 have hlt := hd6.blk.lt
 obtain ⟨ad3, cap3, hbv3, _⟩ := row_shape hd6.row
 rw [hbv3] at c3
 have HD6 := hidden hd6
 clear hb6 hd6 HDV k4 k5 k6 k7 k8 c2
 by_cases hst : 1000000000 < r.steps
 ·have HR7 := hidden (show R = 7 by rw [HR.out, endErr, if_pos hst])
  go_wp2_with fail
  go_ret
  exact ⟨by rw [HR7.out]; rfl, v1, bv, _, HD6.out, fun e => by rw [HR7.out] at e; cases e⟩
 ·by_cases hfu : 400 < nt + tk
  ·have HR8 := hidden (show R = 8 by rw [HR.out, endErr, if_neg hst, if_pos hfu])
   go_wp2_with fail
   go_quiet (fail)
   go_wp2_with fail
   go_ret
   exact ⟨by rw [HR8.out]; rfl, v1, bv, _, HD6.out.below ⟨rfl, rfl, rfl, Nat.le_refl _, fun _ _ => rfl⟩, fun e => by rw [HR8.out] at e; cases e⟩
  ·have HR0 := hidden (show R = 0 by rw [HR.out, endErr, if_neg hst, if_neg hfu])
   go_wp2_with fail
   go_quiet (fail)
   go_wp2_with fail
   go_ret
   exact ⟨by rw [HR0.out]; rfl, v1, _, [], (HD6.out.below (w' := w6.drewN nq) ⟨rfl, rfl, rfl, Nat.le_refl _, fun _ _ => rfl⟩).clear, fun _ => rfl⟩
def PE.use (e : PE) : Inf := if e.var = true then opInf 28 else (opInf 33).then e.inf
def PE.op (e : PE) : Int := if e.var = true then 28 else 33
theorem opFrom_lt (s : ByteArray) : ∀ (l : List (ByteArray × Int × Int)) (j k : Nat), opFrom s l j = some k → k < j + l.length
 | [], j, k, h => by cases h
 | x :: l, j, k, h => by
  unfold opFrom at h
  split at h
  ·cases h; simp
  ·have := opFrom_lt s l (j + 1) k h; simp; omega
theorem opFind_lt {s : ByteArray} {k : Nat} (h : opFind s = some k) : k < 35 := by
 have := opFrom_lt s opTab 0 k h; simpa [opTab] using this
theorem def_word_own {w0 w : World} {rb bb db : Nat} {rc : RC} {ev bcv dcv bv : Value} {es : List PE} {nv nt : Int} {pc dc : List Int} {tk : Int} {bs : List PB} {b : PB} {kn : Inf}
  (h : DS w0 w rb rc bb db ev bcv dcv bv es nv nt pc dc tk (bs ++ [b]) kn) (s : ByteArray) (x : PE) (hx : lastP es s es.length = some x) (he : x.inf.Ok) (hu : x.use.Ok) (hbd : b.does.Ok) (hes : es.length ≤ 1000) (hl : bs.length ≤ 10000000) (hc : dc.length ≤ 10000000) :
  Calls Tryz.prog 164 #[.pointer (some ⟨db, 0, none⟩), .string s] w fun e w' => e = .returned (.int .i64 0) ∧ (∃ dcv', DS w0 w' rb rc bb db ev bcv dcv' bv es nv nt pc (dc ++ [x.op, x.place]) tk (bs ++ [b.add x.use]) kn) := by
 obtain ⟨c0, c1, c2, c3⟩ := h.def
 have H1 := hidden (book_last s h.sys hes)
 rw [hx] at H1
 have HD := hidden h
 have HOK := hidden hbd
 clear h hbd hx c1 c2 c3
 simp only [lastRes, PE.val] at H1
 go_enter Tryz.func164, Tryz.ntmps164
 go_wp2_with fail
 refine H1.out.mono ?_
 rintro e w1 ⟨rfl, hb1⟩
 have HD1 := hidden (HD.out.below hb1)
 clear H1 hb1 HD
 go_wp2_with fail
 have hdA := HD1.out.below ((Below.refl _ _).alloc (Nat.le_refl _) (.cells #[.string x.name, .bool x.var, .int .i64 x.place, .int .i64 x.inf.need, .int .i64 x.inf.net, .int .i64 x.inf.high, .int .i64 x.inf.steps, .bool (!x.inf.str)] 153 (0, 0)))
 have hkA := blk_new w1 #[.string x.name, .bool x.var, .int .i64 x.place, .int .i64 x.inf.need, .int .i64 x.inf.net, .int .i64 x.inf.high, .int .i64 x.inf.steps, .bool (!x.inf.str)] 153
 refine (entry_use x _ hdA.tab he).mono ?_
 rintro e w2 ⟨rfl, hb2⟩
 have hk2 := hkA.sub hb2 (by simp)
 have p2 : w2.cell? ⟨w1.heap.size, 2, none⟩ = some (.int .i64 x.place) := hk2.cell 2 _ rfl
 have hl2 := hk2.lt
 have HD2 := hidden (hdA.below hb2)
 clear hdA hkA hb2 hk2 HD1
 obtain ⟨y, hy⟩ : ∃ y, y = x.use := ⟨_, rfl⟩
 obtain ⟨o, ho⟩ : ∃ o, o = x.op := ⟨_, rfl⟩
 show _
 rw [show (if x.var then opInf 28 else (opInf 33).then x.inf) = y from hy.symm, show (if x.var then (28 : Int) else 33) = o from ho.symm]
 have HY := hidden hy; have HO := hidden ho
 rw [← hy] at hu
 clear hy ho
 simp only [Inf.tm]
 go_wp2_with fail
 have hdB := HD2.out.below ((Below.refl _ _).alloc (Nat.le_refl _) (.cells #[.int .i64 y.need, .int .i64 y.net, .int .i64 y.high, .int .i64 y.steps, .bool (!y.str)] 151 (0, 0)))
 have hkB := blk_new w2 #[.int .i64 y.need, .int .i64 y.net, .int .i64 y.high, .int .i64 y.steps, .bool (!y.str)] 151
 obtain ⟨h1, hs1⟩ := hdB.src1 x.place
 have hsz : (w2.alloc (.cells #[.int .i64 y.need, .int .i64 y.net, .int .i64 y.high, .int .i64 y.steps, .bool (!y.str)] 151 (0, 0))).heap.size = w2.heap.size + 1 := by simp
 rw [hsz] at hs1
 obtain ⟨n1, n2, n3, n4, n5, n6, n7⟩ := HD2.out.there (Nat.le_refl _)
 refine (def_emit h1 o _ [x.place] hs1 (by omega)).mono ?_
 rintro e w3 ⟨rfl, ⟨v1, h3⟩, hc3⟩
 have hk3 := (hkB.alloc _).chg hc3 (fun e => e.elim (fun e => n2 e.symm) (fun e => n6 e))
 have i0 := hk3.cell 0 _ rfl; have i1 := hk3.cell 1 _ rfl; have i2 := hk3.cell 2 _ rfl; have i3 := hk3.cell 3 _ rfl; have i4 := hk3.cell 4 _ rfl
 simp only [List.getElem_toArray, List.getElem_cons_succ, List.getElem_cons_zero] at i0 i1 i2 i3 i4
 have HD3 := hidden h3
 clear hdB hkB h1 hs1 hsz n1 n2 n3 n4 n5 n6 n7 h3 hc3 hk3 HD2 p2
 go_wp2_with fail
 refine (def_add HD3.out y hu HOK.out (by omega)).mono ?_
 rintro e w4 ⟨rfl, h4, _⟩
 have HD4 := hidden h4
 clear h4 HD3
 go_wp2_with fail
 go_ret
 exact ⟨rfl, v1, by rw [← HO.out, ← HY.out]; exact HD4.out⟩
theorem def_word_no {w0 w : World} {rb bb db : Nat} {rc : RC} {ev bcv dcv bv : Value} {es : List PE} {nv nt : Int} {pc dc : List Int} {tk : Int} {bs : List PB} {b : PB} {kn : Inf}
  (h : DS w0 w rb rc bb db ev bcv dcv bv es nv nt pc dc tk (bs ++ [b]) kn) (s : ByteArray) (hx : lastP es s es.length = none) (hf : opFind s = none) (hes : es.length ≤ 1000) (hl : bs.length ≤ 10000000) (hc : dc.length ≤ 10000000) :
  Calls Tryz.prog 164 #[.pointer (some ⟨db, 0, none⟩), .string s] w fun e w' => e = .returned (.int .i64 3) ∧ DS w0 w' rb rc bb db ev bcv dcv bv es nv nt pc dc tk (bs ++ [b]) kn := by
 obtain ⟨c0, c1, c2, c3⟩ := h.def
 have H1 := hidden (book_last s h.sys hes)
 rw [hx] at H1
 have HD := hidden h
 have HF := hidden hf
 clear h hx c1 c2 c3 hf
 simp only [lastRes, PE.val, PE.zero, Inf.zero] at H1
 go_enter Tryz.func164, Tryz.ntmps164
 go_wp2_with fail
 refine H1.out.mono ?_
 rintro e w1 ⟨rfl, hb1⟩
 have HD1 := hidden (HD.out.below hb1)
 clear H1 hb1 HD
 go_wp2_with fail
 have hdA := HD1.out.below ((Below.refl _ _).alloc (Nat.le_refl _) (.cells #[.string ⟨#[]⟩, .bool false, .int .i64 0, .int .i64 0, .int .i64 0, .int .i64 0, .int .i64 0, .bool (!true)] 153 (0, 0)))
 have H2 := hidden (code_find s _ hdA.tab)
 rw [HF.out] at H2
 refine H2.out.mono ?_
 rintro e w2 ⟨rfl, hb2⟩
 have HD2 := hidden (hdA.below hb2)
 clear hdA hb2 H2 HD1
 simp only [opRes]
 go_wp2_with fail
 go_ret
 exact ⟨rfl, HD2.out⟩
theorem def_word_nest {w0 w : World} {rb bb db : Nat} {rc : RC} {ev bcv dcv bv : Value} {es : List PE} {nv nt : Int} {pc dc : List Int} {tk : Int} {bs : List PB} {b : PB} {kn : Inf}
  (h : DS w0 w rb rc bb db ev bcv dcv bv es nv nt pc dc tk (bs ++ [b]) kn) (s : ByteArray) (hx : lastP es s es.length = none) (hf : opFind s = some 27) (hdo : b.inDo = false) (hes : es.length ≤ 1000) (hl : bs.length ≤ 10000000) (hc : dc.length ≤ 10000000) :
  Calls Tryz.prog 164 #[.pointer (some ⟨db, 0, none⟩), .string s] w fun e w' => e = .returned (.int .i64 5) ∧ DS w0 w' rb rc bb db ev bcv dcv bv es nv nt pc dc tk (bs ++ [b]) kn := by
 obtain ⟨c0, c1, c2, c3⟩ := h.def
 have H1 := hidden (book_last s h.sys hes)
 rw [hx] at H1
 have HD := hidden h
 have HF := hidden hf
 clear h hx c1 c2 c3 hf
 simp only [lastRes, PE.val, PE.zero, Inf.zero] at H1
 go_enter Tryz.func164, Tryz.ntmps164
 go_wp2_with fail
 refine H1.out.mono ?_
 rintro e w1 ⟨rfl, hb1⟩
 have HD1 := hidden (HD.out.below hb1)
 clear H1 hb1 HD
 go_wp2_with fail
 have hdA := HD1.out.below ((Below.refl _ _).alloc (Nat.le_refl _) (.cells #[.string ⟨#[]⟩, .bool false, .int .i64 0, .int .i64 0, .int .i64 0, .int .i64 0, .int .i64 0, .bool (!true)] 153 (0, 0)))
 have H2 := hidden (code_find s _ hdA.tab)
 rw [HF.out] at H2
 refine H2.out.mono ?_
 rintro e w2 ⟨rfl, hb2⟩
 have hd2 := hdA.below hb2
 obtain ⟨g, cap, hv, hcap, hge, hg, hfr, hcell⟩ := hd2.last
 have H3 := hidden (def_inner hd2 (by omega) g cap hv hcap)
 have d1 : w2.cell? ⟨g, bs.length * 17 + 1, none⟩ = some (.bool b.inDo) := hcell 1 _ rfl
 rw [hdo] at d1
 have HD2 := hidden hd2
 clear hdA hb2 H2 HD1 hd2 hcell hfr
 simp only [opRes]
 go_wp2_with fail
 refine H3.out.mono ?_
 rintro e w3 ⟨rfl, hb3⟩
 replace d1 := (hb3.cell (p := ⟨g, bs.length * 17 + 1, none⟩) hg).trans d1
 have HD3 := hidden (HD2.out.below hb3)
 clear H3 hb3 HD2
 go_wp2_with fail
 go_ret
 exact ⟨rfl, HD3.out⟩
theorem def_word {w0 w : World} {rb bb db : Nat} {rc : RC} {ev bcv dcv bv : Value} {es : List PE} {nv nt : Int} {pc dc : List Int} {tk : Int} {bs : List PB} {b : PB} {kn : Inf}
  (h : DS w0 w rb rc bb db ev bcv dcv bv es nv nt pc dc tk (bs ++ [b]) kn) (s : ByteArray) (k : Nat) (hx : lastP es s es.length = none) (hf : opFind s = some k) (hdo : k ≠ 27 ∨ b.inDo = true) (hbd : b.does.Ok) (hes : es.length ≤ 1000) (hl : bs.length ≤ 10000000) (hc : dc.length ≤ 10000000) :
  Calls Tryz.prog 164 #[.pointer (some ⟨db, 0, none⟩), .string s] w fun e w' => e = .returned (.int .i64 0) ∧ (∃ dcv', DS w0 w' rb rc bb db ev bcv dcv' bv es nv nt pc (dc ++ [(k : Int)]) tk (bs ++ [b.add (opInf k)]) kn) := by
 have hk := opFind_lt hf
 have HOK := hidden hbd
 clear hbd
 obtain ⟨c0, c1, c2, c3⟩ := h.def
 have H1 := hidden (book_last s h.sys hes)
 rw [hx] at H1
 have HD := hidden h
 have HF := hidden hf
 clear h hx c1 c2 c3 hf
 simp only [lastRes, PE.val, PE.zero, Inf.zero] at H1
 go_enter Tryz.func164, Tryz.ntmps164
 go_wp2_with fail
 refine H1.out.mono ?_
 rintro e w1 ⟨rfl, hb1⟩
 have HD1 := hidden (HD.out.below hb1)
 clear H1 hb1 HD
 go_wp2_with fail
 have hdA := HD1.out.below ((Below.refl _ _).alloc (Nat.le_refl _) (.cells #[.string ⟨#[]⟩, .bool false, .int .i64 0, .int .i64 0, .int .i64 0, .int .i64 0, .int .i64 0, .bool (!true)] 153 (0, 0)))
 have H2 := hidden (code_find s _ hdA.tab)
 rw [HF.out] at H2
 refine H2.out.mono ?_
 rintro e w2 ⟨rfl, hb2⟩
 have hd2 := hdA.below hb2
 obtain ⟨g, cap, hv, hcap, hge, hg, hfr, hcell⟩ := hd2.last
 have H3 := hidden (def_inner hd2 (by omega) g cap hv hcap)
 have d1 : w2.cell? ⟨g, bs.length * 17 + 1, none⟩ = some (.bool b.inDo) := hcell 1 _ rfl
 have HD2 := hidden hd2
 clear hdA hb2 H2 HD1 hd2 hcell hfr
 simp only [opRes]
 have tail : ∀ w3, DS w0 w3 rb rc bb db ev bcv dcv bv es nv nt pc dc tk (bs ++ [b]) kn → True := fun _ _ => trivial
 clear tail
 by_cases h27 : k = 27
 ·subst h27
  have hin : b.inDo = true := hdo.elim (fun e => absurd rfl e) id
  rw [hin] at d1
  go_wp2_with fail
  refine H3.out.mono ?_
  rintro e w3 ⟨rfl, hb3⟩
  replace d1 := (hb3.cell (p := ⟨g, bs.length * 17 + 1, none⟩) hg).trans d1
  have HD3 := hidden (HD2.out.below hb3)
  clear H3 hb3 HD2
  go_wp2_with fail
  refine (def_emit HD3.out 27 (.slice none 0 0) [] (Or.inl ⟨rfl, rfl⟩) (by omega)).mono ?_
  rintro e w4 ⟨rfl, ⟨v1, h4⟩, _⟩
  have HD4 := hidden h4
  clear h4 HD3 d1
  go_wp2_with fail
  refine (code_effect 27 w4 (by omega) HD4.out.tab).mono ?_
  rintro e w5 ⟨rfl, hb5⟩
  have HD5 := hidden (HD4.out.below hb5)
  clear HD4 hb5
  go_wp2_with fail
  refine (def_add HD5.out (opInf 27) (opInf_ok 27 (by omega)) HOK.out (by omega)).mono ?_
  rintro e w6 ⟨rfl, h6, _⟩
  have HD6 := hidden h6
  clear h6 HD5
  go_wp2_with fail
  go_ret
  exact ⟨rfl, v1, HD6.out⟩
 ·have hkb : ((k : Int) == 27) = false := by rw [beq_eq_false_iff_ne]; omega
  have hk35 : (k : Int) < 35 := by omega
  have HK := hidden hk
  clear hk h27 H3 d1
  go_wp2_with fail
  refine (def_emit HD2.out k (.slice none 0 0) [] (Or.inl ⟨rfl, rfl⟩) (by omega)).mono ?_
  rintro e w4 ⟨rfl, ⟨v1, h4⟩, _⟩
  have HD4 := hidden h4
  clear h4 HD2
  go_wp2_with fail
  refine (code_effect k w4 HK.out HD4.out.tab).mono ?_
  rintro e w5 ⟨rfl, hb5⟩
  have HD5 := hidden (HD4.out.below hb5)
  clear HD4 hb5
  go_wp2_with fail
  refine (def_add HD5.out (opInf k) (opInf_ok k HK.out) HOK.out (by omega)).mono ?_
  rintro e w6 ⟨rfl, h6, _⟩
  have HD6 := hidden h6
  clear h6 HD5
  go_wp2_with fail
  go_ret
  exact ⟨rfl, v1, HD6.out⟩
end Go.Proofs.YtcphhbofjkenaaaGreatDoor
namespace Go.Proofs.YtcphhbofjkenaaaGreatDoor
set_option maxHeartbeats 16000000
open Go
theorem ba_data (s : ByteArray) : s.toList = s.data.toList := by
 have := ba_list s.data.toList
 simpa using this
theorem opFrom_some (s : ByteArray) : ∀ (l : List (ByteArray × Int × Int)) (j k : Nat), opFrom s l j = some k → ∃ i x, k = j + i ∧ l[i]? = some x ∧ x.1.toList = s.toList ∧ s.toList ≠ []
 | [], j, k, h => by cases h
 | x :: l, j, k, h => by
  unfold opFrom at h
  split at h
  ·rename_i hc
   cases h
   exact ⟨0, x, rfl, rfl, by simpa using hc.1, by simpa using hc.2⟩
  ·obtain ⟨i, y, h1, h2, h3, h4⟩ := opFrom_some s l (j + 1) k h
   exact ⟨i + 1, y, by omega, by simpa using h2, h3, h4⟩
theorem opFrom_none (s : ByteArray) : ∀ (l : List (ByteArray × Int × Int)) (j : Nat), opFrom s l j = none → ∀ x ∈ l, x.1.toList = s.toList → s.toList = []
 | [], j, h, x, hx, _ => (List.not_mem_nil hx).elim
 | y :: l, j, h, x, hx, e => by
  unfold opFrom at h
  split at h
  ·cases h
  ·rename_i hc
   rcases List.mem_cons.1 hx with rfl | hx
   ·cases hs : (s.toList == []) with
    | true => simpa using hs
    | false => exact absurd ⟨by simpa using e, hs⟩ hc
   ·exact opFrom_none s l (j + 1) h x hx e
theorem tab_op : ∀ k, k < 35 → (opTab.getD k (⟨#[]⟩, 0, 0)).1.data.toList ≠ [] → k < 28 ∧ thereL (opTab.getD k (⟨#[]⟩, 0, 0)).1.data.toList = ((opTab.getD k (⟨#[]⟩, 0, 0)).2.1, (opTab.getD k (⟨#[]⟩, 0, 0)).2.2, true) := by decide +kernel
theorem op_tab : ∀ r ∈ tab, r.1 ≠ [] ∧ ∃ x ∈ opTab, x.1.data.toList = r.1 := by decide +kernel
theorem i_op : ∀ k, k < 35 → ((opTab.getD k (⟨#[]⟩, 0, 0)).1.data.toList = [105] ↔ k = 27) := by decide +kernel
theorem there_some {s : ByteArray} {k : Nat} (h : opFind s = some k) : thereS s = ((opTab.getD k (⟨#[]⟩, 0, 0)).2.1, (opTab.getD k (⟨#[]⟩, 0, 0)).2.2, true) ∧ k < 28 ∧ (s.toList = [105] ↔ k = 27) := by
 obtain ⟨i, x, h1, h2, h3, h4⟩ := opFrom_some s opTab 0 k h
 have hk := opFind_lt h
 obtain rfl : k = i := by omega
 have hx : opTab.getD k (⟨#[]⟩, 0, 0) = x := by simp [h2]
 have e : (opTab.getD k (⟨#[]⟩, 0, 0)).1.data.toList = s.toList := by rw [hx, ← ba_data]; exact h3
 obtain ⟨t1, t2⟩ := tab_op k hk (by rw [e]; exact h4)
 have t3 := i_op k hk
 rw [e] at t2 t3
 exact ⟨t2, t1, t3⟩
theorem there_none {s : ByteArray} (h : opFind s = none) : thereS s = (0, 0, false) := by
 unfold thereS thereL
 have : tab.find? (fun r => r.1 == s.toList) = none := by
  rw [List.find?_eq_none]
  intro r hr hc
  obtain ⟨n1, x, hx, e⟩ := op_tab r hr
  have hc' : r.1 = s.toList := by simpa using hc
  have := opFrom_none s opTab 0 h x hx (by rw [ba_data x.1, e, hc'])
  exact n1 (hc'.trans this)
 rw [this]
theorem there_inf {s : ByteArray} {k : Nat} (h : opFind s = some k) : opInf k = Inf.plain (thereS s).1 (thereS s).2.1 := by
 obtain ⟨t1, t2, t3⟩ := there_some h
 rw [t1]
 unfold opInf Inf.plain
 have : (k == 29) = false := by rw [beq_eq_false_iff_ne]; omega
 rw [this]; rfl
end Go.Proofs.YtcphhbofjkenaaaGreatDoor
