/- The program: reading a do. -/
import Derived.Test.YtcphhbofjkenaaaGreatDoorM21

namespace Go.Proofs.YtcphhbofjkenaaaGreatDoor
open Go.RowKit
set_option linter.unusedVariables false
set_option linter.unusedSimpArgs false

set_option maxHeartbeats 4000000 in
theorem def_do_no {w0 w : World} {rb bb db : Nat} {rc : RC} {ev bcv dcv bv : Value} {es : List PE} {nv nt : Int} {pc dc : List Int} {tk : Int} {bs : List PB} {b : PB} {kn : Inf}
    (h : DS w0 w rb rc bb db ev bcv dcv bv es nv nt pc dc tk (bs ++ [b]) kn) (hn : b.numbers < 2) (hl : bs.length ≤ 10000000) :
    Calls Tryz.prog 160 #[.pointer (some ⟨db, 0, none⟩)] w fun e w' => e = .returned (.int .i64 5) ∧ DS w0 w' rb rc bb db ev bcv dcv bv es nv nt pc dc tk (bs ++ [b]) kn := by
  obtain ⟨g, cap, hv, hcap, hge, hg, hfr, hcell⟩ := h.last
  have H1 := hidden (def_inner h (by omega) g cap hv hcap)
  have d14 : w.cell? ⟨g, bs.length * 17 + 14, none⟩ = some (.int .i64 b.numbers) := hcell 14 _ rfl
  have HD := hidden h
  clear h hcell hfr
  go_enter Tryz.func160, Tryz.ntmps160
  go_wp2_with fail
  refine H1.out.mono ?_
  rintro e w1 ⟨rfl, hb1⟩
  replace d14 := (hb1.cell (p := ⟨g, bs.length * 17 + 14, none⟩) hg).trans d14
  have HB := hidden hb1
  clear H1 hb1
  go_wp2_with fail
  go_ret
  exact ⟨rfl, HD.out.below HB.out⟩

set_option maxHeartbeats 4000000 in
theorem def_do_much {w0 w : World} {rb bb db : Nat} {rc : RC} {ev bcv dcv bv : Value} {es : List PE} {nv nt : Int} {pc dc : List Int} {tk : Int} {bs : List PB} {b : PB} {kn : Inf}
    (h : DS w0 w rb rc bb db ev bcv dcv bv es nv nt pc dc tk (bs ++ [b]) kn) (hn : ¬ b.numbers < 2) (ha0 : -2147483648 ≤ b.a0) (ha1 : b.a0 ≤ 2147483647) (hb0 : -2147483648 ≤ b.a1) (hb1 : b.a1 ≤ 2147483647) (hm : 1000 < b.a0 - b.a1) (hl : bs.length ≤ 10000000) :
    Calls Tryz.prog 160 #[.pointer (some ⟨db, 0, none⟩)] w fun e w' => e = .returned (.int .i64 7) ∧ DS w0 w' rb rc bb db ev bcv dcv bv es nv nt pc dc tk (bs ++ [b]) kn := by
  obtain ⟨g, cap, hv, hcap, hge, hg, hfr, hcell⟩ := h.last
  have H1 := hidden (def_inner h (by omega) g cap hv hcap)
  have d14 : w.cell? ⟨g, bs.length * 17 + 14, none⟩ = some (.int .i64 b.numbers) := hcell 14 _ rfl
  have d15 : w.cell? ⟨g, bs.length * 17 + 15, none⟩ = some (.int .i64 b.a0) := hcell 15 _ rfl
  have d16 : w.cell? ⟨g, bs.length * 17 + 16, none⟩ = some (.int .i64 b.a1) := hcell 16 _ rfl
  have hmx : max 0 (b.a0 - b.a1) = b.a0 - b.a1 := by omega
  have HD := hidden h
  clear h hcell hfr
  go_enter Tryz.func160, Tryz.ntmps160
  go_wp2_with fail
  refine H1.out.mono ?_
  rintro e w1 ⟨rfl, hbb⟩
  replace d14 := (hbb.cell (p := ⟨g, bs.length * 17 + 14, none⟩) hg).trans d14
  replace d15 := (hbb.cell (p := ⟨g, bs.length * 17 + 15, none⟩) hg).trans d15
  replace d16 := (hbb.cell (p := ⟨g, bs.length * 17 + 16, none⟩) hg).trans d16
  have HB := hidden hbb
  clear H1 hbb
  go_wp2_with fail
  go_quiet (fail)
  go_wp2_with fail
  go_ret
  exact ⟨rfl, HD.out.below (HB.out.trans ⟨rfl, rfl, rfl, Nat.le_refl _, fun _ _ => rfl⟩)⟩

set_option maxHeartbeats 4000000 in
theorem def_do {w0 w : World} {rb bb db : Nat} {rc : RC} {ev bcv dcv bv : Value} {es : List PE} {nv nt : Int} {pc dc : List Int} {tk : Int} {bs : List PB} {b : PB} {kn : Inf}
    (h : DS w0 w rb rc bb db ev bcv dcv bv es nv nt pc dc tk (bs ++ [b]) kn) (hn : ¬ b.numbers < 2) (ha0 : -2147483648 ≤ b.a0) (ha1 : b.a0 ≤ 2147483647) (hb0 : -2147483648 ≤ b.a1) (hb1 : b.a1 ≤ 2147483647) (hm : ¬ 1000 < max 0 (b.a0 - b.a1)) (hd : b.does.Ok) (hl : bs.length ≤ 10000000) (hc : dc.length ≤ 10000000) :
    Calls Tryz.prog 160 #[.pointer (some ⟨db, 0, none⟩)] w fun e w' => e = .returned (.int .i64 0) ∧ (∃ dcv' bv', DS w0 w' rb rc bb db ev bcv dcv' bv' es nv nt pc (dc ++ [31, 0]) tk (bs ++ [b.add (opInf 31)] ++ [PB.opened { PB.zero with opener := 31, times := max 0 (b.a0 - b.a1) } (b.add (opInf 31)) (dc.length + 2)]) kn) := by
  obtain ⟨g, cap, hv, hcap, hge, hg, hfr, hcell⟩ := h.last
  have H1 := hidden (def_inner h (by omega) g cap hv hcap)
  have d14 : w.cell? ⟨g, bs.length * 17 + 14, none⟩ = some (.int .i64 b.numbers) := hcell 14 _ rfl
  have d15 : w.cell? ⟨g, bs.length * 17 + 15, none⟩ = some (.int .i64 b.a0) := hcell 15 _ rfl
  have d16 : w.cell? ⟨g, bs.length * 17 + 16, none⟩ = some (.int .i64 b.a1) := hcell 16 _ rfl
  have HD := hidden h
  have HOK := hidden hd
  clear h hcell hfr hd
  go_enter Tryz.func160, Tryz.ntmps160
  go_wp2_with fail
  refine H1.out.mono ?_
  rintro e w1 ⟨rfl, hbb⟩
  replace d14 := (hbb.cell (p := ⟨g, bs.length * 17 + 14, none⟩) hg).trans d14
  replace d15 := (hbb.cell (p := ⟨g, bs.length * 17 + 15, none⟩) hg).trans d15
  replace d16 := (hbb.cell (p := ⟨g, bs.length * 17 + 16, none⟩) hg).trans d16
  have HB := hidden hbb
  clear H1 hbb
  go_wp2_with fail
  go_quiet (fail)
  have hdq := HD.out.below (HB.out.trans (show Below w.heap.size w1 (w1.drewN nq) from ⟨rfl, rfl, rfl, Nat.le_refl _, fun _ _ => rfl⟩))
  obtain ⟨h1, hs1⟩ := hdq.src1 0
  have H1 := hidden (def_emit h1 31 _ [0] hs1 (by omega))
  clear h1 hs1 hdq
  go_wp2_with fail
  refine H1.out.mono ?_
  rintro e w2 ⟨rfl, ⟨v1, h2⟩, _⟩
  have H2 := hidden (code_effect 31 w2 (by omega) h2.tab)
  have HD2 := hidden h2
  clear H1 h2 d14 d15 d16
  go_wp2_with fail
  refine H2.out.mono ?_
  rintro e w3 ⟨rfl, hb3⟩
  have H3 := hidden (def_add (HD2.out.below hb3) (opInf 31) (opInf_ok 31 (by omega)) HOK.out (by omega))
  clear H2 HD2 hb3
  go_wp2_with fail
  refine H3.out.mono ?_
  rintro e w4 ⟨rfl, h4, _⟩
  have HD4 := hidden h4
  clear H3 h4
  go_wp2_with fail
  refine (def_open HD4.out { PB.zero with opener := 31, times := max 0 (b.a0 - b.a1) } (by omega) (by simp) (by simp; omega)).mono ?_
  rintro e w5 ⟨rfl, ⟨bv', h5⟩, _⟩
  have H5 := hidden h5
  clear HD4 h5
  go_wp2_with fail
  go_ret
  exact ⟨rfl, v1, bv', by simpa using H5.out⟩

end Go.Proofs.YtcphhbofjkenaaaGreatDoor
