/- The program: reading an else. -/
import Derived.Test.YtogcdcdhogcogaaGreatDoorM24

namespace Go.Proofs.YtogcdcdhogcogaaGreatDoor
open Go.RowKit
set_option linter.unusedVariables false
set_option linter.unusedSimpArgs false

set_option maxHeartbeats 4000000 in
theorem def_else_no {w0 w : World} {rb bb db : Nat} {rc : RC} {ev bcv dcv bv : Value} {es : List PE} {nv nt : Int} {pc dc : List Int} {tk : Int} {bs : List PB} {b : PB} {kn : Inf}
    (h : DS w0 w rb rc bb db ev bcv dcv bv es nv nt pc dc tk (bs ++ [b]) kn) (hop : b.opener ≠ 29) (hl : bs.length ≤ 10000000) :
    Calls Tryz.prog 146 #[.pointer (some ⟨db, 0, none⟩)] w fun e w' => e = .returned (.int .i64 5) ∧ DS w0 w' rb rc bb db ev bcv dcv bv es nv nt pc dc tk (bs ++ [b]) kn := by
  obtain ⟨g, cap, hv, hcap, hge, hg, hfr, hcell⟩ := h.last
  have H1 := hidden (def_inner h (by omega) g cap hv hcap)
  have d0 : w.cell? ⟨g, bs.length * 17, none⟩ = some (.int .i64 b.opener) := by simpa using hcell 0 _ rfl
  have hob : (b.opener == 29) = false := by simpa using hop
  have HD := hidden h
  clear h hcell hfr hop
  go_enter Tryz.func146, Tryz.ntmps146
  go_wp2_with fail
  refine H1.out.mono ?_
  rintro e w1 ⟨rfl, hb1⟩
  replace d0 := (hb1.cell (p := ⟨g, bs.length * 17, none⟩) hg).trans d0
  have HB := hidden hb1
  clear H1 hb1
  go_wp2_with fail
  go_ret
  exact ⟨rfl, HD.out.below HB.out⟩

set_option maxHeartbeats 4000000 in
theorem def_else {c : PB} {w0 w : World} {rb bb db : Nat} {rc : RC} {ev bcv dcv bv : Value} {es : List PE} {nv nt : Int} {pc dc : List Int} {tk : Int} {bs : List PB} {b : PB} {kn : Inf}
    (h : DS w0 w rb rc bb db ev bcv dcv bv es nv nt pc dc tk (bs ++ [c] ++ [b]) kn) (hop : b.opener = 29) (hd : b.does.Ok) (k : Nat) (hk : b.hole = k) (hk1 : pc.length ≤ k) (hk2 : k < dc.length) (hl : bs.length ≤ 10000000) (hc : dc.length ≤ 10000000) :
    Calls Tryz.prog 146 #[.pointer (some ⟨db, 0, none⟩)] w fun e w' => e = .returned (.int .i64 0) ∧ (∃ dcv' bv', DS w0 w' rb rc bb db ev bcv dcv' bv' es nv nt pc ((dc ++ [30, 0]).set k (dc.length + 2)) tk (bs ++ [c] ++ [PB.opened { PB.zero with opener := 30, other := b.does.then (opInf 30) } c (dc.length + 2)]) kn) := by
  obtain ⟨g, cap, hv, hcap, hge, hg, hfr, hcell⟩ := h.last
  have H0 := hidden (def_inner h (by simp; omega) g cap hv hcap)
  have d0 : w.cell? ⟨g, (bs.length + 1) * 17, none⟩ = some (.int .i64 b.opener) := by simpa using hcell 0 _ rfl
  rw [hop] at d0
  have HD := hidden h
  have HOK := hidden hd
  clear h hcell hfr hd
  go_enter Tryz.func146, Tryz.ntmps146
  go_wp2_with fail
  refine H0.out.mono ?_
  rintro e w1 ⟨rfl, hb1⟩
  replace d0 := (hb1.cell (p := ⟨g, (bs.length + 1) * 17, none⟩) hg).trans d0
  have hds := HD.out.below hb1
  obtain ⟨h1, hs1⟩ := hds.src1 0
  have H1 := hidden (def_emit h1 30 _ [0] hs1 (by omega))
  clear H0 hb1 hds h1 hs1
  go_wp2_with fail
  refine H1.out.mono ?_
  rintro e w2 ⟨rfl, ⟨v1, h2⟩, _⟩
  have H2 := hidden (code_effect 30 w2 (by omega) h2.tab)
  have HD2 := hidden h2
  clear H1 h2 d0
  go_wp2_with fail
  refine H2.out.mono ?_
  rintro e w3 ⟨rfl, hb3⟩
  have H3 := hidden (def_add (HD2.out.below hb3) (opInf 30) (opInf_ok 30 (by omega)) HOK.out (by simp; omega))
  clear H2 HD2 hb3
  go_wp2_with fail
  refine H3.out.mono ?_
  rintro e w4 ⟨rfl, h4, _⟩
  have H4 := hidden (def_close h4 k hk hk1 (by simp; omega) (by simp; omega) (by simp; omega))
  clear H3 h4
  go_wp2_with fail
  refine H4.out.mono ?_
  rintro e w5 ⟨rfl, ⟨bv5, h5⟩, _⟩
  have HD5 := hidden h5
  clear H4 h5
  simp only [PB.val, PB.cells, PB.add]
  go_wp2_with fail
  refine (def_open (HD5.out.below ((Below.refl _ _).alloc (Nat.le_refl _) _)) { PB.zero with opener := 30, other := b.does.then (opInf 30) } (by omega) (by simp) (by simp; omega)).mono ?_
  rintro e w6 ⟨rfl, ⟨bv6, h6⟩, _⟩
  have HD6 := hidden h6
  clear h6 HD5
  go_wp2_with fail
  go_ret
  exact ⟨rfl, v1, bv6, by simpa using HD6.out⟩

end Go.Proofs.YtogcdcdhogcogaaGreatDoor
