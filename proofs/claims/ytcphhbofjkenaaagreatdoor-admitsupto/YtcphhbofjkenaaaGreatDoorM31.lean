/- The program: reading the end. -/
import Derived.Test.YtcphhbofjkenaaaGreatDoorM21

namespace Go.Proofs.YtcphhbofjkenaaaGreatDoor
open Go.RowKit
set_option linter.unusedVariables false
set_option linter.unusedSimpArgs false

/-- What is known stands in the definition; the blocks may be gone. -/
theorem DS.setKnown {w0 w : World} {rb bb db : Nat} {rc : RC} {ev bcv dcv bv : Value} {es : List PE} {nv nt : Int} {pc dc : List Int} {tk : Int} {bs : List PB} {kn : Inf}
    (h : DS w0 w rb rc bb db ev bcv dcv bv es nv nt pc dc tk bs kn) (k : Inf) :
    DS w0 (((((w.setCell ⟨db, 4, none⟩ (.int .i64 k.need)).setCell ⟨db, 5, none⟩ (.int .i64 k.net)).setCell ⟨db, 6, none⟩ (.int .i64 k.high)).setCell ⟨db, 7, none⟩ (.int .i64 k.steps)).setCell ⟨db, 8, none⟩ (.bool (!k.str))) rb rc bb db ev bcv dcv bv es nv nt pc dc tk bs k := by
  have hrb := h.rdr.1
  have hgb := h.rdr.2
  have hc : Chg (fun b => b = db) w (((((w.setCell ⟨db, 4, none⟩ (.int .i64 k.need)).setCell ⟨db, 5, none⟩ (.int .i64 k.net)).setCell ⟨db, 6, none⟩ (.int .i64 k.high)).setCell ⟨db, 7, none⟩ (.int .i64 k.steps)).setCell ⟨db, 8, none⟩ (.bool (!k.str))) :=
    (((((Chg.refl (fun b => b = db) w).setCell (p := ⟨db, 4, none⟩) rfl _).setCell (p := ⟨db, 5, none⟩) rfl _).setCell (p := ⟨db, 6, none⟩) rfl _).setCell (p := ⟨db, 7, none⟩) rfl _).setCell (p := ⟨db, 8, none⟩) rfl _
  have n1 : bb ≠ db := by rintro rfl; exact absurd (blk_type h.sys.blk h.blk) (by decide)
  have n2 : rb ≠ db := by rintro rfl; exact absurd (blk_type hrb h.blk) (by decide)
  have no : ∀ {base : Nat} {e : TypeId} {size n : Nat} {v : Value} {xs : List Value}, w.ownsRow base e size v n xs → 209 ≠ e → ∀ k, v.ownBlock = some k → ¬ k = db := fun ho hne k hk e => own_blk ho h.blk hne (by rw [hk, e])
  refine ⟨h.sys.chg hc n1 (no h.sys.row (by decide)) (no h.sys.cod (by decide)), ?_, ownsRow_chg h.cod hc (no h.cod (by decide)), ownsRow_chg h.row hc (no h.row (by decide)), h.tab.chg hc (fun k e => by have := h.new; have := h.tl; omega), ⟨hrb.chg hc n2, hgb.chg hc (fun e => blk_ne h.blk hgb (by decide) e.symm)⟩, h.ru, h.tl, h.pre, h.new, h.loc, h.frm.thru hc (fun k hk e => by have := h.new; omega)⟩
  have := ((((h.blk.set (o := 4) (.int .i64 k.need)).set (o := 5) (.int .i64 k.net)).set (o := 6) (.int .i64 k.high)).set (o := 7) (.int .i64 k.steps)).set (o := 8) (.bool (!k.str))
  simpa [defC] using this

/-- No block is left. -/
theorem DS.clear {w0 w : World} {rb bb db : Nat} {rc : RC} {ev bcv dcv bv : Value} {es : List PE} {nv nt : Int} {pc dc : List Int} {tk : Int} {bs : List PB} {kn : Inf}
    (h : DS w0 w rb rc bb db ev bcv dcv bv es nv nt pc dc tk bs kn) : DS w0 (w.setCell ⟨db, 3, none⟩ (.slice none 0 0)) rb rc bb db ev bcv dcv (.slice none 0 0) es nv nt pc dc tk [] kn := by
  have hrb := h.rdr.1
  have hgb := h.rdr.2
  have hc : Chg (fun b => b = db) w (w.setCell ⟨db, 3, none⟩ (.slice none 0 0)) := (Chg.refl (fun b => b = db) w).setCell (p := ⟨db, 3, none⟩) rfl _
  have n1 : bb ≠ db := by rintro rfl; exact absurd (blk_type h.sys.blk h.blk) (by decide)
  have n2 : rb ≠ db := by rintro rfl; exact absurd (blk_type hrb h.blk) (by decide)
  have no : ∀ {base : Nat} {e : TypeId} {size n : Nat} {v : Value} {xs : List Value}, w.ownsRow base e size v n xs → 209 ≠ e → ∀ k, v.ownBlock = some k → ¬ k = db := fun ho hne k hk e => own_blk ho h.blk hne (by rw [hk, e])
  refine ⟨h.sys.chg hc n1 (no h.sys.row (by decide)) (no h.sys.cod (by decide)), ?_, ownsRow_chg h.cod hc (no h.cod (by decide)), World.ownsRow_nil _ _ _ _, h.tab.chg hc (fun k e => by have := h.new; have := h.tl; omega), ⟨hrb.chg hc n2, hgb.chg hc (fun e => blk_ne h.blk hgb (by decide) e.symm)⟩, h.ru, h.tl, h.pre, h.new, h.loc, h.frm.thru hc (fun k hk e => by have := h.new; omega)⟩
  have := h.blk.set (o := 3) (.slice none 0 0)
  simpa [defC] using this

set_option maxHeartbeats 4000000 in
theorem def_end_no {w0 w : World} {rb bb db : Nat} {rc : RC} {ev bcv dcv bv : Value} {es : List PE} {nv nt : Int} {pc dc : List Int} {tk : Int} {bs : List PB} {b : PB} {kn : Inf}
    (h : DS w0 w rb rc bb db ev bcv dcv bv es nv nt pc dc tk (bs ++ [b]) kn) (hop : b.opener ≠ 34) (hl : bs.length ≤ 10000000) :
    Calls Tryz.prog 156 #[.pointer (some ⟨db, 0, none⟩)] w fun e w' => e = .returned (.int .i64 5) ∧ DS w0 w' rb rc bb db ev bcv dcv bv es nv nt pc dc tk (bs ++ [b]) kn := by
  obtain ⟨g, cap, hv, hcap, hge, hg, hfr, hcell⟩ := h.last
  have H1 := hidden (def_inner h (by omega) g cap hv hcap)
  have d0 : w.cell? ⟨g, bs.length * 17, none⟩ = some (.int .i64 b.opener) := by simpa using hcell 0 _ rfl
  have hob : (b.opener != 34) = true := by simpa using hop
  have hob2 : (b.opener == 34) = false := by simpa using hop
  have HD := hidden h
  clear h hcell hfr hop
  go_enter Tryz.func156, Tryz.ntmps156
  go_wp2_with fail
  refine H1.out.mono ?_
  rintro e w1 ⟨rfl, hb1⟩
  replace d0 := (hb1.cell (p := ⟨g, bs.length * 17, none⟩) hg).trans d0
  have HB := hidden hb1
  clear H1 hb1
  go_wp2_with fail
  go_ret
  exact ⟨rfl, HD.out.below HB.out⟩

/-- What the end gives. -/
def endErr (steps nt tk : Int) : Int := if 1000000000 < steps then 7 else if 400 < nt + tk then 8 else 0
def EndPost (w0 : World) (rb : Nat) (rc : RC) (bb db : Nat) (ev bcv : Value) (es : List PE) (nv nt : Int) (pc dc : List Int) (tk : Int) (r : Inf) (R : Int) (e : Ending) (w' : World) : Prop :=
  e = .returned (.int .i64 R) ∧ ∃ dcv' bv' bs', DS w0 w' rb rc bb db ev bcv dcv' bv' es nv nt pc (dc ++ [34]) tk bs' r ∧ (R = 0 → bs' = [])

set_option maxHeartbeats 4000000 in
theorem def_end {w0 w : World} {rb bb db : Nat} {rc : RC} {ev bcv dcv bv : Value} {es : List PE} {nv nt : Int} {pc dc : List Int} {tk : Int} {b : PB} {kn : Inf}
    (h : DS w0 w rb rc bb db ev bcv dcv bv es nv nt pc dc tk [b] kn) (hop : b.opener = 34) (hbd : b.does.Ok) (hc : dc.length ≤ 10000000) (hnt0 : 0 ≤ nt) (hnt1 : nt ≤ 100000) (htk0 : 0 ≤ tk) (htk1 : tk ≤ 100000000) :
    Calls Tryz.prog 156 #[.pointer (some ⟨db, 0, none⟩)] w (EndPost w0 rb rc bb db ev bcv es nv nt pc dc tk (b.does.then (opInf 34)) (endErr (b.does.then (opInf 34)).steps nt tk)) := by
  obtain ⟨r, hr⟩ : ∃ r, r = b.does.then (opInf 34) := ⟨_, rfl⟩
  rw [← hr]
  have HRR := hidden hr
  clear hr
  obtain ⟨R, hR⟩ : ∃ R, R = endErr r.steps nt tk := ⟨_, rfl⟩
  rw [← hR]
  have HR := hidden hR
  clear hR
  obtain ⟨g, cap, hv, hcap, hge, hg, hfr, hcell⟩ := DS.last (bs := []) h
  have H1 := hidden (def_inner (bs := []) h (by simp) g cap hv hcap)
  simp only [List.length_nil, Nat.zero_mul, Nat.zero_add] at hcell
  have d0 : w.cell? ⟨g, 0, none⟩ = some (.int .i64 b.opener) := by simpa using hcell 0 _ rfl
  rw [hop] at d0
  have HD := hidden h
  have HOK := hidden hbd
  clear h hcell hfr hop hbd
  go_enter Tryz.func156, Tryz.ntmps156
  go_wp2_with fail
  refine H1.out.mono ?_
  rintro e w1 ⟨rfl, hb1⟩
  simp only [List.length_nil, Nat.zero_mul]
  replace d0 := (hb1.cell (p := ⟨g, 0, none⟩) hg).trans d0
  have H2 := hidden (def_emit (HD.out.below hb1) 34 (.slice none 0 0) [] (Or.inl ⟨rfl, rfl⟩) (by omega))
  clear H1 hb1
  go_wp2_with fail
  refine H2.out.mono ?_
  rintro e w2 ⟨rfl, ⟨v1, h2⟩, _⟩
  have H3 := hidden (code_effect 34 w2 (by omega) h2.tab)
  have HD2 := hidden h2
  clear H2 h2 d0
  go_wp2_with fail
  refine H3.out.mono ?_
  rintro e w3 ⟨rfl, hb3⟩
  have H4 := hidden (def_add (bs := []) (HD2.out.below hb3) (opInf 34) (opInf_ok 34 (by omega)) HOK.out (by simp))
  clear H3 HD2 hb3
  go_wp2_with fail
  refine H4.out.mono ?_
  rintro e w4 ⟨rfl, h4, _⟩
  simp only [List.nil_append] at h4
  obtain ⟨g', cap', hv', hcap', hge', hg', hfr', hcell'⟩ := DS.last (bs := []) h4
  obtain ⟨rfl, rfl⟩ : g = g' ∧ cap = cap' := by rw [hv] at hv'; simpa using hv'
  simp only [List.length_nil, Nat.zero_mul, Nat.zero_add] at hcell'
  have e4 : w4.cell? ⟨g, 4, none⟩ = some (.int .i64 r.need) := by rw [HRR.out]; exact hcell' 4 _ rfl
  have e5 : w4.cell? ⟨g, 5, none⟩ = some (.int .i64 r.net) := by rw [HRR.out]; exact hcell' 5 _ rfl
  have e6 : w4.cell? ⟨g, 6, none⟩ = some (.int .i64 r.high) := by rw [HRR.out]; exact hcell' 6 _ rfl
  have e7 : w4.cell? ⟨g, 7, none⟩ = some (.int .i64 r.steps) := by rw [HRR.out]; exact hcell' 7 _ rfl
  have e8 : w4.cell? ⟨g, 8, none⟩ = some (.bool (!r.str)) := by rw [HRR.out]; exact hcell' 8 _ rfl
  have H5 := hidden (def_inner (bs := []) h4 (by simp) g cap hv hcap)
  have HD4 := hidden h4
  clear H4 h4 hcell' hfr' hv'
  go_wp2_with fail
  refine H5.out.mono ?_
  rintro e w5 ⟨rfl, hb5⟩
  simp only [List.length_nil, Nat.zero_mul]
  have hd5 := HD4.out.below hb5
  replace e4 := (hb5.cell (p := ⟨g, 4, none⟩) hg').trans e4
  replace e5 := (hb5.cell (p := ⟨g, 5, none⟩) hg').trans e5
  replace e6 := (hb5.cell (p := ⟨g, 6, none⟩) hg').trans e6
  replace e7 := (hb5.cell (p := ⟨g, 7, none⟩) hg').trans e7
  replace e8 := (hb5.cell (p := ⟨g, 8, none⟩) hg').trans e8
  have k4 := hd5.blk.cell 4 _ rfl; have k5 := hd5.blk.cell 5 _ rfl; have k6 := hd5.blk.cell 6 _ rfl; have k7 := hd5.blk.cell 7 _ rfl; have k8 := hd5.blk.cell 8 _ rfl
  have q4 := hd5.blk.frozen 4; have q5 := hd5.blk.frozen 5; have q6 := hd5.blk.frozen 6; have q7 := hd5.blk.frozen 7; have q8 := hd5.blk.frozen 8
  simp only [defC, List.getElem_toArray, List.getElem_cons_succ, List.getElem_cons_zero] at k4 k5 k6 k7 k8
  have hdk := hd5.setKnown r
  obtain ⟨V, hV⟩ : ∃ V : World, V = ((((w5.setCell ⟨db, 4, none⟩ (.int .i64 r.need)).setCell ⟨db, 5, none⟩ (.int .i64 r.net)).setCell ⟨db, 6, none⟩ (.int .i64 r.high)).setCell ⟨db, 7, none⟩ (.int .i64 r.steps)).setCell ⟨db, 8, none⟩ (.bool (!r.str)) := ⟨_, rfl⟩
  rw [← hV] at hdk
  have HDV := hidden hdk
  clear H5 hb5 hd5 HD4 hdk
  go_upto_region 6 with fail
  rw [← hV]
  clear hV e4 e5 e6 e7 e8 k4 k5 k6 k7 k8 q4 q5 q6 q7 q8
  have k4 := HDV.out.blk.cell 4 _ rfl; have k5 := HDV.out.blk.cell 5 _ rfl; have k6 := HDV.out.blk.cell 6 _ rfl; have k7 := HDV.out.blk.cell 7 _ rfl; have k8 := HDV.out.blk.cell 8 _ rfl
  simp only [defC, List.getElem_toArray, List.getElem_cons_succ, List.getElem_cons_zero] at k4 k5 k6 k7 k8
  go_wp2_with fail
  refine (eff_long r.need r.net r.high r.steps (!r.str) V).mono ?_
  rintro e w6 ⟨rfl, hb6⟩
  have hd6 := HDV.out.below hb6
  obtain ⟨c0, c1, c2, c3⟩ := hd6.def
  have hbb2 : w6.cell? ⟨bb, 2, none⟩ = some (.int .i64 nt) := hd6.sys.blk.cell 2 _ rfl
  have q3 := hd6.blk.frozen 3
  have hlt := hd6.blk.lt
  obtain ⟨ad3, cap3, hbv3, _⟩ := row_shape hd6.row
  rw [hbv3] at c3
  have HD6 := hidden hd6
  clear hb6 hd6 HDV k4 k5 k6 k7 k8 c2
  by_cases hst : 1000000000 < r.steps
  · have HR7 := hidden (show R = 7 by rw [HR.out, endErr, if_pos hst])
    go_wp2_with fail
    go_ret
    exact ⟨by rw [HR7.out]; rfl, v1, bv, _, HD6.out, fun e => by rw [HR7.out] at e; cases e⟩
  · by_cases hfu : 400 < nt + tk
    · have HR8 := hidden (show R = 8 by rw [HR.out, endErr, if_neg hst, if_pos hfu])
      go_wp2_with fail
      go_quiet (fail)
      go_wp2_with fail
      go_ret
      exact ⟨by rw [HR8.out]; rfl, v1, bv, _, HD6.out.below ⟨rfl, rfl, rfl, Nat.le_refl _, fun _ _ => rfl⟩, fun e => by rw [HR8.out] at e; cases e⟩
    · have HR0 := hidden (show R = 0 by rw [HR.out, endErr, if_neg hst, if_neg hfu])
      go_wp2_with fail
      go_quiet (fail)
      go_wp2_with fail
      go_ret
      exact ⟨by rw [HR0.out]; rfl, v1, _, [], (HD6.out.below (w' := w6.drewN nq) ⟨rfl, rfl, rfl, Nat.le_refl _, fun _ _ => rfl⟩).clear, fun _ => rfl⟩

end Go.Proofs.YtcphhbofjkenaaaGreatDoor
