/- The program: reading the next token of a definition. -/
import Derived.Test.YtcphhbofjkenaaaGreatDoorM20
import Derived.Test.YtcphhbofjkenaaaGreatDoorM22

namespace Go.Proofs.YtcphhbofjkenaaaGreatDoor
open Go Go.RowKit
set_option linter.unusedVariables false
set_option linter.unusedSimpArgs false

/-- One token more. -/
theorem DS.tick {w0 w : World} {rb bb db : Nat} {rc : RC} {ev bcv dcv bv : Value} {es : List PE} {nv nt : Int} {pc dc : List Int} {tk : Int} {bs : List PB} {kn : Inf}
    (h : DS w0 w rb rc bb db ev bcv dcv bv es nv nt pc dc tk bs kn) (x : Int) : DS w0 (w.setCell ⟨db, 1, none⟩ (.int .i64 x)) rb rc bb db ev bcv dcv bv es nv nt pc dc x bs kn := by
  have hrb := h.rdr.1
  have hgb := h.rdr.2
  have hc : Chg (fun b => b = db) w (w.setCell ⟨db, 1, none⟩ (.int .i64 x)) := (Chg.refl (fun b => b = db) w).setCell (p := ⟨db, 1, none⟩) rfl _
  have n1 : bb ≠ db := by rintro rfl; exact absurd (blk_type h.sys.blk h.blk) (by decide)
  have n2 : rb ≠ db := by rintro rfl; exact absurd (blk_type hrb h.blk) (by decide)
  have no : ∀ {base : Nat} {e : TypeId} {size n : Nat} {v : Value} {xs : List Value}, w.ownsRow base e size v n xs → 209 ≠ e → ∀ k, v.ownBlock = some k → ¬ k = db := fun ho hne k hk e => own_blk ho h.blk hne (by rw [hk, e])
  refine ⟨h.sys.chg hc n1 (no h.sys.row (by decide)) (no h.sys.cod (by decide)), ?_, ownsRow_chg h.cod hc (no h.cod (by decide)), ownsRow_chg h.row hc (no h.row (by decide)), h.tab.chg hc (fun k e => by have := h.new; have := h.tl; omega), ⟨hrb.chg hc n2, hgb.chg hc (fun e => blk_ne h.blk hgb (by decide) e.symm)⟩, h.ru, h.tl, h.pre, h.new, h.loc, h.frm.thru hc (fun k hk e => by have := h.new; omega)⟩
  have := h.blk.set (o := 1) (.int .i64 x)
  simpa [defC] using this

set_option maxHeartbeats 2000000 in
theorem def_read_nil {w0 w : World} {rb bb db : Nat} {rc : RC} {ev bcv dcv bv : Value} {es : List PE} {nv nt : Int} {pc dc : List Int} {tk : Int} {bs : List PB} {kn : Inf}
    (h : DS w0 w rb rc bb db ev bcv dcv bv es nv nt pc dc tk bs kn) (htk0 : 0 ≤ tk) (htk1 : tk ≤ 1000000000) (s : ByteArray) (hs : (s.toList == []) = true) :
    Calls Tryz.prog 125 #[.pointer (some ⟨db, 0, none⟩), .string s] w fun e w' => e = .returned (.int .i64 5) ∧ DS w0 w' rb rc bb db ev bcv dcv bv es nv nt pc dc (tk + 1) bs kn := by
  obtain ⟨c0, c1, c2, c3⟩ := h.def
  have q1 := h.blk.frozen 1
  have htk : (tk : Int) ≤ 1000000000 := htk1
  have HT := hidden (h.tick (tk + 1))
  clear h c0 c2 c3 htk1
  have hsl : s.toList = [] := by simpa using hs
  have g0 : (s.toList == []) = true := by rw [hsl]; rfl
  have g1 : (s.toList == [58]) = false := by rw [hsl]; rfl
  have g2 : (s.toList == [118, 97, 114, 105, 97, 98, 108, 101]) = false := by rw [hsl]; rfl
  have g3 : (s.toList == [59]) = false := by rw [hsl]; rfl
  have g4 : (s.toList == [105, 102]) = false := by rw [hsl]; rfl
  have g5 : (s.toList == [101, 108, 115, 101]) = false := by rw [hsl]; rfl
  have g6 : (s.toList == [116, 104, 101, 110]) = false := by rw [hsl]; rfl
  have g7 : (s.toList == [100, 111]) = false := by rw [hsl]; rfl
  have g8 : (s.toList == [108, 111, 111, 112]) = false := by rw [hsl]; rfl
  clear hs hsl
  go_enter Tryz.func125, Tryz.ntmps125
  go_wp2_with fail
  go_ret
  exact ⟨rfl, HT.out⟩

set_option maxHeartbeats 2000000 in
theorem def_read_colon {w0 w : World} {rb bb db : Nat} {rc : RC} {ev bcv dcv bv : Value} {es : List PE} {nv nt : Int} {pc dc : List Int} {tk : Int} {bs : List PB} {kn : Inf}
    (h : DS w0 w rb rc bb db ev bcv dcv bv es nv nt pc dc tk bs kn) (htk0 : 0 ≤ tk) (htk1 : tk ≤ 1000000000) (s : ByteArray) (hs : (s.toList == [58]) = true) :
    Calls Tryz.prog 125 #[.pointer (some ⟨db, 0, none⟩), .string s] w fun e w' => e = .returned (.int .i64 5) ∧ DS w0 w' rb rc bb db ev bcv dcv bv es nv nt pc dc (tk + 1) bs kn := by
  obtain ⟨c0, c1, c2, c3⟩ := h.def
  have q1 := h.blk.frozen 1
  have htk : (tk : Int) ≤ 1000000000 := htk1
  have HT := hidden (h.tick (tk + 1))
  clear h c0 c2 c3 htk1
  have hsl : s.toList = [58] := by simpa using hs
  have g0 : (s.toList == []) = false := by rw [hsl]; rfl
  have g1 : (s.toList == [58]) = true := by rw [hsl]; rfl
  have g2 : (s.toList == [118, 97, 114, 105, 97, 98, 108, 101]) = false := by rw [hsl]; rfl
  have g3 : (s.toList == [59]) = false := by rw [hsl]; rfl
  have g4 : (s.toList == [105, 102]) = false := by rw [hsl]; rfl
  have g5 : (s.toList == [101, 108, 115, 101]) = false := by rw [hsl]; rfl
  have g6 : (s.toList == [116, 104, 101, 110]) = false := by rw [hsl]; rfl
  have g7 : (s.toList == [100, 111]) = false := by rw [hsl]; rfl
  have g8 : (s.toList == [108, 111, 111, 112]) = false := by rw [hsl]; rfl
  clear hs hsl
  go_enter Tryz.func125, Tryz.ntmps125
  go_wp2_with fail
  go_ret
  exact ⟨rfl, HT.out⟩

set_option maxHeartbeats 2000000 in
theorem def_read_var {w0 w : World} {rb bb db : Nat} {rc : RC} {ev bcv dcv bv : Value} {es : List PE} {nv nt : Int} {pc dc : List Int} {tk : Int} {bs : List PB} {kn : Inf}
    (h : DS w0 w rb rc bb db ev bcv dcv bv es nv nt pc dc tk bs kn) (htk0 : 0 ≤ tk) (htk1 : tk ≤ 1000000000) (s : ByteArray) (hs : (s.toList == [118, 97, 114, 105, 97, 98, 108, 101]) = true) :
    Calls Tryz.prog 125 #[.pointer (some ⟨db, 0, none⟩), .string s] w fun e w' => e = .returned (.int .i64 5) ∧ DS w0 w' rb rc bb db ev bcv dcv bv es nv nt pc dc (tk + 1) bs kn := by
  obtain ⟨c0, c1, c2, c3⟩ := h.def
  have q1 := h.blk.frozen 1
  have htk : (tk : Int) ≤ 1000000000 := htk1
  have HT := hidden (h.tick (tk + 1))
  clear h c0 c2 c3 htk1
  have hsl : s.toList = [118, 97, 114, 105, 97, 98, 108, 101] := by simpa using hs
  have g0 : (s.toList == []) = false := by rw [hsl]; rfl
  have g1 : (s.toList == [58]) = false := by rw [hsl]; rfl
  have g2 : (s.toList == [118, 97, 114, 105, 97, 98, 108, 101]) = true := by rw [hsl]; rfl
  have g3 : (s.toList == [59]) = false := by rw [hsl]; rfl
  have g4 : (s.toList == [105, 102]) = false := by rw [hsl]; rfl
  have g5 : (s.toList == [101, 108, 115, 101]) = false := by rw [hsl]; rfl
  have g6 : (s.toList == [116, 104, 101, 110]) = false := by rw [hsl]; rfl
  have g7 : (s.toList == [100, 111]) = false := by rw [hsl]; rfl
  have g8 : (s.toList == [108, 111, 111, 112]) = false := by rw [hsl]; rfl
  clear hs hsl
  go_enter Tryz.func125, Tryz.ntmps125
  go_wp2_with fail
  go_ret
  exact ⟨rfl, HT.out⟩

set_option maxHeartbeats 2000000 in
theorem def_read_end {w0 w : World} {rb bb db : Nat} {rc : RC} {ev bcv dcv bv : Value} {es : List PE} {nv nt : Int} {pc dc : List Int} {tk : Int} {bs : List PB} {kn : Inf}
    (h : DS w0 w rb rc bb db ev bcv dcv bv es nv nt pc dc tk bs kn) (htk0 : 0 ≤ tk) (htk1 : tk ≤ 1000000000) (s : ByteArray) (hs : (s.toList == [59]) = true) (Q : Int → World → Prop)
    (hX : ∀ w', DS w0 w' rb rc bb db ev bcv dcv bv es nv nt pc dc (tk + 1) bs kn → Calls Tryz.prog 156 #[.pointer (some ⟨db, 0, none⟩)] w' fun e w'' => ∃ r, e = .returned (.int .i64 r) ∧ Q r w'') :
    Calls Tryz.prog 125 #[.pointer (some ⟨db, 0, none⟩), .string s] w fun e w' => ∃ r, e = .returned (.int .i64 r) ∧ Q r w' := by
  obtain ⟨c0, c1, c2, c3⟩ := h.def
  have q1 := h.blk.frozen 1
  have htk : (tk : Int) ≤ 1000000000 := htk1
  have HT := hidden (h.tick (tk + 1))
  clear h c0 c2 c3 htk1
  have hsl : s.toList = [59] := by simpa using hs
  have g0 : (s.toList == []) = false := by rw [hsl]; rfl
  have g1 : (s.toList == [58]) = false := by rw [hsl]; rfl
  have g2 : (s.toList == [118, 97, 114, 105, 97, 98, 108, 101]) = false := by rw [hsl]; rfl
  have g3 : (s.toList == [59]) = true := by rw [hsl]; rfl
  have g4 : (s.toList == [105, 102]) = false := by rw [hsl]; rfl
  have g5 : (s.toList == [101, 108, 115, 101]) = false := by rw [hsl]; rfl
  have g6 : (s.toList == [116, 104, 101, 110]) = false := by rw [hsl]; rfl
  have g7 : (s.toList == [100, 111]) = false := by rw [hsl]; rfl
  have g8 : (s.toList == [108, 111, 111, 112]) = false := by rw [hsl]; rfl
  clear hs hsl
  have HX := hidden (hX _ HT.out)
  clear hX HT
  go_enter Tryz.func125, Tryz.ntmps125
  go_wp2_with fail
  refine HX.out.mono ?_
  rintro e w1 ⟨r, rfl, hq⟩
  have HQ := hidden hq
  clear hq HX
  go_wp2_with fail
  go_ret
  exact ⟨r, rfl, HQ.out⟩

set_option maxHeartbeats 2000000 in
theorem def_read_if {w0 w : World} {rb bb db : Nat} {rc : RC} {ev bcv dcv bv : Value} {es : List PE} {nv nt : Int} {pc dc : List Int} {tk : Int} {bs : List PB} {kn : Inf}
    (h : DS w0 w rb rc bb db ev bcv dcv bv es nv nt pc dc tk bs kn) (htk0 : 0 ≤ tk) (htk1 : tk ≤ 1000000000) (s : ByteArray) (hs : (s.toList == [105, 102]) = true) (Q : Int → World → Prop)
    (hX : ∀ w', DS w0 w' rb rc bb db ev bcv dcv bv es nv nt pc dc (tk + 1) bs kn → Calls Tryz.prog 157 #[.pointer (some ⟨db, 0, none⟩)] w' fun e w'' => ∃ r, e = .returned (.int .i64 r) ∧ Q r w'') :
    Calls Tryz.prog 125 #[.pointer (some ⟨db, 0, none⟩), .string s] w fun e w' => ∃ r, e = .returned (.int .i64 r) ∧ Q r w' := by
  obtain ⟨c0, c1, c2, c3⟩ := h.def
  have q1 := h.blk.frozen 1
  have htk : (tk : Int) ≤ 1000000000 := htk1
  have HT := hidden (h.tick (tk + 1))
  clear h c0 c2 c3 htk1
  have hsl : s.toList = [105, 102] := by simpa using hs
  have g0 : (s.toList == []) = false := by rw [hsl]; rfl
  have g1 : (s.toList == [58]) = false := by rw [hsl]; rfl
  have g2 : (s.toList == [118, 97, 114, 105, 97, 98, 108, 101]) = false := by rw [hsl]; rfl
  have g3 : (s.toList == [59]) = false := by rw [hsl]; rfl
  have g4 : (s.toList == [105, 102]) = true := by rw [hsl]; rfl
  have g5 : (s.toList == [101, 108, 115, 101]) = false := by rw [hsl]; rfl
  have g6 : (s.toList == [116, 104, 101, 110]) = false := by rw [hsl]; rfl
  have g7 : (s.toList == [100, 111]) = false := by rw [hsl]; rfl
  have g8 : (s.toList == [108, 111, 111, 112]) = false := by rw [hsl]; rfl
  clear hs hsl
  have HX := hidden (hX _ HT.out)
  clear hX HT
  go_enter Tryz.func125, Tryz.ntmps125
  go_wp2_with fail
  refine HX.out.mono ?_
  rintro e w1 ⟨r, rfl, hq⟩
  have HQ := hidden hq
  clear hq HX
  go_wp2_with fail
  go_ret
  exact ⟨r, rfl, HQ.out⟩

set_option maxHeartbeats 2000000 in
theorem def_read_else {w0 w : World} {rb bb db : Nat} {rc : RC} {ev bcv dcv bv : Value} {es : List PE} {nv nt : Int} {pc dc : List Int} {tk : Int} {bs : List PB} {kn : Inf}
    (h : DS w0 w rb rc bb db ev bcv dcv bv es nv nt pc dc tk bs kn) (htk0 : 0 ≤ tk) (htk1 : tk ≤ 1000000000) (s : ByteArray) (hs : (s.toList == [101, 108, 115, 101]) = true) (Q : Int → World → Prop)
    (hX : ∀ w', DS w0 w' rb rc bb db ev bcv dcv bv es nv nt pc dc (tk + 1) bs kn → Calls Tryz.prog 158 #[.pointer (some ⟨db, 0, none⟩)] w' fun e w'' => ∃ r, e = .returned (.int .i64 r) ∧ Q r w'') :
    Calls Tryz.prog 125 #[.pointer (some ⟨db, 0, none⟩), .string s] w fun e w' => ∃ r, e = .returned (.int .i64 r) ∧ Q r w' := by
  obtain ⟨c0, c1, c2, c3⟩ := h.def
  have q1 := h.blk.frozen 1
  have htk : (tk : Int) ≤ 1000000000 := htk1
  have HT := hidden (h.tick (tk + 1))
  clear h c0 c2 c3 htk1
  have hsl : s.toList = [101, 108, 115, 101] := by simpa using hs
  have g0 : (s.toList == []) = false := by rw [hsl]; rfl
  have g1 : (s.toList == [58]) = false := by rw [hsl]; rfl
  have g2 : (s.toList == [118, 97, 114, 105, 97, 98, 108, 101]) = false := by rw [hsl]; rfl
  have g3 : (s.toList == [59]) = false := by rw [hsl]; rfl
  have g4 : (s.toList == [105, 102]) = false := by rw [hsl]; rfl
  have g5 : (s.toList == [101, 108, 115, 101]) = true := by rw [hsl]; rfl
  have g6 : (s.toList == [116, 104, 101, 110]) = false := by rw [hsl]; rfl
  have g7 : (s.toList == [100, 111]) = false := by rw [hsl]; rfl
  have g8 : (s.toList == [108, 111, 111, 112]) = false := by rw [hsl]; rfl
  clear hs hsl
  have HX := hidden (hX _ HT.out)
  clear hX HT
  go_enter Tryz.func125, Tryz.ntmps125
  go_wp2_with fail
  refine HX.out.mono ?_
  rintro e w1 ⟨r, rfl, hq⟩
  have HQ := hidden hq
  clear hq HX
  go_wp2_with fail
  go_ret
  exact ⟨r, rfl, HQ.out⟩

set_option maxHeartbeats 2000000 in
theorem def_read_then {w0 w : World} {rb bb db : Nat} {rc : RC} {ev bcv dcv bv : Value} {es : List PE} {nv nt : Int} {pc dc : List Int} {tk : Int} {bs : List PB} {kn : Inf}
    (h : DS w0 w rb rc bb db ev bcv dcv bv es nv nt pc dc tk bs kn) (htk0 : 0 ≤ tk) (htk1 : tk ≤ 1000000000) (s : ByteArray) (hs : (s.toList == [116, 104, 101, 110]) = true) (Q : Int → World → Prop)
    (hX : ∀ w', DS w0 w' rb rc bb db ev bcv dcv bv es nv nt pc dc (tk + 1) bs kn → Calls Tryz.prog 159 #[.pointer (some ⟨db, 0, none⟩)] w' fun e w'' => ∃ r, e = .returned (.int .i64 r) ∧ Q r w'') :
    Calls Tryz.prog 125 #[.pointer (some ⟨db, 0, none⟩), .string s] w fun e w' => ∃ r, e = .returned (.int .i64 r) ∧ Q r w' := by
  obtain ⟨c0, c1, c2, c3⟩ := h.def
  have q1 := h.blk.frozen 1
  have htk : (tk : Int) ≤ 1000000000 := htk1
  have HT := hidden (h.tick (tk + 1))
  clear h c0 c2 c3 htk1
  have hsl : s.toList = [116, 104, 101, 110] := by simpa using hs
  have g0 : (s.toList == []) = false := by rw [hsl]; rfl
  have g1 : (s.toList == [58]) = false := by rw [hsl]; rfl
  have g2 : (s.toList == [118, 97, 114, 105, 97, 98, 108, 101]) = false := by rw [hsl]; rfl
  have g3 : (s.toList == [59]) = false := by rw [hsl]; rfl
  have g4 : (s.toList == [105, 102]) = false := by rw [hsl]; rfl
  have g5 : (s.toList == [101, 108, 115, 101]) = false := by rw [hsl]; rfl
  have g6 : (s.toList == [116, 104, 101, 110]) = true := by rw [hsl]; rfl
  have g7 : (s.toList == [100, 111]) = false := by rw [hsl]; rfl
  have g8 : (s.toList == [108, 111, 111, 112]) = false := by rw [hsl]; rfl
  clear hs hsl
  have HX := hidden (hX _ HT.out)
  clear hX HT
  go_enter Tryz.func125, Tryz.ntmps125
  go_wp2_with fail
  refine HX.out.mono ?_
  rintro e w1 ⟨r, rfl, hq⟩
  have HQ := hidden hq
  clear hq HX
  go_wp2_with fail
  go_ret
  exact ⟨r, rfl, HQ.out⟩

set_option maxHeartbeats 2000000 in
theorem def_read_do {w0 w : World} {rb bb db : Nat} {rc : RC} {ev bcv dcv bv : Value} {es : List PE} {nv nt : Int} {pc dc : List Int} {tk : Int} {bs : List PB} {kn : Inf}
    (h : DS w0 w rb rc bb db ev bcv dcv bv es nv nt pc dc tk bs kn) (htk0 : 0 ≤ tk) (htk1 : tk ≤ 1000000000) (s : ByteArray) (hs : (s.toList == [100, 111]) = true) (Q : Int → World → Prop)
    (hX : ∀ w', DS w0 w' rb rc bb db ev bcv dcv bv es nv nt pc dc (tk + 1) bs kn → Calls Tryz.prog 160 #[.pointer (some ⟨db, 0, none⟩)] w' fun e w'' => ∃ r, e = .returned (.int .i64 r) ∧ Q r w'') :
    Calls Tryz.prog 125 #[.pointer (some ⟨db, 0, none⟩), .string s] w fun e w' => ∃ r, e = .returned (.int .i64 r) ∧ Q r w' := by
  obtain ⟨c0, c1, c2, c3⟩ := h.def
  have q1 := h.blk.frozen 1
  have htk : (tk : Int) ≤ 1000000000 := htk1
  have HT := hidden (h.tick (tk + 1))
  clear h c0 c2 c3 htk1
  have hsl : s.toList = [100, 111] := by simpa using hs
  have g0 : (s.toList == []) = false := by rw [hsl]; rfl
  have g1 : (s.toList == [58]) = false := by rw [hsl]; rfl
  have g2 : (s.toList == [118, 97, 114, 105, 97, 98, 108, 101]) = false := by rw [hsl]; rfl
  have g3 : (s.toList == [59]) = false := by rw [hsl]; rfl
  have g4 : (s.toList == [105, 102]) = false := by rw [hsl]; rfl
  have g5 : (s.toList == [101, 108, 115, 101]) = false := by rw [hsl]; rfl
  have g6 : (s.toList == [116, 104, 101, 110]) = false := by rw [hsl]; rfl
  have g7 : (s.toList == [100, 111]) = true := by rw [hsl]; rfl
  have g8 : (s.toList == [108, 111, 111, 112]) = false := by rw [hsl]; rfl
  clear hs hsl
  have HX := hidden (hX _ HT.out)
  clear hX HT
  go_enter Tryz.func125, Tryz.ntmps125
  go_wp2_with fail
  refine HX.out.mono ?_
  rintro e w1 ⟨r, rfl, hq⟩
  have HQ := hidden hq
  clear hq HX
  go_wp2_with fail
  go_ret
  exact ⟨r, rfl, HQ.out⟩

set_option maxHeartbeats 2000000 in
theorem def_read_loop {w0 w : World} {rb bb db : Nat} {rc : RC} {ev bcv dcv bv : Value} {es : List PE} {nv nt : Int} {pc dc : List Int} {tk : Int} {bs : List PB} {kn : Inf}
    (h : DS w0 w rb rc bb db ev bcv dcv bv es nv nt pc dc tk bs kn) (htk0 : 0 ≤ tk) (htk1 : tk ≤ 1000000000) (s : ByteArray) (hs : (s.toList == [108, 111, 111, 112]) = true) (Q : Int → World → Prop)
    (hX : ∀ w', DS w0 w' rb rc bb db ev bcv dcv bv es nv nt pc dc (tk + 1) bs kn → Calls Tryz.prog 161 #[.pointer (some ⟨db, 0, none⟩)] w' fun e w'' => ∃ r, e = .returned (.int .i64 r) ∧ Q r w'') :
    Calls Tryz.prog 125 #[.pointer (some ⟨db, 0, none⟩), .string s] w fun e w' => ∃ r, e = .returned (.int .i64 r) ∧ Q r w' := by
  obtain ⟨c0, c1, c2, c3⟩ := h.def
  have q1 := h.blk.frozen 1
  have htk : (tk : Int) ≤ 1000000000 := htk1
  have HT := hidden (h.tick (tk + 1))
  clear h c0 c2 c3 htk1
  have hsl : s.toList = [108, 111, 111, 112] := by simpa using hs
  have g0 : (s.toList == []) = false := by rw [hsl]; rfl
  have g1 : (s.toList == [58]) = false := by rw [hsl]; rfl
  have g2 : (s.toList == [118, 97, 114, 105, 97, 98, 108, 101]) = false := by rw [hsl]; rfl
  have g3 : (s.toList == [59]) = false := by rw [hsl]; rfl
  have g4 : (s.toList == [105, 102]) = false := by rw [hsl]; rfl
  have g5 : (s.toList == [101, 108, 115, 101]) = false := by rw [hsl]; rfl
  have g6 : (s.toList == [116, 104, 101, 110]) = false := by rw [hsl]; rfl
  have g7 : (s.toList == [100, 111]) = false := by rw [hsl]; rfl
  have g8 : (s.toList == [108, 111, 111, 112]) = true := by rw [hsl]; rfl
  clear hs hsl
  have HX := hidden (hX _ HT.out)
  clear hX HT
  go_enter Tryz.func125, Tryz.ntmps125
  go_wp2_with fail
  refine HX.out.mono ?_
  rintro e w1 ⟨r, rfl, hq⟩
  have HQ := hidden hq
  clear hq HX
  go_wp2_with fail
  go_ret
  exact ⟨r, rfl, HQ.out⟩

set_option maxHeartbeats 2000000 in
theorem def_read_number {w0 w : World} {rb bb db : Nat} {rc : RC} {ev bcv dcv bv : Value} {es : List PE} {nv nt : Int} {pc dc : List Int} {tk : Int} {bs : List PB} {kn : Inf}
    (h : DS w0 w rb rc bb db ev bcv dcv bv es nv nt pc dc tk bs kn) (htk0 : 0 ≤ tk) (htk1 : tk ≤ 1000000000) (s : ByteArray) (hsz : s.size ≤ 100000000) (g0 : (s.toList == []) = false) (g1 : (s.toList == [58]) = false) (g2 : (s.toList == [118, 97, 114, 105, 97, 98, 108, 101]) = false) (g3 : (s.toList == [59]) = false) (g4 : (s.toList == [105, 102]) = false) (g5 : (s.toList == [101, 108, 115, 101]) = false) (g6 : (s.toList == [116, 104, 101, 110]) = false) (g7 : (s.toList == [100, 111]) = false) (g8 : (s.toList == [108, 111, 111, 112]) = false) (hnum : (numP s).2 = true) (Q : Int → World → Prop)
    (hX : ∀ w', DS w0 w' rb rc bb db ev bcv dcv bv es nv nt pc dc (tk + 1) bs kn → Calls Tryz.prog 163 #[.pointer (some ⟨db, 0, none⟩), .int .i64 (numP s).1] w' fun e w'' => ∃ r, e = .returned (.int .i64 r) ∧ Q r w'') :
    Calls Tryz.prog 125 #[.pointer (some ⟨db, 0, none⟩), .string s] w fun e w' => ∃ r, e = .returned (.int .i64 r) ∧ Q r w' := by
  obtain ⟨c0, c1, c2, c3⟩ := h.def
  have q1 := h.blk.frozen 1
  have htk : (tk : Int) ≤ 1000000000 := htk1
  have HT := hidden (h.tick (tk + 1))
  clear h c0 c2 c3 htk1
  have HN := hidden (tok_number s _ hsz HT.out.tab)
  rw [hnum] at HN
  have HX := hidden hX
  clear hX hnum hsz
  obtain ⟨n, hn⟩ : ∃ n, n = (numP s).1 := ⟨_, rfl⟩
  rw [← hn] at HN HX
  clear hn
  go_enter Tryz.func125, Tryz.ntmps125
  go_wp2_with fail
  refine HN.out.mono ?_
  rintro e w1 ⟨rfl, hb1⟩
  have HX1 := hidden (HX.out _ (HT.out.below hb1))
  clear hb1 HX HN HT
  go_wp2_with fail
  refine HX1.out.mono ?_
  rintro e w2 ⟨r, rfl, hq⟩
  have HQ := hidden hq
  clear hq HX1
  go_wp2_with fail
  go_ret
  exact ⟨r, rfl, HQ.out⟩

set_option maxHeartbeats 2000000 in
theorem def_read_word {w0 w : World} {rb bb db : Nat} {rc : RC} {ev bcv dcv bv : Value} {es : List PE} {nv nt : Int} {pc dc : List Int} {tk : Int} {bs : List PB} {kn : Inf}
    (h : DS w0 w rb rc bb db ev bcv dcv bv es nv nt pc dc tk bs kn) (htk0 : 0 ≤ tk) (htk1 : tk ≤ 1000000000) (s : ByteArray) (hsz : s.size ≤ 100000000) (g0 : (s.toList == []) = false) (g1 : (s.toList == [58]) = false) (g2 : (s.toList == [118, 97, 114, 105, 97, 98, 108, 101]) = false) (g3 : (s.toList == [59]) = false) (g4 : (s.toList == [105, 102]) = false) (g5 : (s.toList == [101, 108, 115, 101]) = false) (g6 : (s.toList == [116, 104, 101, 110]) = false) (g7 : (s.toList == [100, 111]) = false) (g8 : (s.toList == [108, 111, 111, 112]) = false) (hnum : (numP s).2 = false) (Q : Int → World → Prop)
    (hX : ∀ w', DS w0 w' rb rc bb db ev bcv dcv bv es nv nt pc dc (tk + 1) bs kn → Calls Tryz.prog 164 #[.pointer (some ⟨db, 0, none⟩), .string s] w' fun e w'' => ∃ r, e = .returned (.int .i64 r) ∧ Q r w'') :
    Calls Tryz.prog 125 #[.pointer (some ⟨db, 0, none⟩), .string s] w fun e w' => ∃ r, e = .returned (.int .i64 r) ∧ Q r w' := by
  obtain ⟨c0, c1, c2, c3⟩ := h.def
  have q1 := h.blk.frozen 1
  have htk : (tk : Int) ≤ 1000000000 := htk1
  have HT := hidden (h.tick (tk + 1))
  clear h c0 c2 c3 htk1
  have HN := hidden (tok_number s _ hsz HT.out.tab)
  rw [hnum] at HN
  have HX := hidden hX
  clear hX hnum hsz
  obtain ⟨n, hn⟩ : ∃ n, n = (numP s).1 := ⟨_, rfl⟩
  rw [← hn] at HN
  clear hn
  go_enter Tryz.func125, Tryz.ntmps125
  go_wp2_with fail
  refine HN.out.mono ?_
  rintro e w1 ⟨rfl, hb1⟩
  have HX1 := hidden (HX.out _ (HT.out.below hb1))
  clear hb1 HX HN HT
  go_wp2_with fail
  refine HX1.out.mono ?_
  rintro e w2 ⟨r, rfl, hq⟩
  have HQ := hidden hq
  clear hq HX1
  go_wp2_with fail
  go_ret
  exact ⟨r, rfl, HQ.out⟩

end Go.Proofs.YtcphhbofjkenaaaGreatDoor
