import Derived.Test.YtcphhbofjkenaaaGreatDoorU13
import Derived.Test.YtcphhbofjkenaaaGreatDoorU14
namespace Go.Proofs.YtcphhbofjkenaaaGreatDoor
set_option maxHeartbeats 16000000
open Go Go.RowKit
set_option linter.unusedVariables false
set_option linter.unusedSimpArgs false
theorem DS.tick {w0 w : World} {rb bb db : Nat} {rc : RC} {ev bcv dcv bv : Value} {es : List PE} {nv nt : Int} {pc dc : List Int} {tk : Int} {bs : List PB} {kn : Inf}
  (h : DS w0 w rb rc bb db ev bcv dcv bv es nv nt pc dc tk bs kn) (x : Int) : DS w0 (w.setCell ⟨db, 1, none⟩ (.int .i64 x)) rb rc bb db ev bcv dcv bv es nv nt pc dc x bs kn := by
 have hrb := h.rdr.1
 have hgb := h.rdr.2
 have hc : Chg (fun b => b = db) w (w.setCell ⟨db, 1, none⟩ (.int .i64 x)) := (Chg.refl (fun b => b = db) w).setCell (p := ⟨db, 1, none⟩) rfl _
 have n1 : bb ≠ db := by rintro rfl; exact absurd (blk_type h.sys.blk h.blk) (by decide)
 have n2 : rb ≠ db := by rintro rfl; exact absurd (blk_type hrb h.blk) (by decide)
 have no : ∀ {base : Nat} {e : TypeId} {size n : Nat} {v : Value} {xs : List Value}, w.ownsRow base e size v n xs → 209 ≠ e → ∀ k, v.ownBlock = some k → ¬ k = db := fun ho hne k hk e => own_blk ho h.blk hne (by rw [hk, e])
 refine ⟨h.sys.chg hc n1 (no h.sys.row (by decide)) (no h.sys.cod (by decide)), ?_, ownsRow_chg h.cod hc (no h.cod (by decide)), ownsRow_chg h.row hc (no h.row (by decide)), h.tab.chg hc (fun k e => by have := h.new; have := h.tl; omega), ⟨hrb.chg hc n2, hgb.chg hc (fun e => blk_ne h.blk hgb (by decide) e.symm)⟩, h.ru, h.tl, h.pre, h.new, h.loc, h.frm.thru hc (fun k hk e => by have := h.new; omega)⟩
 have := h.blk.set (o := 1) (.int .i64 x)
 simpa [defC] using this
theorem def_read_nil {w0 w : World} {rb bb db : Nat} {rc : RC} {ev bcv dcv bv : Value} {es : List PE} {nv nt : Int} {pc dc : List Int} {tk : Int} {bs : List PB} {kn : Inf}
  (h : DS w0 w rb rc bb db ev bcv dcv bv es nv nt pc dc tk bs kn) (htk0 : 0 ≤ tk) (htk1 : tk ≤ 1000000000) (s : ByteArray) (hs : (s.toList == []) = true) :
  Calls Tryz.prog 125 #[.pointer (some ⟨db, 0, none⟩), .string s] w fun e w' => e = .returned (.int .i64 5) ∧ DS w0 w' rb rc bb db ev bcv dcv bv es nv nt pc dc (tk + 1) bs kn := by
 obtain ⟨c0, c1, c2, c3⟩ := h.def
 have q1 := h.blk.frozen 1
 have htk : (tk : Int) ≤ 1000000000 := htk1
 have HT := hidden (h.tick (tk + 1))
 clear h c0 c2 c3 htk1
 have hsl : s.toList = [] := by simpa using hs
 have g0 : (s.toList == []) = true := by rw [hsl]; rfl
 have g1 : (s.toList == [58]) = false := by rw [hsl]; rfl
 have g2 : (s.toList == [118, 97, 114, 105, 97, 98, 108, 101]) = false := by rw [hsl]; rfl
 have g3 : (s.toList == [59]) = false := by rw [hsl]; rfl
 have g4 : (s.toList == [105, 102]) = false := by rw [hsl]; rfl
 have g5 : (s.toList == [101, 108, 115, 101]) = false := by rw [hsl]; rfl
 have g6 : (s.toList == [116, 104, 101, 110]) = false := by rw [hsl]; rfl
 have g7 : (s.toList == [100, 111]) = false := by rw [hsl]; rfl
 have g8 : (s.toList == [108, 111, 111, 112]) = false := by rw [hsl]; rfl
 clear hs hsl
 go_enter Tryz.func125, Tryz.ntmps125
 go_wp2_with fail
 go_ret
 exact ⟨rfl, HT.out⟩
theorem def_read_colon {w0 w : World} {rb bb db : Nat} {rc : RC} {ev bcv dcv bv : Value} {es : List PE} {nv nt : Int} {pc dc : List Int} {tk : Int} {bs : List PB} {kn : Inf}
  (h : DS w0 w rb rc bb db ev bcv dcv bv es nv nt pc dc tk bs kn) (htk0 : 0 ≤ tk) (htk1 : tk ≤ 1000000000) (s : ByteArray) (hs : (s.toList == [58]) = true) :
  Calls Tryz.prog 125 #[.pointer (some ⟨db, 0, none⟩), .string s] w fun e w' => e = .returned (.int .i64 5) ∧ DS w0 w' rb rc bb db ev bcv dcv bv es nv nt pc dc (tk + 1) bs kn := by
 obtain ⟨c0, c1, c2, c3⟩ := h.def
 have q1 := h.blk.frozen 1
 have htk : (tk : Int) ≤ 1000000000 := htk1
 have HT := hidden (h.tick (tk + 1))
 clear h c0 c2 c3 htk1
 have hsl : s.toList = [58] := by simpa using hs
 have g0 : (s.toList == []) = false := by rw [hsl]; rfl
 have g1 : (s.toList == [58]) = true := by rw [hsl]; rfl
 have g2 : (s.toList == [118, 97, 114, 105, 97, 98, 108, 101]) = false := by rw [hsl]; rfl
 have g3 : (s.toList == [59]) = false := by rw [hsl]; rfl
 have g4 : (s.toList == [105, 102]) = false := by rw [hsl]; rfl
 have g5 : (s.toList == [101, 108, 115, 101]) = false := by rw [hsl]; rfl
 have g6 : (s.toList == [116, 104, 101, 110]) = false := by rw [hsl]; rfl
 have g7 : (s.toList == [100, 111]) = false := by rw [hsl]; rfl
 have g8 : (s.toList == [108, 111, 111, 112]) = false := by rw [hsl]; rfl
 clear hs hsl
 go_enter Tryz.func125, Tryz.ntmps125
 go_wp2_with fail
 go_ret
 exact ⟨rfl, HT.out⟩
theorem def_read_var {w0 w : World} {rb bb db : Nat} {rc : RC} {ev bcv dcv bv : Value} {es : List PE} {nv nt : Int} {pc dc : List Int} {tk : Int} {bs : List PB} {kn : Inf}
  (h : DS w0 w rb rc bb db ev bcv dcv bv es nv nt pc dc tk bs kn) (htk0 : 0 ≤ tk) (htk1 : tk ≤ 1000000000) (s : ByteArray) (hs : (s.toList == [118, 97, 114, 105, 97, 98, 108, 101]) = true) :
  Calls Tryz.prog 125 #[.pointer (some ⟨db, 0, none⟩), .string s] w fun e w' => e = .returned (.int .i64 5) ∧ DS w0 w' rb rc bb db ev bcv dcv bv es nv nt pc dc (tk + 1) bs kn := by
 obtain ⟨c0, c1, c2, c3⟩ := h.def
 have q1 := h.blk.frozen 1
 have htk : (tk : Int) ≤ 1000000000 := htk1
 have HT := hidden (h.tick (tk + 1))
 clear h c0 c2 c3 htk1
 have hsl : s.toList = [118, 97, 114, 105, 97, 98, 108, 101] := by simpa using hs
 have g0 : (s.toList == []) = false := by rw [hsl]; rfl
 have g1 : (s.toList == [58]) = false := by rw [hsl]; rfl
 have g2 : (s.toList == [118, 97, 114, 105, 97, 98, 108, 101]) = true := by rw [hsl]; rfl
 have g3 : (s.toList == [59]) = false := by rw [hsl]; rfl
 have g4 : (s.toList == [105, 102]) = false := by rw [hsl]; rfl
 have g5 : (s.toList == [101, 108, 115, 101]) = false := by rw [hsl]; rfl
 have g6 : (s.toList == [116, 104, 101, 110]) = false := by rw [hsl]; rfl
 have g7 : (s.toList == [100, 111]) = false := by rw [hsl]; rfl
 have g8 : (s.toList == [108, 111, 111, 112]) = false := by rw [hsl]; rfl
 clear hs hsl
 go_enter Tryz.func125, Tryz.ntmps125
 go_wp2_with fail
 go_ret
 exact ⟨rfl, HT.out⟩
theorem def_read_end {w0 w : World} {rb bb db : Nat} {rc : RC} {ev bcv dcv bv : Value} {es : List PE} {nv nt : Int} {pc dc : List Int} {tk : Int} {bs : List PB} {kn : Inf}
  (h : DS w0 w rb rc bb db ev bcv dcv bv es nv nt pc dc tk bs kn) (htk0 : 0 ≤ tk) (htk1 : tk ≤ 1000000000) (s : ByteArray) (hs : (s.toList == [59]) = true) (Q : Int → World → Prop)
  (hX : ∀ w', DS w0 w' rb rc bb db ev bcv dcv bv es nv nt pc dc (tk + 1) bs kn → Calls Tryz.prog 156 #[.pointer (some ⟨db, 0, none⟩)] w' fun e w'' => ∃ r, e = .returned (.int .i64 r) ∧ Q r w'') :
  Calls Tryz.prog 125 #[.pointer (some ⟨db, 0, none⟩), .string s] w fun e w' => ∃ r, e = .returned (.int .i64 r) ∧ Q r w' := by
 obtain ⟨c0, c1, c2, c3⟩ := h.def
 have q1 := h.blk.frozen 1
 have htk : (tk : Int) ≤ 1000000000 := htk1
 have HT := hidden (h.tick (tk + 1))
 clear h c0 c2 c3 htk1
 have hsl : s.toList = [59] := by simpa using hs
 have g0 : (s.toList == []) = false := by rw [hsl]; rfl
 have g1 : (s.toList == [58]) = false := by rw [hsl]; rfl
 have g2 : (s.toList == [118, 97, 114, 105, 97, 98, 108, 101]) = false := by rw [hsl]; rfl
 have g3 : (s.toList == [59]) = true := by rw [hsl]; rfl
 have g4 : (s.toList == [105, 102]) = false := by rw [hsl]; rfl
 have g5 : (s.toList == [101, 108, 115, 101]) = false := by rw [hsl]; rfl
 have g6 : (s.toList == [116, 104, 101, 110]) = false := by rw [hsl]; rfl
 have g7 : (s.toList == [100, 111]) = false := by rw [hsl]; rfl
 have g8 : (s.toList == [108, 111, 111, 112]) = false := by rw [hsl]; rfl
 clear hs hsl
 have HX := hidden (hX _ HT.out)
 clear hX HT
 go_enter Tryz.func125, Tryz.ntmps125
 go_wp2_with fail
 refine HX.out.mono ?_
 rintro e w1 ⟨r, rfl, hq⟩
 have HQ := hidden hq
 clear hq HX
 go_wp2_with fail
 go_ret
 exact ⟨r, rfl, HQ.out⟩
theorem def_read_if {w0 w : World} {rb bb db : Nat} {rc : RC} {ev bcv dcv bv : Value} {es : List PE} {nv nt : Int} {pc dc : List Int} {tk : Int} {bs : List PB} {kn : Inf}
  (h : DS w0 w rb rc bb db ev bcv dcv bv es nv nt pc dc tk bs kn) (htk0 : 0 ≤ tk) (htk1 : tk ≤ 1000000000) (s : ByteArray) (hs : (s.toList == [105, 102]) = true) (Q : Int → World → Prop)
  (hX : ∀ w', DS w0 w' rb rc bb db ev bcv dcv bv es nv nt pc dc (tk + 1) bs kn → Calls Tryz.prog 157 #[.pointer (some ⟨db, 0, none⟩)] w' fun e w'' => ∃ r, e = .returned (.int .i64 r) ∧ Q r w'') :
  Calls Tryz.prog 125 #[.pointer (some ⟨db, 0, none⟩), .string s] w fun e w' => ∃ r, e = .returned (.int .i64 r) ∧ Q r w' := by
 obtain ⟨c0, c1, c2, c3⟩ := h.def
 have q1 := h.blk.frozen 1
 have htk : (tk : Int) ≤ 1000000000 := htk1
 have HT := hidden (h.tick (tk + 1))
 clear h c0 c2 c3 htk1
 have hsl : s.toList = [105, 102] := by simpa using hs
 have g0 : (s.toList == []) = false := by rw [hsl]; rfl
 have g1 : (s.toList == [58]) = false := by rw [hsl]; rfl
 have g2 : (s.toList == [118, 97, 114, 105, 97, 98, 108, 101]) = false := by rw [hsl]; rfl
 have g3 : (s.toList == [59]) = false := by rw [hsl]; rfl
 have g4 : (s.toList == [105, 102]) = true := by rw [hsl]; rfl
 have g5 : (s.toList == [101, 108, 115, 101]) = false := by rw [hsl]; rfl
 have g6 : (s.toList == [116, 104, 101, 110]) = false := by rw [hsl]; rfl
 have g7 : (s.toList == [100, 111]) = false := by rw [hsl]; rfl
 have g8 : (s.toList == [108, 111, 111, 112]) = false := by rw [hsl]; rfl
 clear hs hsl
 have HX := hidden (hX _ HT.out)
 clear hX HT
 go_enter Tryz.func125, Tryz.ntmps125
 go_wp2_with fail
 refine HX.out.mono ?_
 rintro e w1 ⟨r, rfl, hq⟩
 have HQ := hidden hq
 clear hq HX
 go_wp2_with fail
 go_ret
 exact ⟨r, rfl, HQ.out⟩
theorem def_read_else {w0 w : World} {rb bb db : Nat} {rc : RC} {ev bcv dcv bv : Value} {es : List PE} {nv nt : Int} {pc dc : List Int} {tk : Int} {bs : List PB} {kn : Inf}
  (h : DS w0 w rb rc bb db ev bcv dcv bv es nv nt pc dc tk bs kn) (htk0 : 0 ≤ tk) (htk1 : tk ≤ 1000000000) (s : ByteArray) (hs : (s.toList == [101, 108, 115, 101]) = true) (Q : Int → World → Prop)
  (hX : ∀ w', DS w0 w' rb rc bb db ev bcv dcv bv es nv nt pc dc (tk + 1) bs kn → Calls Tryz.prog 158 #[.pointer (some ⟨db, 0, none⟩)] w' fun e w'' => ∃ r, e = .returned (.int .i64 r) ∧ Q r w'') :
  Calls Tryz.prog 125 #[.pointer (some ⟨db, 0, none⟩), .string s] w fun e w' => ∃ r, e = .returned (.int .i64 r) ∧ Q r w' := by
 obtain ⟨c0, c1, c2, c3⟩ := h.def
 have q1 := h.blk.frozen 1
 have htk : (tk : Int) ≤ 1000000000 := htk1
 have HT := hidden (h.tick (tk + 1))
 clear h c0 c2 c3 htk1
 have hsl : s.toList = [101, 108, 115, 101] := by simpa using hs
 have g0 : (s.toList == []) = false := by rw [hsl]; rfl
 have g1 : (s.toList == [58]) = false := by rw [hsl]; rfl
 have g2 : (s.toList == [118, 97, 114, 105, 97, 98, 108, 101]) = false := by rw [hsl]; rfl
 have g3 : (s.toList == [59]) = false := by rw [hsl]; rfl
 have g4 : (s.toList == [105, 102]) = false := by rw [hsl]; rfl
 have g5 : (s.toList == [101, 108, 115, 101]) = true := by rw [hsl]; rfl
 have g6 : (s.toList == [116, 104, 101, 110]) = false := by rw [hsl]; rfl
 have g7 : (s.toList == [100, 111]) = false := by rw [hsl]; rfl
 have g8 : (s.toList == [108, 111, 111, 112]) = false := by rw [hsl]; rfl
 clear hs hsl
 have HX := hidden (hX _ HT.out)
 clear hX HT
 go_enter Tryz.func125, Tryz.ntmps125
 go_wp2_with fail
 refine HX.out.mono ?_
 rintro e w1 ⟨r, rfl, hq⟩
 have HQ := hidden hq
 clear hq HX
 go_wp2_with fail
 go_ret
 exact ⟨r, rfl, HQ.out⟩
theorem def_read_then {w0 w : World} {rb bb db : Nat} {rc : RC} {ev bcv dcv bv : Value} {es : List PE} {nv nt : Int} {pc dc : List Int} {tk : Int} {bs : List PB} {kn : Inf}
  (h : DS w0 w rb rc bb db ev bcv dcv bv es nv nt pc dc tk bs kn) (htk0 : 0 ≤ tk) (htk1 : tk ≤ 1000000000) (s : ByteArray) (hs : (s.toList == [116, 104, 101, 110]) = true) (Q : Int → World → Prop)
  (hX : ∀ w', DS w0 w' rb rc bb db ev bcv dcv bv es nv nt pc dc (tk + 1) bs kn → Calls Tryz.prog 159 #[.pointer (some ⟨db, 0, none⟩)] w' fun e w'' => ∃ r, e = .returned (.int .i64 r) ∧ Q r w'') :
  Calls Tryz.prog 125 #[.pointer (some ⟨db, 0, none⟩), .string s] w fun e w' => ∃ r, e = .returned (.int .i64 r) ∧ Q r w' := by
 obtain ⟨c0, c1, c2, c3⟩ := h.def
 have q1 := h.blk.frozen 1
 have htk : (tk : Int) ≤ 1000000000 := htk1
 have HT := hidden (h.tick (tk + 1))
 clear h c0 c2 c3 htk1
 have hsl : s.toList = [116, 104, 101, 110] := by simpa using hs
 have g0 : (s.toList == []) = false := by rw [hsl]; rfl
 have g1 : (s.toList == [58]) = false := by rw [hsl]; rfl
 have g2 : (s.toList == [118, 97, 114, 105, 97, 98, 108, 101]) = false := by rw [hsl]; rfl
 have g3 : (s.toList == [59]) = false := by rw [hsl]; rfl
 have g4 : (s.toList == [105, 102]) = false := by rw [hsl]; rfl
 have g5 : (s.toList == [101, 108, 115, 101]) = false := by rw [hsl]; rfl
 have g6 : (s.toList == [116, 104, 101, 110]) = true := by rw [hsl]; rfl
 have g7 : (s.toList == [100, 111]) = false := by rw [hsl]; rfl
 have g8 : (s.toList == [108, 111, 111, 112]) = false := by rw [hsl]; rfl
 clear hs hsl
 have HX := hidden (hX _ HT.out)
 clear hX HT
 go_enter Tryz.func125, Tryz.ntmps125
 go_wp2_with fail
 refine HX.out.mono ?_
 rintro e w1 ⟨r, rfl, hq⟩
 have HQ := hidden hq
 clear hq HX
 go_wp2_with fail
 go_ret
 exact ⟨r, rfl, HQ.out⟩
theorem def_read_do {w0 w : World} {rb bb db : Nat} {rc : RC} {ev bcv dcv bv : Value} {es : List PE} {nv nt : Int} {pc dc : List Int} {tk : Int} {bs : List PB} {kn : Inf}
  (h : DS w0 w rb rc bb db ev bcv dcv bv es nv nt pc dc tk bs kn) (htk0 : 0 ≤ tk) (htk1 : tk ≤ 1000000000) (s : ByteArray) (hs : (s.toList == [100, 111]) = true) (Q : Int → World → Prop)
  (hX : ∀ w', DS w0 w' rb rc bb db ev bcv dcv bv es nv nt pc dc (tk + 1) bs kn → Calls Tryz.prog 160 #[.pointer (some ⟨db, 0, none⟩)] w' fun e w'' => ∃ r, e = .returned (.int .i64 r) ∧ Q r w'') :
  Calls Tryz.prog 125 #[.pointer (some ⟨db, 0, none⟩), .string s] w fun e w' => ∃ r, e = .returned (.int .i64 r) ∧ Q r w' := by
 obtain ⟨c0, c1, c2, c3⟩ := h.def
 have q1 := h.blk.frozen 1
 have htk : (tk : Int) ≤ 1000000000 := htk1
 have HT := hidden (h.tick (tk + 1))
 clear h c0 c2 c3 htk1
 have hsl : s.toList = [100, 111] := by simpa using hs
 have g0 : (s.toList == []) = false := by rw [hsl]; rfl
 have g1 : (s.toList == [58]) = false := by rw [hsl]; rfl
 have g2 : (s.toList == [118, 97, 114, 105, 97, 98, 108, 101]) = false := by rw [hsl]; rfl
 have g3 : (s.toList == [59]) = false := by rw [hsl]; rfl
 have g4 : (s.toList == [105, 102]) = false := by rw [hsl]; rfl
 have g5 : (s.toList == [101, 108, 115, 101]) = false := by rw [hsl]; rfl
 have g6 : (s.toList == [116, 104, 101, 110]) = false := by rw [hsl]; rfl
 have g7 : (s.toList == [100, 111]) = true := by rw [hsl]; rfl
 have g8 : (s.toList == [108, 111, 111, 112]) = false := by rw [hsl]; rfl
 clear hs hsl
 have HX := hidden (hX _ HT.out)
 clear hX HT
 go_enter Tryz.func125, Tryz.ntmps125
 go_wp2_with fail
 refine HX.out.mono ?_
 rintro e w1 ⟨r, rfl, hq⟩
 have HQ := hidden hq
 clear hq HX
 go_wp2_with fail
 go_ret
 exact ⟨r, rfl, HQ.out⟩
theorem def_read_loop {w0 w : World} {rb bb db : Nat} {rc : RC} {ev bcv dcv bv : Value} {es : List PE} {nv nt : Int} {pc dc : List Int} {tk : Int} {bs : List PB} {kn : Inf}
  (h : DS w0 w rb rc bb db ev bcv dcv bv es nv nt pc dc tk bs kn) (htk0 : 0 ≤ tk) (htk1 : tk ≤ 1000000000) (s : ByteArray) (hs : (s.toList == [108, 111, 111, 112]) = true) (Q : Int → World → Prop)
  (hX : ∀ w', DS w0 w' rb rc bb db ev bcv dcv bv es nv nt pc dc (tk + 1) bs kn → Calls Tryz.prog 161 #[.pointer (some ⟨db, 0, none⟩)] w' fun e w'' => ∃ r, e = .returned (.int .i64 r) ∧ Q r w'') :
  Calls Tryz.prog 125 #[.pointer (some ⟨db, 0, none⟩), .string s] w fun e w' => ∃ r, e = .returned (.int .i64 r) ∧ Q r w' := by
 obtain ⟨c0, c1, c2, c3⟩ := h.def
 have q1 := h.blk.frozen 1
 have htk : (tk : Int) ≤ 1000000000 := htk1
 have HT := hidden (h.tick (tk + 1))
 clear h c0 c2 c3 htk1
 have hsl : s.toList = [108, 111, 111, 112] := by simpa using hs
 have g0 : (s.toList == []) = false := by rw [hsl]; rfl
 have g1 : (s.toList == [58]) = false := by rw [hsl]; rfl
 have g2 : (s.toList == [118, 97, 114, 105, 97, 98, 108, 101]) = false := by rw [hsl]; rfl
 have g3 : (s.toList == [59]) = false := by rw [hsl]; rfl
 have g4 : (s.toList == [105, 102]) = false := by rw [hsl]; rfl
 have g5 : (s.toList == [101, 108, 115, 101]) = false := by rw [hsl]; rfl
 have g6 : (s.toList == [116, 104, 101, 110]) = false := by rw [hsl]; rfl
 have g7 : (s.toList == [100, 111]) = false := by rw [hsl]; rfl
 have g8 : (s.toList == [108, 111, 111, 112]) = true := by rw [hsl]; rfl
 clear hs hsl
 have HX := hidden (hX _ HT.out)
 clear hX HT
 go_enter Tryz.func125, Tryz.ntmps125
 go_wp2_with fail
 refine HX.out.mono ?_
 rintro e w1 ⟨r, rfl, hq⟩
 have HQ := hidden hq
 clear hq HX
 go_wp2_with fail
 go_ret
 exact ⟨r, rfl, HQ.out⟩
theorem def_read_number {w0 w : World} {rb bb db : Nat} {rc : RC} {ev bcv dcv bv : Value} {es : List PE} {nv nt : Int} {pc dc : List Int} {tk : Int} {bs : List PB} {kn : Inf}
  (h : DS w0 w rb rc bb db ev bcv dcv bv es nv nt pc dc tk bs kn) (htk0 : 0 ≤ tk) (htk1 : tk ≤ 1000000000) (s : ByteArray) (hsz : s.size ≤ 100000000) (g0 : (s.toList == []) = false) (g1 : (s.toList == [58]) = false) (g2 : (s.toList == [118, 97, 114, 105, 97, 98, 108, 101]) = false) (g3 : (s.toList == [59]) = false) (g4 : (s.toList == [105, 102]) = false) (g5 : (s.toList == [101, 108, 115, 101]) = false) (g6 : (s.toList == [116, 104, 101, 110]) = false) (g7 : (s.toList == [100, 111]) = false) (g8 : (s.toList == [108, 111, 111, 112]) = false) (hnum : (numP s).2 = true) (Q : Int → World → Prop)
  (hX : ∀ w', DS w0 w' rb rc bb db ev bcv dcv bv es nv nt pc dc (tk + 1) bs kn → Calls Tryz.prog 163 #[.pointer (some ⟨db, 0, none⟩), .int .i64 (numP s).1] w' fun e w'' => ∃ r, e = .returned (.int .i64 r) ∧ Q r w'') :
  Calls Tryz.prog 125 #[.pointer (some ⟨db, 0, none⟩), .string s] w fun e w' => ∃ r, e = .returned (.int .i64 r) ∧ Q r w' := by
 obtain ⟨c0, c1, c2, c3⟩ := h.def
 have q1 := h.blk.frozen 1
 have htk : (tk : Int) ≤ 1000000000 := htk1
 have HT := hidden (h.tick (tk + 1))
 clear h c0 c2 c3 htk1
 have HN := hidden (tok_number s _ hsz HT.out.tab)
 rw [hnum] at HN
 have HX := hidden hX
 clear hX hnum hsz
 obtain ⟨n, hn⟩ : ∃ n, n = (numP s).1 := ⟨_, rfl⟩
 rw [← hn] at HN HX
 clear hn
 go_enter Tryz.func125, Tryz.ntmps125
 go_wp2_with fail
 refine HN.out.mono ?_
 rintro e w1 ⟨rfl, hb1⟩
 have HX1 := hidden (HX.out _ (HT.out.below hb1))
 clear hb1 HX HN HT
 go_wp2_with fail
 refine HX1.out.mono ?_
 rintro e w2 ⟨r, rfl, hq⟩
 have HQ := hidden hq
 clear hq HX1
 go_wp2_with fail
 go_ret
 exact ⟨r, rfl, HQ.out⟩
theorem def_read_word {w0 w : World} {rb bb db : Nat} {rc : RC} {ev bcv dcv bv : Value} {es : List PE} {nv nt : Int} {pc dc : List Int} {tk : Int} {bs : List PB} {kn : Inf}
  (h : DS w0 w rb rc bb db ev bcv dcv bv es nv nt pc dc tk bs kn) (htk0 : 0 ≤ tk) (htk1 : tk ≤ 1000000000) (s : ByteArray) (hsz : s.size ≤ 100000000) (g0 : (s.toList == []) = false) (g1 : (s.toList == [58]) = false) (g2 : (s.toList == [118, 97, 114, 105, 97, 98, 108, 101]) = false) (g3 : (s.toList == [59]) = false) (g4 : (s.toList == [105, 102]) = false) (g5 : (s.toList == [101, 108, 115, 101]) = false) (g6 : (s.toList == [116, 104, 101, 110]) = false) (g7 : (s.toList == [100, 111]) = false) (g8 : (s.toList == [108, 111, 111, 112]) = false) (hnum : (numP s).2 = false) (Q : Int → World → Prop)
  (hX : ∀ w', DS w0 w' rb rc bb db ev bcv dcv bv es nv nt pc dc (tk + 1) bs kn → Calls Tryz.prog 164 #[.pointer (some ⟨db, 0, none⟩), .string s] w' fun e w'' => ∃ r, e = .returned (.int .i64 r) ∧ Q r w'') :
  Calls Tryz.prog 125 #[.pointer (some ⟨db, 0, none⟩), .string s] w fun e w' => ∃ r, e = .returned (.int .i64 r) ∧ Q r w' := by
 obtain ⟨c0, c1, c2, c3⟩ := h.def
 have q1 := h.blk.frozen 1
 have htk : (tk : Int) ≤ 1000000000 := htk1
 have HT := hidden (h.tick (tk + 1))
 clear h c0 c2 c3 htk1
 have HN := hidden (tok_number s _ hsz HT.out.tab)
 rw [hnum] at HN
 have HX := hidden hX
 clear hX hnum hsz
 obtain ⟨n, hn⟩ : ∃ n, n = (numP s).1 := ⟨_, rfl⟩
 rw [← hn] at HN
 clear hn
 go_enter Tryz.func125, Tryz.ntmps125
 go_wp2_with fail
 refine HN.out.mono ?_
 rintro e w1 ⟨rfl, hb1⟩
 have HX1 := hidden (HX.out _ (HT.out.below hb1))
 clear hb1 HX HN HT
 go_wp2_with fail
 refine HX1.out.mono ?_
 rintro e w2 ⟨r, rfl, hq⟩
 have HQ := hidden hq
 clear hq HX1
 go_wp2_with fail
 go_ret
 exact ⟨r, rfl, HQ.out⟩
abbrev SR := Int × List Int × List PB × Inf
def stepW (es : List PE) (dc : List Int) (b : PB) (r : List PB) (kn : Inf) (s : ByteArray) : SR :=
 match lastP es s es.length with
 | some x => (0, dc ++ [x.op, x.place], b.add x.use :: r, kn)
 | none =>
  match opFind s with
  | none => (3, dc, b :: r, kn)
  | some k => if k = 27 ∧ b.inDo = false then (5, dc, b :: r, kn) else (0, dc ++ [(k : Int)], b.add (opInf k) :: r, kn)
def stepP (es : List PE) (nt tk : Int) (dc : List Int) (st : List PB) (kn : Inf) (s : ByteArray) : SR :=
 match st with
 | [] => (5, dc, [], kn)
 | b :: r =>
  if (s.toList == []) = true then (5, dc, b :: r, kn)
  else if (s.toList == [58]) = true then (5, dc, b :: r, kn)
  else if (s.toList == [118, 97, 114, 105, 97, 98, 108, 101]) = true then (5, dc, b :: r, kn)
  else if (s.toList == [59]) = true then
   if b.opener = 34 then (endErr (b.does.then (opInf 34)).steps nt tk, dc ++ [34], [], b.does.then (opInf 34)) else (5, dc, b :: r, kn)
  else if (s.toList == [105, 102]) = true then (0, dc ++ [29, 0], PB.opened { PB.zero with opener := 29 } (b.add (opInf 29)) (dc.length + 2) :: b.add (opInf 29) :: r, kn)
  else if (s.toList == [101, 108, 115, 101]) = true then
   if b.opener = 29 then
    match r with
    | [] => (5, dc, b :: r, kn)
    | c :: r' => (0, (dc ++ [30, 0]).set b.hole.toNat (dc.length + 2), PB.opened { PB.zero with opener := 30, other := b.does.then (opInf 30) } c (dc.length + 2) :: c :: r', kn)
   else (5, dc, b :: r, kn)
  else if (s.toList == [116, 104, 101, 110]) = true then
   if b.opener = 29 ∨ b.opener = 30 then
    if b.does.net = b.other.net then
     match r with
     | [] => (5, dc, b :: r, kn)
     | c :: r' => (0, dc.set b.hole.toNat dc.length, c.add (b.does.orP b.other) :: r', kn)
    else (6, dc, b :: r, kn)
   else (5, dc, b :: r, kn)
  else if (s.toList == [100, 111]) = true then
   if b.numbers < 2 then (5, dc, b :: r, kn)
   else if 1000 < max 0 (b.a0 - b.a1) then (7, dc, b :: r, kn)
   else (0, dc ++ [31, 0], PB.opened { PB.zero with opener := 31, times := max 0 (b.a0 - b.a1) } (b.add (opInf 31)) (dc.length + 2) :: b.add (opInf 31) :: r, kn)
  else if (s.toList == [108, 111, 111, 112]) = true then
   if b.opener = 31 then
    if b.does.net = 0 then
     match r with
     | [] => (5, dc, b :: r, kn)
     | c :: r' => (0, (dc ++ [32, (b.hole.toNat : Int) + 1]).set b.hole.toNat (dc.length + 2), c.add ((b.does.then (opInf 32)).timesP b.times) :: r', kn)
    else (6, dc, b :: r, kn)
   else (5, dc, b :: r, kn)
  else if (numP s).2 = true then (0, dc ++ [28, (numP s).1], { b.add (opInf 28) with numbers := min (b.numbers + 1) 2, a0 := b.a1, a1 := (numP s).1 } :: r, kn)
  else stepW es dc b r kn s
def StepPost (w0 : World) (rb : Nat) (rc : RC) (bb db : Nat) (ev bcv : Value) (es : List PE) (nv nt : Int) (pc : List Int) (tk : Int) (R : SR) (r : Int) (w' : World) : Prop :=
 r = R.1 ∧ ∃ dcv' bv' dc' st' kn', DS w0 w' rb rc bb db ev bcv dcv' bv' es nv nt pc dc' tk (List.reverse st') kn' ∧ (r = 0 → dc' = R.2.1 ∧ st' = R.2.2.1 ∧ kn' = R.2.2.2)
structure BInv (b : PB) : Prop where
 n0 : 0 ≤ b.numbers
 n1 : b.numbers ≤ 2
 a0 : -2147483648 ≤ b.a0
 a1 : b.a0 ≤ 2147483647
 b0 : -2147483648 ≤ b.a1
 b1 : b.a1 ≤ 2147483647
 t0 : 0 ≤ b.times
 t1 : b.times ≤ 1000
def SInv (pn dn : Nat) : List PB → Prop
 | [] => False
 | [b] => b.opener = 34 ∧ BInv b
 | b :: c :: r => (b.opener = 29 ∨ b.opener = 30 ∨ b.opener = 31) ∧ (∃ k : Nat, b.hole = k ∧ pn ≤ k ∧ k < dn) ∧ BInv b ∧ SInv pn dn (c :: r)
def WB : List PB → Nat → Prop
 | [], _ => True
 | b :: r, q => ∃ q1 q2 : Nat, b.does.Wt q1 ∧ b.other.Wt q2 ∧ q1 + q2 ≤ q ∧ WB r (q - q1 - q2)
theorem Inf.Wt.orP {a b : Inf} {q r : Int} (ha : a.Wt q) (hb : b.Wt r) (hq : 0 ≤ q) (hr : 0 ≤ r) : (a.orP b).Wt (q + r) := by
 obtain ⟨a1, a2, a3, a4, a5, a6, a7, a8⟩ := ha
 obtain ⟨b1, b2, b3, b4, b5, b6, b7, b8⟩ := hb
 constructor <;> simp only [Inf.orP] <;> omega
theorem Inf.Wt.timesP {a : Inf} {q n : Int} (ha : a.Wt q) (hq : 0 ≤ q) (h0 : 0 ≤ n) : (a.timesP n).Wt q := by
 obtain ⟨a1, a2, a3, a4, a5, a6, a7, a8⟩ := ha
 have hp : 0 ≤ a.steps * n := Int.mul_nonneg a7 h0
 unfold Inf.timesP
 split <;> constructor <;> simp only <;> omega
theorem opInf_wt (k : Nat) (h : k < 35) : (opInf k).Wt 1 := by
 obtain ⟨a, b, c, d⟩ := opTab_bd k h
 constructor <;> simp only [opInf] <;> omega
theorem SInv.binv {pn dn : Nat} {b : PB} {r : List PB} (h : SInv pn dn (b :: r)) : BInv b := by
 cases r with
 | nil => exact h.2
 | cons c r => exact h.2.2.1
theorem SInv.base {pn dn : Nat} {b : PB} {r : List PB} (h : SInv pn dn (b :: r)) (ho : b.opener = 34) : r = [] := by
 cases r with
 | nil => rfl
 | cons c r => obtain ⟨h1, _⟩ := h; omega
theorem SInv.inner {pn dn : Nat} {b : PB} {r : List PB} (h : SInv pn dn (b :: r)) (ho : b.opener ≠ 34) : ∃ c r', r = c :: r' ∧ (∃ k : Nat, b.hole = k ∧ pn ≤ k ∧ k < dn) ∧ SInv pn dn (c :: r') := by
 cases r with
 | nil => exact absurd h.1 ho
 | cons c r => exact ⟨c, r, rfl, h.2.1, h.2.2.2⟩
theorem lastP_mem (es : List PE) (s : ByteArray) : ∀ (n : Nat) (x : PE), n ≤ es.length → lastP es s n = some x → x ∈ es
 | 0, x, _, h => by cases h
 | n + 1, x, hn, h => by
  unfold lastP at h
  split at h
  ·have hx : es.getD n PE.zero = es[n]'(by omega) := by simp [show n < es.length by omega]
   rw [hx] at h
   cases h
   exact List.getElem_mem _
  ·exact lastP_mem es s n x (by omega) h
theorem PE.use_wt {x : PE} (h : x.inf.Wt 1) : x.use.Wt 2 := by
 unfold PE.use
 split
 ·exact (opInf_wt 28 (by omega)).mono (by omega)
 ·have := (opInf_wt 33 (by omega)).then h (by omega) (by omega)
  exact this.mono (by omega)
theorem WB.head {b : PB} {r : List PB} {q : Nat} (h : WB (b :: r) q) : ∃ q1 : Nat, q1 ≤ q ∧ b.does.Wt q1 := by
 obtain ⟨q1, q2, h1, _, h3, _⟩ := h
 exact ⟨q1, by omega, h1⟩
theorem WB.other {b : PB} {r : List PB} {q : Nat} (h : WB (b :: r) q) : ∃ q1 q2 : Nat, q1 + q2 ≤ q ∧ b.does.Wt q1 ∧ b.other.Wt q2 ∧ WB r (q - q1 - q2) := by
 obtain ⟨q1, q2, h1, h2, h3, h4⟩ := h
 exact ⟨q1, q2, h3, h1, h2, h4⟩
theorem def_step {w0 w : World} {rb bb db : Nat} {rc : RC} {ev bcv dcv bv : Value} {es : List PE} {nv nt : Int} {pc dc : List Int} {tk : Int} {kn : Inf} {b : PB} {r : List PB}
  (h : DS w0 w rb rc bb db ev bcv dcv bv es nv nt pc dc tk (List.reverse (b :: r)) kn) (s : ByteArray) (hsz : s.size ≤ 100000000) (hes : es.length ≤ 1000) (hwt : ∀ x ∈ es, x.inf.Wt 1)
  (hi : SInv pc.length dc.length (b :: r)) (q : Nat) (hw : WB (b :: r) q) (hq : q ≤ 5000000) (hl : r.length ≤ 5000000) (hc : dc.length ≤ 5000000) (htk0 : 0 ≤ tk) (htk1 : tk ≤ 5000000) (hnt0 : 0 ≤ nt) (hnt1 : nt ≤ 100000) :
  Calls Tryz.prog 125 #[.pointer (some ⟨db, 0, none⟩), .string s] w fun e w' => ∃ x, e = .returned (.int .i64 x) ∧ StepPost w0 rb rc bb db ev bcv es nv nt pc (tk + 1) (stepP es nt (tk + 1) dc (b :: r) kn s) x w' := by
 obtain ⟨R, hR⟩ : ∃ R, R = stepP es nt (tk + 1) dc (b :: r) kn s := ⟨_, rfl⟩
 rw [← hR]
 have hrev : List.reverse (b :: r) = List.reverse r ++ [b] := by simp
 have hrl : (List.reverse r).length = r.length := by simp
 rw [hrev] at h
 have hbi := hi.binv
 obtain ⟨q1, hq1, hd1⟩ := hw.head
 have hdo : b.does.Ok := hd1.ok (by omega) (by omega)
 have bad : ∀ (E : Int) (hE : E ≠ 0) (hRe : R.1 = E) (w' : World), DS w0 w' rb rc bb db ev bcv dcv bv es nv nt pc dc (tk + 1) (List.reverse r ++ [b]) kn → StepPost w0 rb rc bb db ev bcv es nv nt pc (tk + 1) R E w' :=
  fun E hE hRe w' hd => ⟨hRe.symm, _, _, _, b :: r, _, by rw [hrev]; exact hd, fun e => absurd e hE⟩
 by_cases g0 : (s.toList == []) = true
 ·have hRe : R.1 = 5 := by rw [hR]; unfold stepP; simp [g0]
  refine (def_read_nil h htk0 (by omega) s g0).mono ?_
  rintro e w1 ⟨rfl, hd⟩
  exact ⟨5, rfl, bad 5 (by decide) hRe w1 hd⟩
 have f0 : (s.toList == []) = false := by simpa using g0
 by_cases g1 : (s.toList == [58]) = true
 ·have hRe : R.1 = 5 := by rw [hR]; unfold stepP; simp [f0, g1]
  refine (def_read_colon h htk0 (by omega) s g1).mono ?_
  rintro e w1 ⟨rfl, hd⟩
  exact ⟨5, rfl, bad 5 (by decide) hRe w1 hd⟩
 have f1 : (s.toList == [58]) = false := by simpa using g1
 by_cases g2 : (s.toList == [118, 97, 114, 105, 97, 98, 108, 101]) = true
 ·have hRe : R.1 = 5 := by rw [hR]; unfold stepP; simp [f0, f1, g2]
  refine (def_read_var h htk0 (by omega) s g2).mono ?_
  rintro e w1 ⟨rfl, hd⟩
  exact ⟨5, rfl, bad 5 (by decide) hRe w1 hd⟩
 have f2 : (s.toList == [118, 97, 114, 105, 97, 98, 108, 101]) = false := by simpa using g2
 by_cases g3 : (s.toList == [59]) = true
 ·refine def_read_end h htk0 (by omega) s g3 _ (fun w1 hd => ?_)
  by_cases ho : b.opener = 34
  ·have hr0 := hi.base ho
   subst hr0
   simp only [List.reverse_nil, List.nil_append] at hd
   have hRe : R = (endErr (b.does.then (opInf 34)).steps nt (tk + 1), dc ++ [34], [], b.does.then (opInf 34)) := by rw [hR]; unfold stepP; simp [f0, f1, f2, g3, ho]
   refine (def_end hd ho hdo (by omega) hnt0 hnt1 (by omega) (by omega)).mono ?_
   rintro e w2 ⟨rfl, dcv', bv', bs', hds, h0⟩
   refine ⟨_, rfl, by rw [hRe], dcv', bv', _, List.reverse bs', _, by rw [List.reverse_reverse]; exact hds, fun e0 => ?_⟩
   have := h0 e0
   rw [hRe, this]
   exact ⟨rfl, rfl, rfl⟩
  ·have hRe : R.1 = 5 := by rw [hR]; unfold stepP; simp [f0, f1, f2, g3, ho]
   refine (def_end_no hd ho (by omega)).mono ?_
   rintro e w2 ⟨rfl, hds⟩
   exact ⟨5, rfl, bad 5 (by decide) hRe w2 hds⟩
 have f3 : (s.toList == [59]) = false := by simpa using g3
 by_cases g4 : (s.toList == [105, 102]) = true
 ·have hRe : R = (0, dc ++ [29, 0], PB.opened { PB.zero with opener := 29 } (b.add (opInf 29)) (dc.length + 2) :: b.add (opInf 29) :: r, kn) := by rw [hR]; unfold stepP; simp [f0, f1, f2, f3, g4]
  refine def_read_if h htk0 (by omega) s g4 _ (fun w1 hd => ?_)
  refine (def_if hd hdo (by omega) (by omega)).mono ?_
  rintro e w2 ⟨rfl, dcv', bv', hds⟩
  refine ⟨0, rfl, by rw [hRe], dcv', bv', _, PB.opened { PB.zero with opener := 29 } (b.add (opInf 29)) (dc.length + 2) :: b.add (opInf 29) :: r, _, by simpa using hds, fun _ => by rw [hRe]; exact ⟨rfl, rfl, rfl⟩⟩
 have f4 : (s.toList == [105, 102]) = false := by simpa using g4
 by_cases g5 : (s.toList == [101, 108, 115, 101]) = true
 ·refine def_read_else h htk0 (by omega) s g5 _ (fun w1 hd => ?_)
  by_cases ho : b.opener = 29
  ·obtain ⟨c, r', rfl, ⟨k, hk, hk1, hk2⟩, hi2⟩ := hi.inner (by omega)
   have hkn : b.hole.toNat = k := by rw [hk]; simp
   have hRe : R = (0, (dc ++ [30, 0]).set k (dc.length + 2), PB.opened { PB.zero with opener := 30, other := b.does.then (opInf 30) } c (dc.length + 2) :: c :: r', kn) := by rw [hR]; unfold stepP; simp [f0, f1, f2, f3, f4, g5, ho, hkn]
   have hd' : DS w0 w1 rb rc bb db ev bcv dcv bv es nv nt pc dc (tk + 1) (List.reverse r' ++ [c] ++ [b]) kn := by simpa using hd
   refine (def_else hd' ho hdo k hk hk1 hk2 (by simp at hl ⊢; omega) (by omega)).mono ?_
   rintro e w2 ⟨rfl, dcv', bv', hds⟩
   refine ⟨0, rfl, by rw [hRe], dcv', bv', _, PB.opened { PB.zero with opener := 30, other := b.does.then (opInf 30) } c (dc.length + 2) :: c :: r', _, by simpa using hds, fun _ => by rw [hRe]; exact ⟨rfl, rfl, rfl⟩⟩
  ·have hRe : R.1 = 5 := by rw [hR]; unfold stepP; simp [f0, f1, f2, f3, f4, g5, ho]
   refine (def_else_no hd ho (by omega)).mono ?_
   rintro e w2 ⟨rfl, hds⟩
   exact ⟨5, rfl, bad 5 (by decide) hRe w2 hds⟩
 have f5 : (s.toList == [101, 108, 115, 101]) = false := by simpa using g5
 by_cases g6 : (s.toList == [116, 104, 101, 110]) = true
 ·refine def_read_then h htk0 (by omega) s g6 _ (fun w1 hd => ?_)
  by_cases ho : b.opener = 29 ∨ b.opener = 30
  ·by_cases hn : b.does.net = b.other.net
   ·obtain ⟨c, r', rfl, ⟨k, hk, hk1, hk2⟩, hi2⟩ := hi.inner (by omega)
    have hkn : b.hole.toNat = k := by rw [hk]; simp
    obtain ⟨p1, p2, hp, hw1, hw2, hw3⟩ := hw.other
    obtain ⟨p3, hp3, hw4⟩ := hw3.head
    have hRe : R = (0, dc.set k dc.length, c.add (b.does.orP b.other) :: r', kn) := by rw [hR]; unfold stepP; simp [f0, f1, f2, f3, f4, f5, g6, ho, hn, hkn]
    have hd' : DS w0 w1 rb rc bb db ev bcv dcv bv es nv nt pc dc (tk + 1) (List.reverse r' ++ [c] ++ [b]) kn := by simpa using hd
    refine (def_then hd' ho hn k hk hk1 hk2 ((hw1.orP hw2 (by omega) (by omega)).ok (by omega) (by omega)) (hw4.ok (by omega) (by omega)) (by simp at hl ⊢; omega) (by omega)).mono ?_
    rintro e w2 ⟨rfl, dcv', bv', hds⟩
    refine ⟨0, rfl, by rw [hRe], dcv', bv', _, c.add (b.does.orP b.other) :: r', _, by simpa using hds, fun _ => by rw [hRe]; exact ⟨rfl, rfl, rfl⟩⟩
   ·have hRe : R.1 = 6 := by rw [hR]; unfold stepP; simp [f0, f1, f2, f3, f4, f5, g6, ho, hn]
    refine (def_then_diff hd ho hn (by omega)).mono ?_
    rintro e w2 ⟨rfl, hds⟩
    exact ⟨6, rfl, bad 6 (by decide) hRe w2 hds⟩
  ·have hRe : R.1 = 5 := by rw [hR]; unfold stepP; simp [f0, f1, f2, f3, f4, f5, g6, ho]
   refine (def_then_no hd (fun e => ho (Or.inl e)) (fun e => ho (Or.inr e)) (by omega)).mono ?_
   rintro e w2 ⟨rfl, hds⟩
   exact ⟨5, rfl, bad 5 (by decide) hRe w2 hds⟩
 have f6 : (s.toList == [116, 104, 101, 110]) = false := by simpa using g6
 by_cases g7 : (s.toList == [100, 111]) = true
 ·refine def_read_do h htk0 (by omega) s g7 _ (fun w1 hd => ?_)
  by_cases hn : b.numbers < 2
  ·have hRe : R.1 = 5 := by rw [hR]; unfold stepP; simp [f0, f1, f2, f3, f4, f5, f6, g7, hn]
   refine (def_do_no hd hn (by omega)).mono ?_
   rintro e w2 ⟨rfl, hds⟩
   exact ⟨5, rfl, bad 5 (by decide) hRe w2 hds⟩
  ·by_cases hm : 1000 < max 0 (b.a0 - b.a1)
   ·have hRe : R.1 = 7 := by rw [hR]; unfold stepP; simp only [f0, f1, f2, f3, f4, f5, f6, g7, hn, hm, if_true, if_false, Bool.false_eq_true]
    refine (def_do_much hd hn hbi.a0 hbi.a1 hbi.b0 hbi.b1 (by omega) (by omega)).mono ?_
    rintro e w2 ⟨rfl, hds⟩
    exact ⟨7, rfl, bad 7 (by decide) hRe w2 hds⟩
   ·have hRe : R = (0, dc ++ [31, 0], PB.opened { PB.zero with opener := 31, times := max 0 (b.a0 - b.a1) } (b.add (opInf 31)) (dc.length + 2) :: b.add (opInf 31) :: r, kn) := by rw [hR]; unfold stepP; simp only [f0, f1, f2, f3, f4, f5, f6, g7, hn, hm, if_true, if_false, Bool.false_eq_true]
    refine (def_do hd hn hbi.a0 hbi.a1 hbi.b0 hbi.b1 hm hdo (by omega) (by omega)).mono ?_
    rintro e w2 ⟨rfl, dcv', bv', hds⟩
    refine ⟨0, rfl, by rw [hRe], dcv', bv', _, PB.opened { PB.zero with opener := 31, times := max 0 (b.a0 - b.a1) } (b.add (opInf 31)) (dc.length + 2) :: b.add (opInf 31) :: r, _, by simpa using hds, fun _ => by rw [hRe]; exact ⟨rfl, rfl, rfl⟩⟩
 have f7 : (s.toList == [100, 111]) = false := by simpa using g7
 by_cases g8 : (s.toList == [108, 111, 111, 112]) = true
 ·refine def_read_loop h htk0 (by omega) s g8 _ (fun w1 hd => ?_)
  by_cases ho : b.opener = 31
  ·by_cases hn : b.does.net = 0
   ·obtain ⟨c, r', rfl, ⟨k, hk, hk1, hk2⟩, hi2⟩ := hi.inner (by omega)
    have hkn : b.hole.toNat = k := by rw [hk]; simp
    obtain ⟨p1, p2, hp, hw1, hw2, hw3⟩ := hw.other
    obtain ⟨p3, hp3, hw4⟩ := hw3.head
    have hwl := hw1.then (opInf_wt 32 (by omega)) (by omega) (by omega)
    have hRe : R = (0, (dc ++ [32, (k : Int) + 1]).set k (dc.length + 2), c.add ((b.does.then (opInf 32)).timesP b.times) :: r', kn) := by rw [hR]; unfold stepP; simp [f0, f1, f2, f3, f4, f5, f6, f7, g8, ho, hn, hkn]
    have hd' : DS w0 w1 rb rc bb db ev bcv dcv bv es nv nt pc dc (tk + 1) (List.reverse r' ++ [c] ++ [b]) kn := by simpa using hd
    refine (def_loop hd' ho hn k hk hk1 hk2 hbi.t0 hbi.t1 hdo (hwl.ok (by omega) (by omega)) ((hwl.timesP (by omega) hbi.t0).ok (by omega) (by omega)) (hw4.ok (by omega) (by omega)) (by simp at hl ⊢; omega) (by omega)).mono ?_
    rintro e w2 ⟨rfl, dcv', bv', hds⟩
    refine ⟨0, rfl, by rw [hRe], dcv', bv', _, c.add ((b.does.then (opInf 32)).timesP b.times) :: r', _, by simpa using hds, fun _ => by rw [hRe]; exact ⟨rfl, rfl, rfl⟩⟩
   ·have hRe : R.1 = 6 := by rw [hR]; unfold stepP; simp [f0, f1, f2, f3, f4, f5, f6, f7, g8, ho, hn]
    refine (def_loop_diff hd ho hn (by omega)).mono ?_
    rintro e w2 ⟨rfl, hds⟩
    exact ⟨6, rfl, bad 6 (by decide) hRe w2 hds⟩
  ·have hRe : R.1 = 5 := by rw [hR]; unfold stepP; simp [f0, f1, f2, f3, f4, f5, f6, f7, g8, ho]
   refine (def_loop_no hd ho (by omega)).mono ?_
   rintro e w2 ⟨rfl, hds⟩
   exact ⟨5, rfl, bad 5 (by decide) hRe w2 hds⟩
 have f8 : (s.toList == [108, 111, 111, 112]) = false := by simpa using g8
 by_cases hnum : (numP s).2 = true
 ·have hRe : R = (0, dc ++ [28, (numP s).1], { b.add (opInf 28) with numbers := min (b.numbers + 1) 2, a0 := b.a1, a1 := (numP s).1 } :: r, kn) := by rw [hR]; unfold stepP; simp only [f0, f1, f2, f3, f4, f5, f6, f7, f8, hnum, if_true, if_false, Bool.false_eq_true]
  refine def_read_number h htk0 (by omega) s hsz f0 f1 f2 f3 f4 f5 f6 f7 f8 hnum _ (fun w1 hd => ?_)
  refine (def_number hd (numP s).1 hdo hbi.n0 hbi.n1 (by omega) (by omega)).mono ?_
  rintro e w2 ⟨rfl, dcv', hds⟩
  refine ⟨0, rfl, by rw [hRe], dcv', bv, _, { b.add (opInf 28) with numbers := min (b.numbers + 1) 2, a0 := b.a1, a1 := (numP s).1 } :: r, _, by simpa using hds, fun _ => by rw [hRe]; exact ⟨rfl, rfl, rfl⟩⟩
 have hnum' : (numP s).2 = false := by simpa using hnum
 have hRw : R = stepW es dc b r kn s := by rw [hR]; unfold stepP; simp only [f0, f1, f2, f3, f4, f5, f6, f7, f8, hnum', if_false, Bool.false_eq_true]
 refine def_read_word h htk0 (by omega) s hsz f0 f1 f2 f3 f4 f5 f6 f7 f8 hnum' _ (fun w1 hd => ?_)
 cases hlp : lastP es s es.length with
 | some x =>
  have hRe : R = (0, dc ++ [x.op, x.place], b.add x.use :: r, kn) := by rw [hRw, stepW, hlp]
  have hx := hwt x (lastP_mem es s _ x (Nat.le_refl _) hlp)
  refine (def_word_own hd s x hlp (hx.ok (by omega) (by omega)) ((PE.use_wt hx).ok (by omega) (by omega)) hdo hes (by omega) (by omega)).mono ?_
  rintro e w2 ⟨rfl, dcv', hds⟩
  refine ⟨0, rfl, by rw [hRe], dcv', bv, _, b.add x.use :: r, _, by simpa using hds, fun _ => by rw [hRe]; exact ⟨rfl, rfl, rfl⟩⟩
 | none =>
  cases hop : opFind s with
  | none =>
   have hRe : R.1 = 3 := by rw [hRw, stepW, hlp]; simp only [hop]
   refine (def_word_no hd s hlp hop hes (by omega) (by omega)).mono ?_
   rintro e w2 ⟨rfl, hds⟩
   exact ⟨3, rfl, bad 3 (by decide) hRe w2 hds⟩
  | some k =>
   by_cases hn : k = 27 ∧ b.inDo = false
   ·have hRe : R.1 = 5 := by rw [hRw, stepW, hlp]; simp only [hop]; rw [if_pos hn]
    obtain ⟨rfl, hin⟩ := hn
    refine (def_word_nest hd s hlp hop hin hes (by omega) (by omega)).mono ?_
    rintro e w2 ⟨rfl, hds⟩
    exact ⟨5, rfl, bad 5 (by decide) hRe w2 hds⟩
   ·have hRe : R = (0, dc ++ [(k : Int)], b.add (opInf k) :: r, kn) := by rw [hRw, stepW, hlp]; simp only [hop]; rw [if_neg hn]
    have hdo2 : k ≠ 27 ∨ b.inDo = true := by
     by_cases h27 : k = 27
     ·right
      cases hb : b.inDo with
      | true => rfl
      | false => exact absurd ⟨h27, hb⟩ hn
     ·exact Or.inl h27
    refine (def_word hd s k hlp hop hdo2 hdo hes (by omega) (by omega)).mono ?_
    rintro e w2 ⟨rfl, dcv', hds⟩
    refine ⟨0, rfl, by rw [hRe], dcv', bv, _, b.add (opInf k) :: r, _, by simpa using hds, fun _ => by rw [hRe]; exact ⟨rfl, rfl, rfl⟩⟩
theorem SInv.mono {pn dn dn' : Nat} (hd : dn ≤ dn') : ∀ {st : List PB}, SInv pn dn st → SInv pn dn' st
 | [], h => h
 | [b], h => h
 | b :: c :: r, ⟨h1, ⟨k, h2, h3, h4⟩, h5, h6⟩ => ⟨h1, ⟨k, h2, h3, by omega⟩, h5, SInv.mono hd h6⟩
theorem BInv.add {b : PB} (h : BInv b) (i : Inf) : BInv (b.add i) := ⟨by simp [PB.add], by simp [PB.add], h.a0, h.a1, h.b0, h.b1, h.t0, h.t1⟩
theorem SInv.set {pn dn : Nat} {b b' : PB} {r : List PB} (h : SInv pn dn (b :: r)) (h1 : b'.opener = b.opener) (h2 : b'.hole = b.hole) (h3 : BInv b') : SInv pn dn (b' :: r) := by
 cases r with
 | nil => exact ⟨by rw [h1]; exact h.1, h3⟩
 | cons c r => exact ⟨by rw [h1]; exact h.1, by rw [h2]; exact h.2.1, h3, h.2.2.2⟩
theorem BInv.opened (t o : Int) (ot : Inf) (c : PB) (n : Nat) (h0 : 0 ≤ t) (h1 : t ≤ 1000) : BInv (PB.opened { PB.zero with opener := o, times := t, other := ot } c n) :=
 ⟨by simp [PB.opened, PB.zero], by simp [PB.opened, PB.zero], by simp [PB.opened, PB.zero], by simp [PB.opened, PB.zero], by simp [PB.opened, PB.zero], by simp [PB.opened, PB.zero], h0, h1⟩
theorem WB.mono : ∀ {st : List PB} {q q' : Nat}, WB st q → q ≤ q' → WB st q'
 | [], _, _, _, _ => trivial
 | b :: r, q, q', ⟨q1, q2, h1, h2, h3, h4⟩, hq => ⟨q1, q2, h1, h2, by omega, WB.mono h4 (by omega)⟩
theorem WB.add {b : PB} {r : List PB} {q n : Nat} (h : WB (b :: r) q) {i : Inf} (hi : i.Wt n) : WB (b.add i :: r) (q + n) := by
 obtain ⟨q1, q2, h1, h2, h3, h4⟩ := h
 refine ⟨q1 + n, q2, ?_, h2, by omega, WB.mono h4 (by omega)⟩
 have := h1.then hi (by omega) (by omega)
 simpa [PB.add] using this
theorem WB.push {st : List PB} {q q1 q2 : Nat} {b : PB} (h : WB st q) (h1 : b.does.Wt q1) (h2 : b.other.Wt q2) : WB (b :: st) (q + q1 + q2) :=
 ⟨q1, q2, h1, h2, by omega, WB.mono h (by omega)⟩
theorem numP_bd (s : ByteArray) : -2147483648 ≤ (numP s).1 ∧ (numP s).1 ≤ 2147483647 := by
 unfold numP
 split
 ·rename_i v hv
  split
  ·simp
  ·unfold Lib.parseIntB at hv
   split at hv
   ·cases hv
   ·simp only at hv
    split at hv
    ·cases hv
    ·cases hv
    ·split at hv
     ·cases hv
     ·split at hv
      ·cases hv
      ·rename_i u _ h1 h2
       simp only [Lib.NumEnd.ok.injEq] at hv
       subst hv
       simp only
       split
       ·rename_i hn; constructor <;> (simp [hn] at h2 <;> omega)
       ·rename_i hn; constructor <;> (simp [hn] at h1 <;> omega)
 ·simp
theorem step_inv (es : List PE) (hwt : ∀ x ∈ es, x.inf.Wt 1) (nt tk : Int) (pn : Nat) (dc : List Int) (st : List PB) (kn : Inf) (s : ByteArray) (q : Nat) (hi : SInv pn dc.length st) (hw : WB st q) (hpn : pn ≤ dc.length)
  (R : SR) (hR : stepP es nt tk dc st kn s = R) (h0 : R.1 = 0) : dc.length ≤ R.2.1.length ∧ R.2.1.length ≤ dc.length + 2 ∧ R.2.2.1.length ≤ st.length + 1 ∧ WB R.2.2.1 (q + 2) ∧ (R.2.2.1 = [] ∨ SInv pn R.2.1.length R.2.2.1) ∧ R.2.1.take pn = dc.take pn := by
 cases st with
 | nil => exact hi.elim
 | cons b r =>
  have hbi := hi.binv
  unfold stepP at hR
  simp only at hR
  have t2 : ∀ l : List Int, (dc ++ l).take pn = dc.take pn := fun l => by rw [List.take_append_of_le_length hpn]
  have i1 : ∀ (b' : PB) (l : List Int), b'.opener = b.opener → b'.hole = b.hole → BInv b' → SInv pn (dc ++ l).length (b' :: r) := fun b' l e1 e2 e3 => (hi.set e1 e2 e3).mono (by simp)
  have bad : ∀ (E : Int), E ≠ 0 → R = (E, dc, b :: r, kn) → False := fun E hE e => hE (by rw [e] at h0; exact h0)
  by_cases g0 : (s.toList == []) = true
  ·rw [if_pos g0] at hR
   exact (bad 5 (by decide) hR.symm).elim
  rw [if_neg g0] at hR
  by_cases g1 : (s.toList == [58]) = true
  ·rw [if_pos g1] at hR
   exact (bad 5 (by decide) hR.symm).elim
  rw [if_neg g1] at hR
  by_cases g2 : (s.toList == [118, 97, 114, 105, 97, 98, 108, 101]) = true
  ·rw [if_pos g2] at hR
   exact (bad 5 (by decide) hR.symm).elim
  rw [if_neg g2] at hR
  by_cases g3 : (s.toList == [59]) = true
  ·rw [if_pos g3] at hR
   by_cases ho : b.opener = 34
   ·rw [if_pos ho] at hR
    subst hR
    exact ⟨by simp, by simp, by simp, trivial, Or.inl rfl, t2 _⟩
   ·rw [if_neg ho] at hR
    exact (bad 5 (by decide) hR.symm).elim
  rw [if_neg g3] at hR
  by_cases g4 : (s.toList == [105, 102]) = true
  ·rw [if_pos g4] at hR
   subst hR
   refine ⟨by simp, by simp, by simp, ?_, Or.inr ?_, t2 _⟩
   ·exact ((hw.add (n := 1) (opInf_wt 29 (by omega))).push (q1 := 0) (q2 := 0) Inf.Wt.zero Inf.Wt.zero).mono (by omega)
   ·exact ⟨Or.inl rfl, ⟨dc.length + 1, by simp [PB.opened]; omega, by omega, by simp⟩, BInv.opened 0 29 Inf.zero _ _ (by omega) (by omega), i1 _ _ rfl rfl (hbi.add _)⟩
  rw [if_neg g4] at hR
  by_cases g5 : (s.toList == [101, 108, 115, 101]) = true
  ·rw [if_pos g5] at hR
   by_cases ho : b.opener = 29
   ·rw [if_pos ho] at hR
    obtain ⟨c, r', rfl, ⟨k, hk, hk1, hk2⟩, hi2⟩ := hi.inner (by omega)
    have hkn : b.hole.toNat = k := by rw [hk]; simp
    obtain ⟨p1, p2, hp, hw1, hw2, hw3⟩ := hw.other
    simp only [hkn] at hR
    subst hR
    have hwl := hw1.then (opInf_wt 30 (by omega)) (by omega) (by omega)
    refine ⟨by simp, by simp, by simp, ?_, Or.inr ?_, ?_⟩
    ·exact (hw3.push (b := PB.opened { PB.zero with opener := 30, other := b.does.then (opInf 30) } c (dc.length + 2)) (q1 := 0) (q2 := p1 + 1) Inf.Wt.zero (by simpa [PB.opened] using hwl)).mono (by omega)
    ·exact ⟨Or.inr (Or.inl rfl), ⟨dc.length + 1, by simp [PB.opened]; omega, by omega, by simp⟩, BInv.opened 0 30 _ _ _ (by omega) (by omega), hi2.mono (by simp)⟩
    ·rw [List.take_set, List.set_eq_of_length_le (by simp; omega)]; exact t2 _
   ·rw [if_neg ho] at hR
    exact (bad 5 (by decide) hR.symm).elim
  rw [if_neg g5] at hR
  by_cases g6 : (s.toList == [116, 104, 101, 110]) = true
  ·rw [if_pos g6] at hR
   by_cases ho : b.opener = 29 ∨ b.opener = 30
   ·rw [if_pos ho] at hR
    by_cases hn : b.does.net = b.other.net
    ·rw [if_pos hn] at hR
     obtain ⟨c, r', rfl, ⟨k, hk, hk1, hk2⟩, hi2⟩ := hi.inner (by omega)
     have hkn : b.hole.toNat = k := by rw [hk]; simp
     obtain ⟨p1, p2, hp, hw1, hw2, hw3⟩ := hw.other
     simp only [hkn] at hR
     subst hR
     refine ⟨by simp, by simp, by simp only [List.length_cons]; omega, ?_, Or.inr ?_, ?_⟩
     ·exact (hw3.add (n := p1 + p2) (by simpa using hw1.orP hw2 (by omega) (by omega))).mono (by omega)
     ·exact (SInv.set (b' := c.add (b.does.orP b.other)) hi2 rfl rfl (hi2.binv.add _)).mono (by simp)
     ·rw [List.take_set, List.set_eq_of_length_le (by simp; omega)]
    ·rw [if_neg hn] at hR
     exact (bad 6 (by decide) hR.symm).elim
   ·rw [if_neg ho] at hR
    exact (bad 5 (by decide) hR.symm).elim
  rw [if_neg g6] at hR
  by_cases g7 : (s.toList == [100, 111]) = true
  ·rw [if_pos g7] at hR
   by_cases hn : b.numbers < 2
   ·rw [if_pos hn] at hR
    exact (bad 5 (by decide) hR.symm).elim
   ·rw [if_neg hn] at hR
    by_cases hm : 1000 < max 0 (b.a0 - b.a1)
    ·rw [if_pos hm] at hR
     exact (bad 7 (by decide) hR.symm).elim
    ·rw [if_neg hm] at hR
     subst hR
     refine ⟨by simp, by simp, by simp, ?_, Or.inr ?_, t2 _⟩
     ·exact ((hw.add (n := 1) (opInf_wt 31 (by omega))).push (q1 := 0) (q2 := 0) Inf.Wt.zero Inf.Wt.zero).mono (by omega)
     ·exact ⟨Or.inr (Or.inr rfl), ⟨dc.length + 1, by simp [PB.opened]; omega, by omega, by simp⟩, BInv.opened _ 31 Inf.zero _ _ (by omega) (by omega), i1 _ _ rfl rfl (hbi.add _)⟩
  rw [if_neg g7] at hR
  by_cases g8 : (s.toList == [108, 111, 111, 112]) = true
  ·rw [if_pos g8] at hR
   by_cases ho : b.opener = 31
   ·rw [if_pos ho] at hR
    by_cases hn : b.does.net = 0
    ·rw [if_pos hn] at hR
     obtain ⟨c, r', rfl, ⟨k, hk, hk1, hk2⟩, hi2⟩ := hi.inner (by omega)
     have hkn : b.hole.toNat = k := by rw [hk]; simp
     obtain ⟨p1, p2, hp, hw1, hw2, hw3⟩ := hw.other
     simp only [hkn] at hR
     subst hR
     have hwl := (hw1.then (opInf_wt 32 (by omega)) (by omega) (by omega)).timesP (by omega) hbi.t0
     refine ⟨by simp, by simp, by simp only [List.length_cons]; omega, ?_, Or.inr ?_, ?_⟩
     ·exact (hw3.add (n := p1 + 1) (by simpa using hwl)).mono (by omega)
     ·exact (SInv.set (b' := c.add ((b.does.then (opInf 32)).timesP b.times)) hi2 rfl rfl (hi2.binv.add _)).mono (by simp)
     ·rw [List.take_set, List.set_eq_of_length_le (by simp; omega)]; exact t2 _
    ·rw [if_neg hn] at hR
     exact (bad 6 (by decide) hR.symm).elim
   ·rw [if_neg ho] at hR
    exact (bad 5 (by decide) hR.symm).elim
  rw [if_neg g8] at hR
  by_cases hnum : (numP s).2 = true
  ·rw [if_pos hnum] at hR
   subst hR
   refine ⟨by simp, by simp, by simp, ?_, Or.inr ?_, t2 _⟩
   ·obtain ⟨q1, q2, h1, h2, h3, h4⟩ := hw.add (n := 1) (opInf_wt 28 (by omega))
    exact WB.mono ⟨q1, q2, h1, h2, h3, h4⟩ (by omega)
   ·have hb := numP_bd s
    exact i1 _ _ rfl rfl ⟨by simp only; have := hbi.n0; omega, by simp only; omega, hbi.b0, hbi.b1, hb.1, hb.2, hbi.t0, hbi.t1⟩
  rw [if_neg hnum] at hR
  unfold stepW at hR
  cases hlp : lastP es s es.length with
  | some x =>
   rw [hlp] at hR
   simp only at hR
   subst hR
   have hx := hwt x (lastP_mem es s _ x (Nat.le_refl _) hlp)
   exact ⟨by simp, by simp, by simp, (hw.add (n := 2) (PE.use_wt hx)).mono (by omega), Or.inr (i1 _ _ rfl rfl (hbi.add _)), t2 _⟩
  | none =>
   rw [hlp] at hR
   simp only at hR
   cases hop : opFind s with
   | none => rw [hop] at hR; simp only at hR; exact (bad 3 (by decide) hR.symm).elim
   | some k =>
    rw [hop] at hR
    simp only at hR
    by_cases hn : k = 27 ∧ b.inDo = false
    ·rw [if_pos hn] at hR; exact (bad 5 (by decide) hR.symm).elim
    ·rw [if_neg hn] at hR
     subst hR
     exact ⟨by simp, by simp, by simp, (hw.add (n := 1) (opInf_wt k (opFind_lt hop))).mono (by omega), Or.inr (i1 _ _ rfl rfl (hbi.add _)), t2 _⟩
end Go.Proofs.YtcphhbofjkenaaaGreatDoor
