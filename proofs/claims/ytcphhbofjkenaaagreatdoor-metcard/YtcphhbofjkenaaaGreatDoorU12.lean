import Derived.Laws.Rows
import Derived.StillTailTactics
import Derived.Test.YtcphhbofjkenaaaGreatDoorU11
namespace Go.Proofs.YtcphhbofjkenaaaGreatDoor
open Go.RowKit
set_option linter.unusedVariables false
set_option linter.unusedSimpArgs false
theorem i64_wrap (n : Int) (h0 : 0 ≤ n) (h : n ≤ 1000000000) : IntKind.i64.wrap n = n := by
 have hb : IntKind.i64.bits = 64 := rfl
 simp [IntKind.wrap, hb]
 omega
theorem Chg.setCells (b : Nat) : ∀ (vs : List Value) (o : Nat) (w : World), Chg (fun k => k = b) w (w.setCells b o vs)
 | [], _, w => Chg.refl _ w
 | v :: r, o, w => ((Chg.refl (fun k => k = b) w).setCell (p := ⟨b, o, none⟩) rfl v).trans (Chg.setCells b r (o + 1) _)
theorem Blk.setFrom {b : Nat} {t : TypeId} : ∀ (vs pre rest : List Value) (w : World), Blk w b (pre ++ rest).toArray t → rest.length = vs.length → Blk (w.setCells b pre.length vs) b (pre ++ vs).toArray t
 | [], pre, rest, w, h, hl => by
  have : rest = [] := List.eq_nil_of_length_eq_zero hl
  subst this; exact h
 | v :: vs, pre, [], w, h, hl => by simp at hl
 | v :: vs, pre, r :: rest, w, h, hl => by
  have h1 := h.set (o := pre.length) v
  have e : (pre ++ r :: rest).toArray.setIfInBounds pre.length v = ((pre ++ [v]) ++ rest).toArray := by simp
  rw [e] at h1
  have h2 := Blk.setFrom vs (pre ++ [v]) rest _ h1 (by simpa using hl)
  show Blk ((w.setCell ⟨b, pre.length, none⟩ v).setCells b (pre.length + 1) vs) b _ t
  simpa using h2
theorem Blk.setAll {b : Nat} {t : TypeId} {w : World} {cs : Array Value} (vs : List Value) (h : Blk w b cs t) (hl : cs.size = vs.length) : Blk (w.setCells b 0 vs) b vs.toArray t :=
 Blk.setFrom vs [] cs.toList w (by simpa using h) (by simpa using hl)
theorem row_pop {w : World} {base : Nat} {e : TypeId} {size g n cap : Nat} {F cs : List Value} (h : w.ownsRow base e size (.slice (some ⟨g, 0, none⟩) (n + 1) cap) (n + 1) (F ++ cs)) (hF : F.length = n * size) :
  w.ownsRow base e size (.slice (some ⟨g, 0, none⟩) n cap) n F := by
 refine ⟨hF, Or.inr ?_⟩
 rcases h.2 with ⟨hx, _⟩ | ⟨g', cap', cur, hv, hb, hh, h1, h2, h3, h4⟩
 ·cases hx
 ·obtain ⟨rfl, rfl⟩ : g = g' ∧ cap = cap' := by simpa using hv
  refine ⟨g, cap, cur, rfl, hb, hh, by omega, h2, h3, ?_⟩
  have := congrArg (List.take (n * size)) h4
  rw [List.take_take, Nat.min_eq_left (Nat.mul_le_mul_right _ (by omega)), List.take_append_of_le_length (by omega), ← hF, List.take_length] at this
  rw [← hF]; exact this
theorem DS.pop {w0 w : World} {rb bb db : Nat} {rc : RC} {ev bcv dcv : Value} {es : List PE} {nv nt : Int} {pc dc : List Int} {tk : Int} {bs : List PB} {b : PB} {kn : Inf} {g cap dg dcap : Nat}
  (h : DS w0 w rb rc bb db ev bcv dcv (.slice (some ⟨g, 0, none⟩) (bs.length + 1) cap) es nv nt pc dc tk (bs ++ [b]) kn) (hdv : dcv = .slice (some ⟨dg, 0, none⟩) dc.length dcap) (k : Nat) (x : Int) (hk : pc.length ≤ k) :
  DS w0 ((w.setCell ⟨db, 3, none⟩ (.slice (some ⟨g, 0, none⟩) bs.length cap)).setCell ⟨dg, k, none⟩ (.int .i64 x)) rb rc bb db ev bcv dcv (.slice (some ⟨g, 0, none⟩) bs.length cap) es nv nt pc (dc.set k x) tk bs kn := by
 have hrb := h.rdr.1
 have hgb := h.rdr.2
 have hrow := h.row
 rw [List.length_append, List.length_singleton, List.flatMap_append, List.flatMap_singleton] at hrow
 have hpop := row_pop hrow (flat_length PB.cells 17 (fun _ => rfl) bs)
 have hc1 : Chg (fun b => b = db) w (w.setCell ⟨db, 3, none⟩ (.slice (some ⟨g, 0, none⟩) bs.length cap)) := (Chg.refl (fun b => b = db) w).setCell (p := ⟨db, 3, none⟩) rfl _
 obtain ⟨w1, hw1⟩ : ∃ w1, w1 = w.setCell ⟨db, 3, none⟩ (.slice (some ⟨g, 0, none⟩) bs.length cap) := ⟨_, rfl⟩
 rw [← hw1] at hc1 ⊢
 have n1 : db ≠ bb := by rintro rfl; exact absurd (blk_type h.blk h.sys.blk) (by decide)
 have n3 : db ≠ rb := by rintro rfl; exact absurd (blk_type h.blk hrb) (by decide)
 have nd : ∀ {base : Nat} {e : TypeId} {size n : Nat} {v : Value} {xs : List Value}, w.ownsRow base e size v n xs → 209 ≠ e → ∀ k, v.ownBlock = some k → ¬ k = db := fun ho hne k hk e => own_blk ho h.blk hne (by rw [hk, e])
 have hb1 : Blk w1 db (defC bb tk dcv (.slice (some ⟨g, 0, none⟩) bs.length cap) kn) 209 := by
  rw [hw1]; have := h.blk.set (o := 3) (.slice (some ⟨g, 0, none⟩) bs.length cap); simpa [defC] using this
 have r1 := ownsRow_chg hpop hc1 (nd hpop (by decide))
 have r2 := ownsRow_chg h.cod hc1 (nd h.cod (by decide))
 have r3 := ownsRow_chg h.sys.cod hc1 (nd h.sys.cod (by decide))
 have r4 := ownsRow_chg h.sys.row hc1 (nd h.sys.row (by decide))
 have r5 : Blk w1 bb _ _ := h.sys.blk.chg hc1 (fun e => n1 e.symm)
 have r6 := hrb.chg hc1 (fun e => n3 e.symm)
 have r6g := hgb.chg hc1 (fun e => blk_ne h.blk hgb (by decide) e.symm)
 have r7 := h.tab.chg hc1 (fun k e => by have := h.new; have := h.tl; omega)
 have hc2 : Chg (fun b => b = dg) w1 (w1.setCell ⟨dg, k, none⟩ (.int .i64 x)) := (Chg.refl (fun b => b = dg) w1).setCell (p := ⟨dg, k, none⟩) rfl _
 have hdo : dcv.ownBlock = some dg := by rw [hdv]; rfl
 have m1 : ∀ {c : Array Value} {t : TypeId} {b : Nat}, Blk w1 b c t → t ≠ 3 → ¬ b = dg := fun hb hne e => own_blk r2 hb hne (by rw [hdo, e])
 have m2 : ∀ {base : Nat} {e : TypeId} {size n : Nat} {v : Value} {xs : List Value}, w1.ownsRow base e size v n xs → e ≠ 3 → ∀ k, v.ownBlock = some k → ¬ k = dg := fun ho hne k hk e => own_own ho r2 hne hk (by rw [hdo, e])
 have hgd : 3 ≤ dg := by
  rcases h.cod.2 with ⟨hx, _⟩ | ⟨g', cap', cur, hv, hb, _⟩
  ·rw [hdv] at hx; cases hx
  ·rw [hdv] at hv; simp at hv; omega
 subst hdv
 refine ⟨⟨r5.chg hc2 (m1 r5 (by decide)), ownsRow_chg r4 hc2 (m2 r4 (by decide)), ownsRow_set_behind r3 dg k _ (fun _ => by omega), h.sys.up⟩, hb1.chg hc2 (m1 hb1 (by decide)), ?_, ownsRow_chg r1 hc2 (m2 r1 (by decide)), r7.chg hc2 (fun k e => by omega), ⟨r6.chg hc2 (m1 r6 (by decide)), r6g.chg hc2 (m1 r6g (by decide))⟩, h.ru, h.tl, ?_, h.new, h.loc, ?_⟩
 ·have := ownsRow_set r2 k (.int .i64 x)
  simpa [codeC, List.map_set] using this
 ·obtain ⟨l, rfl⟩ := h.pre
  exact ⟨l.set (k - pc.length) x, by rw [List.set_append_right _ _ hk]⟩
 ·refine (h.frm.thru hc1 (fun k hk e => by have := h.new; omega)).thru hc2 (fun k hk e => ?_)
  rcases h.loc with h1 | ⟨k', h1, h2⟩
  ·exact Or.inr (by rw [← h1, e]; rfl)
  ·rw [hdo] at h1; simp at h1; omega
theorem DS.apart {w0 w w' : World} {rb bb db R : Nat} {rc : RC} {ev bcv dcv bv : Value} {es : List PE} {nv nt : Int} {pc dc : List Int} {tk : Int} {bs : List PB} {kn : Inf}
  (h : DS w0 w rb rc bb db ev bcv dcv bv es nv nt pc dc tk bs kn) (hc : Chg (fun k => k = R) w w') (hR : w0.heap.size ≤ R) (n1 : bb ≠ R) (n2 : db ≠ R) (n3 : rb ≠ R) (n4 : ev.ownBlock ≠ some R) (n5 : bcv.ownBlock ≠ some R) (n6 : dcv.ownBlock ≠ some R) (n7 : bv.ownBlock ≠ some R) (n8 : rc.2.1 ≠ R) :
  DS w0 w' rb rc bb db ev bcv dcv bv es nv nt pc dc tk bs kn := by
 have hrb := h.rdr.1
 have hgb := h.rdr.2
 have no : ∀ {v : Value}, v.ownBlock ≠ some R → ∀ k, v.ownBlock = some k → ¬ k = R := fun hn k hk e => hn (by rw [hk, e])
 exact ⟨h.sys.chg hc n1 (no n4) (no n5), h.blk.chg hc n2, ownsRow_chg h.cod hc (no n6), ownsRow_chg h.row hc (no n7), h.tab.chg hc (fun k e => by have := h.tl; omega), ⟨hrb.chg hc n3, hgb.chg hc n8⟩, h.ru, h.tl, h.pre, h.new, h.loc, h.frm.thru hc (fun k hk e => by omega)⟩
theorem DS.there {w0 w : World} {rb bb db R : Nat} {rc : RC} {ev bcv dcv bv : Value} {es : List PE} {nv nt : Int} {pc dc : List Int} {tk : Int} {bs : List PB} {kn : Inf}
  (h : DS w0 w rb rc bb db ev bcv dcv bv es nv nt pc dc tk bs kn) (hR : w.heap.size ≤ R) : bb ≠ R ∧ db ≠ R ∧ rb ≠ R ∧ ev.ownBlock ≠ some R ∧ bcv.ownBlock ≠ some R ∧ dcv.ownBlock ≠ some R ∧ bv.ownBlock ≠ some R ∧ rc.2.1 ≠ R := by
 have hrb := h.rdr.1
 have hgb := h.rdr.2
 have h1 := h.sys.blk.lt; have h2 := h.blk.lt; have h3 := hrb.lt
 have h4 := hgb.lt
 refine ⟨by omega, by omega, by omega, fun e => ?_, fun e => ?_, fun e => ?_, fun e => ?_, by omega⟩
 ·have := own_lt h.sys.row e; omega
 ·have := own_lt h.sys.cod e; omega
 ·have := own_lt h.cod e; omega
 ·have := own_lt h.row e; omega
set_option maxRecDepth 100000 in
set_option maxHeartbeats 4000000 in
theorem def_close {w0 w : World} {rb bb db : Nat} {rc : RC} {ev bcv dcv bv : Value} {es : List PE} {nv nt : Int} {pc dc : List Int} {tk : Int} {bs : List PB} {b : PB} {kn : Inf}
  (h : DS w0 w rb rc bb db ev bcv dcv bv es nv nt pc dc tk (bs ++ [b]) kn) (k : Nat) (hk : b.hole = k) (hk1 : pc.length ≤ k) (hk2 : k < dc.length) (hl : bs.length ≤ 100000000) (hd : dc.length ≤ 100000000) :
  Calls Tryz.prog 185 #[.pointer (some ⟨db, 0, none⟩)] w fun e w' => e = .returned b.val ∧ (∃ bv', DS w0 w' rb rc bb db ev bcv dcv bv' es nv nt pc (dc.set k dc.length) tk bs kn) ∧ Chg (fun k => k = db ∨ dcv.ownBlock = some k) w w' := by
 obtain ⟨g, cap, hv, hcap, hge, hg, hfr, hcell⟩ := h.last
 have HI := hidden (fun w' (hb : Below w.heap.size w w') => def_inner (h.below (w' := w') hb) (by omega) g cap hv hcap)
 obtain ⟨c0, c1, c2, c3⟩ := h.def
 obtain ⟨dg, dcap, hdv, _, hdg, hdc, _, hcc⟩ := row_cells h.cod (by omega)
 have hdl := h.blk.lt
 have HD := hidden h
 obtain ⟨b0, b1, b2, b3, ⟨b4, b5, b6, b7, b8⟩, ⟨b9, b10, b11, b12, b13⟩, b14, b15, b16⟩ := b
 subst hv
 simp only at hk
 subst hk
 have hke : ∃ u, w.cell? ⟨dg, k, none⟩ = some (.int .i64 u) := ⟨dc[k], hcc k _ (by simp [codeC, hk2])⟩
 obtain ⟨u, hu⟩ := hke
 clear h c0 c1 hcc hfr
 rw [hdv] at c2
 simp only [PB.val, PB.cells]
 go_enter Tryz.func185, Tryz.ntmps185
 go_wp2_with fail
 have hb0 : Below w.heap.size w (w.alloc (.cells #[.int .i64 0, .bool false, .int .i64 0, .int .i64 0, .int .i64 0, .int .i64 0, .int .i64 0, .int .i64 0, .bool false, .int .i64 0, .int .i64 0, .int .i64 0, .int .i64 0, .bool false, .int .i64 0, .int .i64 0, .int .i64 0] 244 (0, 0))) := (Below.refl _ _).alloc (Nat.le_refl _) _
 have hk0 := blk_new w #[.int .i64 0, .bool false, .int .i64 0, .int .i64 0, .int .i64 0, .int .i64 0, .int .i64 0, .int .i64 0, .bool false, .int .i64 0, .int .i64 0, .int .i64 0, .int .i64 0, .bool false, .int .i64 0, .int .i64 0, .int .i64 0] 244
 refine (HI.out _ hb0).mono ?_
 rintro e w1 ⟨rfl, hb1⟩
 have hka := hk0.sub hb1 (by simp)
 have hbw : Below w.heap.size w w1 := hb0.trans (hb1.mono (by simp))
 have d0 : w1.cell? ⟨g, bs.length * 17, none⟩ = some (.int .i64 b0) := (hbw.cell (p := ⟨g, bs.length * 17 + 0, none⟩) hg).trans (hcell 0 _ rfl)
 have d1 : w1.cell? ⟨g, bs.length * 17 + 1, none⟩ = some (.bool b1) := (hbw.cell (p := ⟨g, bs.length * 17 + 1, none⟩) hg).trans (hcell 1 _ rfl)
 have d2 : w1.cell? ⟨g, bs.length * 17 + 2, none⟩ = some (.int .i64 (k : Int)) := (hbw.cell (p := ⟨g, bs.length * 17 + 2, none⟩) hg).trans (hcell 2 _ rfl)
 have d3 : w1.cell? ⟨g, bs.length * 17 + 3, none⟩ = some (.int .i64 b3) := (hbw.cell (p := ⟨g, bs.length * 17 + 3, none⟩) hg).trans (hcell 3 _ rfl)
 have d4 : w1.cell? ⟨g, bs.length * 17 + 4, none⟩ = some (.int .i64 b4) := (hbw.cell (p := ⟨g, bs.length * 17 + 4, none⟩) hg).trans (hcell 4 _ rfl)
 have d5 : w1.cell? ⟨g, bs.length * 17 + 5, none⟩ = some (.int .i64 b5) := (hbw.cell (p := ⟨g, bs.length * 17 + 5, none⟩) hg).trans (hcell 5 _ rfl)
 have d6 : w1.cell? ⟨g, bs.length * 17 + 6, none⟩ = some (.int .i64 b6) := (hbw.cell (p := ⟨g, bs.length * 17 + 6, none⟩) hg).trans (hcell 6 _ rfl)
 have d7 : w1.cell? ⟨g, bs.length * 17 + 7, none⟩ = some (.int .i64 b7) := (hbw.cell (p := ⟨g, bs.length * 17 + 7, none⟩) hg).trans (hcell 7 _ rfl)
 have d8 : w1.cell? ⟨g, bs.length * 17 + 8, none⟩ = some (.bool (!b8)) := (hbw.cell (p := ⟨g, bs.length * 17 + 8, none⟩) hg).trans (hcell 8 _ rfl)
 have d9 : w1.cell? ⟨g, bs.length * 17 + 9, none⟩ = some (.int .i64 b9) := (hbw.cell (p := ⟨g, bs.length * 17 + 9, none⟩) hg).trans (hcell 9 _ rfl)
 have d10 : w1.cell? ⟨g, bs.length * 17 + 10, none⟩ = some (.int .i64 b10) := (hbw.cell (p := ⟨g, bs.length * 17 + 10, none⟩) hg).trans (hcell 10 _ rfl)
 have d11 : w1.cell? ⟨g, bs.length * 17 + 11, none⟩ = some (.int .i64 b11) := (hbw.cell (p := ⟨g, bs.length * 17 + 11, none⟩) hg).trans (hcell 11 _ rfl)
 have d12 : w1.cell? ⟨g, bs.length * 17 + 12, none⟩ = some (.int .i64 b12) := (hbw.cell (p := ⟨g, bs.length * 17 + 12, none⟩) hg).trans (hcell 12 _ rfl)
 have d13 : w1.cell? ⟨g, bs.length * 17 + 13, none⟩ = some (.bool (!b13)) := (hbw.cell (p := ⟨g, bs.length * 17 + 13, none⟩) hg).trans (hcell 13 _ rfl)
 have d14 : w1.cell? ⟨g, bs.length * 17 + 14, none⟩ = some (.int .i64 b14) := (hbw.cell (p := ⟨g, bs.length * 17 + 14, none⟩) hg).trans (hcell 14 _ rfl)
 have d15 : w1.cell? ⟨g, bs.length * 17 + 15, none⟩ = some (.int .i64 b15) := (hbw.cell (p := ⟨g, bs.length * 17 + 15, none⟩) hg).trans (hcell 15 _ rfl)
 have d16 : w1.cell? ⟨g, bs.length * 17 + 16, none⟩ = some (.int .i64 b16) := (hbw.cell (p := ⟨g, bs.length * 17 + 16, none⟩) hg).trans (hcell 16 _ rfl)
 have HBW := hidden hbw; have HKA := hidden hka
 have hlt1 := hka.lt
 clear hb0 hk0 hb1 hka hcell hbw HI
 obtain ⟨W, hW⟩ : ∃ W : World, W = w1.alloc (.cells #[.int .i64 b0, .bool b1, .int .i64 (k : Int), .int .i64 b3, .int .i64 b4, .int .i64 b5, .int .i64 b6, .int .i64 b7, .bool (!b8), .int .i64 b9, .int .i64 b10, .int .i64 b11, .int .i64 b12, .bool (!b13), .int .i64 b14, .int .i64 b15, .int .i64 b16] 244 (0, 0)) := ⟨_, rfl⟩
 obtain ⟨E, hE⟩ : ∃ E, E = w1.heap.size := ⟨_, rfl⟩
 have hkE : Blk W E #[.int .i64 b0, .bool b1, .int .i64 (k : Int), .int .i64 b3, .int .i64 b4, .int .i64 b5, .int .i64 b6, .int .i64 b7, .bool (!b8), .int .i64 b9, .int .i64 b10, .int .i64 b11, .int .i64 b12, .bool (!b13), .int .i64 b14, .int .i64 b15, .int .i64 b16] 244 := by rw [hW, hE]; exact blk_new w1 _ _
 have hbW : Below w.heap.size w W := by rw [hW]; exact HBW.out.alloc HBW.out.size _
 have hkR := HKA.out.alloc (.cells #[.int .i64 b0, .bool b1, .int .i64 (k : Int), .int .i64 b3, .int .i64 b4, .int .i64 b5, .int .i64 b6, .int .i64 b7, .bool (!b8), .int .i64 b9, .int .i64 b10, .int .i64 b11, .int .i64 b12, .bool (!b13), .int .i64 b14, .int .i64 b15, .int .i64 b16] 244 (0, 0))
 rw [← hW] at hkR
 have hER : E ≠ w.heap.size := by omega
 have HKE := hidden hkE; have HBWW := hidden hbW; have HKR := hidden hkR
 have c3' : W.cell? ⟨db, 3, none⟩ = some (.slice (some ⟨g, 0, none⟩) (bs.length + 1) cap) := (hbW.cell (p := ⟨db, 3, none⟩) hdl).trans c3
 have c2' : W.cell? ⟨db, 2, none⟩ = some (.slice (some ⟨dg, 0, none⟩) dc.length dcap) := (hbW.cell (p := ⟨db, 2, none⟩) hdl).trans c2
 have q3 : W.frozen? ⟨db, 3, none⟩ = false := (hbW.frozen (p := ⟨db, 3, none⟩) hdl).trans (HD.out.blk.frozen 3)
 have hu' : W.cell? ⟨dg, k, none⟩ = some (.int .i64 u) := (hbW.cell (p := ⟨dg, k, none⟩) hdg).trans hu
 have hfz : W.frozen? ⟨dg, k, none⟩ = false := by
  rw [hbW.frozen (p := ⟨dg, k, none⟩) hdg]
  rcases HD.out.cod.2 with ⟨hx, _⟩ | ⟨g', cap', cur, hv, _, hh, _⟩
  ·rw [hdv] at hx; cases hx
  ·obtain ⟨rfl, _⟩ : dg = g' ∧ dcap = cap' := by rw [hdv] at hv; simpa using hv
   simp [World.frozen?, hh]
 have e2 : W.cell? ⟨E, 2, none⟩ = some (.int .i64 k) := hkE.cell 2 _ rfl
 have hgd : dg ≠ db := fun e => own_blk HD.out.cod HD.out.blk (by decide) (by rw [hdv, e]; rfl)
 have hEdb : E ≠ db := by have := HBW.out.size; omega
 have hEdg : E ≠ dg := by have := HBW.out.size; omega
 have hRdb : w.heap.size ≠ db := by omega
 have hRdg : w.heap.size ≠ dg := by omega
 have hkk : (k : Int) < (dc.length : Int) := by omega
 have hbc : (bs.length : Int) ≤ (cap : Int) := by omega
 have hbl0 : (0 : Int) ≤ (bs.length : Int) := by omega
 have hwr : IntKind.i64.wrap (bs.length : Int) = (bs.length : Int) := i64_wrap _ (by omega) (by omega)
 have hbl1 : (bs.length : Int) ≤ 100000000 := by omega
 have hk0 : (0 : Int) ≤ (k : Int) := by omega
 go_upto_region 2 with fail
 rw [← hW]
 rw [← hE]
 clear hW hE hkE hbW hkR d0 d1 d2 d3 d4 d5 d6 d7 d8 d9 d10 d11 d12 d13 d14 d15 d16 HBW HKA c2 c3 hu
 go_still_tail 12, (by kernel_rfl)
 clear hwr hbl1 hbl0 hbc
 obtain ⟨X, hX⟩ : ∃ X : World, X = (W.setCell ⟨db, 3, none⟩ (.slice (some ⟨g, 0, none⟩) bs.length cap)).drew := ⟨_, rfl⟩
 have hcX : Chg (fun b => b = db) W X := by rw [hX]; exact ((Chg.refl (fun b => b = db) W).setCell (p := ⟨db, 3, none⟩) rfl _).drew
 have hWdb : db < W.heap.size := Nat.lt_of_lt_of_le hdl HBWW.out.size
 have hWdg : dg < W.heap.size := Nat.lt_of_lt_of_le hdg HBWW.out.size
 have x2 : X.cell? ⟨db, 2, none⟩ = some (.slice (some ⟨dg, 0, none⟩) dc.length dcap) := by
  have hq := ((HD.out.below HBWW.out).blk.set (o := 3) (.slice (some ⟨g, 0, none⟩) bs.length cap)).cell 2 dcv (by simp [defC])
  rw [hX, ← hdv]; exact hq
 have xe : X.cell? ⟨E, 2, none⟩ = some (.int .i64 k) := (hcX.cell (p := ⟨E, 2, none⟩) HKE.out.lt hEdb).trans e2
 have xu : X.cell? ⟨dg, k, none⟩ = some (.int .i64 u) := (hcX.cell (p := ⟨dg, k, none⟩) hWdg hgd).trans hu'
 have xf : X.frozen? ⟨dg, k, none⟩ = false := by rw [hX]; simpa using hfz
 have HX := hidden hX; have HCX := hidden hcX
 go_upto_region 3 with fail
 rw [← hX]
 clear hX hcX c2' c3' q3 hu' hfz e2
 go_still_tail 11, (by kernel_rfl)
 obtain ⟨Y, hY⟩ : ∃ Y : World, Y = (X.setCell ⟨dg, k, none⟩ (.int .i64 dc.length)).drew := ⟨_, rfl⟩
 have HY := hidden hY
 go_upto_region 4 with fail
 rw [← hY]
 have hcY : Chg (fun b => b = db ∨ b = dg) W Y := (HCX.out.mono (fun _ _ e => Or.inl e)).trans (by rw [hY]; exact ((Chg.refl (fun b => b = db ∨ b = dg) X).setCell (p := ⟨dg, k, none⟩) (Or.inr rfl) _).drew)
 have hYE : Blk Y E _ _ := HKE.out.chg hcY (by rintro (e | e) <;> omega)
 have hYR : Blk Y w.heap.size _ _ := HKR.out.chg hcY (by rintro (e | e) <;> omega)
 have hrg : Y.rangeAt E 0 [.int .i64 b0, .bool b1, .int .i64 (k : Int), .int .i64 b3, .int .i64 b4, .int .i64 b5, .int .i64 b6, .int .i64 b7, .bool (!b8), .int .i64 b9, .int .i64 b10, .int .i64 b11, .int .i64 b12, .bool (!b13), .int .i64 b14, .int .i64 b15, .int .i64 b16] := fun j v hv => by rw [Nat.zero_add]; exact hYE.cell j v (by simpa using hv)
 have hth : Y.there w.heap.size 0 17 := fun j hj => ⟨by
   rw [Nat.zero_add]
   have : j < (#[Value.int .i64 0, .bool false, .int .i64 0, .int .i64 0, .int .i64 0, .int .i64 0, .int .i64 0, .int .i64 0, .bool false, .int .i64 0, .int .i64 0, .int .i64 0, .int .i64 0, .bool false, .int .i64 0, .int .i64 0, .int .i64 0] : Array Value).size := hj
   rw [hYR.cell j _ (Array.getElem?_eq_getElem this)]; rfl, hYR.frozen _⟩
 clear hY x2 xe xu xf
 refine wp_region_list ?_
 refine wpList_load_mid rfl _ _ rfl E 0 rfl [.int .i64 b0, .bool b1, .int .i64 (k : Int), .int .i64 b3, .int .i64 b4, .int .i64 b5, .int .i64 b6, .int .i64 b7, .bool (!b8), .int .i64 b9, .int .i64 b10, .int .i64 b11, .int .i64 b12, .bool (!b13), .int .i64 b14, .int .i64 b15, .int .i64 b16] _ hrg Tryz.underlying244 rfl (by kernel_rfl) ?_
 refine wpList_store_mid rfl _ _ _ rfl w.heap.size 0 ([.int .i64 b0, .bool b1, .int .i64 (k : Int), .int .i64 b3, .int .i64 b4, .int .i64 b5, .int .i64 b6, .int .i64 b7, .bool (!b8), .int .i64 b9, .int .i64 b10, .int .i64 b11, .int .i64 b12, .bool (!b13), .int .i64 b14, .int .i64 b15, .int .i64 b16] : List Value).toArray rfl rfl hth (by kernel_rfl) (by simp [Value.oneCell']) ?_
 obtain ⟨Z, hZ⟩ : ∃ Z : World, Z = Y.setCells w.heap.size 0 [.int .i64 b0, .bool b1, .int .i64 (k : Int), .int .i64 b3, .int .i64 b4, .int .i64 b5, .int .i64 b6, .int .i64 b7, .bool (!b8), .int .i64 b9, .int .i64 b10, .int .i64 b11, .int .i64 b12, .bool (!b13), .int .i64 b14, .int .i64 b15, .int .i64 b16] := ⟨_, rfl⟩
 have hrz := hYR.setAll [.int .i64 b0, .bool b1, .int .i64 (k : Int), .int .i64 b3, .int .i64 b4, .int .i64 b5, .int .i64 b6, .int .i64 b7, .bool (!b8), .int .i64 b9, .int .i64 b10, .int .i64 b11, .int .i64 b12, .bool (!b13), .int .i64 b14, .int .i64 b15, .int .i64 b16] rfl
 have hcZ := Chg.setCells w.heap.size [.int .i64 b0, .bool b1, .int .i64 (k : Int), .int .i64 b3, .int .i64 b4, .int .i64 b5, .int .i64 b6, .int .i64 b7, .bool (!b8), .int .i64 b9, .int .i64 b10, .int .i64 b11, .int .i64 b12, .bool (!b13), .int .i64 b14, .int .i64 b15, .int .i64 b16] 0 Y
 rw [← hZ] at hrz hcZ
 rw [← hZ]
 have HRZ := hidden hrz
 have HZ := hidden hcZ; have HCY := hidden hcY
 clear hrz hcZ hZ hrg hth hYE hYR hcY
 go_wp2_with fail
 refine bodyPost_ret (results_cell_row rfl _ _ w.heap.size _ _ _ _ rfl HRZ.out Tryz.underlying244 rfl (by kernel_rfl)) rfl ⟨rfl, ?_, ?_⟩
 ·have hps := (HD.out.below HBWW.out).pop hdv k (dc.length : Int) hk1
  have hd2 : Chg (fun k => k = w.heap.size) ((W.setCell ⟨db, 3, none⟩ (.slice (some ⟨g, 0, none⟩) bs.length cap)).setCell ⟨dg, k, none⟩ (.int .i64 dc.length)) Z := by
   have hq := HZ.out
   rw [HY.out, HX.out] at hq
   exact ⟨hq.os, hq.tape, hq.output, hq.size, hq.block⟩
  obtain ⟨n1, n2, n3, n4, n5, n6, n7, n8⟩ := HD.out.there (Nat.le_refl _)
  exact ⟨_, hps.apart hd2 HD.out.frm.size n1 n2 n3 n4 n5 n6 n7 n8⟩
 ·refine ((Chg.ofBelow HBWW.out).trans (HCY.out.mono (fun j _ e => ?_))).trans_ge (HZ.out.mono (fun j _ e => by omega))
  rcases e with e | e
  ·exact Or.inl e
  ·exact Or.inr (by rw [hdv, e]; rfl)
end Go.Proofs.YtcphhbofjkenaaaGreatDoor
