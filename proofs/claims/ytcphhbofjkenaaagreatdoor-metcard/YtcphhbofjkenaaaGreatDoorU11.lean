import Derived.Deep.RegionLaw
import Derived.Test.YtcphhbofjkenaaaGreatDoorU10
namespace Go.Proofs.YtcphhbofjkenaaaGreatDoor
open Go.RowKit
set_option linter.unusedVariables false
set_option linter.unusedSimpArgs false
def PB.val (b : PB) : Value := .agg b.cells.toArray
def PB.opened (b c : PB) (n : Nat) : PB := { b with hole := (n : Int) - 1, inDo := b.opener == 31 || c.inDo }
def pbz : Value := .agg #[.int .i64 0, .bool false, .int .i64 0, .int .i64 0, .int .i64 0, .int .i64 0, .int .i64 0, .int .i64 0, .bool false, .int .i64 0, .int .i64 0, .int .i64 0, .int .i64 0, .bool false, .int .i64 0, .int .i64 0, .int .i64 0]
theorem Tryz.infoPB : (Tryz.prog.info? 244).map (fun i => (i.zero, i.size, i.bytes)) = some (some pbz, 17, 136) := by kernel_rfl
theorem PB.one (b : PB) : ∀ u ∈ b.cells, u.oneCell' = true := by
 intro u hu
 simp only [PB.cells, List.mem_cons, List.not_mem_nil, or_false] at hu
 rcases hu with rfl | rfl | rfl | rfl | rfl | rfl | rfl | rfl | rfl | rfl | rfl | rfl | rfl | rfl | rfl | rfl | rfl <;> rfl
theorem DS.push {w0 w w2 : World} {rb bb db : Nat} {rc : RC} {ev bcv dcv bv v2 : Value} {es : List PE} {nv nt : Int} {pc dc : List Int} {tk : Int} {bs : List PB} {b : PB} {kn : Inf}
  (h : DS w0 w rb rc bb db ev bcv dcv bv es nv nt pc dc tk bs kn) (hr : w2.ownsRow w0.heap.size 244 17 v2 (bs.length + 1) (bs.flatMap PB.cells ++ b.cells)) (hc : Chg (fun k => bv.ownBlock = some k) w w2) :
  DS w0 (w2.setCell ⟨db, 3, none⟩ v2) rb rc bb db ev bcv dcv v2 es nv nt pc dc tk (bs ++ [b]) kn := by
 have hrb := h.rdr.1
 have hgb := h.rdr.2
 have no : ∀ {c : Array Value} {t : TypeId} {k : Nat}, Blk w k c t → t ≠ 244 → ¬ bv.ownBlock = some k := fun hb hne e => own_blk h.row hb hne e
 have n2 : ∀ {base : Nat} {e : TypeId} {size n : Nat} {v : Value} {xs : List Value}, w.ownsRow base e size v n xs → e ≠ 244 → ∀ k, v.ownBlock = some k → ¬ bv.ownBlock = some k := fun ho hne k hk e => own_own ho h.row hne hk e
 have hge : ∀ k, bv.ownBlock = some k → w0.heap.size ≤ k := by
  intro k hk
  rcases h.row.2 with ⟨rfl, _⟩ | ⟨g', cap', cur, rfl, hb, _⟩
  ·cases hk
  ·simp [Value.ownBlock] at hk; omega
 have hb2 : Blk w2 db (defC bb tk dcv bv kn) 209 := h.blk.chg hc (no h.blk (by decide))
 have n1 : db ≠ bb := by rintro rfl; exact absurd (blk_type h.blk h.sys.blk) (by decide)
 have n3 : db ≠ rb := by rintro rfl; exact absurd (blk_type h.blk hrb) (by decide)
 have oth : ∀ {base : Nat} {e : TypeId} {size n : Nat} {v : Value} {xs : List Value}, w2.ownsRow base e size v n xs → 209 ≠ e → (w2.setCell ⟨db, 3, none⟩ v2).ownsRow base e size v n xs := fun ho hne =>
  ownsRow_chg ho ((Chg.refl (fun b => b = db) w2).setCell (p := ⟨db, 3, none⟩) rfl _) (fun k hk e => own_blk ho hb2 hne (by rw [hk, e]))
 refine ⟨⟨(h.sys.blk.chg hc (no h.sys.blk (by decide))).setOther n1 _, oth (ownsRow_chg h.sys.row hc (n2 h.sys.row (by decide))) (by decide), oth (ownsRow_chg h.sys.cod hc (n2 h.sys.cod (by decide))) (by decide), h.sys.up⟩, ?_, oth (ownsRow_chg h.cod hc (n2 h.cod (by decide))) (by decide),
  oth (by simpa using hr) (by decide), ?_, ⟨(hrb.chg hc (no hrb (by decide))).setOther n3 _, (hgb.chg hc (no hgb (by decide))).setOther (blk_ne h.blk hgb (by decide)) _⟩, h.ru, h.tl, h.pre, h.new, h.loc, ?_⟩
 ·have := hb2.set (o := 3) v2; simpa [defC] using this
 ·exact (h.tab.chg hc (fun k e => by have := hge _ e; have := h.tl; omega)).chg ((Chg.refl (fun b => b = db) w2).setCell (p := ⟨db, 3, none⟩) rfl _) (fun k e => by have := h.new; have := h.tl; omega)
 ·exact (h.frm.thru hc (fun k hk e => by have := hge _ e; omega)).thru ((Chg.refl (fun b => b = db) w2).setCell (p := ⟨db, 3, none⟩) rfl _) (fun k hk e => by have := h.new; omega)
set_option maxRecDepth 100000 in
set_option maxHeartbeats 4000000 in
theorem def_open {w0 w : World} {rb bb db : Nat} {rc : RC} {ev bcv dcv bv : Value} {es : List PE} {nv nt : Int} {pc dc : List Int} {tk : Int} {bs : List PB} {c : PB} {kn : Inf}
  (h : DS w0 w rb rc bb db ev bcv dcv bv es nv nt pc dc tk (bs ++ [c]) kn) (b : PB) (hl : bs.length ≤ 100000000) (hd0 : 1 ≤ dc.length) (hd : dc.length ≤ 100000000) :
  Calls Tryz.prog 184 #[.pointer (some ⟨db, 0, none⟩), b.val] w fun e w' => e = .returned (.tuple #[]) ∧ (∃ bv', DS w0 w' rb rc bb db ev bcv dcv bv' es nv nt pc dc tk (bs ++ [c] ++ [b.opened c dc.length]) kn) ∧ Chg (fun k => k = db ∨ bv.ownBlock = some k) w w' := by
 obtain ⟨g, cap, hv, hcap, hge, hg, hfr, hcell⟩ := h.last
 have HI := hidden (fun w' (hb : Below w.heap.size w w') => def_inner (h.below (w' := w') hb) (by omega) g cap hv hcap)
 have d1 : w.cell? ⟨g, bs.length * 17 + 1, none⟩ = some (.bool c.inDo) := hcell 1 _ rfl
 obtain ⟨c0, c1, c2, c3⟩ := h.def
 obtain ⟨ad, cc, hdv, hcc, _⟩ := row_shape h.cod
 have hdl := h.blk.lt
 have hgd : g ≠ db := by
  rintro rfl
  exact own_blk h.row h.blk (by decide) (by rw [hv]; rfl)
 obtain ⟨i0, hi, hz0, hz1, hz2⟩ := info_parts Tryz.infoPB
 subst hv
 have HD := hidden h
 rw [hdv] at c2
 obtain ⟨b0, b1, b2, b3, ⟨b4, b5, b6, b7, b8⟩, ⟨b9, b10, b11, b12, b13⟩, b14, b15, b16⟩ := b
 clear h hcell c0 c1
 by_cases hdo : (b0 == 31) = true
 ·obtain ⟨W, hW⟩ : ∃ W : World, W = w.alloc (.cells #[.int .i64 b0, .bool (true), .int .i64 ((dc.length : Int) - 1), .int .i64 b3, .int .i64 b4, .int .i64 b5, .int .i64 b6, .int .i64 b7, .bool (!b8), .int .i64 b9, .int .i64 b10, .int .i64 b11, .int .i64 b12, .bool (!b13), .int .i64 b14, .int .i64 b15, .int .i64 b16] 244 (0, 0)) := ⟨_, rfl⟩
  obtain ⟨E, hE⟩ : ∃ E, E = w.heap.size := ⟨_, rfl⟩
  obtain ⟨x, hx⟩ : ∃ x, x = true := ⟨_, rfl⟩
  obtain ⟨y, hy⟩ : ∃ y, y = (dc.length : Int) - 1 := ⟨_, rfl⟩
  have hkE : Blk W E #[.int .i64 b0, .bool x, .int .i64 y, .int .i64 b3, .int .i64 b4, .int .i64 b5, .int .i64 b6, .int .i64 b7, .bool (!b8), .int .i64 b9, .int .i64 b10, .int .i64 b11, .int .i64 b12, .bool (!b13), .int .i64 b14, .int .i64 b15, .int .i64 b16] 244 := by rw [hW, hE, hx, hy]; exact blk_new w _ _
  have hbW : Below w.heap.size w W := by rw [hW]; exact (Below.refl _ _).alloc (Nat.le_refl _) _
  have hxx : PB.opened ⟨b0, b1, b2, b3, ⟨b4, b5, b6, b7, b8⟩, ⟨b9, b10, b11, b12, b13⟩, b14, b15, b16⟩ c dc.length = ⟨b0, x, y, b3, ⟨b4, b5, b6, b7, b8⟩, ⟨b9, b10, b11, b12, b13⟩, b14, b15, b16⟩ := by simp [PB.opened, hx, hy, hdo]
  rw [hxx]
  have HKE := hidden hkE; have HBW := hidden hbW
  clear hkE hbW hxx
  simp only [PB.val, PB.cells]
  go_enter Tryz.func184, Tryz.ntmps184
  go_upto_region 3 with fail
  rw [← hW]
  rw [← hE]
  have c3' : W.cell? ⟨db, 3, none⟩ = some (.slice (some ⟨g, 0, none⟩) (bs.length + 1) cap) := (HBW.out.cell (p := ⟨db, 3, none⟩) hdl).trans c3
  have q3 : W.frozen? ⟨db, 3, none⟩ = false := (HBW.out.frozen (p := ⟨db, 3, none⟩) hdl).trans (HD.out.blk.frozen 3)
  have e0 := HKE.out.cell 0 _ rfl; have e1 := HKE.out.cell 1 _ rfl; have e2 := HKE.out.cell 2 _ rfl; have e3 := HKE.out.cell 3 _ rfl; have e4 := HKE.out.cell 4 _ rfl; have e5 := HKE.out.cell 5 _ rfl; have e6 := HKE.out.cell 6 _ rfl; have e7 := HKE.out.cell 7 _ rfl; have e8 := HKE.out.cell 8 _ rfl
  have e9 := HKE.out.cell 9 _ rfl; have e10 := HKE.out.cell 10 _ rfl; have e11 := HKE.out.cell 11 _ rfl; have e12 := HKE.out.cell 12 _ rfl; have e13 := HKE.out.cell 13 _ rfl; have e14 := HKE.out.cell 14 _ rfl; have e15 := HKE.out.cell 15 _ rfl; have e16 := HKE.out.cell 16 _ rfl
  simp only [List.getElem_toArray, List.getElem_cons_succ, List.getElem_cons_zero] at e0 e1 e2 e3 e4 e5 e6 e7 e8 e9 e10 e11 e12 e13 e14 e15 e16
  have hEW : E < W.heap.size := HKE.out.lt
  have hdW : db < W.heap.size := Nat.lt_of_lt_of_le hdl HBW.out.size
  have hEd : E ≠ db := by omega
  have hdE : db ≠ E := by omega
  have hown := hidden (show W.ownsRow w0.heap.size 244 17 (.slice (some ⟨g, 0, none⟩) (bs.length + 1) cap) (bs.length + 1) ((bs ++ [c]).flatMap PB.cells) from by have := (HD.out.below HBW.out).row; rw [List.length_append, List.length_singleton] at this; exact this)
  have hws : w0.heap.size ≤ W.heap.size := Nat.le_trans HD.out.frm.size HBW.out.size
  have hgW : g < W.heap.size := Nat.lt_of_lt_of_le hg HBW.out.size
  have hEg : E ≠ g := by omega
  have hgE : g ≠ E := by omega
  have hdg : db ≠ g := by omega
  have HA := hidden (fun o => (hown.out.alloc o).drew)
  have H1 := hidden (PB.one ⟨b0, x, y, b3, ⟨b4, b5, b6, b7, b8⟩, ⟨b9, b10, b11, b12, b13⟩, b14, b15, b16⟩)
  have HC := hidden (show bs.length + 1 + 1 ≤ maxLen by unfold maxLen; omega)
  have HDD := hidden (show (bs.length + 1 + 1) * 136 ≤ 140737488355328 by omega)
  have HE2 := hidden (fun o => show w0.heap.size ≤ (W.alloc o).drew.heap.size by simp; omega)
  have HH := hidden (fun o => show (W.alloc o).drew.heap.size = W.heap.size + 1 by simp)
  have HNW := hidden (show ∀ j u, ([.int .i64 b0, .bool x, .int .i64 y, .int .i64 b3, .int .i64 b4, .int .i64 b5, .int .i64 b6, .int .i64 b7, .bool (!b8), .int .i64 b9, .int .i64 b10, .int .i64 b11, .int .i64 b12, .bool (!b13), .int .i64 b14, .int .i64 b15, .int .i64 b16] : List Value)[j]? = some u → (W.alloc (.cells #[.int .i64 b0, .bool x, .int .i64 y, .int .i64 b3, .int .i64 b4, .int .i64 b5, .int .i64 b6, .int .i64 b7, .bool (!b8), .int .i64 b9, .int .i64 b10, .int .i64 b11, .int .i64 b12, .bool (!b13), .int .i64 b14, .int .i64 b15, .int .i64 b16] 244 (0, 0))).drew.cell? ((Addr.mk W.heap.size 0 none).add j) = some u from World.news_of_block (fr := (0, 0)) (heap_alloc_new W _))
  have HF := hidden (fun (o : Obj) (w1 : World) (hg : (W.alloc o).drew.grownBy w1 (some g)) => (show w1.frozen? ⟨db, 3, none⟩ = false ∧ w1.cell? ⟨db, 3, none⟩ = some (.slice (some ⟨g, 0, none⟩) (bs.length + 1) cap) from ⟨(hg.frozen_far ⟨db, 3, none⟩ (by simp; omega) (by simp; omega)).trans ((((Below.refl _ W).alloc (Nat.le_refl _) o).drew.frozen (p := ⟨db, 3, none⟩) hdW).trans q3), (hg.cell_far ⟨db, 3, none⟩ (by simp; omega) (by simp; omega)).trans ((((Below.refl _ W).alloc (Nat.le_refl _) o).drew.cell (p := ⟨db, 3, none⟩) hdW).trans c3')⟩))
  clear c2 c3 hW hE hx hy d1 hdv hcc hfr HI
  go_region_law (refine step_append_lies _ (by rfl) _ _ _ (by rfl) w0.heap.size 244 i0 pbz 17 136 Tryz.underlying207 hi hz0 hz1 hz2 rfl (by decide) _ (bs.length + 1) ((bs ++ [c]).flatMap PB.cells) (by rfl) (HA.out _) (Addr.mk W.heap.size 0 none) 1 1 [.int .i64 b0, .bool x, .int .i64 y, .int .i64 b3, .int .i64 b4, .int .i64 b5, .int .i64 b6, .int .i64 b7, .bool (!b8), .int .i64 b9, .int .i64 b10, .int .i64 b11, .int .i64 b12, .bool (!b13), .int .i64 b14, .int .i64 b15, .int .i64 b16] (by rfl) (by rfl) HNW.out H1.out (by decide) HC.out HDD.out (HE2.out _) (W.heap.size + 1) (HH.out _) ?_; intro gg cap1 w1 hown1 hgrow hat hlt; obtain ⟨q4, c4⟩ := HF.out _ _ hgrow)
  all_goals
   go_wp2_with fail
   go_end0
   have hcg : Chg (fun k => (Value.slice (some ⟨g, 0, none⟩) (bs.length + 1) cap).ownBlock = some k) W w1 := ((Chg.refl _ W).alloc _).drew.trans ((Chg.ofGrown hgrow).mono (fun k _ e => e.symm))
   have hps := (HD.out.below HBW.out).push (b := ⟨b0, x, y, b3, ⟨b4, b5, b6, b7, b8⟩, ⟨b9, b10, b11, b12, b13⟩, b14, b15, b16⟩) (by rw [List.length_append, List.length_singleton]; exact hown1) hcg
   exact ⟨rfl, ⟨_, hps⟩, ((Chg.ofBelow HBW.out).trans (hcg.mono (fun k _ e => Or.inr e))).trans ((Chg.refl (fun k => k = db ∨ (Value.slice (some ⟨g, 0, none⟩) (bs.length + 1) cap).ownBlock = some k) w1).setCell (p := ⟨db, 3, none⟩) (Or.inl rfl) _)⟩
 ·have hdo' : (b0 == 31) = false := by simpa using hdo
  obtain ⟨x, hx⟩ : ∃ x, x = c.inDo := ⟨_, rfl⟩
  obtain ⟨y, hy⟩ : ∃ y, y = (dc.length : Int) - 1 := ⟨_, rfl⟩
  have hxx : PB.opened ⟨b0, b1, b2, b3, ⟨b4, b5, b6, b7, b8⟩, ⟨b9, b10, b11, b12, b13⟩, b14, b15, b16⟩ c dc.length = ⟨b0, x, y, b3, ⟨b4, b5, b6, b7, b8⟩, ⟨b9, b10, b11, b12, b13⟩, b14, b15, b16⟩ := by simp [PB.opened, hx, hy, hdo']
  rw [hxx]
  clear hxx
  simp only [PB.val, PB.cells]
  go_enter Tryz.func184, Tryz.ntmps184
  go_wp2_with fail
  have hb0 : Below w.heap.size w (w.alloc (.cells #[.int .i64 b0, .bool (b1), .int .i64 ((dc.length : Int) - 1), .int .i64 b3, .int .i64 b4, .int .i64 b5, .int .i64 b6, .int .i64 b7, .bool (!b8), .int .i64 b9, .int .i64 b10, .int .i64 b11, .int .i64 b12, .bool (!b13), .int .i64 b14, .int .i64 b15, .int .i64 b16] 244 (0, 0))) := (Below.refl _ _).alloc (Nat.le_refl _) _
  have hk0 := blk_new w #[.int .i64 b0, .bool (b1), .int .i64 ((dc.length : Int) - 1), .int .i64 b3, .int .i64 b4, .int .i64 b5, .int .i64 b6, .int .i64 b7, .bool (!b8), .int .i64 b9, .int .i64 b10, .int .i64 b11, .int .i64 b12, .bool (!b13), .int .i64 b14, .int .i64 b15, .int .i64 b16] 244
  refine (HI.out _ hb0).mono ?_
  rintro e wa ⟨rfl, hb1⟩
  have hka := hk0.sub hb1 (by simp)
  have hba : Below w.heap.size w wa := hb0.trans (hb1.mono (by simp))
  obtain ⟨E, hE⟩ : ∃ E, E = w.heap.size := ⟨_, rfl⟩
  have d1a := (hba.cell (p := ⟨g, bs.length * 17 + 1, none⟩) hg).trans d1
  have p1 := hka.cell 1 _ rfl
  have f1 := hka.frozen 1
  simp only [List.getElem_toArray, List.getElem_cons_succ, List.getElem_cons_zero] at p1
  obtain ⟨W, hW⟩ : ∃ W : World, W = wa.setCell ⟨w.heap.size, 1, none⟩ (.bool c.inDo) := ⟨_, rfl⟩
  have hkE : Blk W E #[.int .i64 b0, .bool x, .int .i64 y, .int .i64 b3, .int .i64 b4, .int .i64 b5, .int .i64 b6, .int .i64 b7, .bool (!b8), .int .i64 b9, .int .i64 b10, .int .i64 b11, .int .i64 b12, .bool (!b13), .int .i64 b14, .int .i64 b15, .int .i64 b16] 244 := by rw [hW, hE, hx, hy]; have := hka.set (o := 1) (.bool c.inDo); simpa using this
  have hbW : Below w.heap.size w W := by rw [hW]; exact hba.setCell (by simp [hE]) _
  have HKE := hidden hkE; have HBW := hidden hbW
  clear hkE hbW hb0 hk0 hb1 hka hba
  go_upto_region 3 with fail
  rw [← hW]
  rw [← hE]
  have c3' : W.cell? ⟨db, 3, none⟩ = some (.slice (some ⟨g, 0, none⟩) (bs.length + 1) cap) := (HBW.out.cell (p := ⟨db, 3, none⟩) hdl).trans c3
  have q3 : W.frozen? ⟨db, 3, none⟩ = false := (HBW.out.frozen (p := ⟨db, 3, none⟩) hdl).trans (HD.out.blk.frozen 3)
  have e0 := HKE.out.cell 0 _ rfl; have e1 := HKE.out.cell 1 _ rfl; have e2 := HKE.out.cell 2 _ rfl; have e3 := HKE.out.cell 3 _ rfl; have e4 := HKE.out.cell 4 _ rfl; have e5 := HKE.out.cell 5 _ rfl; have e6 := HKE.out.cell 6 _ rfl; have e7 := HKE.out.cell 7 _ rfl; have e8 := HKE.out.cell 8 _ rfl
  have e9 := HKE.out.cell 9 _ rfl; have e10 := HKE.out.cell 10 _ rfl; have e11 := HKE.out.cell 11 _ rfl; have e12 := HKE.out.cell 12 _ rfl; have e13 := HKE.out.cell 13 _ rfl; have e14 := HKE.out.cell 14 _ rfl; have e15 := HKE.out.cell 15 _ rfl; have e16 := HKE.out.cell 16 _ rfl
  simp only [List.getElem_toArray, List.getElem_cons_succ, List.getElem_cons_zero] at e0 e1 e2 e3 e4 e5 e6 e7 e8 e9 e10 e11 e12 e13 e14 e15 e16
  have hEW : E < W.heap.size := HKE.out.lt
  have hdW : db < W.heap.size := Nat.lt_of_lt_of_le hdl HBW.out.size
  have hEd : E ≠ db := by omega
  have hdE : db ≠ E := by omega
  have hown := hidden (show W.ownsRow w0.heap.size 244 17 (.slice (some ⟨g, 0, none⟩) (bs.length + 1) cap) (bs.length + 1) ((bs ++ [c]).flatMap PB.cells) from by have := (HD.out.below HBW.out).row; rw [List.length_append, List.length_singleton] at this; exact this)
  have hws : w0.heap.size ≤ W.heap.size := Nat.le_trans HD.out.frm.size HBW.out.size
  have hgW : g < W.heap.size := Nat.lt_of_lt_of_le hg HBW.out.size
  have hEg : E ≠ g := by omega
  have hgE : g ≠ E := by omega
  have hdg : db ≠ g := by omega
  have HA := hidden (fun o => (hown.out.alloc o).drew)
  have H1 := hidden (PB.one ⟨b0, x, y, b3, ⟨b4, b5, b6, b7, b8⟩, ⟨b9, b10, b11, b12, b13⟩, b14, b15, b16⟩)
  have HC := hidden (show bs.length + 1 + 1 ≤ maxLen by unfold maxLen; omega)
  have HDD := hidden (show (bs.length + 1 + 1) * 136 ≤ 140737488355328 by omega)
  have HE2 := hidden (fun o => show w0.heap.size ≤ (W.alloc o).drew.heap.size by simp; omega)
  have HH := hidden (fun o => show (W.alloc o).drew.heap.size = W.heap.size + 1 by simp)
  have HNW := hidden (show ∀ j u, ([.int .i64 b0, .bool x, .int .i64 y, .int .i64 b3, .int .i64 b4, .int .i64 b5, .int .i64 b6, .int .i64 b7, .bool (!b8), .int .i64 b9, .int .i64 b10, .int .i64 b11, .int .i64 b12, .bool (!b13), .int .i64 b14, .int .i64 b15, .int .i64 b16] : List Value)[j]? = some u → (W.alloc (.cells #[.int .i64 b0, .bool x, .int .i64 y, .int .i64 b3, .int .i64 b4, .int .i64 b5, .int .i64 b6, .int .i64 b7, .bool (!b8), .int .i64 b9, .int .i64 b10, .int .i64 b11, .int .i64 b12, .bool (!b13), .int .i64 b14, .int .i64 b15, .int .i64 b16] 244 (0, 0))).drew.cell? ((Addr.mk W.heap.size 0 none).add j) = some u from World.news_of_block (fr := (0, 0)) (heap_alloc_new W _))
  have HF := hidden (fun (o : Obj) (w1 : World) (hg : (W.alloc o).drew.grownBy w1 (some g)) => (show w1.frozen? ⟨db, 3, none⟩ = false ∧ w1.cell? ⟨db, 3, none⟩ = some (.slice (some ⟨g, 0, none⟩) (bs.length + 1) cap) from ⟨(hg.frozen_far ⟨db, 3, none⟩ (by simp; omega) (by simp; omega)).trans ((((Below.refl _ W).alloc (Nat.le_refl _) o).drew.frozen (p := ⟨db, 3, none⟩) hdW).trans q3), (hg.cell_far ⟨db, 3, none⟩ (by simp; omega) (by simp; omega)).trans ((((Below.refl _ W).alloc (Nat.le_refl _) o).drew.cell (p := ⟨db, 3, none⟩) hdW).trans c3')⟩))
  clear c2 c3 hW hE hx hy d1 hdv hcc hfr HI d1a p1 f1
  go_region_law (refine step_append_lies _ (by rfl) _ _ _ (by rfl) w0.heap.size 244 i0 pbz 17 136 Tryz.underlying207 hi hz0 hz1 hz2 rfl (by decide) _ (bs.length + 1) ((bs ++ [c]).flatMap PB.cells) (by rfl) (HA.out _) (Addr.mk W.heap.size 0 none) 1 1 [.int .i64 b0, .bool x, .int .i64 y, .int .i64 b3, .int .i64 b4, .int .i64 b5, .int .i64 b6, .int .i64 b7, .bool (!b8), .int .i64 b9, .int .i64 b10, .int .i64 b11, .int .i64 b12, .bool (!b13), .int .i64 b14, .int .i64 b15, .int .i64 b16] (by rfl) (by rfl) HNW.out H1.out (by decide) HC.out HDD.out (HE2.out _) (W.heap.size + 1) (HH.out _) ?_; intro gg cap1 w1 hown1 hgrow hat hlt; obtain ⟨q4, c4⟩ := HF.out _ _ hgrow)
  all_goals
   go_wp2_with fail
   go_end0
   have hcg : Chg (fun k => (Value.slice (some ⟨g, 0, none⟩) (bs.length + 1) cap).ownBlock = some k) W w1 := ((Chg.refl _ W).alloc _).drew.trans ((Chg.ofGrown hgrow).mono (fun k _ e => e.symm))
   have hps := (HD.out.below HBW.out).push (b := ⟨b0, x, y, b3, ⟨b4, b5, b6, b7, b8⟩, ⟨b9, b10, b11, b12, b13⟩, b14, b15, b16⟩) (by rw [List.length_append, List.length_singleton]; exact hown1) hcg
   exact ⟨rfl, ⟨_, hps⟩, ((Chg.ofBelow HBW.out).trans (hcg.mono (fun k _ e => Or.inr e))).trans ((Chg.refl (fun k => k = db ∨ (Value.slice (some ⟨g, 0, none⟩) (bs.length + 1) cap).ownBlock = some k) w1).setCell (p := ⟨db, 3, none⟩) (Or.inl rfl) _)⟩
end Go.Proofs.YtcphhbofjkenaaaGreatDoor
