/- The program: a name that may be; the book's new thing; a definition begun. -/
import Derived.Deep.AppendLies
import Derived.Deep.DeepCutAuto
import Derived.Deep.RegionLaw
import Derived.StillTailTactics
import Derived.Test.YtcphhbofjkenaaaGreatDoorM00
import Derived.Test.YtcphhbofjkenaaaGreatDoorM24
import Derived.Test.YtcphhbofjkenaaaGreatDoorM25
import Derived.Test.YtcphhbofjkenaaaGreatDoorM32

namespace Go.Proofs.YtcphhbofjkenaaaGreatDoor
open Go Go.RowKit
set_option linter.unusedVariables false
set_option linter.unusedSimpArgs false

def refP (es : List PE) (s : ByteArray) : Int := if nameP s = true then (if es.length = 40 then 8 else 0) else 4

set_option maxHeartbeats 2000000 in
theorem book_refuse {w : World} {bb : Nat} {ev cv : Value} {es : List PE} {nv nt : Int} {code : List Int} (s : ByteArray) (at' : Int) (h : PSys w bb ev cv es nv nt code) (ht : Tab w) (hs : s.size ≤ 100000000) (hl : es.length ≤ 1000) :
    Calls Tryz.prog 121 #[.pointer (some ⟨bb, 0, none⟩), .agg #[.string s, .int .i64 at']] w fun e w' => e = .returned (.int .i64 (refP es s)) ∧ Below w.heap.size w w' := by
  obtain ⟨R, hR⟩ : ∃ R, R = refP es s := ⟨_, rfl⟩
  rw [← hR]
  have HN := hidden (tok_name s (w.alloc (.cells #[.string s, .int .i64 at'] 163 (0, 0))) hs (ht.below ((Below.refl _ _).alloc (Nat.le_refl _) _)))
  unfold refP at hR
  obtain ⟨q, hq⟩ : ∃ q, q = nameP s := ⟨_, rfl⟩
  rw [← hq] at hR HN
  have c0 : w.cell? ⟨bb, 0, none⟩ = some ev := h.blk.cell 0 _ rfl
  have hlt := h.blk.lt
  obtain ⟨ad, cap, rfl, hcap, _⟩ := row_shape h.row
  clear h ht hs hq
  cases q
  · simp only [Bool.false_eq_true, if_false] at hR
    subst hR
    go_enter Tryz.func121, Tryz.ntmps121
    go_wp2_with fail
    refine HN.out.mono ?_
    rintro e w1 ⟨rfl, hb1⟩
    have HB := hidden (((Below.refl w.heap.size w).alloc (Nat.le_refl _) _).trans (hb1.mono (by simp)))
    clear hb1 HN
    go_wp2_with fail
    go_ret
    exact ⟨rfl, HB.out⟩
  · simp only [if_true] at hR
    by_cases h40 : es.length = 40
    · rw [if_pos h40] at hR
      subst hR
      rw [h40] at c0
      clear hcap hl h40
      go_enter Tryz.func121, Tryz.ntmps121
      go_wp2_with fail
      refine HN.out.mono ?_
      rintro e w1 ⟨rfl, hb1⟩
      have hb : Below w.heap.size w w1 := (((Below.refl w.heap.size w).alloc (Nat.le_refl _) _).trans (hb1.mono (by simp)))
      have d0 := (hb.cell (p := ⟨bb, 0, none⟩) hlt).trans c0
      have HB := hidden hb
      clear hb1 HN hb c0
      go_wp2_with fail
      go_ret
      exact ⟨rfl, HB.out⟩
    · rw [if_neg h40] at hR
      subst hR
      obtain ⟨m, hm⟩ : ∃ m : Int, m = (es.length : Int) := ⟨_, rfl⟩
      have hm40 : ((es.length : Int) == 40) = false := by rw [beq_eq_false_iff_ne]; omega
      clear hm
      go_enter Tryz.func121, Tryz.ntmps121
      go_wp2_with fail
      refine HN.out.mono ?_
      rintro e w1 ⟨rfl, hb1⟩
      have hb : Below w.heap.size w w1 := (((Below.refl w.heap.size w).alloc (Nat.le_refl _) _).trans (hb1.mono (by simp)))
      have d0 := (hb.cell (p := ⟨bb, 0, none⟩) hlt).trans c0
      have HB := hidden hb
      clear hb1 HN hb c0
      go_wp2_with fail
      go_ret
      exact ⟨rfl, HB.out⟩

set_option maxHeartbeats 2000000 in
theorem def_ended {w0 w : World} {rb bb db : Nat} {rc : RC} {ev bcv dcv bv : Value} {es : List PE} {nv nt : Int} {pc dc : List Int} {tk : Int} {bs : List PB} {kn : Inf}
    (h : DS w0 w rb rc bb db ev bcv dcv bv es nv nt pc dc tk bs kn) (q : Bool) (hq : q = (bs.length == 0)) (hl : bs.length ≤ 100000000) :
    Calls Tryz.prog 124 #[.pointer (some ⟨db, 0, none⟩)] w fun e w' => e = .returned (.bool q) ∧ w' = w := by
  obtain ⟨c0, c1, c2, c3⟩ := h.def
  obtain ⟨ad, cap, rfl, hcap, _⟩ := row_shape h.row
  have hb : ((bs.length : Int) == 0) = q := by rw [hq, Bool.eq_iff_iff, beq_iff_eq, beq_iff_eq]; omega
  clear h c0 c1 c2 hq
  go_enter Tryz.func124, Tryz.ntmps124
  go_wp2_with fail
  go_ret
  exact ⟨rfl, rfl⟩

/-- The block that is a definition's own. -/
def PB.first : PB := { PB.zero with opener := 34 }

set_option maxHeartbeats 2000000 in
theorem book_define {w0 w : World} {rb bb : Nat} {rc : RC} {ev cv : Value} {es : List PE} {nv nt : Int} {code : List Int} (h : PSys w bb ev cv es nv nt code) (ht : Tab w) (hr : Rdg w rb rc) (hru : 3 ≤ rb) (htl : 3 ≤ w0.heap.size)
    (hf : Chg (fun b => b = rb ∨ cv.ownBlock = some b) w0 w) :
    Calls Tryz.prog 123 #[.pointer (some ⟨bb, 0, none⟩)] w fun e w' => ∃ db bv, e = .returned (.pointer (some ⟨db, 0, none⟩)) ∧ DS w0 w' rb rc bb db ev cv cv bv es nv nt code code 2 [PB.first] Inf.zero ∧ Below w.heap.size w w' := by
  have c3 : w.cell? ⟨bb, 3, none⟩ = some cv := h.blk.cell 3 _ rfl
  obtain ⟨ad, cap, hcv, hcap, _⟩ := row_shape h.cod
  have hlt := h.blk.lt
  have HP := hidden h; have HT := hidden ht; have HR := hidden hr; have HRU := hidden hru; have HTL := hidden htl; have HF := hidden hf
  rw [hcv] at c3
  clear h ht hr hru htl hf
  go_enter Tryz.func123, Tryz.ntmps123
  go_wp2_with fail
  go_ret
  have hB : Below w.heap.size w ((w.alloc (.cells PB.first.cells.toArray 244 (0, 0))).alloc (.cells (defC bb 2 (.slice ad code.length cap) (.slice (some ⟨w.heap.size, 0, none⟩) 1 1) Inf.zero) 209 (0, 0))) := ((Below.refl _ _).alloc (Nat.le_refl _) _).alloc (by simp) _
  refine ⟨w.heap.size + 1, .slice (some ⟨w.heap.size, 0, none⟩) 1 1, rfl, ?_, hB⟩
  show DS w0 ((w.alloc (.cells PB.first.cells.toArray 244 (0, 0))).alloc (.cells (defC bb 2 (.slice ad code.length cap) (.slice (some ⟨w.heap.size, 0, none⟩) 1 1) Inf.zero) 209 (0, 0))) rb rc bb (w.heap.size + 1) ev cv cv (.slice (some ⟨w.heap.size, 0, none⟩) 1 1) es nv nt code code 2 [PB.first] Inf.zero
  have hrb := HR.out.1
  have hgb := HR.out.2
  refine ⟨HP.out.below hB, ?_, ownsRow_chg HP.out.cod (Chg.ofBelow (S := fun _ => False) hB) (fun _ _ => id), ?_, HT.out.below hB, ⟨(hB.block rb hrb.lt).trans hrb, (hB.block _ hgb.lt).trans hgb⟩, HRU.out, HTL.out, ⟨[], by simp⟩, ?_, Or.inl rfl, HF.out.trans (Chg.ofBelow hB)⟩
  · rw [hcv]
    have := blk_new (w.alloc (.cells PB.first.cells.toArray 244 (0, 0))) (defC bb 2 (.slice ad code.length cap) (.slice (some ⟨w.heap.size, 0, none⟩) 1 1) Inf.zero) 209
    simpa using this
  · refine ⟨by simp [PB.cells], Or.inr ⟨w.heap.size, 1, PB.first.cells.toArray, rfl, HF.out.size, (Blk.alloc (blk_new w PB.first.cells.toArray 244) _), Nat.le_refl _, by simp [maxLen], by simp [PB.cells], by simp [PB.cells]⟩⟩
  · have := HF.out.size; omega

end Go.Proofs.YtcphhbofjkenaaaGreatDoor

/- The program: one thing more in the book. -/
namespace Go.Proofs.YtcphhbofjkenaaaGreatDoor
open Go Go.RowKit
set_option linter.unusedVariables false
set_option linter.unusedSimpArgs false

def pez : Value := .agg #[.string ⟨#[]⟩, .bool false, .int .i64 0, .int .i64 0, .int .i64 0, .int .i64 0, .int .i64 0, .bool false]
theorem Tryz.infoPE : (Tryz.prog.info? 153).map (fun i => (i.zero, i.size, i.bytes)) = some (some pez, 8, 72) := by kernel_rfl
theorem PE.one (b : PE) : ∀ u ∈ b.cells, u.oneCell' = true := by
  intro u hu
  simp only [PE.cells, List.mem_cons, List.not_mem_nil, or_false] at hu
  rcases hu with rfl | rfl | rfl | rfl | rfl | rfl | rfl | rfl <;> rfl

/-- A row that lies where it lay, or anew. -/
def Lc (w : World) (v v' : Value) : Prop := ∀ k, v'.ownBlock = some k → v.ownBlock = some k ∨ w.heap.size ≤ k
theorem Lc.refl (w : World) (v : Value) : Lc w v v := fun k h => Or.inl h
theorem Lc.mono {w0 w : World} {v v' : Value} (h : Lc w v v') (hs : w0.heap.size ≤ w.heap.size) : Lc w0 v v' := fun k hk => (h k hk).imp id (fun e => Nat.le_trans hs e)
theorem Lc.trans {w : World} {v v' v2 : Value} (h : Lc w v v') (h2 : Lc w v' v2) : Lc w v v2 := fun k hk => (h2 k hk).elim (fun e => h k e) Or.inr

/-- The book with a thing more. -/
theorem PSys.push {w w2 : World} {bb : Nat} {ev cv v2 : Value} {es : List PE} {nv nt : Int} {code : List Int} {e : PE} (h : PSys w bb ev cv es nv nt code)
    (hr : w2.ownsRow 3 153 8 v2 (es.length + 1) (es.flatMap PE.cells ++ e.cells)) (hc : Chg (fun k => ev.ownBlock = some k) w w2) : PSys (w2.setCell ⟨bb, 0, none⟩ v2) bb v2 cv (es ++ [e]) nv nt code := by
  have hb2 : Blk w2 bb #[ev, .int .i64 nv, .int .i64 nt, cv] 122 := h.blk.chg hc (own_blk h.row h.blk (by decide))
  have oth : ∀ {base : Nat} {e : TypeId} {size n : Nat} {v : Value} {xs : List Value}, w2.ownsRow base e size v n xs → 122 ≠ e → (w2.setCell ⟨bb, 0, none⟩ v2).ownsRow base e size v n xs := fun ho hne =>
    ownsRow_chg ho ((Chg.refl (fun b => b = bb) w2).setCell (p := ⟨bb, 0, none⟩) rfl _) (fun k hk e => own_blk ho hb2 hne (by rw [hk, e]))
  refine ⟨?_, oth (by simpa using hr) (by decide), oth (ownsRow_chg h.cod hc (fun k hk e => own_own h.cod h.row (by decide) hk e)) (by decide), h.up⟩
  have := hb2.set (o := 0) v2
  simpa using this

theorem strs_clone (s : ByteArray) (w : World) (hs : s.size ≤ 100000000) : Calls Tryz.prog 155 #[.string s] w fun e w' => e = .returned (.string s) ∧ Below w.heap.size w w' := by
  have H := hidden (Tryz.stringslite_Clone s w (by omega))
  clear hs
  go_enter Tryz.func155, Tryz.ntmps155
  go_wp2_with fail
  refine H.out.mono ?_
  rintro e w1 ⟨rfl, hb⟩
  have HB := hidden hb
  clear hb H
  go_wp2_with fail
  go_ret
  exact ⟨rfl, HB.out⟩

set_option maxRecDepth 100000 in
set_option maxHeartbeats 4000000 in
theorem book_keep {w : World} {bb : Nat} {ev cv : Value} {es : List PE} {nv nt : Int} {code : List Int} (x : PE) (h : PSys w bb ev cv es nv nt code) (ht : Tab w) (hs : x.name.size ≤ 100000000) (hl : es.length ≤ 1000) :
    Calls Tryz.prog 122 #[.pointer (some ⟨bb, 0, none⟩), x.val] w fun e w' => e = .returned (.tuple #[]) ∧ (∃ ev', PSys w' bb ev' cv (es ++ [x]) nv nt code ∧ Lc w ev ev') ∧ Chg (fun k => k = bb ∨ ev.ownBlock = some k) w w' := by
  obtain ⟨b0, b1, b2, b3, b4, b5, b6, b7⟩ := x
  have c0 : w.cell? ⟨bb, 0, none⟩ = some ev := h.blk.cell 0 _ rfl
  have hlt := h.blk.lt
  have hne := own_blk h.row h.blk (by decide)
  obtain ⟨ad, cap, hev, hcap, _⟩ := row_shape h.row
  obtain ⟨i0, hi, hz0, hz1, hz2⟩ := info_parts Tryz.infoPE
  have HP := hidden h; have HT := hidden ht; have HN := hidden hne
  have HC := hidden (fun w' => strs_clone b0 w' hs)
  subst hev
  clear h ht hs hne
  simp only [PE.val]
  go_enter Tryz.func122, Tryz.ntmps122
  go_wp2_with fail
  have hb0 : Below w.heap.size w (w.alloc (.cells #[.string b0, .bool b1, .int .i64 b2, .int .i64 b3, .int .i64 b4, .int .i64 b5, .int .i64 b6, .bool (!b7)] 153 (0, 0))) := (Below.refl _ _).alloc (Nat.le_refl _) _
  have hk0 := blk_new w #[.string b0, .bool b1, .int .i64 b2, .int .i64 b3, .int .i64 b4, .int .i64 b5, .int .i64 b6, .bool (!b7)] 153
  refine (HC.out _).mono ?_
  rintro e wa ⟨rfl, hb1⟩
  have hka := hk0.sub hb1 (by simp)
  have hba : Below w.heap.size w wa := hb0.trans (hb1.mono (by simp))
  obtain ⟨E, hE⟩ : ∃ E, E = w.heap.size := ⟨_, rfl⟩
  have p0 := hka.cell 0 _ rfl
  have f0 := hka.frozen 0
  simp only [List.getElem_toArray, List.getElem_cons_succ, List.getElem_cons_zero] at p0
  obtain ⟨W, hW⟩ : ∃ W : World, W = wa.setCell ⟨w.heap.size, 0, none⟩ (.string b0) := ⟨_, rfl⟩
  have hkE : Blk W E #[.string b0, .bool b1, .int .i64 b2, .int .i64 b3, .int .i64 b4, .int .i64 b5, .int .i64 b6, .bool (!b7)] 153 := by rw [hW, hE]; have := hka.set (o := 0) (.string b0); simpa using this
  have hbW : Below w.heap.size w W := by rw [hW]; exact hba.setCell (by simp) _
  have HKE := hidden hkE; have HBW := hidden hbW
  clear hkE hbW hb0 hk0 hb1 hka hba HC
  go_upto_region 2 with fail
  rw [← hW]
  rw [← hE]
  have c0' : W.cell? ⟨bb, 0, none⟩ = some (.slice ad es.length cap) := (HBW.out.cell (p := ⟨bb, 0, none⟩) hlt).trans c0
  have q0 : W.frozen? ⟨bb, 0, none⟩ = false := (HBW.out.frozen (p := ⟨bb, 0, none⟩) hlt).trans (HP.out.blk.frozen 0)
  have e0 := HKE.out.cell 0 _ rfl; have e1 := HKE.out.cell 1 _ rfl; have e2 := HKE.out.cell 2 _ rfl; have e3 := HKE.out.cell 3 _ rfl; have e4 := HKE.out.cell 4 _ rfl; have e5 := HKE.out.cell 5 _ rfl; have e6 := HKE.out.cell 6 _ rfl; have e7 := HKE.out.cell 7 _ rfl
  simp only [List.getElem_toArray, List.getElem_cons_succ, List.getElem_cons_zero] at e0 e1 e2 e3 e4 e5 e6 e7
  have hEW : E < W.heap.size := HKE.out.lt
  have hdW : bb < W.heap.size := Nat.lt_of_lt_of_le hlt HBW.out.size
  have hEd : E ≠ bb := by omega
  have hdE : bb ≠ E := by omega
  have hown := hidden (HP.out.below HBW.out).row
  have HA := hidden (fun o => (hown.out.alloc o).drew)
  have H1 := hidden (PE.one ⟨b0, b1, b2, b3, b4, b5, b6, b7⟩)
  have HC := hidden (show es.length + 1 ≤ maxLen by unfold maxLen; omega)
  have HDD := hidden (show (es.length + 1) * 72 ≤ 140737488355328 by omega)
  have HE2 := hidden (fun o => show 3 ≤ (W.alloc o).drew.heap.size by have := HT.out.lt; have := HBW.out.size; simp; omega)
  have HH := hidden (fun o => show (W.alloc o).drew.heap.size = W.heap.size + 1 by simp)
  have HNW := hidden (show ∀ j u, ([.string b0, .bool b1, .int .i64 b2, .int .i64 b3, .int .i64 b4, .int .i64 b5, .int .i64 b6, .bool (!b7)] : List Value)[j]? = some u → (W.alloc (.cells #[.string b0, .bool b1, .int .i64 b2, .int .i64 b3, .int .i64 b4, .int .i64 b5, .int .i64 b6, .bool (!b7)] 153 (0, 0))).drew.cell? ((Addr.mk W.heap.size 0 none).add j) = some u from World.news_of_block (fr := (0, 0)) (heap_alloc_new W _))
  have HF := hidden (fun (o : Obj) (w1 : World) (hg : (W.alloc o).drew.grownBy w1 (Value.slice ad es.length cap).ownBlock) => (show w1.frozen? ⟨bb, 0, none⟩ = false ∧ w1.cell? ⟨bb, 0, none⟩ = some (.slice ad es.length cap) from ⟨(hg.frozen_far ⟨bb, 0, none⟩ (by simp; omega) (fun e => HN.out e.symm)).trans ((((Below.refl _ W).alloc (Nat.le_refl _) o).drew.frozen (p := ⟨bb, 0, none⟩) hdW).trans q0), (hg.cell_far ⟨bb, 0, none⟩ (by simp; omega) (fun e => HN.out e.symm)).trans ((((Below.refl _ W).alloc (Nat.le_refl _) o).drew.cell (p := ⟨bb, 0, none⟩) hdW).trans c0')⟩))
  clear c0 hW hE p0 f0
  go_region_law (refine step_append_lies _ (by rfl) _ _ _ (by rfl) 3 153 i0 pez 8 72 Tryz.underlying120 hi hz0 hz1 hz2 rfl (by decide) _ es.length (es.flatMap PE.cells) (by rfl) (HA.out _) (Addr.mk W.heap.size 0 none) 1 1 [.string b0, .bool b1, .int .i64 b2, .int .i64 b3, .int .i64 b4, .int .i64 b5, .int .i64 b6, .bool (!b7)] (by rfl) (by rfl) HNW.out H1.out (by decide) HC.out HDD.out (HE2.out _) (W.heap.size + 1) (HH.out _) ?_; intro gg cap1 w1 hown1 hgrow hat hlt1; obtain ⟨q4, c4⟩ := HF.out _ _ hgrow)
  all_goals
    go_wp2_with fail
    go_end0
    have hcg : Chg (fun k => (Value.slice ad es.length cap).ownBlock = some k) W w1 := ((Chg.refl _ W).alloc _).drew.trans ((Chg.ofGrown hgrow).mono (fun k _ e => e.symm))
    have hps := (HP.out.below HBW.out).push (e := ⟨b0, b1, b2, b3, b4, b5, b6, b7⟩) hown1 hcg
    exact ⟨rfl, ⟨_, hps, fun k hk => by simp only [Value.ownBlock, Option.some.injEq] at hk; subst hk; exact hat.imp id (fun e => by rw [e]; have := HBW.out.size; omega)⟩, ((Chg.ofBelow HBW.out).trans (hcg.mono (fun k _ e => Or.inr e))).trans ((Chg.refl (fun k => k = bb ∨ (Value.slice ad es.length cap).ownBlock = some k) w1).setCell (p := ⟨bb, 0, none⟩) (Or.inl rfl) _)⟩

end Go.Proofs.YtcphhbofjkenaaaGreatDoor

/- The program: a variable's definition. -/
namespace Go.Proofs.YtcphhbofjkenaaaGreatDoor
open Go Go.RowKit
set_option linter.unusedVariables false
set_option linter.unusedSimpArgs false

/-- The book and a reader. -/
structure BS (w : World) (bb rb : Nat) (ev cv : Value) (es : List PE) (nv nt : Int) (code : List Int) (s : ByteArray) (a : Nat) : Prop where
  sys : PSys w bb ev cv es nv nt code
  tab : Tab w
  rd : Blk w rb (rdC s a) 199
  ru : 3 ≤ rb

abbrev nx (s : ByteArray) (a : Nat) : ByteArray × Nat × Nat := nextF s (s.size - a) a

theorem nextF_le (s : ByteArray) : ∀ (f a : Nat), a ≤ s.size → (nextF s f a).2.1 ≤ s.size ∧ a ≤ (nextF s f a).2.2 ∧ (nextF s f a).2.2 ≤ s.size ∧ (nextF s f a).1.size ≤ s.size
  | 0, a, h => by
    obtain ⟨h1, h2, h3⟩ := cut_le s a h
    rw [nextF]
    refine ⟨by simp only; omega, by simp only; omega, h3, ?_⟩
    simp only [ByteArray.size_extract]; omega
  | f + 1, a, h => by
    obtain ⟨h1, h2, h3⟩ := cut_le s a h
    rw [nextF]
    split
    · have hsp := scan_spec eol s (cutE s a) h3
      obtain ⟨i1, i2, i3, i4⟩ := nextF_le s f (scan eol s (cutE s a)) hsp.2.1
      exact ⟨i1, by omega, i3, i4⟩
    · refine ⟨by simp only; omega, by simp only; omega, h3, ?_⟩
      simp only [ByteArray.size_extract]; omega

theorem BS.next {w w' : World} {bb rb : Nat} {ev cv : Value} {es : List PE} {nv nt : Int} {code : List Int} {s : ByteArray} {a a' : Nat} (h : BS w bb rb ev cv es nv nt code s a) (hb : Blk w' rb (rdC s a') 199) (hc : Chg (fun k => k = rb) w w') : BS w' bb rb ev cv es nv nt code s a' := by
  have n1 : bb ≠ rb := by rintro rfl; exact absurd (blk_type h.sys.blk h.rd) (by decide)
  have no : ∀ {base : Nat} {e : TypeId} {size n : Nat} {v : Value} {xs : List Value}, w.ownsRow base e size v n xs → 199 ≠ e → ∀ k, v.ownBlock = some k → ¬ k = rb := fun ho hne k hk e => own_blk ho h.rd hne (by rw [hk, e])
  exact ⟨h.sys.chg hc n1 (no h.sys.row (by decide)) (no h.sys.cod (by decide)), h.tab.chg hc (fun k e => by have := h.ru; omega), hb, h.ru⟩
theorem BS.below {w w' : World} {bb rb : Nat} {ev cv : Value} {es : List PE} {nv nt : Int} {code : List Int} {s : ByteArray} {a : Nat} (h : BS w bb rb ev cv es nv nt code s a) (hb : Below w.heap.size w w') : BS w' bb rb ev cv es nv nt code s a :=
  h.next ((hb.block rb h.rd.lt).trans h.rd) (Chg.ofBelow hb)

theorem own_ge {w : World} {base : Nat} {e : TypeId} {size n k : Nat} {v : Value} {xs : List Value} (h : w.ownsRow base e size v n xs) (hk : v.ownBlock = some k) : base ≤ k := by
  rcases h.2 with ⟨rfl, _⟩ | ⟨g, cap, cur, rfl, hb, _⟩
  · cases hk
  · simp [Value.ownBlock] at hk; omega

theorem PSys.setVar {w : World} {bb : Nat} {ev cv : Value} {es : List PE} {nv nt : Int} {code : List Int} (h : PSys w bb ev cv es nv nt code) (x : Int) : PSys (w.setCell ⟨bb, 1, none⟩ (.int .i64 x)) bb ev cv es x nt code := by
  have hc : Chg (fun b => b = bb) w (w.setCell ⟨bb, 1, none⟩ (.int .i64 x)) := (Chg.refl (fun b => b = bb) w).setCell (p := ⟨bb, 1, none⟩) rfl _
  have no : ∀ {base : Nat} {e : TypeId} {size n : Nat} {v : Value} {xs : List Value}, w.ownsRow base e size v n xs → 122 ≠ e → ∀ k, v.ownBlock = some k → ¬ k = bb := fun ho hne k hk e => own_blk ho h.blk hne (by rw [hk, e])
  refine ⟨?_, ownsRow_chg h.row hc (no h.row (by decide)), ownsRow_chg h.cod hc (no h.cod (by decide)), h.up⟩
  have := h.blk.set (o := 1) (.int .i64 x)
  simpa using this

/-- What a variable's definition gives: error, place; the things, how many variables. -/
def varP (es : List PE) (nv : Int) (s : ByteArray) (a : Nat) : (Int × Int) × List PE × Int :=
  if refP es (nx s a).1 = 0 then
    if nv = 16 then ((8, ((nx s a).2.1 : Int)), es, nv)
    else ((0, 0), es ++ [⟨(nx s a).1, true, nv, Inf.zero⟩], nv + 1)
  else ((refP es (nx s a).1, ((nx s a).2.1 : Int)), es, nv)

def VarPost (w : World) (bb rb : Nat) (ev cv : Value) (nt : Int) (code : List Int) (s : ByteArray) (a : Nat) (R : (Int × Int) × List PE × Int) (e : Ending) (w' : World) : Prop :=
  e = .returned (.tuple #[.int .i64 R.1.1, .int .i64 R.1.2]) ∧ (∃ ev', BS w' bb rb ev' cv R.2.1 R.2.2 nt code s (nx s a).2.2 ∧ Lc w ev ev') ∧ Chg (fun k => k = rb ∨ k = bb ∨ ev.ownBlock = some k) w w'

set_option maxRecDepth 100000 in
set_option maxHeartbeats 4000000 in
theorem book_loadVariable {w : World} {bb rb : Nat} {ev cv : Value} {es : List PE} {nv nt : Int} {code : List Int} {s : ByteArray} {a : Nat} (h : BS w bb rb ev cv es nv nt code s a) (ha : a ≤ s.size) (hs : s.size ≤ 100000000) (hl : es.length ≤ 1000) (hn0 : 0 ≤ nv) (hn1 : nv ≤ 16) :
    Calls Tryz.prog 79 #[.pointer (some ⟨bb, 0, none⟩), .pointer (some ⟨rb, 0, none⟩)] w (VarPost w bb rb ev cv nt code s a (varP es nv s a)) := by
  obtain ⟨R, hR⟩ : ∃ R, R = varP es nv s a := ⟨_, rfl⟩
  rw [← hR]
  obtain ⟨n1, n2, n3, n4⟩ := nextF_le s (s.size - a) a ha
  have H1 := hidden (rd_next rb s a w ha hs h.rd)
  unfold varP at hR
  unfold nx at hR
  obtain ⟨x, hx⟩ : ∃ x, x = nextF s (s.size - a) a := ⟨_, rfl⟩
  rw [← hx] at H1 hR n1 n2 n3 n4
  have hnx : nx s a = x := hx.symm
  unfold VarPost
  rw [hnx]
  obtain ⟨t, pl, a'⟩ := x
  simp only at H1 hR n1 n2 n3 n4 ⊢
  have HB := hidden h
  clear h hx hnx
  go_enter Tryz.func79, Tryz.ntmps79
  go_wp2_with fail
  refine H1.out.mono ?_
  rintro e w1 ⟨rfl, hb1, hc1⟩
  have hbs1 := HB.out.next hb1 hc1
  have hbs2 := hbs1.below ((Below.refl _ _).alloc (Nat.le_refl _) (.cells #[.string t, .int .i64 pl] 163 (0, 0)))
  have hk2 := blk_new w1 #[.string t, .int .i64 pl] 163
  have H2 := hidden (book_refuse t pl hbs2.sys hbs2.tab (by omega) hl)
  have HB2 := hidden hbs2; have HK2 := hidden hk2
  have HC2 := hidden ((hc1.mono (fun k _ e => Or.inl e) : Chg (fun k => k = rb ∨ k = bb ∨ ev.ownBlock = some k) w w1).alloc (.cells #[.string t, .int .i64 pl] 163 (0, 0)))
  have hsz : (w1.alloc (.cells #[.string t, .int .i64 pl] 163 (0, 0))).heap.size = w1.heap.size + 1 := by simp
  clear H1 hb1 hc1 hbs1 hbs2 hk2
  go_wp2_with fail
  refine H2.out.mono ?_
  rintro e w2 ⟨rfl, hb2⟩
  have hbs := HB2.out.below hb2
  have hk := HK2.out.sub hb2 (by rw [hsz]; omega)
  have p0 : w2.cell? ⟨w1.heap.size, 0, none⟩ = some (.string t) := hk.cell 0 _ rfl
  have p1 : w2.cell? ⟨w1.heap.size, 1, none⟩ = some (.int .i64 pl) := hk.cell 1 _ rfl
  have v1 : w2.cell? ⟨bb, 1, none⟩ = some (.int .i64 nv) := hbs.sys.blk.cell 1 _ rfl
  obtain ⟨f, hf⟩ : ∃ f, f = refP es t := ⟨_, rfl⟩
  rw [← hf] at hR ⊢
  have HBS := hidden hbs
  have HC := hidden (HC2.out.trans (Chg.ofBelow hb2))
  have hkl := hk.lt
  clear H2 hb2 hbs hk HB2 HK2 HC2 hsz hf HB
  by_cases h0 : f = 0
  · rw [if_pos h0] at hR
    subst h0
    by_cases h16 : nv = 16
    · rw [if_pos h16] at hR
      subst h16
      subst hR
      go_wp2_with fail
      go_quiet (fail)
      go_wp2_with fail
      refine bodyPost_ret (v := .tuple #[.int .i64 8, .int .i64 pl]) (by simp [results, Tryz.results79, go_sem]) rfl ⟨rfl, ⟨_, HBS.out.below (show Below w2.heap.size w2 (w2.drewN nq) from ⟨rfl, rfl, rfl, Nat.le_refl _, fun _ _ => rfl⟩), Lc.refl _ _⟩, HC.out.trans (Chg.ofBelow (show Below w2.heap.size w2 (w2.drewN nq) from ⟨rfl, rfl, rfl, Nat.le_refl _, fun _ _ => rfl⟩))⟩
    · rw [if_neg h16] at hR
      subst hR
      have h16' : (nv == 16) = false := by simpa using h16
      clear h16
      go_wp2_with fail
      go_still_tail 8, (by kernel_rfl)
      go_wp2_with fail
      have hbd := HBS.out.below (show Below w2.heap.size w2 w2.drew from (Below.refl _ _).drew)
      refine (book_keep ⟨t, true, nv, Inf.zero⟩ hbd.sys hbd.tab (by simp only; omega) hl).mono ?_
      rintro e w3 ⟨rfl, ⟨ev', hp3, hlc⟩, hc3⟩
      have HLC := hidden (hlc.mono (w0 := w) HC.out.size)
      have hn : rb ≠ bb := by intro e; rw [e] at hbd; exact absurd (blk_type hbd.sys.blk hbd.rd) (by decide)
      have hre : ev.ownBlock ≠ some rb := own_blk hbd.sys.row hbd.rd (by decide)
      have hrd3 := hbd.rd.chg hc3 (fun e => e.elim (fun e => hn e) (fun e => hre e))
      have htab3 := hbd.tab.chg hc3 (fun k e => e.elim (fun e => by rw [e]; exact hbd.sys.up) (fun e => own_ge hbd.sys.row e))
      have x1 : w3.cell? ⟨bb, 1, none⟩ = some (.int .i64 nv) := hp3.blk.cell 1 _ rfl
      have fx1 := hp3.blk.frozen 1
      have hset := hp3.setVar (nv + 1)
      have hrs := hrd3.setOther (a := ⟨bb, 1, none⟩) (fun e => hn e.symm) (.int .i64 (nv + 1))
      have hts := htab3.chg ((Chg.refl (fun k => k = bb) w3).setCell (p := ⟨bb, 1, none⟩) rfl (.int .i64 (nv + 1))) (fun k e => by rw [e]; exact hp3.up)
      have HSET := hidden (BS.mk hset hts hrs hbd.ru)
      have HCC := hidden (((HC.out.trans (Chg.ofBelow (show Below w2.heap.size w2 w2.drew from (Below.refl _ _).drew))).trans (hc3.mono (fun k _ e => Or.inr e))).setCell (p := ⟨bb, 1, none⟩) (Or.inr (Or.inl rfl)) (.int .i64 (nv + 1)))
      clear hlc hbd hp3 hc3 hrd3 htab3 hset hrs hts HBS HC p0 p1 v1
      go_wp2_with fail
      refine bodyPost_ret (v := .tuple #[.int .i64 0, .int .i64 0]) (by simp [results, Tryz.results79, go_sem]) rfl ⟨rfl, ⟨_, HSET.out, HLC.out⟩, HCC.out⟩
  · rw [if_neg h0] at hR
    subst hR
    have h0' : (f == 0) = false := by simpa using h0
    have h0n : (f != 0) = true := by simpa using h0
    clear h0
    go_wp2_with fail
    go_quiet (fail)
    go_wp2_with fail
    refine bodyPost_ret (v := .tuple #[.int .i64 f, .int .i64 pl]) (by simp [results, Tryz.results79, go_sem]) rfl ⟨rfl, ⟨_, HBS.out.below (show Below w2.heap.size w2 (w2.drewN nq) from ⟨rfl, rfl, rfl, Nat.le_refl _, fun _ _ => rfl⟩), Lc.refl _ _⟩, HC.out.trans (Chg.ofBelow (show Below w2.heap.size w2 (w2.drewN nq) from ⟨rfl, rfl, rfl, Nat.le_refl _, fun _ _ => rfl⟩))⟩

end Go.Proofs.YtcphhbofjkenaaaGreatDoor

/- The program: a word's definition. -/
namespace Go.Proofs.YtcphhbofjkenaaaGreatDoor
open Go Go.RowKit
set_option linter.unusedVariables false
set_option linter.unusedSimpArgs false

/-- The items of a definition, up to its end: code, what is known, tokens, and how far; or an error and its place. -/
def defP (es : List PE) (nt : Int) (s : ByteArray) : Nat → Int → List Int → List PB → Inf → Nat → (List Int × Inf × Int × Nat) ⊕ (Int × Int)
  | 0, _, _, _, _, _ => .inr (99, 0)
  | f + 1, tk, dc, [], kn, a => .inl (dc, kn, tk, a)
  | f + 1, tk, dc, b :: r, kn, a =>
    if (stepP es nt (tk + 1) dc (b :: r) kn (nx s a).1).1 = 0 then
      defP es nt s f (tk + 1) (stepP es nt (tk + 1) dc (b :: r) kn (nx s a).1).2.1 (stepP es nt (tk + 1) dc (b :: r) kn (nx s a).1).2.2.1 (stepP es nt (tk + 1) dc (b :: r) kn (nx s a).1).2.2.2 (nx s a).2.2
    else .inr ((stepP es nt (tk + 1) dc (b :: r) kn (nx s a).1).1, ((nx s a).2.1 : Int))

theorem nextF_move (s : ByteArray) : ∀ (f a : Nat), a ≤ s.size → ((nextF s f a).1.toList == []) = false → a < (nextF s f a).2.2
  | 0, a, h, hne => by
    obtain ⟨h1, h2, h3⟩ := cut_le s a h
    rw [nextF] at hne ⊢
    simp only at hne ⊢
    by_cases e : cutB s a = cutE s a
    · rw [e] at hne
      have : s.extract (cutE s a) (cutE s a) = ⟨#[]⟩ := by
        have hsz : (s.extract (cutE s a) (cutE s a)).size = 0 := by simp
        exact ByteArray.size_eq_zero_iff.1 hsz
      rw [this, show (⟨#[]⟩ : ByteArray).toList = [] from ba_list []] at hne
      cases hne
    · omega
  | f + 1, a, h, hne => by
    obtain ⟨h1, h2, h3⟩ := cut_le s a h
    rw [nextF] at hne ⊢
    split at hne
    · rename_i hn
      rw [if_pos hn]
      have hsp := scan_spec eol s (cutE s a) h3
      have := nextF_move s f _ hsp.2.1 hne
      omega
    · rename_i hn
      rw [if_neg hn]
      simp only at hne ⊢
      by_cases e : cutB s a = cutE s a
      · rw [e] at hne
        have : s.extract (cutE s a) (cutE s a) = ⟨#[]⟩ := by
          have hsz : (s.extract (cutE s a) (cutE s a)).size = 0 := by simp
          exact ByteArray.size_eq_zero_iff.1 hsz
        rw [this, show (⟨#[]⟩ : ByteArray).toList = [] from ba_list []] at hne
        cases hne
      · omega

/-- What a word's definition gives: error, place; the things, tokens, code; how far. -/
def wordP (es : List PE) (nt : Int) (code : List Int) (s : ByteArray) (a : Nat) : (Int × Int) × List PE × Int × List Int × Nat :=
  if refP es (nx s a).1 = 0 then
    match defP es nt s (s.size + 2) 2 code [PB.first] Inf.zero (nx s a).2.2 with
    | .inr (E, P) => ((E, P), es, nt, code, 0)
    | .inl (dc, kn, tk, a') => ((0, 0), es ++ [⟨(nx s a).1, false, code.length, kn⟩], nt + tk, dc, a')
  else ((refP es (nx s a).1, ((nx s a).2.1 : Int)), es, nt, code, 0)

def WordPost (w : World) (bb rb : Nat) (ev cv : Value) (nv : Int) (s : ByteArray) (R : (Int × Int) × List PE × Int × List Int × Nat) (e : Ending) (w' : World) : Prop :=
  e = .returned (.tuple #[.int .i64 R.1.1, .int .i64 R.1.2]) ∧ (∃ ev' cv' a', BS w' bb rb ev' cv' R.2.1 nv R.2.2.1 R.2.2.2.1 s a' ∧ a' ≤ s.size ∧ (R.1.1 = 0 → a' = R.2.2.2.2) ∧ Lc w ev ev' ∧ Lc w cv cv') ∧ Chg (fun k => k = rb ∨ k = bb ∨ ev.ownBlock = some k ∨ cv.ownBlock = some k) w w'

/-- The book with more tokens and another code. -/
theorem PSys.setCode {w : World} {bb : Nat} {ev cv v2 : Value} {es : List PE} {nv nt : Int} {code dc : List Int} (h : PSys w bb ev cv es nv nt code) (x : Int) (hr : w.ownsRow 3 3 1 v2 dc.length (codeC dc)) :
    PSys ((w.setCell ⟨bb, 2, none⟩ (.int .i64 x)).setCell ⟨bb, 3, none⟩ v2) bb ev v2 es nv x dc := by
  have hc : Chg (fun b => b = bb) w ((w.setCell ⟨bb, 2, none⟩ (.int .i64 x)).setCell ⟨bb, 3, none⟩ v2) := ((Chg.refl (fun b => b = bb) w).setCell (p := ⟨bb, 2, none⟩) rfl _).setCell (p := ⟨bb, 3, none⟩) rfl _
  have no : ∀ {base : Nat} {e : TypeId} {size n : Nat} {v : Value} {xs : List Value}, w.ownsRow base e size v n xs → 122 ≠ e → ∀ k, v.ownBlock = some k → ¬ k = bb := fun ho hne k hk e => own_blk ho h.blk hne (by rw [hk, e])
  refine ⟨?_, ownsRow_chg h.row hc (no h.row (by decide)), ownsRow_chg hr hc (no hr (by decide)), h.up⟩
  have := (h.blk.set (o := 2) (.int .i64 x)).set (o := 3) v2
  simpa using this

set_option maxRecDepth 100000 in
set_option maxHeartbeats 4000000 in
theorem book_loadWord {w : World} {bb rb : Nat} {ev cv : Value} {es : List PE} {nv nt : Int} {code : List Int} {s : ByteArray} {a : Nat} (h : BS w bb rb ev cv es nv nt code s a) (ha : a ≤ s.size) (hs : s.size ≤ 1100000) (hl : es.length ≤ 1000) (hwt : ∀ x ∈ es, x.inf.Wt 1)
    (hnt0 : 0 ≤ nt) (hnt1 : nt ≤ 100000) (hcl : code.length ≤ 1100000) :
    Calls Tryz.prog 80 #[.pointer (some ⟨bb, 0, none⟩), .pointer (some ⟨rb, 0, none⟩)] w (WordPost w bb rb ev cv nv s (wordP es nt code s a)) := by
  obtain ⟨R, hR⟩ : ∃ R, R = wordP es nt code s a := ⟨_, rfl⟩
  rw [← hR]
  obtain ⟨n1, n2, n3, n4⟩ := nextF_le s (s.size - a) a ha
  have H1 := hidden (rd_next rb s a w ha (by omega) h.rd)
  unfold wordP at hR
  unfold nx at hR
  obtain ⟨x, hx⟩ : ∃ x, x = nextF s (s.size - a) a := ⟨_, rfl⟩
  rw [← hx] at H1 hR n1 n2 n3 n4
  obtain ⟨t, pl, a'⟩ := x
  simp only at H1 hR n1 n2 n3 n4 ⊢
  have HB := hidden h
  have HWT := hidden hwt
  have HRR := hidden hR
  clear h hx hwt hR
  go_enter Tryz.func80, Tryz.ntmps80
  go_wp2_with fail
  refine H1.out.mono ?_
  rintro e w1 ⟨rfl, hb1, hc1⟩
  have hbs1 := HB.out.next hb1 hc1
  have hbs2 := hbs1.below ((Below.refl _ _).alloc (Nat.le_refl _) (.cells #[.string t, .int .i64 pl] 163 (0, 0)))
  have hk2 := blk_new w1 #[.string t, .int .i64 pl] 163
  have H2 := hidden (book_refuse t pl hbs2.sys hbs2.tab (by omega) hl)
  have HB2 := hidden hbs2; have HK2 := hidden hk2
  have HC2 := hidden ((hc1.mono (fun k _ e => Or.inl e) : Chg (fun k => k = rb ∨ k = bb ∨ ev.ownBlock = some k ∨ cv.ownBlock = some k) w w1).alloc (.cells #[.string t, .int .i64 pl] 163 (0, 0)))
  have hsz : (w1.alloc (.cells #[.string t, .int .i64 pl] 163 (0, 0))).heap.size = w1.heap.size + 1 := by simp
  clear H1 hb1 hc1 hbs1 hbs2 hk2
  go_wp2_with fail
  refine H2.out.mono ?_
  rintro e w2 ⟨rfl, hb2⟩
  have hbs := HB2.out.below hb2
  have hk := HK2.out.sub hb2 (by rw [hsz]; omega)
  have p0 : w2.cell? ⟨w1.heap.size, 0, none⟩ = some (.string t) := hk.cell 0 _ rfl
  have p1 : w2.cell? ⟨w1.heap.size, 1, none⟩ = some (.int .i64 pl) := hk.cell 1 _ rfl
  obtain ⟨f, hf⟩ : ∃ f, f = refP es t := ⟨_, rfl⟩
  have hR := HRR.out
  rw [← hf] at hR ⊢
  have HR0 := hidden hR
  clear hR HRR
  have HBS := hidden hbs; have HKN := hidden hk
  have HC := hidden (HC2.out.trans (Chg.ofBelow hb2))
  have hkl := hk.lt
  clear H2 hb2 hbs hk HB2 HK2 HC2 hsz hf HB
  by_cases h0 : f = 0
  · subst h0
    have hR1 := HR0.out
    rw [if_pos rfl] at hR1
    have HR := hidden hR1
    clear HR0 hR1
    have H3 := hidden (book_define (w0 := w2) (rc := (rdC s a', w1.heap.size, #[.string t, .int .i64 pl])) HBS.out.sys HBS.out.tab ⟨HBS.out.rd, HKN.out⟩ HBS.out.ru HBS.out.tab.lt (Chg.refl _ w2))
    go_wp2_with fail
    refine H3.out.mono ?_
    rintro e w3 ⟨db, bv, rfl, hds, hbl⟩
    have HDS := hidden hds
    clear H3 hds p0 p1 hbl
    go_wp2_with fail
    obtain ⟨D, hD⟩ : ∃ D, D = defP es nt s (s.size + 2) 2 code [PB.first] Inf.zero a' := ⟨_, rfl⟩
    have HD := hidden hD
    have HD0 := hidden hD
    clear hD
    go_loopw [9] (fun _ wr => ∃ (b f q : Nat) (tk : Int) (dc : List Int) (st : List PB) (kn : Inf) (dcv bv : Value), DS w2 wr rb (rdC s b, w1.heap.size, #[.string t, .int .i64 pl]) bb db ev cv dcv bv es nv nt code dc tk (List.reverse st) kn ∧ Hid (D = defP es nt s f tk dc st kn b) ∧ Hid (b ≤ s.size ∧ s.size - b + 2 ≤ f ∧ tk = 2 + (q : Int) ∧ q ≤ b ∧ WB st (2 * q) ∧ st.length ≤ q + 1 ∧ dc.length ≤ code.length + 2 * q ∧ code.length ≤ dc.length ∧ (st = [] ∨ SInv code.length dc.length st))) (fun _ wr => s.size - atOf wr rb)
    case atStart =>
      refine ⟨a', s.size + 2, 0, 2, code, [PB.first], Inf.zero, cv, bv, by simpa using HDS.out, HD, n3, by omega, rfl, by omega, ⟨0, 0, Inf.Wt.zero, Inf.Wt.zero, by omega, trivial⟩, by simp, by omega, Nat.le_refl _, Or.inr ⟨rfl, ?_⟩⟩
      constructor <;> simp [PB.first, PB.zero]
    case round =>
      clear HDS HD
      obtain ⟨b, fu, q, tk, dc, st, kn, dcv, bv', hds, HDD, HI⟩ := hrel
      obtain ⟨i1, i2, i3, i4, i5, i6, i7, i8, i9⟩ := HI.out
      cases st with
      | nil =>
        have hE := hidden (def_ended hds true (by simp) (by simp))
        obtain ⟨fu', rfl⟩ : ∃ fu', fu = fu' + 1 := ⟨fu - 1, by omega⟩
        have hdd := HDD.out
        rw [defP] at hdd
        have hkn : Blk wr w1.heap.size #[.string t, .int .i64 pl] 163 := hds.rdr.2
        have p0 : wr.cell? ⟨w1.heap.size, 0, none⟩ = some (.string t) := hkn.cell 0 _ rfl
        obtain ⟨c0, c1, c2, c3⟩ := hds.def
        have k4 := hds.blk.cell 4 _ rfl; have k5 := hds.blk.cell 5 _ rfl; have k6 := hds.blk.cell 6 _ rfl; have k7 := hds.blk.cell 7 _ rfl; have k8 := hds.blk.cell 8 _ rfl
        simp only [defC, List.getElem_toArray, List.getElem_cons_succ, List.getElem_cons_zero] at k4 k5 k6 k7 k8
        have b3 : wr.cell? ⟨bb, 3, none⟩ = some cv := hds.sys.blk.cell 3 _ rfl
        obtain ⟨ad, cap, hcv, hcap, _⟩ := row_shape hds.sys.cod
        obtain ⟨ad2, cap2, hdv, hcap2, _⟩ := row_shape hds.cod
        rw [hcv] at b3
        rw [hdv] at c2
        have HDS := hidden hds; have HDF := hidden hdd
        clear hds hdd hkn HDD c0 c3 i1 i2 i3 i4 i5 i6 i7 i8 i9
        go_wp2_with fail
        refine hE.out.mono ?_
        rintro e wq ⟨rfl, rfl⟩
        go_wp2_with fail
        go_still_tail 13, (by kernel_rfl)
        go_wp2_with fail
        have hwd : Below wq.heap.size wq wq.drew := (Below.refl _ _).drew
        have hd := HDS.out.below hwd
        refine (book_keep ⟨t, false, code.length, kn⟩ hd.sys hd.tab (by simp only; omega) hl).mono ?_
        rintro e w6 ⟨rfl, ⟨ev', hp6, hlc⟩, hc6⟩
        have HLE := hidden (hlc.mono (w0 := w) (Nat.le_trans HC.out.size HDS.out.frm.size))
        have HLD := hidden (show Lc w cv dcv from fun k hk => HDS.out.loc.elim (fun e => Or.inl (e.symm.trans hk)) (fun ⟨j, e1, e2⟩ => by rw [e1] at hk; cases hk; exact Or.inr (Nat.le_trans HC.out.size e2)))
        clear hlc
        have hnd : db ≠ bb := blk_ne hd.blk hd.sys.blk (by decide)
        have hned : ev.ownBlock ≠ some db := own_blk hd.sys.row hd.blk (by decide)
        have hnr : rb ≠ bb := blk_ne hd.rdr.1 hd.sys.blk (by decide)
        have hner : ev.ownBlock ≠ some rb := own_blk hd.sys.row hd.rdr.1 (by decide)
        have hdb6 := hd.blk.chg hc6 (fun e => e.elim (fun e => hnd e) (fun e => hned e))
        have hrd6 := hd.rdr.1.chg hc6 (fun e => e.elim (fun e => hnr e) (fun e => hner e))
        have hcod6 := ownsRow_chg hd.cod hc6 (fun k hk e => e.elim (fun e => own_blk hd.cod hd.sys.blk (by decide) (by rw [hk, e])) (fun e => own_own hd.cod hd.sys.row (by decide) hk e))
        have htab6 := hd.tab.chg hc6 (fun k e => e.elim (fun e => by rw [e]; exact hd.sys.up) (fun e => own_ge hd.sys.row e))
        have y1 : w6.cell? ⟨db, 1, none⟩ = some (.int .i64 tk) := hdb6.cell 1 _ rfl
        have y2 : w6.cell? ⟨db, 2, none⟩ = some (.slice ad2 dc.length cap2) := by rw [← hdv]; exact hdb6.cell 2 _ rfl
        have z2 : w6.cell? ⟨bb, 2, none⟩ = some (.int .i64 nt) := hp6.blk.cell 2 _ rfl
        have z3 : w6.cell? ⟨bb, 3, none⟩ = some (.slice ad code.length cap) := by rw [← hcv]; exact hp6.blk.cell 3 _ rfl
        have g2 := hp6.blk.frozen 2; have g3 := hp6.blk.frozen 3
        obtain ⟨i1, i2, i3, i4, i5, i6, i7, i8, i9⟩ := HI.out
        have htk0 : 0 ≤ tk := by omega
        have htk1 : tk ≤ 10000000 := by omega
        have hbl := hp6.blk.lt
        have HP6 := hidden hp6; have HD6 := hidden hdb6; have HR6 := hidden hrd6; have HO6 := hidden hcod6; have HT6 := hidden htab6
        have HCC := hidden (((HC.out.thru HDS.out.frm (fun k _ e => e.elim (fun e => Or.inl e) (fun e => Or.inr (Or.inr (Or.inr e))))).trans (Chg.ofBelow hwd)).trans (hc6.mono (fun k _ e => e.elim (fun e => Or.inr (Or.inl e)) (fun e => Or.inr (Or.inr (Or.inl e))))))
        have HRU := hidden hd.ru
        have HB1 := hidden i1
        clear hwd hd hp6 hc6 hned hner hdb6 hrd6 hcod6 htab6 i1 i2 i3 i4 i5 i6 i7 i8 i9 HDS p0 c1 c2 k4 k5 k6 k7 k8 b3 hE
        go_wp2_with fail
        go_still_tail 9, (by kernel_rfl)
        go_wp2_with fail
        have hRe : R = ((0, 0), es ++ [⟨t, false, code.length, kn⟩], nt + tk, dc, b) := by
          have := HR.out
          rw [← HD0.out, HDF.out] at this
          exact this
        rw [hRe]
        have hset := HP6.out.setCode (nt + tk) HO6.out
        rw [hdv] at hset
        have hrs := (HR6.out.setOther (a := ⟨bb, 2, none⟩) (fun e => hnr e.symm) (.int .i64 (nt + tk))).setOther (a := ⟨bb, 3, none⟩) (fun e => hnr e.symm) (.slice ad2 dc.length cap2)
        have hts := HT6.out.chg (((Chg.refl (fun k => k = bb) w6).setCell (p := ⟨bb, 2, none⟩) rfl (.int .i64 (nt + tk))).setCell (p := ⟨bb, 3, none⟩) rfl (.slice ad2 dc.length cap2)) (fun k e => by rw [e]; exact HP6.out.up)
        have hcc := (HCC.out.setCell (p := ⟨bb, 2, none⟩) (Or.inr (Or.inl rfl)) (.int .i64 (nt + tk))).setCell (p := ⟨bb, 3, none⟩) (Or.inr (Or.inl rfl)) (.slice ad2 dc.length cap2)
        have hbs := BS.mk hset hts hrs HRU.out
        refine bodyPost_ret (v := .tuple #[.int .i64 0, .int .i64 0]) (by simp [results, Tryz.results80, go_sem]) rfl ⟨rfl, ⟨ev', _, b, hbs.below (Below.refl _ _).drew, HB1.out, fun _ => rfl, HLE.out, by rw [← hdv]; exact HLD.out⟩, hcc.trans (Chg.ofBelow (Below.refl _ _).drew)⟩
      | cons b0 r0 =>
        have hsi : SInv code.length dc.length (b0 :: r0) := by rcases i9 with e | e; exact (List.cons_ne_nil _ _ e).elim; exact e
        have hE := hidden (def_ended hds false (by simp) (by simp at i6 ⊢; omega))
        obtain ⟨m1, m2, m3, m4⟩ := nextF_le s (s.size - b) b i1
        have hN := hidden (rd_next rb s b wr i1 (by omega) hds.rdr.1)
        obtain ⟨x, hx⟩ : ∃ x, x = nextF s (s.size - b) b := ⟨_, rfl⟩
        have hxx : nx s b = x := hx.symm
        have hmv := fun hne => nextF_move s (s.size - b) b i1 hne
        rw [← hx] at hN m1 m2 m3 m4 hmv
        obtain ⟨t2, pl2, b2⟩ := x
        simp only at hN m1 m2 m3 m4 hmv
        obtain ⟨fu', rfl⟩ : ∃ fu', fu = fu' + 1 := ⟨fu - 1, by omega⟩
        have hdd := HDD.out
        rw [defP, hxx] at hdd
        simp only at hdd
        have hat : atOf wr rb = b := by unfold atOf; rw [show wr.cell? ⟨rb, 1, none⟩ = some (.int .i64 b) from hds.rdr.1.cell 1 _ rfl]; simp
        have HDS := hidden hds; have HDF := hidden hdd; have HSI := hidden hsi; have HMV := hidden hmv; have HAT := hidden hat; have HM := hidden (And.intro m1 (And.intro m2 (And.intro m3 m4)))
        clear hds hdd hsi hx hxx hmv hat m1 m2 m3 m4 i1 i2 i3 i4 i5 i6 i7 i8 i9 HDD
        go_wp2_with fail
        refine hE.out.mono ?_
        rintro e wq ⟨rfl, rfl⟩
        go_wp2_with fail
        refine hN.out.mono ?_
        rintro e w4 ⟨rfl, hb4, hc4⟩
        have hds3 := HDS.out.chg hc4 hb4
        have hkn4 := hds3.rdr.2
        have hds4 := (hds3.below ((Below.refl _ _).alloc (Nat.le_refl _) (.cells #[.string t2, .int .i64 pl2] 163 (0, 0)))).guest w4.heap.size #[.string t2, .int .i64 pl2] (blk_new w4 _ _)
        have HDS4 := hidden hds4
        clear hb4 hc4 hds3 hds4 hE hN HDS hkn4
        go_wp2_with fail
        obtain ⟨i1, i2, i3, i4, i5, i6, i7, i8, i9⟩ := HI.out
        refine (def_step HDS4.out t2 (by have := HM.out.2.2.2; omega) hl HWT.out HSI.out (2 * q) i5 (by omega) (by simp at i6; omega) (by omega) (by omega) (by omega) hnt0 hnt1).mono ?_
        rintro e w5 ⟨r, rfl, hr1, dcv5, bv5, dc5, st5, kn5, hds5, heq5⟩
        obtain ⟨T, hT⟩ : ∃ T, T = stepP es nt (tk + 1) dc (b0 :: r0) kn t2 := ⟨_, rfl⟩
        rw [← hT] at hr1 heq5
        have hdf := HDF.out
        rw [← hT] at hdf
        have p1 : w5.cell? ⟨w4.heap.size, 1, none⟩ = some (.int .i64 pl2) := hds5.rdr.2.cell 1 _ rfl
        have hkn5 : Blk w5 w1.heap.size #[.string t, .int .i64 pl] 163 := by
          refine HKN.out.chg hds5.frm ?_
          rintro (e | e)
          · exact blk_ne HKN.out HBS.out.rd (by decide) e
          · exact own_blk HBS.out.sys.cod HKN.out (by decide) e
        have HT := hidden hT; have HDF5 := hidden hdf; have HDS5 := hidden hds5; have HEQ := hidden heq5; have HR1 := hidden hr1; have HKN5 := hidden hkn5
        clear hT hdf hds5 heq5 hr1 hkn5 i1 i2 i3 i4 i5 i6 i7 i8 i9 HDF HDS4
        by_cases hr0 : r = 0
        · subst hr0
          go_wp2_with fail
          go_roundw
          case rel =>
            obtain ⟨i1, i2, i3, i4, i5, i6, i7, i8, i9⟩ := HI.out
            obtain ⟨q1, q2, q3⟩ := HEQ.out trivial
            have h1 := HR1.out
            have hne : (t2.toList == []) = false := by
              cases hq : (t2.toList == []) with
              | false => rfl
              | true =>
                exfalso
                have : T.1 = 5 := by rw [HT.out]; unfold stepP; simp [hq]
                rw [this] at h1; cases h1
            have hlt := HMV.out hne
            obtain ⟨s1, s2, s3, s4, s5, s6⟩ := step_inv es HWT.out nt (tk + 1) code.length dc (b0 :: r0) kn t2 (2 * q) HSI.out i5 i8 T HT.out.symm h1.symm
            have hdf := HDF5.out
            rw [if_pos h1.symm] at hdf
            subst q1 q2 q3
            have hm3 := HM.out.2.2.1
            refine ⟨b2, fu', q + 1, tk + 1, _, _, _, dcv5, bv5, HDS5.out.guest _ _ HKN5.out, hdf, HM.out.2.2.1, by omega, by omega, by omega, WB.mono s4 (by omega), by simp at i6 s3 ⊢; omega, by omega, by omega, s5⟩
          case measure =>
            have h1 := HR1.out
            have hne : (t2.toList == []) = false := by
              cases hq : (t2.toList == []) with
              | false => rfl
              | true =>
                exfalso
                have : T.1 = 5 := by rw [HT.out]; unfold stepP; simp [hq]
                rw [this] at h1; cases h1
            have hlt := HMV.out hne
            have e1 : atOf w5 rb = b2 := by unfold atOf; rw [show w5.cell? ⟨rb, 1, none⟩ = some (.int .i64 b2) from HDS5.out.rdr.1.cell 1 _ rfl]; simp
            rw [e1, HAT.out]
            have := HM.out.2.2.1
            omega
        · have hr0' : (r == 0) = false := by simpa using hr0
          have hr0n : (r != 0) = true := by simpa using hr0
          have HR00 := hidden hr0
          clear hr0
          go_wp2_with fail
          go_quiet (fail)
          go_wp2_with fail
          have hRe : R = ((r, (pl2 : Int)), es, nt, code, 0) := by
            have hdf := HDF5.out
            rw [if_neg (by rw [← HR1.out]; exact HR00.out)] at hdf
            have := HR.out
            rw [← HD0.out, hdf] at this
            rw [this, HR1.out]
          rw [hRe]
          refine bodyPost_ret (v := .tuple #[.int .i64 r, .int .i64 pl2]) (by simp [results, Tryz.results80, go_sem]) rfl ⟨rfl, ⟨ev, cv, b2, BS.below ⟨HDS5.out.sys, HDS5.out.tab, HDS5.out.rdr.1, HDS5.out.ru⟩ (show Below w5.heap.size w5 (w5.drewN nq) from ⟨rfl, rfl, rfl, Nat.le_refl _, fun _ _ => rfl⟩), HM.out.2.2.1, fun e => absurd e HR00.out, Lc.refl _ _, Lc.refl _ _⟩, ?_⟩
          exact (HC.out.thru HDS5.out.frm (fun k _ e => e.elim (fun e => Or.inl e) (fun e => Or.inr (Or.inr (Or.inr e))))).trans (Chg.ofBelow (show Below w5.heap.size w5 (w5.drewN nq) from ⟨rfl, rfl, rfl, Nat.le_refl _, fun _ _ => rfl⟩))
  · have hR1 := HR0.out
    rw [if_neg h0] at hR1
    subst hR1
    clear HR0
    have h0' : (f == 0) = false := by simpa using h0
    have h0n : (f != 0) = true := by simpa using h0
    have HF0 := hidden h0
    clear h0
    go_wp2_with fail
    go_quiet (fail)
    go_wp2_with fail
    refine bodyPost_ret (v := .tuple #[.int .i64 f, .int .i64 pl]) (by simp [results, Tryz.results80, go_sem]) rfl ⟨rfl, ⟨_, _, a', HBS.out.below (show Below w2.heap.size w2 (w2.drewN nq) from ⟨rfl, rfl, rfl, Nat.le_refl _, fun _ _ => rfl⟩), n3, fun e => absurd e HF0.out, Lc.refl _ _, Lc.refl _ _⟩, HC.out.trans (Chg.ofBelow (show Below w2.heap.size w2 (w2.drewN nq) from ⟨rfl, rfl, rfl, Nat.le_refl _, fun _ _ => rfl⟩))⟩

end Go.Proofs.YtcphhbofjkenaaaGreatDoor

/- The last of a name: the program's and the document's. -/
namespace Go.Proofs.YtcphhbofjkenaaaGreatDoor
open Go

theorem name_at {es : List PE} {ws : List RW} (h : es.map PE.name = ws.map RW.name) (k : Nat) : nameAt ws k = (es.getD k PE.zero).name := by
  unfold nameAt
  rw [← h, List.getD_eq_getElem?_getD, List.getD_eq_getElem?_getD, List.getElem?_map]
  cases es[k]? <;> rfl

theorem last_find {es : List PE} {ws : List RW} (h : es.map PE.name = ws.map RW.name) (s : ByteArray) : ∀ n, lastP es s n = if 0 ≤ lastK (nameAt ws) s n then some (es.getD (lastK (nameAt ws) s n).toNat PE.zero) else none
  | 0 => by simp [lastP, lastK]
  | n + 1 => by
    unfold lastP lastK
    rw [name_at h n]
    by_cases hc : ((es.getD n PE.zero).name.toList == s.toList) = true
    · rw [if_pos hc, if_pos hc, if_pos (by omega)]
      simp
    · rw [if_neg hc, if_neg hc]
      exact last_find h s n

theorem last_findW {es : List PE} {ws : List RW} (h : es.map PE.name = ws.map RW.name) (s : ByteArray) : lastP es s es.length = if 0 ≤ findW ws s then some (es.getD (findW ws s).toNat PE.zero) else none := by
  have hl : es.length = ws.length := by have := congrArg List.length h; simpa using this
  rw [hl]
  exact last_find h s _

end Go.Proofs.YtcphhbofjkenaaaGreatDoor
