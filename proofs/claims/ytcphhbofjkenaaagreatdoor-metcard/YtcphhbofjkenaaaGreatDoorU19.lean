import Derived.Test.YtcphhbofjkenaaaGreatDoorU15
import Derived.Test.YtcphhbofjkenaaaGreatDoorU17
import Derived.Test.YtcphhbofjkenaaaGreatDoorU18
namespace Go.Proofs.YtcphhbofjkenaaaGreatDoor
set_option maxHeartbeats 16000000
open Go Go.RowKit
set_option linter.unusedVariables false
set_option linter.unusedSimpArgs false
def refP (es : List PE) (s : ByteArray) : Int := if nameP s = true then (if es.length = 40 then 8 else 0) else 4
theorem book_refuse {w : World} {bb : Nat} {ev cv : Value} {es : List PE} {nv nt : Int} {code : List Int} (s : ByteArray) (at' : Int) (h : PSys w bb ev cv es nv nt code) (ht : Tab w) (hs : s.size ≤ 100000000) (hl : es.length ≤ 1000) :
  Calls Tryz.prog 121 #[.pointer (some ⟨bb, 0, none⟩), .agg #[.string s, .int .i64 at']] w fun e w' => e = .returned (.int .i64 (refP es s)) ∧ Below w.heap.size w w' := by
 obtain ⟨R, hR⟩ : ∃ R, R = refP es s := ⟨_, rfl⟩
 rw [← hR]
 have HN := hidden (tok_name s (w.alloc (.cells #[.string s, .int .i64 at'] 163 (0, 0))) hs (ht.below ((Below.refl _ _).alloc (Nat.le_refl _) _)))
 unfold refP at hR
 obtain ⟨q, hq⟩ : ∃ q, q = nameP s := ⟨_, rfl⟩
 rw [← hq] at hR HN
 have c0 : w.cell? ⟨bb, 0, none⟩ = some ev := h.blk.cell 0 _ rfl
 have hlt := h.blk.lt
 obtain ⟨ad, cap, rfl, hcap, _⟩ := row_shape h.row
 clear h ht hs hq
 cases q
 ·simp only [Bool.false_eq_true, if_false] at hR
  subst hR
  go_enter Tryz.func121, Tryz.ntmps121
  go_wp2_with fail
  refine HN.out.mono ?_
  rintro e w1 ⟨rfl, hb1⟩
  have HB := hidden (((Below.refl w.heap.size w).alloc (Nat.le_refl _) _).trans (hb1.mono (by simp)))
  clear hb1 HN
  go_wp2_with fail
  go_ret
  exact ⟨rfl, HB.out⟩
 ·simp only [if_true] at hR
  by_cases h40 : es.length = 40
  ·rw [if_pos h40] at hR
   subst hR
   rw [h40] at c0
   clear hcap hl h40
   go_enter Tryz.func121, Tryz.ntmps121
   go_wp2_with fail
   refine HN.out.mono ?_
   rintro e w1 ⟨rfl, hb1⟩
   have hb : Below w.heap.size w w1 := (((Below.refl w.heap.size w).alloc (Nat.le_refl _) _).trans (hb1.mono (by simp)))
   have d0 := (hb.cell (p := ⟨bb, 0, none⟩) hlt).trans c0
   have HB := hidden hb
   clear hb1 HN hb c0
   go_wp2_with fail
   go_ret
   exact ⟨rfl, HB.out⟩
  ·rw [if_neg h40] at hR
   subst hR
   obtain ⟨m, hm⟩ : ∃ m : Int, m = (es.length : Int) := ⟨_, rfl⟩
   have hm40 : ((es.length : Int) == 40) = false := by rw [beq_eq_false_iff_ne]; omega
   clear hm
   go_enter Tryz.func121, Tryz.ntmps121
   go_wp2_with fail
   refine HN.out.mono ?_
   rintro e w1 ⟨rfl, hb1⟩
   have hb : Below w.heap.size w w1 := (((Below.refl w.heap.size w).alloc (Nat.le_refl _) _).trans (hb1.mono (by simp)))
   have d0 := (hb.cell (p := ⟨bb, 0, none⟩) hlt).trans c0
   have HB := hidden hb
   clear hb1 HN hb c0
   go_wp2_with fail
   go_ret
   exact ⟨rfl, HB.out⟩
theorem def_ended {w0 w : World} {rb bb db : Nat} {rc : RC} {ev bcv dcv bv : Value} {es : List PE} {nv nt : Int} {pc dc : List Int} {tk : Int} {bs : List PB} {kn : Inf}
  (h : DS w0 w rb rc bb db ev bcv dcv bv es nv nt pc dc tk bs kn) (q : Bool) (hq : q = (bs.length == 0)) (hl : bs.length ≤ 100000000) :
  Calls Tryz.prog 124 #[.pointer (some ⟨db, 0, none⟩)] w fun e w' => e = .returned (.bool q) ∧ w' = w := by
 obtain ⟨c0, c1, c2, c3⟩ := h.def
 obtain ⟨ad, cap, rfl, hcap, _⟩ := row_shape h.row
 have hb : ((bs.length : Int) == 0) = q := by rw [hq, Bool.eq_iff_iff, beq_iff_eq, beq_iff_eq]; omega
 clear h c0 c1 c2 hq
 go_enter Tryz.func124, Tryz.ntmps124
 go_wp2_with fail
 go_ret
 exact ⟨rfl, rfl⟩
def PB.first : PB := { PB.zero with opener := 34 }
theorem book_define {w0 w : World} {rb bb : Nat} {rc : RC} {ev cv : Value} {es : List PE} {nv nt : Int} {code : List Int} (h : PSys w bb ev cv es nv nt code) (ht : Tab w) (hr : Rdg w rb rc) (hru : 3 ≤ rb) (htl : 3 ≤ w0.heap.size)
  (hf : Chg (fun b => b = rb ∨ cv.ownBlock = some b) w0 w) :
  Calls Tryz.prog 123 #[.pointer (some ⟨bb, 0, none⟩)] w fun e w' => ∃ db bv, e = .returned (.pointer (some ⟨db, 0, none⟩)) ∧ DS w0 w' rb rc bb db ev cv cv bv es nv nt code code 2 [PB.first] Inf.zero ∧ Below w.heap.size w w' := by
 have c3 : w.cell? ⟨bb, 3, none⟩ = some cv := h.blk.cell 3 _ rfl
 obtain ⟨ad, cap, hcv, hcap, _⟩ := row_shape h.cod
 have hlt := h.blk.lt
 have HP := hidden h; have HT := hidden ht; have HR := hidden hr; have HRU := hidden hru; have HTL := hidden htl; have HF := hidden hf
 rw [hcv] at c3
 clear h ht hr hru htl hf
 go_enter Tryz.func123, Tryz.ntmps123
 go_wp2_with fail
 go_ret
 have hB : Below w.heap.size w ((w.alloc (.cells PB.first.cells.toArray 244 (0, 0))).alloc (.cells (defC bb 2 (.slice ad code.length cap) (.slice (some ⟨w.heap.size, 0, none⟩) 1 1) Inf.zero) 209 (0, 0))) := ((Below.refl _ _).alloc (Nat.le_refl _) _).alloc (by simp) _
 refine ⟨w.heap.size + 1, .slice (some ⟨w.heap.size, 0, none⟩) 1 1, rfl, ?_, hB⟩
 show DS w0 ((w.alloc (.cells PB.first.cells.toArray 244 (0, 0))).alloc (.cells (defC bb 2 (.slice ad code.length cap) (.slice (some ⟨w.heap.size, 0, none⟩) 1 1) Inf.zero) 209 (0, 0))) rb rc bb (w.heap.size + 1) ev cv cv (.slice (some ⟨w.heap.size, 0, none⟩) 1 1) es nv nt code code 2 [PB.first] Inf.zero
 have hrb := HR.out.1
 have hgb := HR.out.2
 refine ⟨HP.out.below hB, ?_, ownsRow_chg HP.out.cod (Chg.ofBelow (S := fun _ => False) hB) (fun _ _ => id), ?_, HT.out.below hB, ⟨(hB.block rb hrb.lt).trans hrb, (hB.block _ hgb.lt).trans hgb⟩, HRU.out, HTL.out, ⟨[], by simp⟩, ?_, Or.inl rfl, HF.out.trans (Chg.ofBelow hB)⟩
 ·rw [hcv]
  have := blk_new (w.alloc (.cells PB.first.cells.toArray 244 (0, 0))) (defC bb 2 (.slice ad code.length cap) (.slice (some ⟨w.heap.size, 0, none⟩) 1 1) Inf.zero) 209
  simpa using this
 ·refine ⟨by simp [PB.cells], Or.inr ⟨w.heap.size, 1, PB.first.cells.toArray, rfl, HF.out.size, (Blk.alloc (blk_new w PB.first.cells.toArray 244) _), Nat.le_refl _, by simp [maxLen], by simp [PB.cells], by simp [PB.cells]⟩⟩
 ·have := HF.out.size; omega
def pez : Value := .agg #[.string ⟨#[]⟩, .bool false, .int .i64 0, .int .i64 0, .int .i64 0, .int .i64 0, .int .i64 0, .bool false]
theorem Tryz.infoPE : (Tryz.prog.info? 153).map (fun i => (i.zero, i.size, i.bytes)) = some (some pez, 8, 72) := by kernel_rfl
theorem PE.one (b : PE) : ∀ u ∈ b.cells, u.oneCell' = true := by
 intro u hu
 simp only [PE.cells, List.mem_cons, List.not_mem_nil, or_false] at hu
 rcases hu with rfl | rfl | rfl | rfl | rfl | rfl | rfl | rfl <;> rfl
def Lc (w : World) (v v' : Value) : Prop := ∀ k, v'.ownBlock = some k → v.ownBlock = some k ∨ w.heap.size ≤ k
theorem Lc.refl (w : World) (v : Value) : Lc w v v := fun k h => Or.inl h
theorem Lc.mono {w0 w : World} {v v' : Value} (h : Lc w v v') (hs : w0.heap.size ≤ w.heap.size) : Lc w0 v v' := fun k hk => (h k hk).imp id (fun e => Nat.le_trans hs e)
theorem Lc.trans {w : World} {v v' v2 : Value} (h : Lc w v v') (h2 : Lc w v' v2) : Lc w v v2 := fun k hk => (h2 k hk).elim (fun e => h k e) Or.inr
theorem PSys.push {w w2 : World} {bb : Nat} {ev cv v2 : Value} {es : List PE} {nv nt : Int} {code : List Int} {e : PE} (h : PSys w bb ev cv es nv nt code)
  (hr : w2.ownsRow 3 153 8 v2 (es.length + 1) (es.flatMap PE.cells ++ e.cells)) (hc : Chg (fun k => ev.ownBlock = some k) w w2) : PSys (w2.setCell ⟨bb, 0, none⟩ v2) bb v2 cv (es ++ [e]) nv nt code := by
 have hb2 : Blk w2 bb #[ev, .int .i64 nv, .int .i64 nt, cv] 122 := h.blk.chg hc (own_blk h.row h.blk (by decide))
 have oth : ∀ {base : Nat} {e : TypeId} {size n : Nat} {v : Value} {xs : List Value}, w2.ownsRow base e size v n xs → 122 ≠ e → (w2.setCell ⟨bb, 0, none⟩ v2).ownsRow base e size v n xs := fun ho hne =>
  ownsRow_chg ho ((Chg.refl (fun b => b = bb) w2).setCell (p := ⟨bb, 0, none⟩) rfl _) (fun k hk e => own_blk ho hb2 hne (by rw [hk, e]))
 refine ⟨?_, oth (by simpa using hr) (by decide), oth (ownsRow_chg h.cod hc (fun k hk e => own_own h.cod h.row (by decide) hk e)) (by decide), h.up⟩
 have := hb2.set (o := 0) v2
 simpa using this
theorem strs_clone (s : ByteArray) (w : World) (hs : s.size ≤ 100000000) : Calls Tryz.prog 155 #[.string s] w fun e w' => e = .returned (.string s) ∧ Below w.heap.size w w' := by
 have H := hidden (Tryz.stringslite_Clone s w (by omega))
 clear hs
 go_enter Tryz.func155, Tryz.ntmps155
 go_wp2_with fail
 refine H.out.mono ?_
 rintro e w1 ⟨rfl, hb⟩
 have HB := hidden hb
 clear hb H
 go_wp2_with fail
 go_ret
 exact ⟨rfl, HB.out⟩
set_option maxRecDepth 100000 in
theorem book_keep {w : World} {bb : Nat} {ev cv : Value} {es : List PE} {nv nt : Int} {code : List Int} (x : PE) (h : PSys w bb ev cv es nv nt code) (ht : Tab w) (hs : x.name.size ≤ 100000000) (hl : es.length ≤ 1000) :
  Calls Tryz.prog 122 #[.pointer (some ⟨bb, 0, none⟩), x.val] w fun e w' => e = .returned (.tuple #[]) ∧ (∃ ev', PSys w' bb ev' cv (es ++ [x]) nv nt code ∧ Lc w ev ev') ∧ Chg (fun k => k = bb ∨ ev.ownBlock = some k) w w' := by
 obtain ⟨b0, b1, b2, b3, b4, b5, b6, b7⟩ := x
 have c0 : w.cell? ⟨bb, 0, none⟩ = some ev := h.blk.cell 0 _ rfl
 have hlt := h.blk.lt
 have hne := own_blk h.row h.blk (by decide)
 obtain ⟨ad, cap, hev, hcap, _⟩ := row_shape h.row
 obtain ⟨i0, hi, hz0, hz1, hz2⟩ := info_parts Tryz.infoPE
 have HP := hidden h; have HT := hidden ht; have HN := hidden hne
 have HC := hidden (fun w' => strs_clone b0 w' hs)
 subst hev
 clear h ht hs hne
 simp only [PE.val]
 go_enter Tryz.func122, Tryz.ntmps122
 go_wp2_with fail
 have hb0 : Below w.heap.size w (w.alloc (.cells #[.string b0, .bool b1, .int .i64 b2, .int .i64 b3, .int .i64 b4, .int .i64 b5, .int .i64 b6, .bool (!b7)] 153 (0, 0))) := (Below.refl _ _).alloc (Nat.le_refl _) _
 have hk0 := blk_new w #[.string b0, .bool b1, .int .i64 b2, .int .i64 b3, .int .i64 b4, .int .i64 b5, .int .i64 b6, .bool (!b7)] 153
 refine (HC.out _).mono ?_
 rintro e wa ⟨rfl, hb1⟩
 have hka := hk0.sub hb1 (by simp)
 have hba : Below w.heap.size w wa := hb0.trans (hb1.mono (by simp))
 obtain ⟨E, hE⟩ : ∃ E, E = w.heap.size := ⟨_, rfl⟩
 have p0 := hka.cell 0 _ rfl
 have f0 := hka.frozen 0
 simp only [List.getElem_toArray, List.getElem_cons_succ, List.getElem_cons_zero] at p0
 obtain ⟨W, hW⟩ : ∃ W : World, W = wa.setCell ⟨w.heap.size, 0, none⟩ (.string b0) := ⟨_, rfl⟩
 have hkE : Blk W E #[.string b0, .bool b1, .int .i64 b2, .int .i64 b3, .int .i64 b4, .int .i64 b5, .int .i64 b6, .bool (!b7)] 153 := by rw [hW, hE]; have := hka.set (o := 0) (.string b0); simpa using this
 have hbW : Below w.heap.size w W := by rw [hW]; exact hba.setCell (by simp) _
 have HKE := hidden hkE; have HBW := hidden hbW
 clear hkE hbW hb0 hk0 hb1 hka hba HC
 go_upto_region 2 with fail
 rw [← hW]
 rw [← hE]
 have c0' : W.cell? ⟨bb, 0, none⟩ = some (.slice ad es.length cap) := (HBW.out.cell (p := ⟨bb, 0, none⟩) hlt).trans c0
 have q0 : W.frozen? ⟨bb, 0, none⟩ = false := (HBW.out.frozen (p := ⟨bb, 0, none⟩) hlt).trans (HP.out.blk.frozen 0)
 have e0 := HKE.out.cell 0 _ rfl; have e1 := HKE.out.cell 1 _ rfl; have e2 := HKE.out.cell 2 _ rfl; have e3 := HKE.out.cell 3 _ rfl; have e4 := HKE.out.cell 4 _ rfl; have e5 := HKE.out.cell 5 _ rfl; have e6 := HKE.out.cell 6 _ rfl; have e7 := HKE.out.cell 7 _ rfl
 simp only [List.getElem_toArray, List.getElem_cons_succ, List.getElem_cons_zero] at e0 e1 e2 e3 e4 e5 e6 e7
 have hEW : E < W.heap.size := HKE.out.lt
 have hdW : bb < W.heap.size := Nat.lt_of_lt_of_le hlt HBW.out.size
 have hEd : E ≠ bb := by omega
 have hdE : bb ≠ E := by omega
 have hown := hidden (HP.out.below HBW.out).row
 have HA := hidden (fun o => (hown.out.alloc o).drew)
 have H1 := hidden (PE.one ⟨b0, b1, b2, b3, b4, b5, b6, b7⟩)
 have HC := hidden (show es.length + 1 ≤ maxLen by unfold maxLen; omega)
 have HDD := hidden (show (es.length + 1) * 72 ≤ 140737488355328 by omega)
 have HE2 := hidden (fun o => show 3 ≤ (W.alloc o).drew.heap.size by have := HT.out.lt; have := HBW.out.size; simp; omega)
 have HH := hidden (fun o => show (W.alloc o).drew.heap.size = W.heap.size + 1 by simp)
 have HNW := hidden (show ∀ j u, ([.string b0, .bool b1, .int .i64 b2, .int .i64 b3, .int .i64 b4, .int .i64 b5, .int .i64 b6, .bool (!b7)] : List Value)[j]? = some u → (W.alloc (.cells #[.string b0, .bool b1, .int .i64 b2, .int .i64 b3, .int .i64 b4, .int .i64 b5, .int .i64 b6, .bool (!b7)] 153 (0, 0))).drew.cell? ((Addr.mk W.heap.size 0 none).add j) = some u from World.news_of_block (fr := (0, 0)) (heap_alloc_new W _))
 have HF := hidden (fun (o : Obj) (w1 : World) (hg : (W.alloc o).drew.grownBy w1 (Value.slice ad es.length cap).ownBlock) => (show w1.frozen? ⟨bb, 0, none⟩ = false ∧ w1.cell? ⟨bb, 0, none⟩ = some (.slice ad es.length cap) from ⟨(hg.frozen_far ⟨bb, 0, none⟩ (by simp; omega) (fun e => HN.out e.symm)).trans ((((Below.refl _ W).alloc (Nat.le_refl _) o).drew.frozen (p := ⟨bb, 0, none⟩) hdW).trans q0), (hg.cell_far ⟨bb, 0, none⟩ (by simp; omega) (fun e => HN.out e.symm)).trans ((((Below.refl _ W).alloc (Nat.le_refl _) o).drew.cell (p := ⟨bb, 0, none⟩) hdW).trans c0')⟩))
 clear c0 hW hE p0 f0
 go_region_law (refine step_append_lies _ (by rfl) _ _ _ (by rfl) 3 153 i0 pez 8 72 Tryz.underlying120 hi hz0 hz1 hz2 rfl (by decide) _ es.length (es.flatMap PE.cells) (by rfl) (HA.out _) (Addr.mk W.heap.size 0 none) 1 1 [.string b0, .bool b1, .int .i64 b2, .int .i64 b3, .int .i64 b4, .int .i64 b5, .int .i64 b6, .bool (!b7)] (by rfl) (by rfl) HNW.out H1.out (by decide) HC.out HDD.out (HE2.out _) (W.heap.size + 1) (HH.out _) ?_; intro gg cap1 w1 hown1 hgrow hat hlt1; obtain ⟨q4, c4⟩ := HF.out _ _ hgrow)
 all_goals
  go_wp2_with fail
  go_end0
  have hcg : Chg (fun k => (Value.slice ad es.length cap).ownBlock = some k) W w1 := ((Chg.refl _ W).alloc _).drew.trans ((Chg.ofGrown hgrow).mono (fun k _ e => e.symm))
  have hps := (HP.out.below HBW.out).push (e := ⟨b0, b1, b2, b3, b4, b5, b6, b7⟩) hown1 hcg
  exact ⟨rfl, ⟨_, hps, fun k hk => by simp only [Value.ownBlock, Option.some.injEq] at hk; subst hk; exact hat.imp id (fun e => by rw [e]; have := HBW.out.size; omega)⟩, ((Chg.ofBelow HBW.out).trans (hcg.mono (fun k _ e => Or.inr e))).trans ((Chg.refl (fun k => k = bb ∨ (Value.slice ad es.length cap).ownBlock = some k) w1).setCell (p := ⟨bb, 0, none⟩) (Or.inl rfl) _)⟩
structure BS (w : World) (bb rb : Nat) (ev cv : Value) (es : List PE) (nv nt : Int) (code : List Int) (s : ByteArray) (a : Nat) : Prop where
 sys : PSys w bb ev cv es nv nt code
 tab : Tab w
 rd : Blk w rb (rdC s a) 199
 ru : 3 ≤ rb
abbrev nx (s : ByteArray) (a : Nat) : ByteArray × Nat × Nat := nextF s (s.size - a) a
theorem nextF_le (s : ByteArray) : ∀ (f a : Nat), a ≤ s.size → (nextF s f a).2.1 ≤ s.size ∧ a ≤ (nextF s f a).2.2 ∧ (nextF s f a).2.2 ≤ s.size ∧ (nextF s f a).1.size ≤ s.size
 | 0, a, h => by
  obtain ⟨h1, h2, h3⟩ := cut_le s a h
  rw [nextF]
  refine ⟨by simp only; omega, by simp only; omega, h3, ?_⟩
  simp only [ByteArray.size_extract]; omega
 | f + 1, a, h => by
  obtain ⟨h1, h2, h3⟩ := cut_le s a h
  rw [nextF]
  split
  ·have hsp := scan_spec eol s (cutE s a) h3
   obtain ⟨i1, i2, i3, i4⟩ := nextF_le s f (scan eol s (cutE s a)) hsp.2.1
   exact ⟨i1, by omega, i3, i4⟩
  ·refine ⟨by simp only; omega, by simp only; omega, h3, ?_⟩
   simp only [ByteArray.size_extract]; omega
theorem BS.next {w w' : World} {bb rb : Nat} {ev cv : Value} {es : List PE} {nv nt : Int} {code : List Int} {s : ByteArray} {a a' : Nat} (h : BS w bb rb ev cv es nv nt code s a) (hb : Blk w' rb (rdC s a') 199) (hc : Chg (fun k => k = rb) w w') : BS w' bb rb ev cv es nv nt code s a' := by
 have n1 : bb ≠ rb := by rintro rfl; exact absurd (blk_type h.sys.blk h.rd) (by decide)
 have no : ∀ {base : Nat} {e : TypeId} {size n : Nat} {v : Value} {xs : List Value}, w.ownsRow base e size v n xs → 199 ≠ e → ∀ k, v.ownBlock = some k → ¬ k = rb := fun ho hne k hk e => own_blk ho h.rd hne (by rw [hk, e])
 exact ⟨h.sys.chg hc n1 (no h.sys.row (by decide)) (no h.sys.cod (by decide)), h.tab.chg hc (fun k e => by have := h.ru; omega), hb, h.ru⟩
theorem BS.below {w w' : World} {bb rb : Nat} {ev cv : Value} {es : List PE} {nv nt : Int} {code : List Int} {s : ByteArray} {a : Nat} (h : BS w bb rb ev cv es nv nt code s a) (hb : Below w.heap.size w w') : BS w' bb rb ev cv es nv nt code s a :=
 h.next ((hb.block rb h.rd.lt).trans h.rd) (Chg.ofBelow hb)
theorem own_ge {w : World} {base : Nat} {e : TypeId} {size n k : Nat} {v : Value} {xs : List Value} (h : w.ownsRow base e size v n xs) (hk : v.ownBlock = some k) : base ≤ k := by
 rcases h.2 with ⟨rfl, _⟩ | ⟨g, cap, cur, rfl, hb, _⟩
 ·cases hk
 ·simp [Value.ownBlock] at hk; omega
theorem PSys.setVar {w : World} {bb : Nat} {ev cv : Value} {es : List PE} {nv nt : Int} {code : List Int} (h : PSys w bb ev cv es nv nt code) (x : Int) : PSys (w.setCell ⟨bb, 1, none⟩ (.int .i64 x)) bb ev cv es x nt code := by
 have hc : Chg (fun b => b = bb) w (w.setCell ⟨bb, 1, none⟩ (.int .i64 x)) := (Chg.refl (fun b => b = bb) w).setCell (p := ⟨bb, 1, none⟩) rfl _
 have no : ∀ {base : Nat} {e : TypeId} {size n : Nat} {v : Value} {xs : List Value}, w.ownsRow base e size v n xs → 122 ≠ e → ∀ k, v.ownBlock = some k → ¬ k = bb := fun ho hne k hk e => own_blk ho h.blk hne (by rw [hk, e])
 refine ⟨?_, ownsRow_chg h.row hc (no h.row (by decide)), ownsRow_chg h.cod hc (no h.cod (by decide)), h.up⟩
 have := h.blk.set (o := 1) (.int .i64 x)
 simpa using this
def varP (es : List PE) (nv : Int) (s : ByteArray) (a : Nat) : (Int × Int) × List PE × Int :=
 if refP es (nx s a).1 = 0 then
  if nv = 16 then ((8, ((nx s a).2.1 : Int)), es, nv)
  else ((0, 0), es ++ [⟨(nx s a).1, true, nv, Inf.zero⟩], nv + 1)
 else ((refP es (nx s a).1, ((nx s a).2.1 : Int)), es, nv)
def VarPost (w : World) (bb rb : Nat) (ev cv : Value) (nt : Int) (code : List Int) (s : ByteArray) (a : Nat) (R : (Int × Int) × List PE × Int) (e : Ending) (w' : World) : Prop :=
 e = .returned (.tuple #[.int .i64 R.1.1, .int .i64 R.1.2]) ∧ (∃ ev', BS w' bb rb ev' cv R.2.1 R.2.2 nt code s (nx s a).2.2 ∧ Lc w ev ev') ∧ Chg (fun k => k = rb ∨ k = bb ∨ ev.ownBlock = some k) w w'
set_option maxRecDepth 100000 in
theorem book_loadVariable {w : World} {bb rb : Nat} {ev cv : Value} {es : List PE} {nv nt : Int} {code : List Int} {s : ByteArray} {a : Nat} (h : BS w bb rb ev cv es nv nt code s a) (ha : a ≤ s.size) (hs : s.size ≤ 100000000) (hl : es.length ≤ 1000) (hn0 : 0 ≤ nv) (hn1 : nv ≤ 16) :
  Calls Tryz.prog 79 #[.pointer (some ⟨bb, 0, none⟩), .pointer (some ⟨rb, 0, none⟩)] w (VarPost w bb rb ev cv nt code s a (varP es nv s a)) := by
 obtain ⟨R, hR⟩ : ∃ R, R = varP es nv s a := ⟨_, rfl⟩
 rw [← hR]
 obtain ⟨n1, n2, n3, n4⟩ := nextF_le s (s.size - a) a ha
 have H1 := hidden (rd_next rb s a w ha (by omega) h.rd)
 unfold varP at hR
 unfold nx at hR
 obtain ⟨x, hx⟩ : ∃ x, x = nextF s (s.size - a) a := ⟨_, rfl⟩
 rw [← hx] at H1 hR n1 n2 n3 n4
 have hnx : nx s a = x := hx.symm
 unfold VarPost
 rw [hnx]
 obtain ⟨t, pl, a'⟩ := x
 simp only at H1 hR n1 n2 n3 n4 ⊢
 have HB := hidden h
 clear h hx hnx
 go_enter Tryz.func79, Tryz.ntmps79
 go_wp2_with fail
 refine H1.out.mono ?_
 rintro e w1 ⟨rfl, hb1, hc1⟩
 have hbs1 := HB.out.next hb1 hc1
 have hbs2 := hbs1.below ((Below.refl _ _).alloc (Nat.le_refl _) (.cells #[.string t, .int .i64 pl] 163 (0, 0)))
 have hk2 := blk_new w1 #[.string t, .int .i64 pl] 163
 have H2 := hidden (book_refuse t pl hbs2.sys hbs2.tab (by omega) hl)
 have HB2 := hidden hbs2; have HK2 := hidden hk2
 have HC2 := hidden ((hc1.mono (fun k _ e => Or.inl e) : Chg (fun k => k = rb ∨ k = bb ∨ ev.ownBlock = some k) w w1).alloc (.cells #[.string t, .int .i64 pl] 163 (0, 0)))
 have hsz : (w1.alloc (.cells #[.string t, .int .i64 pl] 163 (0, 0))).heap.size = w1.heap.size + 1 := by simp
 clear H1 hb1 hc1 hbs1 hbs2 hk2
 go_wp2_with fail
 refine H2.out.mono ?_
 rintro e w2 ⟨rfl, hb2⟩
 have hbs := HB2.out.below hb2
 have hk := HK2.out.sub hb2 (by rw [hsz]; omega)
 have p0 : w2.cell? ⟨w1.heap.size, 0, none⟩ = some (.string t) := hk.cell 0 _ rfl
 have p1 : w2.cell? ⟨w1.heap.size, 1, none⟩ = some (.int .i64 pl) := hk.cell 1 _ rfl
 have v1 : w2.cell? ⟨bb, 1, none⟩ = some (.int .i64 nv) := hbs.sys.blk.cell 1 _ rfl
 obtain ⟨f, hf⟩ : ∃ f, f = refP es t := ⟨_, rfl⟩
 rw [← hf] at hR ⊢
 have HBS := hidden hbs
 have HC := hidden (HC2.out.trans (Chg.ofBelow hb2))
 have hkl := hk.lt
 clear H2 hb2 hbs hk HB2 HK2 HC2 hsz hf HB
 by_cases h0 : f = 0
 ·rw [if_pos h0] at hR
  subst h0
  by_cases h16 : nv = 16
  ·rw [if_pos h16] at hR
   subst h16
   subst hR
   go_wp2_with fail
   go_quiet (fail)
   go_wp2_with fail
   refine bodyPost_ret (v := .tuple #[.int .i64 8, .int .i64 pl]) (by simp [results, Tryz.results79, go_sem]) rfl ⟨rfl, ⟨_, HBS.out.below (show Below w2.heap.size w2 (w2.drewN nq) from ⟨rfl, rfl, rfl, Nat.le_refl _, fun _ _ => rfl⟩), Lc.refl _ _⟩, HC.out.trans (Chg.ofBelow (show Below w2.heap.size w2 (w2.drewN nq) from ⟨rfl, rfl, rfl, Nat.le_refl _, fun _ _ => rfl⟩))⟩
  ·rw [if_neg h16] at hR
   subst hR
   have h16' : (nv == 16) = false := by simpa using h16
   clear h16
   go_wp2_with fail
   go_still_tail 8, (by kernel_rfl)
   go_wp2_with fail
   have hbd := HBS.out.below (show Below w2.heap.size w2 w2.drew from (Below.refl _ _).drew)
   refine (book_keep ⟨t, true, nv, Inf.zero⟩ hbd.sys hbd.tab (by simp only; omega) hl).mono ?_
   rintro e w3 ⟨rfl, ⟨ev', hp3, hlc⟩, hc3⟩
   have HLC := hidden (hlc.mono (w0 := w) HC.out.size)
   have hn : rb ≠ bb := by intro e; rw [e] at hbd; exact absurd (blk_type hbd.sys.blk hbd.rd) (by decide)
   have hre : ev.ownBlock ≠ some rb := own_blk hbd.sys.row hbd.rd (by decide)
   have hrd3 := hbd.rd.chg hc3 (fun e => e.elim (fun e => hn e) (fun e => hre e))
   have htab3 := hbd.tab.chg hc3 (fun k e => e.elim (fun e => by rw [e]; exact hbd.sys.up) (fun e => own_ge hbd.sys.row e))
   have x1 : w3.cell? ⟨bb, 1, none⟩ = some (.int .i64 nv) := hp3.blk.cell 1 _ rfl
   have fx1 := hp3.blk.frozen 1
   have hset := hp3.setVar (nv + 1)
   have hrs := hrd3.setOther (a := ⟨bb, 1, none⟩) (fun e => hn e.symm) (.int .i64 (nv + 1))
   have hts := htab3.chg ((Chg.refl (fun k => k = bb) w3).setCell (p := ⟨bb, 1, none⟩) rfl (.int .i64 (nv + 1))) (fun k e => by rw [e]; exact hp3.up)
   have HSET := hidden (BS.mk hset hts hrs hbd.ru)
   have HCC := hidden (((HC.out.trans (Chg.ofBelow (show Below w2.heap.size w2 w2.drew from (Below.refl _ _).drew))).trans (hc3.mono (fun k _ e => Or.inr e))).setCell (p := ⟨bb, 1, none⟩) (Or.inr (Or.inl rfl)) (.int .i64 (nv + 1)))
   clear hlc hbd hp3 hc3 hrd3 htab3 hset hrs hts HBS HC p0 p1 v1
   go_wp2_with fail
   refine bodyPost_ret (v := .tuple #[.int .i64 0, .int .i64 0]) (by simp [results, Tryz.results79, go_sem]) rfl ⟨rfl, ⟨_, HSET.out, HLC.out⟩, HCC.out⟩
 ·rw [if_neg h0] at hR
  subst hR
  have h0' : (f == 0) = false := by simpa using h0
  have h0n : (f != 0) = true := by simpa using h0
  clear h0
  go_wp2_with fail
  go_quiet (fail)
  go_wp2_with fail
  refine bodyPost_ret (v := .tuple #[.int .i64 f, .int .i64 pl]) (by simp [results, Tryz.results79, go_sem]) rfl ⟨rfl, ⟨_, HBS.out.below (show Below w2.heap.size w2 (w2.drewN nq) from ⟨rfl, rfl, rfl, Nat.le_refl _, fun _ _ => rfl⟩), Lc.refl _ _⟩, HC.out.trans (Chg.ofBelow (show Below w2.heap.size w2 (w2.drewN nq) from ⟨rfl, rfl, rfl, Nat.le_refl _, fun _ _ => rfl⟩))⟩
def w32 (n : Int) : Int := (n + 2147483648) % 4294967296 - 2147483648
def Cell (n : Int) : Prop := -2147483648 ≤ n ∧ n ≤ 2147483647
theorem w32_cell (n : Int) : Cell (w32 n) := by unfold Cell w32; omega
theorem w32_id {n : Int} (h : Cell n) : w32 n = n := by obtain ⟨a, b⟩ := h; unfold w32; omega
theorem w32_wrap (n : Int) : wrap64 (wrap32 n) = w32 n := by unfold wrap64 wrap32 w32; omega
theorem mach_wrapped (n : Int) (w : World) : Calls Tryz.prog 140 #[.int .i64 n] w fun e w' => e = .returned (.int .i64 (w32 n)) ∧ w' = w := by
 go_enter Tryz.func140, Tryz.ntmps140
 go_wp2_with fail
 rw [w32_wrap]
 go_ret
 exact ⟨rfl, rfl⟩
def flagP (b : Bool) : Int := if b then -1 else 0
theorem flag_cell (b : Bool) : Cell (flagP b) := by cases b <;> exact ⟨by decide, by decide⟩
theorem mach_flag (b : Bool) (w : World) : Calls Tryz.prog 142 #[.bool b] w fun e w' => e = .returned (.int .i64 (flagP b)) ∧ w' = w := by
 cases b
 ·go_enter Tryz.func142, Tryz.ntmps142
  go_wp2_with fail
  go_ret
  exact ⟨rfl, rfl⟩
 ·go_enter Tryz.func142, Tryz.ntmps142
  go_wp2_with fail
  go_ret
  exact ⟨rfl, rfl⟩
def divP (a b : Int) : Int := if b = 0 then 0 else if a.tmod b ≠ 0 ∧ decide (a < 0) ≠ decide (b < 0) then w32 (a.tdiv b - 1) else w32 (a.tdiv b)
theorem div_cell (a b : Int) : Cell (divP a b) := by
 unfold divP
 split
 ·exact ⟨by decide, by decide⟩
 ·split <;> exact w32_cell _
theorem tdiv_bd {a b : Int} (h : Cell a) : -2147483648 ≤ a.tdiv b ∧ a.tdiv b ≤ 2147483648 := by
 obtain ⟨h1, h2⟩ := h
 have : (a.tdiv b).natAbs ≤ a.natAbs := Int.natAbs_tdiv_le_natAbs a b
 omega
theorem mach_divided {a b : Int} (ha : Cell a) (hb : Cell b) (w : World) : Calls Tryz.prog 141 #[.int .i64 a, .int .i64 b] w fun e w' => e = .returned (.int .i64 (divP a b)) ∧ w' = w := by
 obtain ⟨q1, q2⟩ := tdiv_bd (b := b) ha
 obtain ⟨a1, a2⟩ := ha
 obtain ⟨b1, b2⟩ := hb
 obtain ⟨R, hR⟩ : ∃ R, R = divP a b := ⟨_, rfl⟩
 rw [← hR]
 unfold divP at hR
 by_cases h0 : b = 0
 ·rw [if_pos h0] at hR
  have HR := hidden hR
  clear hR
  subst h0
  go_enter Tryz.func141, Tryz.ntmps141
  go_wp2_with fail
  rw [HR.out]
  go_ret
  exact ⟨rfl, rfl⟩
 ·have hz : (b == 0) = false := by simp [h0]
  rw [if_neg h0] at hR
  obtain ⟨q, hq⟩ : ∃ q, q = a.tdiv b := ⟨_, rfl⟩
  obtain ⟨m, hm⟩ : ∃ m, m = a.tmod b := ⟨_, rfl⟩
  have HQ := hidden hq; have HM := hidden hm
  rw [← hq] at hR q1 q2
  rw [← hm] at hR
  have HW := hidden (fun n w => mach_wrapped n w)
  by_cases hm0 : m = 0
  ·rw [if_neg (fun h => h.1 hm0)] at hR
   have HR := hidden hR
   have hmb : (m != 0) = false := by simp [hm0]
   clear hR
   go_enter Tryz.func141, Tryz.ntmps141
   rw [hm] at hmb
   go_wp2_with fail
   refine (HW.out _ _).mono ?_
   rintro e w' ⟨rfl, rfl⟩
   go_wp2_with fail
   rw [HR.out, HQ.out]
   go_ret
   exact ⟨rfl, rfl⟩
  ·have hmb : (m != 0) = true := by simp [hm0]
   rw [hm] at hmb
   by_cases ha0 : a < 0
   ·by_cases hb0 : b < 0
    ·rw [if_neg (fun h => h.2 (by simp [ha0, hb0]))] at hR
     have HR := hidden hR
     have hda : decide (a < 0) = true := by simp [ha0]
     have hdb : decide (b < 0) = true := by simp [hb0]
     rw [hq] at q1 q2
     clear hR hm hq hm0
     go_enter Tryz.func141, Tryz.ntmps141
     go_wp2_with fail
     refine (HW.out _ _).mono ?_
     rintro e w' ⟨rfl, rfl⟩
     go_wp2_with fail
     rw [HR.out, HQ.out]
     go_ret
     exact ⟨rfl, rfl⟩
    ·rw [if_pos ⟨hm0, by simp [ha0, hb0]⟩] at hR
     have HR := hidden hR
     have hda : decide (a < 0) = true := by simp [ha0]
     have hdb : decide (b < 0) = false := by simp [hb0]
     rw [hq] at q1 q2
     clear hR hm hq hm0
     go_enter Tryz.func141, Tryz.ntmps141
     go_wp2_with fail
     refine (HW.out _ _).mono ?_
     rintro e w' ⟨rfl, rfl⟩
     go_wp2_with fail
     rw [HR.out, HQ.out]
     go_ret
     exact ⟨rfl, rfl⟩
   ·by_cases hb0 : b < 0
    ·rw [if_pos ⟨hm0, by simp [ha0, hb0]⟩] at hR
     have HR := hidden hR
     have hda : decide (a < 0) = false := by simp [ha0]
     have hmb2 : (a % b != 0) = true := by rw [← Int.tmod_eq_emod_of_nonneg (by omega)]; exact hmb
     have hdb : decide (b < 0) = true := by simp [hb0]
     rw [hq] at q1 q2
     clear hR hm hq hm0
     go_enter Tryz.func141, Tryz.ntmps141
     go_wp2_with fail
     refine (HW.out _ _).mono ?_
     rintro e w' ⟨rfl, rfl⟩
     go_wp2_with fail
     rw [HR.out, HQ.out]
     go_ret
     exact ⟨rfl, rfl⟩
    ·rw [if_neg (fun h => h.2 (by simp [ha0, hb0]))] at hR
     have HR := hidden hR
     have hda : decide (a < 0) = false := by simp [ha0]
     have hmb2 : (a % b != 0) = true := by rw [← Int.tmod_eq_emod_of_nonneg (by omega)]; exact hmb
     have hdb : decide (b < 0) = false := by simp [hb0]
     rw [hq] at q1 q2
     clear hR hm hq hm0
     go_enter Tryz.func141, Tryz.ntmps141
     go_wp2_with fail
     refine (HW.out _ _).mono ?_
     rintro e w' ⟨rfl, rfl⟩
     go_wp2_with fail
     rw [HR.out, HQ.out]
     go_ret
     exact ⟨rfl, rfl⟩
def twoP (op : Nat) (a b : Int) : Int :=
 if op = 0 then w32 (a + b) else if op = 1 then w32 (a - b) else if op = 2 then w32 (a * b) else if op = 3 then bits .and .i64 a b else if op = 4 then bits .or .i64 a b else if op = 5 then bits .xor .i64 a b
 else if op = 6 then divP a b else if op = 7 then w32 (a - b * divP a b) else if op = 8 then flagP (a == b) else if op = 9 then flagP (decide (a < b)) else if op = 10 then flagP (decide (b < a)) else if op = 11 then min a b else max a b
theorem mul_bd {a b : Int} (ha : Cell a) (hb : Cell b) : -4611686018427387904 ≤ a * b ∧ a * b ≤ 4611686018427387904 := by
 obtain ⟨a1, a2⟩ := ha
 obtain ⟨b1, b2⟩ := hb
 have h : (a * b).natAbs ≤ 2147483648 * 2147483648 := by
  rw [Int.natAbs_mul]
  exact Nat.mul_le_mul (by omega) (by omega)
 omega
theorem mach_two (op : Nat) (hop : op ≤ 12) {a b : Int} (ha : Cell a) (hb : Cell b) (w : World) : Calls Tryz.prog 109 #[.int .i64 op, .int .i64 a, .int .i64 b] w fun e w' => e = .returned (.int .i64 (twoP op a b)) ∧ w' = w := by
 have HW := hidden (fun n w => mach_wrapped n w)
 have HF := hidden (fun b w => mach_flag b w)
 have HD := hidden (fun w => mach_divided ha hb w)
 have hm := mul_bd ha hb
 have hm2 := mul_bd hb (div_cell a b)
 obtain ⟨a1, a2⟩ := ha
 obtain ⟨b1, b2⟩ := hb
 obtain ⟨P, hP⟩ : ∃ P, P = a * b := ⟨_, rfl⟩
 obtain ⟨D, hD⟩ : ∃ D, D = divP a b := ⟨_, rfl⟩
 rw [← hD] at HD hm2
 obtain ⟨m1, m2⟩ := hm
 obtain ⟨m3, m4⟩ := hm2
 by_cases h0 : op = 0
 ·subst h0
  have HR := hidden (show w32 (a + b) = twoP 0 a b from rfl)
  clear hP hD m1 m2 m3 m4
  go_enter Tryz.func109, Tryz.ntmps109
  go_wp2_with fail
  refine (HW.out _ _).mono ?_
  rintro e w' ⟨rfl, rfl⟩
  go_wp2_with fail
  rw [← HR.out]
  go_ret
  exact ⟨rfl, rfl⟩
 by_cases h1 : op = 1
 ·subst h1
  have HR := hidden (show w32 (a - b) = twoP 1 a b from rfl)
  clear hP hD m1 m2 m3 m4
  go_enter Tryz.func109, Tryz.ntmps109
  go_wp2_with fail
  refine (HW.out _ _).mono ?_
  rintro e w' ⟨rfl, rfl⟩
  go_wp2_with fail
  rw [← HR.out]
  go_ret
  exact ⟨rfl, rfl⟩
 by_cases h2 : op = 2
 ·subst h2
  have HR := hidden (show w32 (a * b) = twoP 2 a b from rfl)
  clear hP hD m3 m4
  go_enter Tryz.func109, Tryz.ntmps109
  go_wp2_with fail
  refine (HW.out _ _).mono ?_
  rintro e w' ⟨rfl, rfl⟩
  go_wp2_with fail
  rw [← HR.out]
  go_ret
  exact ⟨rfl, rfl⟩
 by_cases h3 : op = 3
 ·subst h3
  have HR := hidden (show bits .and .i64 a b = twoP 3 a b from rfl)
  clear hP hD m1 m2 m3 m4
  go_enter Tryz.func109, Tryz.ntmps109
  go_wp2_with fail
  rw [← HR.out]
  go_ret
  exact ⟨rfl, rfl⟩
 by_cases h4 : op = 4
 ·subst h4
  have HR := hidden (show bits .or .i64 a b = twoP 4 a b from rfl)
  clear hP hD m1 m2 m3 m4
  go_enter Tryz.func109, Tryz.ntmps109
  go_wp2_with fail
  rw [← HR.out]
  go_ret
  exact ⟨rfl, rfl⟩
 by_cases h5 : op = 5
 ·subst h5
  have HR := hidden (show bits .xor .i64 a b = twoP 5 a b from rfl)
  clear hP hD m1 m2 m3 m4
  go_enter Tryz.func109, Tryz.ntmps109
  go_wp2_with fail
  rw [← HR.out]
  go_ret
  exact ⟨rfl, rfl⟩
 by_cases h6 : op = 6
 ·subst h6
  have HR := hidden (show D = twoP 6 a b from by rw [hD]; rfl)
  clear hP hD m1 m2 m3 m4
  go_enter Tryz.func109, Tryz.ntmps109
  go_wp2_with fail
  refine (HD.out _).mono ?_
  rintro e w' ⟨rfl, rfl⟩
  go_wp2_with fail
  rw [← HR.out]
  go_ret
  exact ⟨rfl, rfl⟩
 by_cases h7 : op = 7
 ·subst h7
  have HR := hidden (show w32 (a - b * D) = twoP 7 a b from by rw [hD]; rfl)
  clear hP hD m1 m2
  go_enter Tryz.func109, Tryz.ntmps109
  go_wp2_with fail
  refine (HD.out _).mono ?_
  rintro e w' ⟨rfl, rfl⟩
  go_wp2_with fail
  refine (HW.out _ _).mono ?_
  rintro e w' ⟨rfl, rfl⟩
  go_wp2_with fail
  rw [← HR.out]
  go_ret
  exact ⟨rfl, rfl⟩
 by_cases h8 : op = 8
 ·subst h8
  have HR := hidden (show flagP (a == b) = twoP 8 a b from rfl)
  clear hP hD m1 m2 m3 m4
  go_enter Tryz.func109, Tryz.ntmps109
  go_wp2_with fail
  refine (HF.out _ _).mono ?_
  rintro e w' ⟨rfl, rfl⟩
  go_wp2_with fail
  rw [← HR.out]
  go_ret
  exact ⟨rfl, rfl⟩
 by_cases h9 : op = 9
 ·subst h9
  have HR := hidden (show flagP (decide (a < b)) = twoP 9 a b from rfl)
  clear hP hD m1 m2 m3 m4
  go_enter Tryz.func109, Tryz.ntmps109
  go_wp2_with fail
  refine (HF.out _ _).mono ?_
  rintro e w' ⟨rfl, rfl⟩
  go_wp2_with fail
  rw [← HR.out]
  go_ret
  exact ⟨rfl, rfl⟩
 by_cases h10 : op = 10
 ·subst h10
  have HR := hidden (show flagP (decide (b < a)) = twoP 10 a b from rfl)
  clear hP hD m1 m2 m3 m4
  go_enter Tryz.func109, Tryz.ntmps109
  go_wp2_with fail
  refine (HF.out _ _).mono ?_
  rintro e w' ⟨rfl, rfl⟩
  go_wp2_with fail
  rw [← HR.out]
  go_ret
  exact ⟨rfl, rfl⟩
 by_cases h11 : op = 11
 ·subst h11
  have HR := hidden (show min a b = twoP 11 a b from rfl)
  clear hP hD m1 m2 m3 m4
  go_enter Tryz.func109, Tryz.ntmps109
  go_wp2_with fail
  rw [← HR.out]
  go_ret
  exact ⟨rfl, rfl⟩
 by_cases h12 : op = 12
 ·subst h12
  have HR := hidden (show max a b = twoP 12 a b from rfl)
  clear hP hD m1 m2 m3 m4
  go_enter Tryz.func109, Tryz.ntmps109
  go_wp2_with fail
  rw [← HR.out]
  go_ret
  exact ⟨rfl, rfl⟩
 ·omega
def oneP (op : Nat) (a : Int) : Int := if op = 15 then flagP (a == 0) else if op = 13 ∨ a < 0 then w32 (-a) else a
theorem mach_one (op : Nat) (h1 : 13 ≤ op) (h2 : op ≤ 15) {a : Int} (ha : Cell a) (w : World) : Calls Tryz.prog 110 #[.int .i64 op, .int .i64 a] w fun e w' => e = .returned (.int .i64 (oneP op a)) ∧ w' = w := by
 have HW := hidden (fun n w => mach_wrapped n w)
 have HF := hidden (fun b w => mach_flag b w)
 obtain ⟨a1, a2⟩ := ha
 have hc : op = 13 ∨ op = 14 ∨ op = 15 := by omega
 rcases hc with rfl | rfl | rfl
 ·have HR := hidden (show w32 (-a) = oneP 13 a from by unfold oneP; rw [if_neg (by decide), if_pos (Or.inl rfl)])
  go_enter Tryz.func110, Tryz.ntmps110
  go_wp2_with fail
  refine (HW.out _ _).mono ?_
  rintro e w' ⟨rfl, rfl⟩
  go_wp2_with fail
  rw [← HR.out]
  go_ret
  exact ⟨rfl, rfl⟩
 ·by_cases h0 : a < 0
  ·have HR := hidden (show w32 (-a) = oneP 14 a from by unfold oneP; rw [if_neg (by decide), if_pos (Or.inr h0)])
   go_enter Tryz.func110, Tryz.ntmps110
   go_wp2_with fail
   refine (HW.out _ _).mono ?_
   rintro e w' ⟨rfl, rfl⟩
   go_wp2_with fail
   rw [← HR.out]
   go_ret
   exact ⟨rfl, rfl⟩
  ·have HR := hidden (show a = oneP 14 a from by unfold oneP; rw [if_neg (by decide), if_neg (fun h => h.elim (by decide) h0)])
   go_enter Tryz.func110, Tryz.ntmps110
   go_wp2_with fail
   rw [← HR.out]
   go_ret
   exact ⟨rfl, rfl⟩
 ·have HR := hidden (show flagP (a == 0) = oneP 15 a from by unfold oneP; rw [if_pos rfl])
  go_enter Tryz.func110, Tryz.ntmps110
  go_wp2_with fail
  refine (HF.out _ _).mono ?_
  rintro e w' ⟨rfl, rfl⟩
  go_wp2_with fail
  rw [← HR.out]
  go_ret
  exact ⟨rfl, rfl⟩
def defP (es : List PE) (nt : Int) (s : ByteArray) : Nat → Int → List Int → List PB → Inf → Nat → (List Int × Inf × Int × Nat) ⊕ (Int × Int)
 | 0, _, _, _, _, _ => .inr (99, 0)
 | f + 1, tk, dc, [], kn, a => .inl (dc, kn, tk, a)
 | f + 1, tk, dc, b :: r, kn, a =>
  if (stepP es nt (tk + 1) dc (b :: r) kn (nx s a).1).1 = 0 then
   defP es nt s f (tk + 1) (stepP es nt (tk + 1) dc (b :: r) kn (nx s a).1).2.1 (stepP es nt (tk + 1) dc (b :: r) kn (nx s a).1).2.2.1 (stepP es nt (tk + 1) dc (b :: r) kn (nx s a).1).2.2.2 (nx s a).2.2
  else .inr ((stepP es nt (tk + 1) dc (b :: r) kn (nx s a).1).1, ((nx s a).2.1 : Int))
theorem nextF_move (s : ByteArray) : ∀ (f a : Nat), a ≤ s.size → ((nextF s f a).1.toList == []) = false → a < (nextF s f a).2.2
 | 0, a, h, hne => by
  obtain ⟨h1, h2, h3⟩ := cut_le s a h
  rw [nextF] at hne ⊢
  simp only at hne ⊢
  by_cases e : cutB s a = cutE s a
  ·rw [e] at hne
   have : s.extract (cutE s a) (cutE s a) = ⟨#[]⟩ := by
    have hsz : (s.extract (cutE s a) (cutE s a)).size = 0 := by simp
    exact ByteArray.size_eq_zero_iff.1 hsz
   rw [this, show (⟨#[]⟩ : ByteArray).toList = [] from ba_list []] at hne
   cases hne
  ·omega
 | f + 1, a, h, hne => by
  obtain ⟨h1, h2, h3⟩ := cut_le s a h
  rw [nextF] at hne ⊢
  split at hne
  ·rename_i hn
   rw [if_pos hn]
   have hsp := scan_spec eol s (cutE s a) h3
   have := nextF_move s f _ hsp.2.1 hne
   omega
  ·rename_i hn
   rw [if_neg hn]
   simp only at hne ⊢
   by_cases e : cutB s a = cutE s a
   ·rw [e] at hne
    have : s.extract (cutE s a) (cutE s a) = ⟨#[]⟩ := by
     have hsz : (s.extract (cutE s a) (cutE s a)).size = 0 := by simp
     exact ByteArray.size_eq_zero_iff.1 hsz
    rw [this, show (⟨#[]⟩ : ByteArray).toList = [] from ba_list []] at hne
    cases hne
   ·omega
def wordP (es : List PE) (nt : Int) (code : List Int) (s : ByteArray) (a : Nat) : (Int × Int) × List PE × Int × List Int × Nat :=
 if refP es (nx s a).1 = 0 then
  match defP es nt s (s.size + 2) 2 code [PB.first] Inf.zero (nx s a).2.2 with
  | .inr (E, P) => ((E, P), es, nt, code, 0)
  | .inl (dc, kn, tk, a') => ((0, 0), es ++ [⟨(nx s a).1, false, code.length, kn⟩], nt + tk, dc, a')
 else ((refP es (nx s a).1, ((nx s a).2.1 : Int)), es, nt, code, 0)
def WordPost (w : World) (bb rb : Nat) (ev cv : Value) (nv : Int) (s : ByteArray) (R : (Int × Int) × List PE × Int × List Int × Nat) (e : Ending) (w' : World) : Prop :=
 e = .returned (.tuple #[.int .i64 R.1.1, .int .i64 R.1.2]) ∧ (∃ ev' cv' a', BS w' bb rb ev' cv' R.2.1 nv R.2.2.1 R.2.2.2.1 s a' ∧ a' ≤ s.size ∧ (R.1.1 = 0 → a' = R.2.2.2.2) ∧ Lc w ev ev' ∧ Lc w cv cv') ∧ Chg (fun k => k = rb ∨ k = bb ∨ ev.ownBlock = some k ∨ cv.ownBlock = some k) w w'
theorem PSys.setCode {w : World} {bb : Nat} {ev cv v2 : Value} {es : List PE} {nv nt : Int} {code dc : List Int} (h : PSys w bb ev cv es nv nt code) (x : Int) (hr : w.ownsRow 3 3 1 v2 dc.length (codeC dc)) :
  PSys ((w.setCell ⟨bb, 2, none⟩ (.int .i64 x)).setCell ⟨bb, 3, none⟩ v2) bb ev v2 es nv x dc := by
 have hc : Chg (fun b => b = bb) w ((w.setCell ⟨bb, 2, none⟩ (.int .i64 x)).setCell ⟨bb, 3, none⟩ v2) := ((Chg.refl (fun b => b = bb) w).setCell (p := ⟨bb, 2, none⟩) rfl _).setCell (p := ⟨bb, 3, none⟩) rfl _
 have no : ∀ {base : Nat} {e : TypeId} {size n : Nat} {v : Value} {xs : List Value}, w.ownsRow base e size v n xs → 122 ≠ e → ∀ k, v.ownBlock = some k → ¬ k = bb := fun ho hne k hk e => own_blk ho h.blk hne (by rw [hk, e])
 refine ⟨?_, ownsRow_chg h.row hc (no h.row (by decide)), ownsRow_chg hr hc (no hr (by decide)), h.up⟩
 have := (h.blk.set (o := 2) (.int .i64 x)).set (o := 3) v2
 simpa using this
set_option maxRecDepth 100000 in
theorem book_loadWord {w : World} {bb rb : Nat} {ev cv : Value} {es : List PE} {nv nt : Int} {code : List Int} {s : ByteArray} {a : Nat} (h : BS w bb rb ev cv es nv nt code s a) (ha : a ≤ s.size) (hs : s.size ≤ 1100000) (hl : es.length ≤ 1000) (hwt : ∀ x ∈ es, x.inf.Wt 1)
  (hnt0 : 0 ≤ nt) (hnt1 : nt ≤ 100000) (hcl : code.length ≤ 1100000) :
  Calls Tryz.prog 80 #[.pointer (some ⟨bb, 0, none⟩), .pointer (some ⟨rb, 0, none⟩)] w (WordPost w bb rb ev cv nv s (wordP es nt code s a)) := by
 obtain ⟨R, hR⟩ : ∃ R, R = wordP es nt code s a := ⟨_, rfl⟩
 rw [← hR]
 obtain ⟨n1, n2, n3, n4⟩ := nextF_le s (s.size - a) a ha
 have H1 := hidden (rd_next rb s a w ha (by omega) h.rd)
 unfold wordP at hR
 unfold nx at hR
 obtain ⟨x, hx⟩ : ∃ x, x = nextF s (s.size - a) a := ⟨_, rfl⟩
 rw [← hx] at H1 hR n1 n2 n3 n4
 obtain ⟨t, pl, a'⟩ := x
 simp only at H1 hR n1 n2 n3 n4 ⊢
 have HB := hidden h
 have HWT := hidden hwt
 have HRR := hidden hR
 clear h hx hwt hR
 go_enter Tryz.func80, Tryz.ntmps80
 go_wp2_with fail
 refine H1.out.mono ?_
 rintro e w1 ⟨rfl, hb1, hc1⟩
 have hbs1 := HB.out.next hb1 hc1
 have hbs2 := hbs1.below ((Below.refl _ _).alloc (Nat.le_refl _) (.cells #[.string t, .int .i64 pl] 163 (0, 0)))
 have hk2 := blk_new w1 #[.string t, .int .i64 pl] 163
 have H2 := hidden (book_refuse t pl hbs2.sys hbs2.tab (by omega) hl)
 have HB2 := hidden hbs2; have HK2 := hidden hk2
 have HC2 := hidden ((hc1.mono (fun k _ e => Or.inl e) : Chg (fun k => k = rb ∨ k = bb ∨ ev.ownBlock = some k ∨ cv.ownBlock = some k) w w1).alloc (.cells #[.string t, .int .i64 pl] 163 (0, 0)))
 have hsz : (w1.alloc (.cells #[.string t, .int .i64 pl] 163 (0, 0))).heap.size = w1.heap.size + 1 := by simp
 clear H1 hb1 hc1 hbs1 hbs2 hk2
 go_wp2_with fail
 refine H2.out.mono ?_
 rintro e w2 ⟨rfl, hb2⟩
 have hbs := HB2.out.below hb2
 have hk := HK2.out.sub hb2 (by rw [hsz]; omega)
 have p0 : w2.cell? ⟨w1.heap.size, 0, none⟩ = some (.string t) := hk.cell 0 _ rfl
 have p1 : w2.cell? ⟨w1.heap.size, 1, none⟩ = some (.int .i64 pl) := hk.cell 1 _ rfl
 obtain ⟨f, hf⟩ : ∃ f, f = refP es t := ⟨_, rfl⟩
 have hR := HRR.out
 rw [← hf] at hR ⊢
 have HR0 := hidden hR
 clear hR HRR
 have HBS := hidden hbs; have HKN := hidden hk
 have HC := hidden (HC2.out.trans (Chg.ofBelow hb2))
 have hkl := hk.lt
 clear H2 hb2 hbs hk HB2 HK2 HC2 hsz hf HB
 by_cases h0 : f = 0
 ·subst h0
  have hR1 := HR0.out
  rw [if_pos rfl] at hR1
  have HR := hidden hR1
  clear HR0 hR1
  have H3 := hidden (book_define (w0 := w2) (rc := (rdC s a', w1.heap.size, #[.string t, .int .i64 pl])) HBS.out.sys HBS.out.tab ⟨HBS.out.rd, HKN.out⟩ HBS.out.ru HBS.out.tab.lt (Chg.refl _ w2))
  go_wp2_with fail
  refine H3.out.mono ?_
  rintro e w3 ⟨db, bv, rfl, hds, hbl⟩
  have HDS := hidden hds
  clear H3 hds p0 p1 hbl
  go_wp2_with fail
  obtain ⟨D, hD⟩ : ∃ D, D = defP es nt s (s.size + 2) 2 code [PB.first] Inf.zero a' := ⟨_, rfl⟩
  have HD := hidden hD
  have HD0 := hidden hD
  clear hD
  go_loopw [9] (fun _ wr => ∃ (b f q : Nat) (tk : Int) (dc : List Int) (st : List PB) (kn : Inf) (dcv bv : Value), DS w2 wr rb (rdC s b, w1.heap.size, #[.string t, .int .i64 pl]) bb db ev cv dcv bv es nv nt code dc tk (List.reverse st) kn ∧ Hid (D = defP es nt s f tk dc st kn b) ∧ Hid (b ≤ s.size ∧ s.size - b + 2 ≤ f ∧ tk = 2 + (q : Int) ∧ q ≤ b ∧ WB st (2 * q) ∧ st.length ≤ q + 1 ∧ dc.length ≤ code.length + 2 * q ∧ code.length ≤ dc.length ∧ (st = [] ∨ SInv code.length dc.length st))) (fun _ wr => s.size - atOf wr rb)
  case atStart =>
   refine ⟨a', s.size + 2, 0, 2, code, [PB.first], Inf.zero, cv, bv, by simpa using HDS.out, HD, n3, by omega, rfl, by omega, ⟨0, 0, Inf.Wt.zero, Inf.Wt.zero, by omega, trivial⟩, by simp, by omega, Nat.le_refl _, Or.inr ⟨rfl, ?_⟩⟩
   constructor <;> simp [PB.first, PB.zero]
  case round =>
   clear HDS HD
   obtain ⟨b, fu, q, tk, dc, st, kn, dcv, bv', hds, HDD, HI⟩ := hrel
   obtain ⟨i1, i2, i3, i4, i5, i6, i7, i8, i9⟩ := HI.out
   cases st with
   | nil =>
    have hE := hidden (def_ended hds true (by simp) (by simp))
    obtain ⟨fu', rfl⟩ : ∃ fu', fu = fu' + 1 := ⟨fu - 1, by omega⟩
    have hdd := HDD.out
    rw [defP] at hdd
    have hkn : Blk wr w1.heap.size #[.string t, .int .i64 pl] 163 := hds.rdr.2
    have p0 : wr.cell? ⟨w1.heap.size, 0, none⟩ = some (.string t) := hkn.cell 0 _ rfl
    obtain ⟨c0, c1, c2, c3⟩ := hds.def
    have k4 := hds.blk.cell 4 _ rfl; have k5 := hds.blk.cell 5 _ rfl; have k6 := hds.blk.cell 6 _ rfl; have k7 := hds.blk.cell 7 _ rfl; have k8 := hds.blk.cell 8 _ rfl
    simp only [defC, List.getElem_toArray, List.getElem_cons_succ, List.getElem_cons_zero] at k4 k5 k6 k7 k8
    have b3 : wr.cell? ⟨bb, 3, none⟩ = some cv := hds.sys.blk.cell 3 _ rfl
    obtain ⟨ad, cap, hcv, hcap, _⟩ := row_shape hds.sys.cod
    obtain ⟨ad2, cap2, hdv, hcap2, _⟩ := row_shape hds.cod
    rw [hcv] at b3
    rw [hdv] at c2
    have HDS := hidden hds; have HDF := hidden hdd
    clear hds hdd hkn HDD c0 c3 i1 i2 i3 i4 i5 i6 i7 i8 i9
    go_wp2_with fail
    refine hE.out.mono ?_
    rintro e wq ⟨rfl, rfl⟩
    go_wp2_with fail
    go_still_tail 13, (by kernel_rfl)
    go_wp2_with fail
    have hwd : Below wq.heap.size wq wq.drew := (Below.refl _ _).drew
    have hd := HDS.out.below hwd
    refine (book_keep ⟨t, false, code.length, kn⟩ hd.sys hd.tab (by simp only; omega) hl).mono ?_
    rintro e w6 ⟨rfl, ⟨ev', hp6, hlc⟩, hc6⟩
    have HLE := hidden (hlc.mono (w0 := w) (Nat.le_trans HC.out.size HDS.out.frm.size))
    have HLD := hidden (show Lc w cv dcv from fun k hk => HDS.out.loc.elim (fun e => Or.inl (e.symm.trans hk)) (fun ⟨j, e1, e2⟩ => by rw [e1] at hk; cases hk; exact Or.inr (Nat.le_trans HC.out.size e2)))
    clear hlc
    have hnd : db ≠ bb := blk_ne hd.blk hd.sys.blk (by decide)
    have hned : ev.ownBlock ≠ some db := own_blk hd.sys.row hd.blk (by decide)
    have hnr : rb ≠ bb := blk_ne hd.rdr.1 hd.sys.blk (by decide)
    have hner : ev.ownBlock ≠ some rb := own_blk hd.sys.row hd.rdr.1 (by decide)
    have hdb6 := hd.blk.chg hc6 (fun e => e.elim (fun e => hnd e) (fun e => hned e))
    have hrd6 := hd.rdr.1.chg hc6 (fun e => e.elim (fun e => hnr e) (fun e => hner e))
    have hcod6 := ownsRow_chg hd.cod hc6 (fun k hk e => e.elim (fun e => own_blk hd.cod hd.sys.blk (by decide) (by rw [hk, e])) (fun e => own_own hd.cod hd.sys.row (by decide) hk e))
    have htab6 := hd.tab.chg hc6 (fun k e => e.elim (fun e => by rw [e]; exact hd.sys.up) (fun e => own_ge hd.sys.row e))
    have y1 : w6.cell? ⟨db, 1, none⟩ = some (.int .i64 tk) := hdb6.cell 1 _ rfl
    have y2 : w6.cell? ⟨db, 2, none⟩ = some (.slice ad2 dc.length cap2) := by rw [← hdv]; exact hdb6.cell 2 _ rfl
    have z2 : w6.cell? ⟨bb, 2, none⟩ = some (.int .i64 nt) := hp6.blk.cell 2 _ rfl
    have z3 : w6.cell? ⟨bb, 3, none⟩ = some (.slice ad code.length cap) := by rw [← hcv]; exact hp6.blk.cell 3 _ rfl
    have g2 := hp6.blk.frozen 2; have g3 := hp6.blk.frozen 3
    obtain ⟨i1, i2, i3, i4, i5, i6, i7, i8, i9⟩ := HI.out
    have htk0 : 0 ≤ tk := by omega
    have htk1 : tk ≤ 10000000 := by omega
    have hbl := hp6.blk.lt
    have HP6 := hidden hp6; have HD6 := hidden hdb6; have HR6 := hidden hrd6; have HO6 := hidden hcod6; have HT6 := hidden htab6
    have HCC := hidden (((HC.out.thru HDS.out.frm (fun k _ e => e.elim (fun e => Or.inl e) (fun e => Or.inr (Or.inr (Or.inr e))))).trans (Chg.ofBelow hwd)).trans (hc6.mono (fun k _ e => e.elim (fun e => Or.inr (Or.inl e)) (fun e => Or.inr (Or.inr (Or.inl e))))))
    have HRU := hidden hd.ru
    have HB1 := hidden i1
    clear hwd hd hp6 hc6 hned hner hdb6 hrd6 hcod6 htab6 i1 i2 i3 i4 i5 i6 i7 i8 i9 HDS p0 c1 c2 k4 k5 k6 k7 k8 b3 hE
    go_wp2_with fail
    go_still_tail 9, (by kernel_rfl)
    go_wp2_with fail
    have hRe : R = ((0, 0), es ++ [⟨t, false, code.length, kn⟩], nt + tk, dc, b) := by
     have := HR.out
     rw [← HD0.out, HDF.out] at this
     exact this
    rw [hRe]
    have hset := HP6.out.setCode (nt + tk) HO6.out
    rw [hdv] at hset
    have hrs := (HR6.out.setOther (a := ⟨bb, 2, none⟩) (fun e => hnr e.symm) (.int .i64 (nt + tk))).setOther (a := ⟨bb, 3, none⟩) (fun e => hnr e.symm) (.slice ad2 dc.length cap2)
    have hts := HT6.out.chg (((Chg.refl (fun k => k = bb) w6).setCell (p := ⟨bb, 2, none⟩) rfl (.int .i64 (nt + tk))).setCell (p := ⟨bb, 3, none⟩) rfl (.slice ad2 dc.length cap2)) (fun k e => by rw [e]; exact HP6.out.up)
    have hcc := (HCC.out.setCell (p := ⟨bb, 2, none⟩) (Or.inr (Or.inl rfl)) (.int .i64 (nt + tk))).setCell (p := ⟨bb, 3, none⟩) (Or.inr (Or.inl rfl)) (.slice ad2 dc.length cap2)
    have hbs := BS.mk hset hts hrs HRU.out
    refine bodyPost_ret (v := .tuple #[.int .i64 0, .int .i64 0]) (by simp [results, Tryz.results80, go_sem]) rfl ⟨rfl, ⟨ev', _, b, hbs.below (Below.refl _ _).drew, HB1.out, fun _ => rfl, HLE.out, by rw [← hdv]; exact HLD.out⟩, hcc.trans (Chg.ofBelow (Below.refl _ _).drew)⟩
   | cons b0 r0 =>
    have hsi : SInv code.length dc.length (b0 :: r0) := by rcases i9 with e | e; exact (List.cons_ne_nil _ _ e).elim; exact e
    have hE := hidden (def_ended hds false (by simp) (by simp at i6 ⊢; omega))
    obtain ⟨m1, m2, m3, m4⟩ := nextF_le s (s.size - b) b i1
    have hN := hidden (rd_next rb s b wr i1 (by omega) hds.rdr.1)
    obtain ⟨x, hx⟩ : ∃ x, x = nextF s (s.size - b) b := ⟨_, rfl⟩
    have hxx : nx s b = x := hx.symm
    have hmv := fun hne => nextF_move s (s.size - b) b i1 hne
    rw [← hx] at hN m1 m2 m3 m4 hmv
    obtain ⟨t2, pl2, b2⟩ := x
    simp only at hN m1 m2 m3 m4 hmv
    obtain ⟨fu', rfl⟩ : ∃ fu', fu = fu' + 1 := ⟨fu - 1, by omega⟩
    have hdd := HDD.out
    rw [defP, hxx] at hdd
    simp only at hdd
    have hat : atOf wr rb = b := by unfold atOf; rw [show wr.cell? ⟨rb, 1, none⟩ = some (.int .i64 b) from hds.rdr.1.cell 1 _ rfl]; simp
    have HDS := hidden hds; have HDF := hidden hdd; have HSI := hidden hsi; have HMV := hidden hmv; have HAT := hidden hat; have HM := hidden (And.intro m1 (And.intro m2 (And.intro m3 m4)))
    clear hds hdd hsi hx hxx hmv hat m1 m2 m3 m4 i1 i2 i3 i4 i5 i6 i7 i8 i9 HDD
    go_wp2_with fail
    refine hE.out.mono ?_
    rintro e wq ⟨rfl, rfl⟩
    go_wp2_with fail
    refine hN.out.mono ?_
    rintro e w4 ⟨rfl, hb4, hc4⟩
    have hds3 := HDS.out.chg hc4 hb4
    have hkn4 := hds3.rdr.2
    have hds4 := (hds3.below ((Below.refl _ _).alloc (Nat.le_refl _) (.cells #[.string t2, .int .i64 pl2] 163 (0, 0)))).guest w4.heap.size #[.string t2, .int .i64 pl2] (blk_new w4 _ _)
    have HDS4 := hidden hds4
    clear hb4 hc4 hds3 hds4 hE hN HDS hkn4
    go_wp2_with fail
    obtain ⟨i1, i2, i3, i4, i5, i6, i7, i8, i9⟩ := HI.out
    refine (def_step HDS4.out t2 (by have := HM.out.2.2.2; omega) hl HWT.out HSI.out (2 * q) i5 (by omega) (by simp at i6; omega) (by omega) (by omega) (by omega) hnt0 hnt1).mono ?_
    rintro e w5 ⟨r, rfl, hr1, dcv5, bv5, dc5, st5, kn5, hds5, heq5⟩
    obtain ⟨T, hT⟩ : ∃ T, T = stepP es nt (tk + 1) dc (b0 :: r0) kn t2 := ⟨_, rfl⟩
    rw [← hT] at hr1 heq5
    have hdf := HDF.out
    rw [← hT] at hdf
    have p1 : w5.cell? ⟨w4.heap.size, 1, none⟩ = some (.int .i64 pl2) := hds5.rdr.2.cell 1 _ rfl
    have hkn5 : Blk w5 w1.heap.size #[.string t, .int .i64 pl] 163 := by
     refine HKN.out.chg hds5.frm ?_
     rintro (e | e)
     ·exact blk_ne HKN.out HBS.out.rd (by decide) e
     ·exact own_blk HBS.out.sys.cod HKN.out (by decide) e
    have HT := hidden hT; have HDF5 := hidden hdf; have HDS5 := hidden hds5; have HEQ := hidden heq5; have HR1 := hidden hr1; have HKN5 := hidden hkn5
    clear hT hdf hds5 heq5 hr1 hkn5 i1 i2 i3 i4 i5 i6 i7 i8 i9 HDF HDS4
    by_cases hr0 : r = 0
    ·subst hr0
     go_wp2_with fail
     go_roundw
     case rel =>
      obtain ⟨i1, i2, i3, i4, i5, i6, i7, i8, i9⟩ := HI.out
      obtain ⟨q1, q2, q3⟩ := HEQ.out trivial
      have h1 := HR1.out
      have hne : (t2.toList == []) = false := by
       cases hq : (t2.toList == []) with
       | false => rfl
       | true =>
        exfalso
        have : T.1 = 5 := by rw [HT.out]; unfold stepP; simp [hq]
        rw [this] at h1; cases h1
      have hlt := HMV.out hne
      obtain ⟨s1, s2, s3, s4, s5, s6⟩ := step_inv es HWT.out nt (tk + 1) code.length dc (b0 :: r0) kn t2 (2 * q) HSI.out i5 i8 T HT.out.symm h1.symm
      have hdf := HDF5.out
      rw [if_pos h1.symm] at hdf
      subst q1 q2 q3
      have hm3 := HM.out.2.2.1
      refine ⟨b2, fu', q + 1, tk + 1, _, _, _, dcv5, bv5, HDS5.out.guest _ _ HKN5.out, hdf, HM.out.2.2.1, by omega, by omega, by omega, WB.mono s4 (by omega), by simp at i6 s3 ⊢; omega, by omega, by omega, s5⟩
     case measure =>
      have h1 := HR1.out
      have hne : (t2.toList == []) = false := by
       cases hq : (t2.toList == []) with
       | false => rfl
       | true =>
        exfalso
        have : T.1 = 5 := by rw [HT.out]; unfold stepP; simp [hq]
        rw [this] at h1; cases h1
      have hlt := HMV.out hne
      have e1 : atOf w5 rb = b2 := by unfold atOf; rw [show w5.cell? ⟨rb, 1, none⟩ = some (.int .i64 b2) from HDS5.out.rdr.1.cell 1 _ rfl]; simp
      rw [e1, HAT.out]
      have := HM.out.2.2.1
      omega
    ·have hr0' : (r == 0) = false := by simpa using hr0
     have hr0n : (r != 0) = true := by simpa using hr0
     have HR00 := hidden hr0
     clear hr0
     go_wp2_with fail
     go_quiet (fail)
     go_wp2_with fail
     have hRe : R = ((r, (pl2 : Int)), es, nt, code, 0) := by
      have hdf := HDF5.out
      rw [if_neg (by rw [← HR1.out]; exact HR00.out)] at hdf
      have := HR.out
      rw [← HD0.out, hdf] at this
      rw [this, HR1.out]
     rw [hRe]
     refine bodyPost_ret (v := .tuple #[.int .i64 r, .int .i64 pl2]) (by simp [results, Tryz.results80, go_sem]) rfl ⟨rfl, ⟨ev, cv, b2, BS.below ⟨HDS5.out.sys, HDS5.out.tab, HDS5.out.rdr.1, HDS5.out.ru⟩ (show Below w5.heap.size w5 (w5.drewN nq) from ⟨rfl, rfl, rfl, Nat.le_refl _, fun _ _ => rfl⟩), HM.out.2.2.1, fun e => absurd e HR00.out, Lc.refl _ _, Lc.refl _ _⟩, ?_⟩
     exact (HC.out.thru HDS5.out.frm (fun k _ e => e.elim (fun e => Or.inl e) (fun e => Or.inr (Or.inr (Or.inr e))))).trans (Chg.ofBelow (show Below w5.heap.size w5 (w5.drewN nq) from ⟨rfl, rfl, rfl, Nat.le_refl _, fun _ _ => rfl⟩))
 ·have hR1 := HR0.out
  rw [if_neg h0] at hR1
  subst hR1
  clear HR0
  have h0' : (f == 0) = false := by simpa using h0
  have h0n : (f != 0) = true := by simpa using h0
  have HF0 := hidden h0
  clear h0
  go_wp2_with fail
  go_quiet (fail)
  go_wp2_with fail
  refine bodyPost_ret (v := .tuple #[.int .i64 f, .int .i64 pl]) (by simp [results, Tryz.results80, go_sem]) rfl ⟨rfl, ⟨_, _, a', HBS.out.below (show Below w2.heap.size w2 (w2.drewN nq) from ⟨rfl, rfl, rfl, Nat.le_refl _, fun _ _ => rfl⟩), n3, fun e => absurd e HF0.out, Lc.refl _ _, Lc.refl _ _⟩, HC.out.trans (Chg.ofBelow (show Below w2.heap.size w2 (w2.drewN nq) from ⟨rfl, rfl, rfl, Nat.le_refl _, fun _ _ => rfl⟩))⟩
end Go.Proofs.YtcphhbofjkenaaaGreatDoor
namespace Go.Proofs.YtcphhbofjkenaaaGreatDoor
set_option maxHeartbeats 16000000
set_option linter.unusedVariables false
set_option linter.unusedSimpArgs false
open Go
theorem decode_kind (s : ByteArray) (i : Nat) (h : i < s.size) : (byt s i < 128 ∧ Utf8.decode s i = (byt s i, 1)) ∨ (128 ≤ byt s i ∧ Utf8.decode s i = (65533, 1)) ∨
  (128 ≤ byt s i ∧ (Utf8.decode s i).2 = 2 ∧ (Utf8.decode s i).1 < 2048) ∨ (128 ≤ byt s i ∧ (Utf8.decode s i).2 = 4 ∧ 65536 ≤ (Utf8.decode s i).1) ∨
  (byt s i / 16 = 14 ∧ i + 2 < s.size ∧ byt s (i + 1) / 64 = 2 ∧ byt s (i + 2) / 64 = 2 ∧ (Utf8.decode s i).2 = 3 ∧ (Utf8.decode s i).1 = (byt s i % 16) * 4096 + (byt s (i + 1) % 64) * 64 + byt s (i + 2) % 64) := by
 have hb := byt_lt s i
 have hb1 := byt_lt s (i + 1)
 unfold Utf8.decode
 simp only [Nat.add_zero]
 have hf : ∀ k, (s.get! k).toNat = byt s k := fun _ => rfl
 simp only [hf]
 split
 ·left; exact ⟨by assumption, rfl⟩
 ·rename_i h1
  split
  ·split
   ·right; right; left
    refine ⟨by omega, rfl, ?_⟩
    simp only; omega
   ·right; left; exact ⟨by omega, rfl⟩
  ·split
   ·rename_i h3
    simp only [Bool.and_eq_true, beq_iff_eq, decide_eq_true_eq] at h3
    split
    ·right; right; right; right
     exact ⟨h3.1.1, h3.2.1, h3.1.2.2, h3.2.2, rfl, rfl⟩
    ·right; left; exact ⟨by omega, rfl⟩
   ·split
    ·split
     ·rename_i h5
      right; right; right; left
      simp only [Bool.and_eq_true, decide_eq_true_eq] at h5
      exact ⟨by omega, rfl, h5.1⟩
     ·right; left; exact ⟨by omega, rfl⟩
    ·right; left; exact ⟨by omega, rfl⟩
theorem pre3 (s : ByteArray) (i : Nat) : Lib.hasPrefix (s.extract i s.size).data.toList [239, 191, 189] = true ↔ i + 2 < s.size ∧ byt s i = 239 ∧ byt s (i + 1) = 191 ∧ byt s (i + 2) = 189 := by
 have hl : s.data.toList.length = s.size := Array.length_toList
 have hd : (s.extract i s.size).data.toList = s.data.toList.drop i := by
  rw [ByteArray.data_extract, Array.toList_extract]
  simp only [List.extract_eq_take_drop]
  rw [List.take_of_length_le]
  simp [hl]
 rw [hd]
 have key : ∀ k, k < s.size → ∃ c, s.data.toList.drop k = c :: s.data.toList.drop (k + 1) ∧ c.toNat = byt s k := fun k hk => by
  obtain ⟨c, hc, hb⟩ := byt_data s k hk
  refine ⟨c, ?_, hb⟩
  rw [List.drop_eq_getElem_cons (by omega)]
  rw [List.getElem?_eq_getElem (by omega)] at hc
  rw [Option.some.inj hc]
 have tn : ∀ (c : UInt8) (n : Nat), n < 256 → (c = UInt8.ofNat n ↔ c.toNat = n) := fun c n hn => by
  constructor
  ·rintro rfl; simp; omega
  ·intro e; exact UInt8.toNat_inj.1 (by rw [e]; simp; omega)
 by_cases h2 : i + 2 < s.size
 ·obtain ⟨c0, e0, b0⟩ := key i (by omega)
  obtain ⟨c1, e1, b1⟩ := key (i + 1) (by omega)
  obtain ⟨c2, e2, b2⟩ := key (i + 2) h2
  rw [e0, e1, e2, ← b0, ← b1, ← b2]
  simp only [Lib.hasPrefix, List.isPrefixOf, Bool.and_true, Bool.and_eq_true, beq_iff_eq]
  have t0 := tn c0 239 (by omega); have t1 := tn c1 191 (by omega); have t2 := tn c2 189 (by omega)
  constructor
  ·rintro ⟨rfl, rfl, rfl⟩; exact ⟨h2, rfl, rfl, rfl⟩
  ·rintro ⟨_, x, y, z⟩; exact ⟨(t0.2 x).symm, (t1.2 y).symm, (t2.2 z).symm⟩
 ·constructor
  ·intro h
   exfalso
   have := (List.isPrefixOf_iff_prefix.1 h).length_le
   simp only [List.length_cons, List.length_nil, List.length_drop] at this
   omega
  ·intro h; exact absurd h.1 h2
theorem bad_wd (s : ByteArray) (i : Nat) (h : i < s.size) : isBad s i = true ↔ wd s i = 0 := by
 have hb := byt_lt s i
 have hb1 := byt_lt s (i + 1)
 have hb2 := byt_lt s (i + 2)
 have hp := pre3 s i
 unfold isBad wd
 rcases decode_kind s i h with ⟨k1, k2⟩ | ⟨k1, k2⟩ | ⟨k1, k2, k3⟩ | ⟨k1, k2, k3⟩ | ⟨k1, k2, k3, k4, k5, k6⟩
 ·rw [k2, if_pos k1]
  have : (byt s i == 65533) = false := by rw [beq_eq_false_iff_ne]; omega
  simp [this]
 ·rw [k2, if_neg (by omega)]
  cases hq : Lib.hasPrefix (s.extract i s.size).data.toList [239, 191, 189] with
  | false => simp
  | true =>
   exfalso
   obtain ⟨q1, q2, q3, q4⟩ := hp.1 hq
   have hcl : Cls (byt s i) 3 128 191 := by unfold Cls; omega
   have := decode_cls s i 3 128 191 h hcl
   rw [k2, q2, q3, q4] at this
   unfold Lib.slowN at this
   rw [if_neg (by omega), if_neg (by omega), if_neg (by omega), if_neg (by omega), if_pos (by omega)] at this
   exact absurd (congrArg Prod.snd this) (by decide)
 ·have : ((Utf8.decode s i).1 == 65533) = false := by rw [beq_eq_false_iff_ne]; omega
  rw [if_neg (by omega), k2, this]; simp
 ·have : ((Utf8.decode s i).1 == 65533) = false := by rw [beq_eq_false_iff_ne]; omega
  rw [if_neg (by omega), k2, this]; simp
 ·rw [if_neg (by omega), k5, k6, if_neg (by omega)]
  constructor
  ·intro hc
   simp only [Bool.and_eq_true, beq_iff_eq, Bool.not_eq_true'] at hc
   have := hp.2 ⟨k2, by omega, by omega, by omega⟩
   rw [this] at hc
   exact absurd hc.2 (by decide)
  ·intro hc; omega
theorem wd_dec (s : ByteArray) (i : Nat) (h : i < s.size) (h0 : wd s i ≠ 0) : (Utf8.decode s i).2 = wd s i := by
 unfold wd at h0 ⊢
 rcases decode_kind s i h with ⟨k1, k2⟩ | ⟨k1, k2⟩ | ⟨k1, k2, k3⟩ | ⟨k1, k2, k3⟩ | ⟨k1, k2, k3, k4, k5, k6⟩
 ·rw [k2, if_pos k1]
 ·rw [k2, if_neg (by omega), if_pos rfl] at h0; exact absurd rfl h0
 ·rw [if_neg (by omega), k2]; rfl
 ·rw [if_neg (by omega), k2]; rfl
 ·rw [if_neg (by omega), k5]; rfl
theorem chars_bad (s : ByteArray) : ∀ (f i n : Nat), chars s f i n = match badF s f i with | some k => (-1, (k : Int)) | none => (((n + Lib.runeCountFrom s f i : Nat) : Int), 0)
 | 0, i, n => by simp [chars, badF, Lib.runeCountFrom]
 | f + 1, i, n => by
  unfold chars badF Lib.runeCountFrom
  by_cases h : i < s.size
  ·rw [if_pos h, if_pos h, if_pos h]
   have hbw := bad_wd s i h
   by_cases h0 : wd s i = 0
   ·rw [if_pos h0, if_pos (hbw.2 h0)]
   ·rw [if_neg h0, if_neg (fun e => h0 (hbw.1 e)), wd_dec s i h h0, chars_bad s f (i + wd s i) (n + 1)]
    have e : n + 1 + Lib.runeCountFrom s f (i + wd s i) = n + (1 + Lib.runeCountFrom s f (i + wd s i)) := by omega
    rw [e]
  ·rw [if_neg h, if_neg h, if_neg h]
   simp
theorem name_eq (s : ByteArray) (h : badF s s.size 0 = none) : nameP s = nameS s := by
 unfold nameP nameS
 rw [chars_bad, h, (num_eq s).1]
 simp only [Nat.zero_add]
 have hc : Lib.runeCountFrom s s.size 0 = Lib.runeCount s := rfl
 rw [hc]
 have h1 : (!(s.toList == [])) = decide ((1 : Int) ≤ ((Lib.runeCount s : Nat) : Int)) := by
  rw [Bool.eq_iff_iff]
  simp only [Bool.not_eq_true', beq_eq_false_iff_ne, ne_eq, decide_eq_true_eq]
  constructor
  ·intro hne
   have hz : 0 < s.size := by
    rcases Nat.eq_zero_or_pos s.size with e | e
    ·exfalso; apply hne; rw [ba_data]; exact List.length_eq_zero_iff.1 (by rw [Array.length_toList]; exact e)
    ·exact e
   obtain ⟨m, hm⟩ : ∃ m, s.size = m + 1 := ⟨s.size - 1, by omega⟩
   have : Lib.runeCount s = 1 + Lib.runeCountFrom s m (0 + (Utf8.decode s 0).2) := by
    unfold Lib.runeCount
    rw [hm]
    unfold Lib.runeCountFrom
    rw [if_pos (by omega)]
    cases m <;> rfl
   omega
  ·intro h1 e
   have hz : s.size = 0 := by
    rw [ba_data] at e
    have := congrArg List.length e
    rw [Array.length_toList] at this
    exact this
   have : Lib.runeCount s = 0 := by unfold Lib.runeCount; rw [hz]; rfl
   omega
 have h2 : decide (Lib.runeCount s ≤ 16) = decide (((Lib.runeCount s : Nat) : Int) ≤ 16) := by
  rw [Bool.eq_iff_iff]; simp only [decide_eq_true_eq]; omega
 rw [h1, h2]
 cases decide ((1 : Int) ≤ ((Lib.runeCount s : Nat) : Int)) <;> cases decide (((Lib.runeCount s : Nat) : Int) ≤ 16) <;> cases inL s nine <;> cases (numS s).2 <;> rfl
end Go.Proofs.YtcphhbofjkenaaaGreatDoor
namespace Go.Proofs.YtcphhbofjkenaaaGreatDoor
set_option maxHeartbeats 16000000
open Go
theorem toks_skip (s : ByteArray) : ∀ (d a m : Nat), m = a + d → m ≤ s.size → (∀ x, a ≤ x → x < m → blk (byt s x) = true) → toksAt s a = toksAt s m
 | 0, a, m, h, _, _ => by rw [h]; rfl
 | d + 1, a, m, h, hm, hb => by
  rw [toksAt_blank s a (by omega) (hb a (Nat.le_refl _) (by omega))]
  exact toks_skip s d (a + 1) m (by omega) hm (fun x h1 h2 => hb x (by omega) h2)
theorem ext_empty (s : ByteArray) (k : Nat) : s.extract k k = ⟨#[]⟩ := by
 have hsz : (s.extract k k).size = 0 := by simp
 exact ByteArray.size_eq_zero_iff.1 hsz
theorem ext_list (s : ByteArray) (l : List UInt8) : (s.toList == l) = true ↔ s = ⟨l.toArray⟩ := by
 constructor
 ·intro h
  have h1 : s.data.toList = l := by rw [← ba_data]; simpa using h
  rw [← h1]
 ·rintro rfl
  rw [ba_list]; simp
theorem next_tok (s : ByteArray) : ∀ (f a : Nat), a ≤ s.size → s.size - a ≤ f →
  (toksAt s a = [] ∧ (nextF s f a).1 = ⟨#[]⟩) ∨ (toksAt s a = ((nextF s f a).1, (nextF s f a).2.1) :: toksAt s (nextF s f a).2.2 ∧ ((nextF s f a).1.toList == []) = false) := by
 have main : ∀ a, a ≤ s.size → toksAt s a = toksAt s (cutB s a) ∧ (cutB s a < s.size → blk (byt s (cutB s a)) = false) := fun a ha => by
  have hB := scan_spec ink s a ha
  refine ⟨toks_skip s (cutB s a - a) a (cutB s a) (by have := hB.1; unfold cutB; omega) hB.2.1 (fun x h1 h2 => ?_), fun h => ?_⟩
  ·have := hB.2.2.1 x h1 h2
   unfold ink at this; simpa using this
  ·rcases hB.2.2.2 with e | e
   ·exact absurd e (by unfold cutB at h; omega)
   ·have e' : (!blk (byt s (cutB s a))) = true := e
    simpa using e'
 have fin : ∀ a, a ≤ s.size → ¬ cutB s a < s.size → toksAt s a = [] ∧ s.extract (cutB s a) (cutE s a) = ⟨#[]⟩ := fun a ha h => by
  obtain ⟨l1, l2, l3⟩ := cut_le s a ha
  have e : cutE s a = cutB s a := by omega
  exact ⟨by rw [(main a ha).1]; exact toksAt_end s _ (by omega), by rw [e]; exact ext_empty s _⟩
 intro f
 induction f with
 | zero =>
  intro a ha hf
  obtain ⟨l1, l2, l3⟩ := cut_le s a ha
  left
  unfold nextF
  exact fin a ha (by omega)
 | succ f ih =>
  intro a ha hf
  obtain ⟨l1, l2, l3⟩ := cut_le s a ha
  unfold nextF
  by_cases hb : cutB s a < s.size
  ·have hk := (main a ha).2 hb
   have hlt : cutB s a < cutE s a := scan_blk_lt s _ hb hk
   by_cases hn : ((s.extract (cutB s a) (cutE s a)).toList == [92]) = true
   ·rw [if_pos hn]
    have hsp := scan_spec eol s (cutE s a) l3
    have e : toksAt s a = toksAt s (scan eol s (cutE s a)) := by
     rw [(main a ha).1, toksAt_note s _ hb hk ((ext_list _ _).1 hn)]; rfl
    rw [e]
    exact ih _ hsp.2.1 (by have := hsp.1; omega)
   ·rw [if_neg hn]
    right
    refine ⟨?_, ?_⟩
    ·rw [(main a ha).1, toksAt_tok s _ hb hk (fun e => hn ((ext_list _ _).2 e))]; rfl
    ·cases hq : ((s.extract (cutB s a) (cutE s a)).toList == []) with
     | false => rfl
     | true =>
      exfalso
      have h1 := (ext_list _ _).1 hq
      have h2 : (s.extract (cutB s a) (cutE s a)).size = 0 := by rw [h1]; rfl
      rw [ByteArray.size_extract] at h2
      omega
  ·obtain ⟨f1, f2⟩ := fin a ha hb
   left
   rw [f2, if_neg (by rw [show (⟨#[]⟩ : ByteArray).toList = [] from ba_list []]; decide)]
   exact ⟨f1, rfl⟩
theorem wd_tail (s : ByteArray) (i : Nat) (h : i < s.size) : ∀ d, 0 < d → d < wd s i → 128 ≤ byt s (i + d) := by
 intro d h0 hd
 by_cases hw : wd s i = 0
 ·omega
 have hdec := wd_dec s i h hw
 rw [← hdec] at hd
 clear hdec hw
 have hf : ∀ k, (s.get! k).toNat = byt s k := fun _ => rfl
 unfold Utf8.decode at hd
 simp only [Nat.add_zero, hf] at hd
 split at hd
 ·simp only at hd; omega
 ·split at hd
  ·rename_i h2
   simp only [Bool.and_eq_true, beq_iff_eq, decide_eq_true_eq] at h2
   have e1 : d = 1 := by split at hd <;> simp only at hd <;> omega
   subst e1; omega
  ·split at hd
   ·rename_i h3
    simp only [Bool.and_eq_true, beq_iff_eq, decide_eq_true_eq] at h3
    have e1 : d = 1 ∨ d = 2 := by split at hd <;> simp only at hd <;> omega
    rcases e1 with rfl | rfl <;> omega
   ·split at hd
    ·rename_i h4
     simp only [Bool.and_eq_true, beq_iff_eq, decide_eq_true_eq] at h4
     have e1 : d = 1 ∨ d = 2 ∨ d = 3 := by split at hd <;> simp only at hd <;> omega
     rcases e1 with rfl | rfl | rfl <;> omega
    ·simp only at hd; omega
theorem badF_fuel (s : ByteArray) : ∀ (f g i : Nat), s.size ≤ i + f → s.size ≤ i + g → badF s f i = badF s g i
 | 0, g, i, hf, hg => by cases g with | zero => rfl | succ g => unfold badF; rw [if_neg (by omega)]
 | f + 1, 0, i, hf, hg => by unfold badF; rw [if_neg (by omega)]
 | f + 1, g + 1, i, hf, hg => by
  unfold badF
  by_cases h : i < s.size
  ·rw [if_pos h, if_pos h]
   have hp := Lib.decode_width_pos s i h
   rw [badF_fuel s f g _ (by omega) (by omega)]
  ·rw [if_neg h, if_neg h]
def Sound (s : ByteArray) (i : Nat) : Prop := badF s s.size i = none
theorem Sound.step {s : ByteArray} {i : Nat} (h : Sound s i) (hi : i < s.size) : wd s i ≠ 0 ∧ Sound s (i + wd s i) := by
 unfold Sound at h
 rw [badF_fuel s s.size (s.size + 1) i (by omega) (by omega)] at h
 unfold badF at h
 rw [if_pos hi] at h
 have hb := bad_wd s i hi
 by_cases h0 : isBad s i = true
 ·rw [if_pos h0] at h; cases h
 ·have hw : wd s i ≠ 0 := fun e => h0 (hb.2 e)
  rw [if_neg h0, wd_dec s i hi hw] at h
  exact ⟨hw, h⟩
theorem Sound.at {s : ByteArray} : ∀ (d i j : Nat), j - i ≤ d → i ≤ j → Sound s i → (j < s.size → byt s j < 128) → j ≤ s.size → Sound s j
 | 0, i, j, hd, hij, h, hb, hj => by rw [show j = i by omega]; exact h
 | d + 1, i, j, hd, hij, h, hb, hj => by
  by_cases e : j = i
  ·rw [e]; exact h
  ·have hi : i < s.size := by omega
   obtain ⟨hw, hs⟩ := h.step hi
   have hin := wd_in s i hi
   by_cases hle : i + wd s i ≤ j
   ·exact Sound.at d (i + wd s i) j (by omega) hle hs hb hj
   ·exfalso
    have hjs : j < s.size := by omega
    have := wd_tail s i hi (j - i) (by omega) (by omega)
    rw [show i + (j - i) = j by omega] at this
    have := hb hjs
    omega
theorem byt_ext (s : ByteArray) (b e p : Nat) (he : e ≤ s.size) (hp : b + p < e) : byt (s.extract b e) p = byt s (b + p) := by
 have h1 : p < (s.extract b e).size := by rw [ByteArray.size_extract]; omega
 rw [← byt_eq (s.extract b e) p h1, ← byt_eq s (b + p) (by omega)]
 rw [ByteArray.getElem_extract]
theorem wd_ext (s : ByteArray) (b e p : Nat) (he : e ≤ s.size) (hw : wd s (b + p) ≠ 0) (hin : b + p + wd s (b + p) ≤ e) : wd (s.extract b e) p = wd s (b + p) := by
 have hsz : (s.extract b e).size = e - b := by rw [ByteArray.size_extract]; omega
 have hB : ∀ k, b + (p + k) < e → byt (s.extract b e) (p + k) = byt s (b + p + k) := fun k hk => by rw [byt_ext s b e (p + k) he hk, Nat.add_assoc]
 have h0 := hB 0 (by omega)
 simp only [Nat.add_zero] at h0
 by_cases h1 : byt s (b + p) < 128
 ·rw [wd_one s _ h1, wd_one _ _ (by rw [h0]; exact h1)]
 ·have hlt := byt_lt s (b + p)
  have hr : ¬ ((128 ≤ byt s (b + p) ∧ byt s (b + p) < 194) ∨ 244 < byt s (b + p)) := fun h => hw (wd_bad s _ h)
  have hcl : ∃ n lo hi, Cls (byt s (b + p)) n lo hi := by
   unfold Cls
   by_cases q1 : byt s (b + p) < 224
   ·exact ⟨2, 128, 191, by omega⟩
   by_cases q2 : byt s (b + p) = 224
   ·exact ⟨3, 160, 191, by omega⟩
   by_cases q3 : byt s (b + p) = 237
   ·exact ⟨3, 128, 159, by omega⟩
   by_cases q4 : byt s (b + p) < 240
   ·exact ⟨3, 128, 191, by omega⟩
   by_cases q5 : byt s (b + p) = 240
   ·exact ⟨4, 144, 191, by omega⟩
   by_cases q6 : byt s (b + p) = 244
   ·exact ⟨4, 128, 143, by omega⟩
   exact ⟨4, 128, 191, by omega⟩
  obtain ⟨n, lo, hi, hc⟩ := hcl
  have hn := hc.n2
  have hi' : b + p < s.size := by omega
  by_cases hyes : b + p + n ≤ s.size ∧ (lo ≤ byt s (b + p + 1) ∧ byt s (b + p + 1) ≤ hi) ∧ ∀ j, 2 ≤ j → j < n → 128 ≤ byt s (b + p + j) ∧ byt s (b + p + j) ≤ 191
  ·obtain ⟨y1, y2, y3⟩ := hyes
   have e1 := wd_yes s (b + p) n lo hi hi' hc y1 y2 y3
   rw [e1] at hin ⊢
   refine wd_yes _ p n lo hi (by omega) (by rw [h0]; exact hc) (by omega) (by rw [hB 1 (by omega)]; exact y2) (fun j j1 j2 => ?_)
   rw [hB j (by omega)]
   exact y3 j j1 j2
  ·exact absurd (wd_no s (b + p) n lo hi hi' hc hyes) hw
theorem Sound.ext {s : ByteArray} {b e : Nat} (hbe : b ≤ e) (he : e ≤ s.size) (hend : e < s.size → byt s e < 128) : ∀ (f p : Nat), Sound s (b + p) → badF (s.extract b e) f p = none
 | 0, p, h => rfl
 | f + 1, p, h => by
  have hsz : (s.extract b e).size = e - b := by rw [ByteArray.size_extract]; omega
  unfold badF
  by_cases hp : p < (s.extract b e).size
  ·rw [if_pos hp]
   have hi : b + p < s.size := by omega
   obtain ⟨hw, hs⟩ := h.step hi
   have hin := wd_in s (b + p) hi
   have hle : b + p + wd s (b + p) ≤ e := by
    rcases Nat.lt_or_ge e (b + p + wd s (b + p)) with hx | hx
    ·exfalso
     have h1 := wd_tail s (b + p) hi (e - (b + p)) (by omega) (by omega)
     rw [show b + p + (e - (b + p)) = e by omega] at h1
     have h2 := hend (by omega)
     omega
    ·exact hx
   have hwe := wd_ext s b e p he hw hle
   have hbw := bad_wd (s.extract b e) p hp
   rw [if_neg (fun x => hw (by rw [← hwe]; exact hbw.1 x)), wd_dec _ p hp (by rw [hwe]; exact hw), hwe]
   exact Sound.ext hbe he hend f _ (by rw [← Nat.add_assoc]; exact hs)
  ·rw [if_neg hp]
theorem blk_lt {n : Nat} (h : blk n = true) : n < 128 := by
 unfold blk at h
 simp only [Bool.or_eq_true, beq_iff_eq] at h
 omega
theorem cut_sound {s : ByteArray} {a : Nat} (h : Sound s a) (ha : a ≤ s.size) : Sound s (cutE s a) ∧ badF (s.extract (cutB s a) (cutE s a)) (s.extract (cutB s a) (cutE s a)).size 0 = none := by
 obtain ⟨l1, l2, l3⟩ := cut_le s a ha
 have hB := scan_spec ink s a ha
 have hE := scan_spec blk s (cutB s a) (by omega)
 have sB : Sound s (cutB s a) := by
  by_cases e : cutB s a = a
  ·rw [e]; exact h
  ·have hp : (!blk (byt s (cutB s a - 1))) = false := hB.2.2.1 (cutB s a - 1) (by omega) (by have : cutB s a = scan ink s a := rfl; omega)
   have hb : byt s (cutB s a - 1) < 128 := blk_lt (by simpa using hp)
   have h1 : Sound s (cutB s a - 1) := Sound.at _ a (cutB s a - 1) (Nat.le_refl _) (by omega) h (fun _ => hb) (by omega)
   have h2 := (h1.step (by omega)).2
   rw [wd_one s _ hb, show cutB s a - 1 + 1 = cutB s a by omega] at h2
   exact h2
 have hend : cutE s a < s.size → byt s (cutE s a) < 128 := fun hl => by
  rcases hE.2.2.2 with e | e
  ·have : cutE s a = scan blk s (cutB s a) := rfl
   omega
  ·exact blk_lt e
 exact ⟨Sound.at _ (cutB s a) (cutE s a) (Nat.le_refl _) l2 sB hend l3, Sound.ext l2 l3 hend _ 0 (by rw [Nat.add_zero]; exact sB)⟩
theorem next_sound {s : ByteArray} : ∀ (f a : Nat), Sound s a → a ≤ s.size → badF (nextF s f a).1 (nextF s f a).1.size 0 = none ∧ Sound s (nextF s f a).2.2
 | 0, a, h, ha => by unfold nextF; exact ⟨(cut_sound h ha).2, (cut_sound h ha).1⟩
 | f + 1, a, h, ha => by
  obtain ⟨c1, c2⟩ := cut_sound h ha
  obtain ⟨l1, l2, l3⟩ := cut_le s a ha
  unfold nextF
  split
  ·have hE := scan_spec eol s (cutE s a) l3
   refine next_sound f _ (Sound.at _ (cutE s a) _ (Nat.le_refl _) hE.1 c1 (fun hl => ?_) hE.2.1) hE.2.1
   rcases hE.2.2.2 with e | e
   ·omega
   ·have e' : (byt s (scan eol s (cutE s a)) == 10) = true := e
    rw [beq_iff_eq] at e'; omega
  ·exact ⟨c2, c1⟩
theorem next_name {s : ByteArray} {a : Nat} (h : Sound s a) (ha : a ≤ s.size) : nameP (nx s a).1 = nameS (nx s a).1 ∧ Sound s (nx s a).2.2 :=
 ⟨name_eq _ (next_sound _ a h ha).1, (next_sound _ a h ha).2⟩
end Go.Proofs.YtcphhbofjkenaaaGreatDoor
namespace Go.Proofs.YtcphhbofjkenaaaGreatDoor
set_option maxHeartbeats 16000000
open Go Go.RowKit
set_option linter.unusedVariables false
set_option linter.unusedSimpArgs false
theorem ofInt_ext {a : Int} (h : Cell a) : BitVec.ofInt 64 a = (BitVec.ofInt 32 a).signExtend 64 := by
 have e : (BitVec.ofInt 32 a).toInt = a := by
  rw [BitVec.toInt_ofInt]
  obtain ⟨h1, h2⟩ := h
  exact Int.bmod_eq_of_le (by omega) (by omega)
 rw [BitVec.signExtend, e]
theorem wrap_bv (x : BitVec 64) : IntKind.wrap .i64 (x.toNat : Int) = x.toInt := by
 rw [BitVec.toInt_eq_toNat_bmod]
 have := x.isLt
 simp only [IntKind.wrap, show IntKind.i64.bits = 64 from rfl, show IntKind.i64.signed = true from rfl, Bool.true_and, decide_eq_true_eq, Int.bmod]
 omega
theorem w32_bv (x : BitVec 32) : w32 (x.toNat : Int) = x.toInt := by
 rw [BitVec.toInt_eq_toNat_bmod]
 have := x.isLt
 simp only [w32, Int.bmod]
 omega
theorem ext_toInt (x : BitVec 32) : (x.signExtend 64).toInt = x.toInt := BitVec.toInt_signExtend_of_le (by decide)
theorem toNat_cell (a : Int) : (BitVec.ofInt 32 a).toNat = (a % 4294967296).toNat := by rw [BitVec.toNat_ofInt]; rfl
theorem bits_and {a b : Int} (ha : Cell a) (hb : Cell b) : bits .and .i64 a b = w32 (((a % 4294967296).toNat &&& (b % 4294967296).toNat : Nat) : Int) := by
 show IntKind.wrap .i64 ((BitVec.ofInt 64 a &&& BitVec.ofInt 64 b).toNat : Int) = _
 rw [ofInt_ext ha, ofInt_ext hb, ← BitVec.signExtend_and, wrap_bv, ext_toInt, ← w32_bv, BitVec.toNat_and, toNat_cell, toNat_cell]
theorem bits_or {a b : Int} (ha : Cell a) (hb : Cell b) : bits .or .i64 a b = w32 (((a % 4294967296).toNat ||| (b % 4294967296).toNat : Nat) : Int) := by
 show IntKind.wrap .i64 ((BitVec.ofInt 64 a ||| BitVec.ofInt 64 b).toNat : Int) = _
 rw [ofInt_ext ha, ofInt_ext hb, ← BitVec.signExtend_or, wrap_bv, ext_toInt, ← w32_bv, BitVec.toNat_or, toNat_cell, toNat_cell]
theorem bits_xor {a b : Int} (ha : Cell a) (hb : Cell b) : bits .xor .i64 a b = w32 (((a % 4294967296).toNat ^^^ (b % 4294967296).toNat : Nat) : Int) := by
 show IntKind.wrap .i64 ((BitVec.ofInt 64 a ^^^ BitVec.ofInt 64 b).toNat : Int) = _
 rw [ofInt_ext ha, ofInt_ext hb, ← BitVec.signExtend_xor, wrap_bv, ext_toInt, ← w32_bv, BitVec.toNat_xor, toNat_cell, toNat_cell]
def rtwo (k : Nat) (a b : Int) : Int :=
 if k = 0 then a + b else if k = 1 then a - b else if k = 2 then a * b else if k = 3 then (((a % 4294967296).toNat &&& (b % 4294967296).toNat : Nat) : Int) else if k = 4 then (((a % 4294967296).toNat ||| (b % 4294967296).toNat : Nat) : Int) else if k = 5 then (((a % 4294967296).toNat ^^^ (b % 4294967296).toNat : Nat) : Int)
 else if k = 6 then divP a b else if k = 7 then a - b * divP a b else if k = 8 then flagP (a == b) else if k = 9 then flagP (decide (a < b)) else if k = 10 then flagP (decide (b < a)) else if k = 11 then min a b else if k = 12 then max a b else b
theorem rtwo_eq (k : Nat) (hk : k ≤ 12) {a b : Int} (ha : Cell a) (hb : Cell b) : w32 (rtwo k a b) = twoP k a b := by
 unfold rtwo twoP
 have hmin : Cell (min a b) := by obtain ⟨a1, a2⟩ := ha; obtain ⟨b1, b2⟩ := hb; exact ⟨by omega, by omega⟩
 have hmax : Cell (max a b) := by obtain ⟨a1, a2⟩ := ha; obtain ⟨b1, b2⟩ := hb; exact ⟨by omega, by omega⟩
 have hc : k = 0 ∨ k = 1 ∨ k = 2 ∨ k = 3 ∨ k = 4 ∨ k = 5 ∨ k = 6 ∨ k = 7 ∨ k = 8 ∨ k = 9 ∨ k = 10 ∨ k = 11 ∨ k = 12 := by omega
 rcases hc with rfl | rfl | rfl | rfl | rfl | rfl | rfl | rfl | rfl | rfl | rfl | rfl | rfl
 ·rfl
 ·rfl
 ·rfl
 ·exact (bits_and ha hb).symm
 ·exact (bits_or ha hb).symm
 ·exact (bits_xor ha hb).symm
 ·exact w32_id (div_cell a b)
 ·rfl
 ·exact w32_id (flag_cell _)
 ·exact w32_id (flag_cell _)
 ·exact w32_id (flag_cell _)
 ·exact w32_id hmin
 ·exact w32_id hmax
end Go.Proofs.YtcphhbofjkenaaaGreatDoor
