/- The law: plans that came out are the caller's. -/
import Derived.Test.YtcphhbofjkenaaaGreatDoorM42

namespace Go.Proofs.YtcphhbofjkenaaaGreatDoor
open Go Go.RowKit
set_option linter.unusedVariables false
set_option linter.unusedSimpArgs false

theorem lwB_set (lv : Value) (bk : B4) (v v' : Value) : ∀ j, j < 4 → (lwB lv (bk.set j v)).setIfInBounds (1 + j) v' = lwB lv (bk.set j v') := four_cases rfl rfl rfl rfl

/-- A book's row while it grows. -/
structure NSJ (j B : Nat) (w0 w : World) (wb : Nat) (lv : Value) (bk : B4) (nvv : Value) (gs : List Value) : Prop where
  blk : Blk w wb (lwB lv (bk.set j nvv)) 84
  row : w.ownsRow B (bLt j) 1 nvv gs.length gs
  frm : Chg (fun b => b = wb ∨ (bk.get j).ownBlock = some b) w0 w
  loc : Lc w0 (bk.get j) nvv
  le : w0.heap.size ≤ w.heap.size
  bas : B ≤ w0.heap.size

theorem NSJ.step {j B : Nat} {w0 w w2 : World} {wb : Nat} {lv nvv u : Value} {bk : B4} {gs : List Value} {o : Obj} {g n cap : Nat} (hj : j < 4) (h : NSJ j B w0 w wb lv bk nvv gs) (hn : n = gs.length)
    (hr : w2.ownsRow B (bLt j) 1 (.slice (some ⟨g, 0, none⟩) (n + 1) cap) (n + 1) (gs ++ [u])) (hg : (w.alloc o).grownBy w2 nvv.ownBlock) (hat : nvv.ownBlock = some g ∨ g = w.heap.size + 1) :
    NSJ j B w0 (w2.setCell ⟨wb, 1 + j, none⟩ (.slice (some ⟨g, 0, none⟩) (n + 1) cap)) wb lv bk (.slice (some ⟨g, 0, none⟩) (n + 1) cap) (gs ++ [u]) := by
  subst hn
  have hcg : Chg (fun k => nvv.ownBlock = some k) w w2 := ((Chg.refl _ w).alloc o).trans ((Chg.ofGrown hg).mono (fun k _ e => e.symm))
  have hnw : nvv.ownBlock ≠ some wb := own_blk h.row h.blk (Ne.symm (lt_ty j hj).1)
  have hb2 : Blk w2 wb (lwB lv (bk.set j nvv)) 84 := h.blk.chg hcg hnw
  have hne : (Value.slice (some ⟨g, 0, none⟩) (gs.length + 1) cap).ownBlock ≠ some wb := own_blk hr hb2 (Ne.symm (lt_ty j hj).1)
  have hset : Chg (fun b => b = wb) w2 (w2.setCell ⟨wb, 1 + j, none⟩ (.slice (some ⟨g, 0, none⟩) (gs.length + 1) cap)) := (Chg.refl (fun b => b = wb) w2).setCell (p := ⟨wb, 1 + j, none⟩) rfl _
  refine ⟨?_, ?_, ?_, ?_, ?_, h.bas⟩
  · have := hb2.set (o := 1 + j) (.slice (some ⟨g, 0, none⟩) (gs.length + 1) cap)
    rw [lwB_set lv bk _ _ j hj] at this
    exact this
  · rw [List.length_append, List.length_singleton]
    exact ownsRow_chg hr hset (fun k hk e => hne (by rw [hk, e]))
  · exact (h.frm.thru hcg (fun k hk e => Or.inr ((h.loc k e).elim id (fun e => by omega)))).trans (hset.mono (fun k _ e => Or.inl e))
  · intro k hk
    simp only [Value.ownBlock, Option.some.injEq] at hk
    subst hk
    rcases hat with e | e
    · exact h.loc _ e
    · right; have := h.le; omega
  · exact Nat.le_trans h.le (Nat.le_trans hcg.size hset.size)

theorem pats_allS (pat : List Value) (n : Nat) (ys : List Value) (h0 : 0 < pat.length) (hl : ys.length = n * pat.length) (h : ∀ j, j < n * pat.length → ys[j]? = pat[j % pat.length]?) : ys = pats pat n := by
  apply List.ext_getElem?
  intro j
  by_cases hj : j < n * pat.length
  · rw [h j hj, pats_get pat h0 n j hj]
  · rw [List.getElem?_eq_none (by omega), List.getElem?_eq_none (by rw [pats_len]; omega)]
theorem pats_newsS (W : World) (pat : List Value) (t : TypeId) (m : Nat) (cs : Array Value) (h : cs.toList = pats pat m) : ∀ j u, (pats pat m)[j]? = some u → (W.alloc (.cells cs t (0, 0))).cell? ((Addr.mk W.heap.size 0 none).add j) = some u := by
  rw [← h]; exact World.news_of_block (fr := (0, 0)) (heap_alloc_new W _)
theorem pats_oneS (pat : List Value) (h : ∀ u ∈ pat, u.oneCell' = true) (n : Nat) : ∀ u ∈ pats pat n, u.oneCell' = true := by
  intro u hu
  unfold pats at hu
  rw [List.mem_flatMap] at hu
  obtain ⟨_, _, hu⟩ := hu
  exact h u hu

/-- One thing more is a mark. -/
theorem marks_set3 {ys : List Value} {k n : Nat} {a b c : Value} (hk : k < n) (hl : ys.length = n * 3) (h : ∀ j, j < k * 3 → ys[j]? = [a, b, c][j % 3]?) :
    ∀ j, j < (k + 1) * 3 → (((ys.set (k * 3) a).set (k * 3 + 1) b).set (k * 3 + 2) c)[j]? = [a, b, c][j % 3]? := by
  intro j hj
  by_cases e2 : j = k * 3 + 2
  · subst e2; rw [List.getElem?_set_self (by simp; omega), show (k * 3 + 2) % 3 = 2 by omega]; rfl
  · rw [List.getElem?_set_ne (by omega)]
    by_cases e1 : j = k * 3 + 1
    · subst e1; rw [List.getElem?_set_self (by simp; omega), show (k * 3 + 1) % 3 = 1 by omega]; rfl
    · rw [List.getElem?_set_ne (by omega)]
      by_cases e0 : j = k * 3
      · subst e0; rw [List.getElem?_set_self (by omega), show (k * 3) % 3 = 0 by omega]; rfl
      · rw [List.getElem?_set_ne (by omega)]; exact h j (by omega)

def plz : Value := .agg #[.int .i64 0, .int .i64 0, .int .i64 0]
theorem Tryz.infoPl : (Tryz.prog.info? 133).map (fun i => (i.zero, i.size, i.bytes)) = some (some plz, 3, 24) := by kernel_rfl
theorem Tryz.infoPls : (Tryz.prog.info? 57).map (fun i => (i.zero, i.size, i.bytes)) = some (some (.slice none 0 0), 1, 24) := by kernel_rfl

/-- A row: what may be written there. -/
theorem row_free {w : World} {base : Nat} {e : TypeId} {size g n cap : Nat} {xs : List Value} (h : w.ownsRow base e size (.slice (some ⟨g, 0, none⟩) n cap) n xs) (k : Nat) : w.frozen? ⟨g, k, none⟩ = false := by
  rcases h.2 with ⟨h0, _⟩ | ⟨g', cap', cur, hv, _, hh, _⟩
  · cases h0
  · obtain ⟨rfl, rfl⟩ : g = g' ∧ cap = cap' := by simpa using hv
    simp [World.frozen?, hh]

set_option maxRecDepth 100000 in
set_option maxHeartbeats 16000000 in
theorem law_keeps2 (B : Nat) (w : World) (wb : Nat) (lv : Value) (bk : B4) (gs : List Value) (ua : Option Addr) (n uc : Nat) (xs : List Value) (hb : Blk w wb (lwB lv bk) 84) (hrow : w.ownsRow B 57 1 bk.p gs.length gs)
    (hlen : gs.length ≤ 90000000) (hn : n ≤ 2000000) (hB : B ≤ w.heap.size) (hl : w.ownsRow B 133 3 (.slice ua n uc) n xs) :
    Calls Tryz.prog 102 #[.pointer (some ⟨wb, 1, none⟩), .slice ua n uc] w (KeepPost 2 B w wb lv bk gs (.slice ua n uc)) := by
  obtain ⟨nv, iv, pv, ev⟩ := bk
  simp only at hrow
  obtain ⟨nad, ncap, hnv, hncap, _⟩ := row_shape hrow
  subst hnv
  have c1 : w.cell? ⟨wb, 3, none⟩ = some (.slice nad gs.length ncap) := hb.cell 3 _ rfl
  have hwl : (Value.slice ua n uc).ownBlock ≠ some wb := own_blk hl hb (by decide)
  have hnl : ∀ b, (Value.slice nad gs.length ncap).ownBlock = some b → (Value.slice ua n uc).ownBlock ≠ some b := fun b e => own_own hrow hl (by decide) e
  have hnw : (Value.slice nad gs.length ncap).ownBlock ≠ some wb := own_blk hrow hb (by decide)
  obtain ⟨m, hm⟩ : ∃ m : Int, m = -1000 - ((gs.length / 4 : Nat) : Int) := ⟨_, rfl⟩
  have hm' : (-1000 - (gs.length : Int) / 4) = m := by rw [hm]; omega
  have hwlt := hb.lt
  obtain ⟨W, hW⟩ : ∃ W : World, W = w.alloc (.cells #[.int .i64 m, .int .i64 0, .int .i64 0] 133 (0, 0)) := ⟨_, rfl⟩
  obtain ⟨mb, hmb⟩ : ∃ mb, mb = w.heap.size := ⟨_, rfl⟩
  have hbW : Below w.heap.size w W := by rw [hW]; exact (Below.refl _ _).alloc (Nat.le_refl _) _
  have hkW : Blk W mb #[.int .i64 m, .int .i64 0, .int .i64 0] 133 := by rw [hW, hmb]; exact blk_new w _ _
  have hul : ∀ b, (Value.slice ua n uc).ownBlock = some b → b < w.heap.size := fun b hb' => own_lt hl hb'
  have HB := hidden hb; have HR := hidden hrow; have HL := hidden hl; have HM := hidden hm; have HM' := hidden hm'; have HW := hidden hW; have HMB := hidden hmb; have HBW := hidden hbW; have HKW := hidden hkW
  clear hb hrow hl hm hm' hW hmb hbW hkW
  go_enter Tryz.func102, Tryz.ntmps102
  go_upto_region 1 with fail
  rw [HM'.out, ← HW.out, ← HMB.out]
  clear c1
  go_wp2_with fail
  go_loopw [5] (fun i wr => ∃ (k : Nat) (ys : List Value), k ≤ n ∧ i = .int .i64 k ∧ Hid (wr.ownsRow B 133 3 (.slice ua n uc) n ys ∧ ∀ j, j < k * 3 → ys[j]? = [.int .i64 m, .int .i64 0, .int .i64 0][j % 3]?) ∧ Hid (Chg (fun b => (Value.slice ua n uc).ownBlock = some b) W wr)) (fun i _ => n - (intOf i).toNat)
  case atStart => exact ⟨0, xs, Nat.zero_le _, rfl, hidden ⟨ownsRow_chg HL.out (Chg.ofBelow (S := fun _ => False) HBW.out) (fun _ _ => id), fun j h => by omega⟩, hidden (Chg.refl _ _)⟩
  case round =>
    obtain ⟨k, ys, hk, rfl, HY, HC⟩ := hrel
    have hmbr : Blk wr mb #[.int .i64 m, .int .i64 0, .int .i64 0] 133 := HKW.out.chg HC.out (fun e => by have := hul _ e; have := HMB.out; omega)
    have m0 : wr.cell? ⟨mb, 0, none⟩ = some (.int .i64 m) := hmbr.cell 0 _ rfl
    have m1 : wr.cell? ⟨mb, 1, none⟩ = some (.int .i64 0) := hmbr.cell 1 _ rfl
    have m2 : wr.cell? ⟨mb, 2, none⟩ = some (.int .i64 0) := hmbr.cell 2 _ rfl
    have HKR := hidden hmbr
    clear hmbr
    by_cases hlt : k < n
    · have hli : (k : Int) < (n : Int) := by omega
      have hl0 : (0 : Int) ≤ (k : Int) := by omega
      obtain ⟨lg, cap, hv, _, hlg, _, _, hc⟩ := row_cells HY.out.1 (by omega)
      obtain ⟨rfl, rfl⟩ : ua = some ⟨lg, 0, none⟩ ∧ uc = cap := by simpa using hv
      have hyl : ys.length = n * 3 := HY.out.1.1
      obtain ⟨x0, hx0⟩ : ∃ x, ys[k * 3]? = some x := ⟨_, List.getElem?_eq_getElem (by omega)⟩
      obtain ⟨x1, hx1⟩ : ∃ x, ys[k * 3 + 1]? = some x := ⟨_, List.getElem?_eq_getElem (by omega)⟩
      obtain ⟨x2, hx2⟩ : ∃ x, ys[k * 3 + 2]? = some x := ⟨_, List.getElem?_eq_getElem (by omega)⟩
      have e0 : wr.cell? ⟨lg, k * 3, none⟩ = some x0 := hc _ _ hx0
      have e1 : wr.cell? ⟨lg, k * 3 + 1, none⟩ = some x1 := hc _ _ hx1
      have e2 : wr.cell? ⟨lg, k * 3 + 2, none⟩ = some x2 := hc _ _ hx2
      have f0 := row_free HY.out.1 (k * 3); have f1 := row_free HY.out.1 (k * 3 + 1); have f2 := row_free HY.out.1 (k * 3 + 2)
      clear hx0 hx1 hx2 hc hv
      go_wp2_with fail
      go_roundw
      case rel =>
        refine ⟨k + 1, ((ys.set (k * 3) (.int .i64 m)).set (k * 3 + 1) (.int .i64 0)).set (k * 3 + 2) (.int .i64 0), by omega, by go_num, hidden ⟨ownsRow_set (ownsRow_set (ownsRow_set HY.out.1 (k * 3) _) (k * 3 + 1) _) (k * 3 + 2) _, marks_set3 hlt hyl HY.out.2⟩, hidden (((HC.out.setCell (p := ⟨lg, k * 3, none⟩) rfl _).setCell (p := ⟨lg, k * 3 + 1, none⟩) rfl _).setCell (p := ⟨lg, k * 3 + 2, none⟩) rfl _)⟩
      case measure => simp [intOf]; omega
    · obtain rfl : k = n := by omega
      have hys := pats_allS [.int .i64 m, .int .i64 0, .int .i64 0] k ys (by simp) HY.out.1.1 HY.out.2
      have hown : wr.ownsRow B 133 3 (.slice ua k uc) k (pats [.int .i64 m, .int .i64 0, .int .i64 0] k) := by rw [← hys]; exact HY.out.1
      have HO := hidden hown
      clear hys hown HY
      have hCW : Chg (fun b => (Value.slice ua k uc).ownBlock = some b) w wr := (Chg.ofBelow HBW.out).trans HC.out
      have HC0 := hidden hCW
      clear hCW HC
      have hli : ¬ (k : Int) < (k : Int) := by omega
      obtain ⟨i0, hi, hz0, hz1, hz2⟩ := info_parts Tryz.infoPl
      have HI := hidden (And.intro hi (And.intro hz0 (And.intro hz1 hz2)))
      have hBr : B ≤ wr.heap.size := Nat.le_trans hB HC0.out.size
      have HPO := hidden (fun q => pats_oneS [.int .i64 m, .int .i64 0, .int .i64 0] (by intro u hu; simp at hu; rcases hu with rfl | rfl <;> rfl) q)
      have HX1 := hidden (HO.out.alloc (.cells #[.int .i64 m, .int .i64 0, .int .i64 0] 133 (0, 0)))
      have HN1 := hidden (pats_newsS wr [.int .i64 m, .int .i64 0, .int .i64 0] 133 1 #[.int .i64 m, .int .i64 0, .int .i64 0] rfl)
      have HB1 := hidden (show B ≤ (wr.alloc (.cells #[.int .i64 m, .int .i64 0, .int .i64 0] 133 (0, 0))).heap.size by simp; omega)
      have HQ1 := hidden (And.intro (show k + 1 ≤ maxLen by unfold maxLen; omega) (And.intro (show k + 2 ≤ maxLen by unfold maxLen; omega) (show k + 3 ≤ maxLen by unfold maxLen; omega)))
      have HQ2 := hidden (And.intro (show (k + 1) * 24 ≤ 140737488355328 by omega) (And.intro (show (k + 2) * 24 ≤ 140737488355328 by omega) (show (k + 3) * 24 ≤ 140737488355328 by omega)))
      clear hi hz0 hz1 hz2
      go_wp2_with (at_builtin; refine wpList_append_pats _ rfl _ _ 57 rfl B 133 i0 plz 3 24 Tryz.underlying57 HI.out.1 HI.out.2.1 HI.out.2.2.1 HI.out.2.2.2 rfl (by decide) [.int .i64 m, .int .i64 0, .int .i64 0] rfl (.slice ua k uc) k rfl HX1.out ⟨wr.heap.size, 0, none⟩ 1 1 rfl HN1.out (HPO.out 1) HQ1.out.1 HQ2.out.1 HB1.out ?_)
      intro v1 w2 ho1 hg1 hat1 hkp1
      obtain ⟨a1, c1, hv1, _, _⟩ := row_shape ho1
      subst hv1
      have hc1 : Chg (fun b => (Value.slice ua k uc).ownBlock = some b) w w2 := (HC0.out.alloc _).trans ((Chg.ofGrown hg1).mono (fun b _ e => e.symm))
      have hl1 := hkp1 _ _ _ HX1.out
      have hat1' : ∀ b, (Value.slice a1 (k + 1) c1).ownBlock = some b → (Value.slice ua k uc).ownBlock = some b ∨ w.heap.size ≤ b := fun b hb => by
        rcases hat1 with e | e
        · rw [e] at hb; exact Or.inl hb
        · rw [e] at hb; right; have := HC0.out.size; simp at hb; omega
      have hmb2 : Blk w2 mb #[.int .i64 m, .int .i64 0, .int .i64 0] 133 := (HKR.out.alloc _).chg (Chg.ofGrown hg1) (fun e => by have := hul _ e.symm; have := HMB.out; omega)
      have HO1 := hidden ho1; have HC1 := hidden hc1; have HL1 := hidden hl1; have HA1 := hidden hat1'
      have hB2 : B ≤ w2.heap.size := Nat.le_trans hB hc1.size
      clear m0 m1 m2
      have m0 : w2.cell? ⟨mb, 0, none⟩ = some (.int .i64 m) := hmb2.cell 0 _ rfl
      have m1 : w2.cell? ⟨mb, 1, none⟩ = some (.int .i64 0) := hmb2.cell 1 _ rfl
      have m2 : w2.cell? ⟨mb, 2, none⟩ = some (.int .i64 0) := hmb2.cell 2 _ rfl
      have HK2 := hidden hmb2
      clear ho1 hg1 hat1 hkp1 hc1 hl1 hat1' hmb2 HX1 HN1 HB1 HO
      have HX2 := hidden (HL1.out.alloc (.cells #[.int .i64 m, .int .i64 0, .int .i64 0, .int .i64 m, .int .i64 0, .int .i64 0] 133 (0, 0)))
      have HY2 := hidden (HO1.out.alloc (.cells #[.int .i64 m, .int .i64 0, .int .i64 0, .int .i64 m, .int .i64 0, .int .i64 0] 133 (0, 0)))
      have HN2 := hidden (pats_newsS w2 [.int .i64 m, .int .i64 0, .int .i64 0] 133 2 #[.int .i64 m, .int .i64 0, .int .i64 0, .int .i64 m, .int .i64 0, .int .i64 0] rfl)
      have HB2 := hidden (show B ≤ (w2.alloc (.cells #[.int .i64 m, .int .i64 0, .int .i64 0, .int .i64 m, .int .i64 0, .int .i64 0] 133 (0, 0))).heap.size by simp; omega)
      go_wp2_with (at_builtin; refine wpList_append_pats _ rfl _ _ 57 rfl B 133 i0 plz 3 24 Tryz.underlying57 HI.out.1 HI.out.2.1 HI.out.2.2.1 HI.out.2.2.2 rfl (by decide) [.int .i64 m, .int .i64 0, .int .i64 0] rfl (.slice ua k uc) k rfl HX2.out ⟨w2.heap.size, 0, none⟩ 2 2 rfl HN2.out (HPO.out 2) HQ1.out.2.1 HQ2.out.2.1 HB2.out ?_)
      intro v2 w3 ho2 hg2 hat2 hkp2
      obtain ⟨a2, c2, hv2, _, _⟩ := row_shape ho2
      subst hv2
      have hc2 : Chg (fun b => (Value.slice ua k uc).ownBlock = some b) w w3 := (HC1.out.alloc _).trans ((Chg.ofGrown hg2).mono (fun b _ e => e.symm))
      have hat2' : ∀ b, (Value.slice a2 (k + 2) c2).ownBlock = some b → (Value.slice ua k uc).ownBlock = some b ∨ w.heap.size ≤ b := fun b hb => by
        rcases hat2 with e | e
        · rw [e] at hb; exact Or.inl hb
        · rw [e] at hb; right; have := HC1.out.size; simp at hb; omega
      have hl2 := hkp2 _ _ _ HX2.out
      have hm2 := hkp2 _ _ _ HY2.out
      have hmb3 : Blk w3 mb #[.int .i64 m, .int .i64 0, .int .i64 0] 133 := (HK2.out.alloc _).chg (Chg.ofGrown hg2) (fun e => by have := hul _ e.symm; have := HMB.out; omega)
      have HO2 := hidden ho2; have HC2 := hidden hc2; have HL2 := hidden hl2; have HM2 := hidden hm2; have HA2 := hidden hat2'
      have hB3 : B ≤ w3.heap.size := Nat.le_trans hB hc2.size
      clear m0 m1 m2
      have m0 : w3.cell? ⟨mb, 0, none⟩ = some (.int .i64 m) := hmb3.cell 0 _ rfl
      have m1 : w3.cell? ⟨mb, 1, none⟩ = some (.int .i64 0) := hmb3.cell 1 _ rfl
      have m2 : w3.cell? ⟨mb, 2, none⟩ = some (.int .i64 0) := hmb3.cell 2 _ rfl
      clear ho2 hg2 hat2 hkp2 hc2 hl2 hm2 hat2' hmb3 HX2 HY2 HN2 HB2 HO1 HL1 HC1 HK2
      have HX3 := hidden (HL2.out.alloc (.cells #[.int .i64 m, .int .i64 0, .int .i64 0, .int .i64 m, .int .i64 0, .int .i64 0, .int .i64 m, .int .i64 0, .int .i64 0] 133 (0, 0)))
      have HY3 := hidden (HM2.out.alloc (.cells #[.int .i64 m, .int .i64 0, .int .i64 0, .int .i64 m, .int .i64 0, .int .i64 0, .int .i64 m, .int .i64 0, .int .i64 0] 133 (0, 0)))
      have HZ3 := hidden (HO2.out.alloc (.cells #[.int .i64 m, .int .i64 0, .int .i64 0, .int .i64 m, .int .i64 0, .int .i64 0, .int .i64 m, .int .i64 0, .int .i64 0] 133 (0, 0)))
      have HN3 := hidden (pats_newsS w3 [.int .i64 m, .int .i64 0, .int .i64 0] 133 3 #[.int .i64 m, .int .i64 0, .int .i64 0, .int .i64 m, .int .i64 0, .int .i64 0, .int .i64 m, .int .i64 0, .int .i64 0] rfl)
      have HB3 := hidden (show B ≤ (w3.alloc (.cells #[.int .i64 m, .int .i64 0, .int .i64 0, .int .i64 m, .int .i64 0, .int .i64 0, .int .i64 m, .int .i64 0, .int .i64 0] 133 (0, 0))).heap.size by simp; omega)
      go_wp2_with (at_builtin; refine wpList_append_pats _ rfl _ _ 57 rfl B 133 i0 plz 3 24 Tryz.underlying57 HI.out.1 HI.out.2.1 HI.out.2.2.1 HI.out.2.2.2 rfl (by decide) [.int .i64 m, .int .i64 0, .int .i64 0] rfl (.slice ua k uc) k rfl HX3.out ⟨w3.heap.size, 0, none⟩ 3 3 rfl HN3.out (HPO.out 3) HQ1.out.2.2 HQ2.out.2.2 HB3.out ?_)
      intro v3 w4 ho3 hg3 hat3 hkp3
      obtain ⟨a3, c3, hv3, _, _⟩ := row_shape ho3
      subst hv3
      have hc3 : Chg (fun b => (Value.slice ua k uc).ownBlock = some b) w w4 := (HC2.out.alloc _).trans ((Chg.ofGrown hg3).mono (fun b _ e => e.symm))
      have hat3' : ∀ b, (Value.slice a3 (k + 3) c3).ownBlock = some b → (Value.slice ua k uc).ownBlock = some b ∨ w.heap.size ≤ b := fun b hb => by
        rcases hat3 with e | e
        · rw [e] at hb; exact Or.inl hb
        · rw [e] at hb; right; have := HC2.out.size; simp at hb; omega
      have hq := HM.out
      have mk : ∀ (v : Value) (q : Nat), q ≤ 3000000 → w4.ownsRow B 133 3 v q (pats [.int .i64 m, .int .i64 0, .int .i64 0] q) → MarkedJ 2 B w4 v (gs.length / 4) := fun v q h1 h2 => ⟨q, h1, by
        show w4.ownsRow B 133 3 v q (pats [.int .i64 (-1000 - ((gs.length / 4 : Nat) : Int)), .int .i64 0, .int .i64 0] q)
        rw [← hq]; exact h2⟩
      have M0 := mk _ k (by omega) (hkp3 _ _ _ HX3.out)
      have M1 := mk _ (k + 1) (by omega) (hkp3 _ _ _ HY3.out)
      have M2 := mk _ (k + 2) (by omega) (hkp3 _ _ _ HZ3.out)
      have M3 := mk _ (k + 3) (by omega) ho3
      have HMM := hidden (And.intro M0 (And.intro M1 (And.intro M2 M3))); have HC3 := hidden hc3; have HA3 := hidden hat3'
      clear ho3 hg3 hat3 hkp3 hc3 hat3' HX3 HY3 HZ3 HN3 HB3 HO2 HL2 HM2 HC2 hq mk M0 M1 M2 M3 m0 m1 m2
      have hrow4 := ownsRow_chg HR.out HC3.out (fun b hb e => hnl b hb e)
      have hblk4 := HB.out.chg HC3.out hwl
      have HR4 := hidden hrow4; have HB4 := hidden hblk4
      have c4 : w4.cell? ⟨wb, 3, none⟩ = some (.slice nad gs.length ncap) := hblk4.cell 3 _ rfl
      have f4 := hblk4.frozen 3
      clear hrow4 hblk4
      obtain ⟨j0, hj, hy0, hy1, hy2⟩ := info_parts Tryz.infoPls
      have HJ := hidden (And.intro hj (And.intro hy0 (And.intro hy1 hy2)))
      have hB4 : B ≤ w4.heap.size := Nat.le_trans hB HC3.out.size
      have hN4 : NSJ 2 B w4 w4 wb lv ⟨nv, iv, .slice nad gs.length ncap, ev⟩ (.slice nad gs.length ncap) gs := ⟨HB4.out, HR4.out, Chg.refl _ _, Lc.refl _ _, Nat.le_refl _, hB4⟩
      have HNS := hidden hN4
      have HE1 := hidden (fun (a : Option Addr) (x y : Nat) => (show ∀ u ∈ [Value.slice a x y], u.oneCell' = true by intro u hu; simp at hu; rw [hu]; rfl))
      clear hj hy0 hy1 hy2 hN4 HB4 HR4
      have HW0 := hidden (HNS.out.row.alloc (.cells #[Value.slice ua k uc] 57 (0, 0)))
      have HV0 := hidden (newsA w4 #[Value.slice ua k uc] 57)
      have HU0 := hidden (show gs.length + 1 ≤ maxLen by unfold maxLen; omega)
      have HT0 := hidden (show (gs.length + 1) * 24 ≤ 140737488355328 by omega)
      have HS0 := hidden (show B ≤ (World.alloc w4 (.cells #[Value.slice ua k uc] 57 (0, 0))).heap.size by have := HNS.out.le; simp; omega)
      have HH0 := hidden (show (World.alloc w4 (.cells #[Value.slice ua k uc] 57 (0, 0))).heap.size = w4.heap.size + 1 by simp)
      go_wp2_with (at_builtin; refine wpList_append_lies _ rfl _ _ 79 rfl B 57 j0 (.slice none 0 0) 1 24 Tryz.underlying79 HJ.out.1 HJ.out.2.1 HJ.out.2.2.1 HJ.out.2.2.2 rfl (by decide) (Value.slice nad gs.length ncap) (gs.length) gs rfl HW0.out ⟨w4.heap.size, 0, none⟩ 1 1 [Value.slice ua k uc] rfl rfl HV0.out (HE1.out _ _ _) (by decide) HU0.out HT0.out HS0.out (w4.heap.size + 1) HH0.out ?_)
      intro g0 cap0 y0 hr0 hg0 hat0 hlt0
      have hns0 := HNS.out.step (by omega) (u := Value.slice ua k uc) (n := gs.length) rfl hr0 hg0 hat0
      have hbl0 := (HNS.out.blk.alloc (.cells #[Value.slice ua k uc] 57 (0, 0))).chg (Chg.ofGrown hg0) (fun e => own_blk HNS.out.row HNS.out.blk (by decide) e.symm)
      have q0 : y0.cell? ⟨wb, 3, none⟩ = some (Value.slice nad gs.length ncap) := hbl0.cell 3 _ rfl
      have r0 := hbl0.frozen 3
      obtain ⟨z0, hz0⟩ : ∃ z : World, z = y0.setCell ⟨wb, 3, none⟩ (.slice (some ⟨g0, 0, none⟩) (gs.length + 1) cap0) := ⟨_, rfl⟩
      obtain ⟨G0, hG0⟩ : ∃ G : List Value, G = gs ++ [Value.slice ua k uc] := ⟨_, rfl⟩
      rw [← hG0] at hns0
      simp only [show 1 + 2 = 3 from rfl] at hns0
      rw [← hz0] at hns0
      have HL0 : Hid (G0.length = gs.length + 1) := by show G0.length = _; rw [hG0, List.length_append, List.length_singleton]
      have HN0 := hidden hns0; have HG0 := hidden hG0
      have p0 : z0.cell? ⟨wb, 3, none⟩ = some (.slice (some ⟨g0, 0, none⟩) (gs.length + 1) cap0) := hns0.blk.cell 3 _ rfl
      have s0 := hns0.blk.frozen 3
      clear hr0 hg0 hat0 hlt0 hns0 hbl0 hG0 HW0 HV0 HU0 HT0 HS0 HH0 c4 f4
      go_upto_region 9 with fail
      rw [← hz0]
      clear q0 r0 hz0
      have HW1 := hidden (show (World.alloc z0 (.cells #[Value.slice a1 (k + 1) c1] 57 (0, 0))).ownsRow B 57 1 (Value.slice (some ⟨g0, 0, none⟩) (gs.length + 1) cap0) (gs.length + 1) G0 by have h := HN0.out.row; rw [HL0.out] at h; exact h.alloc _)
      have HV1 := hidden (newsA z0 #[Value.slice a1 (k + 1) c1] 57)
      have HU1 := hidden (show gs.length + 1 + 1 ≤ maxLen by unfold maxLen; omega)
      have HT1 := hidden (show (gs.length + 1 + 1) * 24 ≤ 140737488355328 by omega)
      have HS1 := hidden (show B ≤ (World.alloc z0 (.cells #[Value.slice a1 (k + 1) c1] 57 (0, 0))).heap.size by have := HN0.out.le; simp; omega)
      have HH1 := hidden (show (World.alloc z0 (.cells #[Value.slice a1 (k + 1) c1] 57 (0, 0))).heap.size = z0.heap.size + 1 by simp)
      go_wp2_with (at_builtin; refine wpList_append_lies _ rfl _ _ 79 rfl B 57 j0 (.slice none 0 0) 1 24 Tryz.underlying79 HJ.out.1 HJ.out.2.1 HJ.out.2.2.1 HJ.out.2.2.2 rfl (by decide) (Value.slice (some ⟨g0, 0, none⟩) (gs.length + 1) cap0) (gs.length + 1) G0 rfl HW1.out ⟨z0.heap.size, 0, none⟩ 1 1 [Value.slice a1 (k + 1) c1] rfl rfl HV1.out (HE1.out _ _ _) (by decide) HU1.out HT1.out HS1.out (z0.heap.size + 1) HH1.out ?_)
      intro g1 cap1 y1 hr1 hg1 hat1 hlt1
      have hns1 := HN0.out.step (by omega) (u := Value.slice a1 (k + 1) c1) (n := gs.length + 1) HL0.out.symm hr1 hg1 hat1
      have hbl1 := (HN0.out.blk.alloc (.cells #[Value.slice a1 (k + 1) c1] 57 (0, 0))).chg (Chg.ofGrown hg1) (fun e => own_blk HN0.out.row HN0.out.blk (by decide) e.symm)
      have q1 : y1.cell? ⟨wb, 3, none⟩ = some (Value.slice (some ⟨g0, 0, none⟩) (gs.length + 1) cap0) := hbl1.cell 3 _ rfl
      have r1 := hbl1.frozen 3
      obtain ⟨z1, hz1⟩ : ∃ z : World, z = y1.setCell ⟨wb, 3, none⟩ (.slice (some ⟨g1, 0, none⟩) (gs.length + 1 + 1) cap1) := ⟨_, rfl⟩
      obtain ⟨G1, hG1⟩ : ∃ G : List Value, G = G0 ++ [Value.slice a1 (k + 1) c1] := ⟨_, rfl⟩
      rw [← hG1] at hns1
      simp only [show 1 + 2 = 3 from rfl] at hns1
      rw [← hz1] at hns1
      have HL1 : Hid (G1.length = gs.length + 1 + 1) := by show G1.length = _; rw [hG1, List.length_append, List.length_singleton, HL0.out]
      have HN1 := hidden hns1; have HG1 := hidden hG1
      have p1 : z1.cell? ⟨wb, 3, none⟩ = some (.slice (some ⟨g1, 0, none⟩) (gs.length + 1 + 1) cap1) := hns1.blk.cell 3 _ rfl
      have s1 := hns1.blk.frozen 3
      clear hr1 hg1 hat1 hlt1 hns1 hbl1 hG1 HW1 HV1 HU1 HT1 HS1 HH1 p0 s0
      go_upto_region 10 with fail
      rw [← hz1]
      clear q1 r1 hz1
      have HW2 := hidden (show (World.alloc z1 (.cells #[Value.slice a2 (k + 2) c2] 57 (0, 0))).ownsRow B 57 1 (Value.slice (some ⟨g1, 0, none⟩) (gs.length + 1 + 1) cap1) (gs.length + 1 + 1) G1 by have h := HN1.out.row; rw [HL1.out] at h; exact h.alloc _)
      have HV2 := hidden (newsA z1 #[Value.slice a2 (k + 2) c2] 57)
      have HU2 := hidden (show gs.length + 1 + 1 + 1 ≤ maxLen by unfold maxLen; omega)
      have HT2 := hidden (show (gs.length + 1 + 1 + 1) * 24 ≤ 140737488355328 by omega)
      have HS2 := hidden (show B ≤ (World.alloc z1 (.cells #[Value.slice a2 (k + 2) c2] 57 (0, 0))).heap.size by have := HN1.out.le; simp; omega)
      have HH2 := hidden (show (World.alloc z1 (.cells #[Value.slice a2 (k + 2) c2] 57 (0, 0))).heap.size = z1.heap.size + 1 by simp)
      go_wp2_with (at_builtin; refine wpList_append_lies _ rfl _ _ 79 rfl B 57 j0 (.slice none 0 0) 1 24 Tryz.underlying79 HJ.out.1 HJ.out.2.1 HJ.out.2.2.1 HJ.out.2.2.2 rfl (by decide) (Value.slice (some ⟨g1, 0, none⟩) (gs.length + 1 + 1) cap1) (gs.length + 1 + 1) G1 rfl HW2.out ⟨z1.heap.size, 0, none⟩ 1 1 [Value.slice a2 (k + 2) c2] rfl rfl HV2.out (HE1.out _ _ _) (by decide) HU2.out HT2.out HS2.out (z1.heap.size + 1) HH2.out ?_)
      intro g2 cap2 y2 hr2 hg2 hat2 hlt2
      have hns2 := HN1.out.step (by omega) (u := Value.slice a2 (k + 2) c2) (n := gs.length + 1 + 1) HL1.out.symm hr2 hg2 hat2
      have hbl2 := (HN1.out.blk.alloc (.cells #[Value.slice a2 (k + 2) c2] 57 (0, 0))).chg (Chg.ofGrown hg2) (fun e => own_blk HN1.out.row HN1.out.blk (by decide) e.symm)
      have q2 : y2.cell? ⟨wb, 3, none⟩ = some (Value.slice (some ⟨g1, 0, none⟩) (gs.length + 1 + 1) cap1) := hbl2.cell 3 _ rfl
      have r2 := hbl2.frozen 3
      obtain ⟨z2, hz2⟩ : ∃ z : World, z = y2.setCell ⟨wb, 3, none⟩ (.slice (some ⟨g2, 0, none⟩) (gs.length + 1 + 1 + 1) cap2) := ⟨_, rfl⟩
      obtain ⟨G2, hG2⟩ : ∃ G : List Value, G = G1 ++ [Value.slice a2 (k + 2) c2] := ⟨_, rfl⟩
      rw [← hG2] at hns2
      simp only [show 1 + 2 = 3 from rfl] at hns2
      rw [← hz2] at hns2
      have HL2 : Hid (G2.length = gs.length + 1 + 1 + 1) := by show G2.length = _; rw [hG2, List.length_append, List.length_singleton, HL1.out]
      have HN2 := hidden hns2; have HG2 := hidden hG2
      have p2 : z2.cell? ⟨wb, 3, none⟩ = some (.slice (some ⟨g2, 0, none⟩) (gs.length + 1 + 1 + 1) cap2) := hns2.blk.cell 3 _ rfl
      have s2 := hns2.blk.frozen 3
      clear hr2 hg2 hat2 hlt2 hns2 hbl2 hG2 HW2 HV2 HU2 HT2 HS2 HH2 p1 s1
      go_upto_region 11 with fail
      rw [← hz2]
      clear q2 r2 hz2
      have HW3 := hidden (show (World.alloc z2 (.cells #[Value.slice a3 (k + 3) c3] 57 (0, 0))).ownsRow B 57 1 (Value.slice (some ⟨g2, 0, none⟩) (gs.length + 1 + 1 + 1) cap2) (gs.length + 1 + 1 + 1) G2 by have h := HN2.out.row; rw [HL2.out] at h; exact h.alloc _)
      have HV3 := hidden (newsA z2 #[Value.slice a3 (k + 3) c3] 57)
      have HU3 := hidden (show gs.length + 1 + 1 + 1 + 1 ≤ maxLen by unfold maxLen; omega)
      have HT3 := hidden (show (gs.length + 1 + 1 + 1 + 1) * 24 ≤ 140737488355328 by omega)
      have HS3 := hidden (show B ≤ (World.alloc z2 (.cells #[Value.slice a3 (k + 3) c3] 57 (0, 0))).heap.size by have := HN2.out.le; simp; omega)
      have HH3 := hidden (show (World.alloc z2 (.cells #[Value.slice a3 (k + 3) c3] 57 (0, 0))).heap.size = z2.heap.size + 1 by simp)
      go_wp2_with (at_builtin; refine wpList_append_lies _ rfl _ _ 79 rfl B 57 j0 (.slice none 0 0) 1 24 Tryz.underlying79 HJ.out.1 HJ.out.2.1 HJ.out.2.2.1 HJ.out.2.2.2 rfl (by decide) (Value.slice (some ⟨g2, 0, none⟩) (gs.length + 1 + 1 + 1) cap2) (gs.length + 1 + 1 + 1) G2 rfl HW3.out ⟨z2.heap.size, 0, none⟩ 1 1 [Value.slice a3 (k + 3) c3] rfl rfl HV3.out (HE1.out _ _ _) (by decide) HU3.out HT3.out HS3.out (z2.heap.size + 1) HH3.out ?_)
      intro g3 cap3 y3 hr3 hg3 hat3 hlt3
      have hns3 := HN2.out.step (by omega) (u := Value.slice a3 (k + 3) c3) (n := gs.length + 1 + 1 + 1) HL2.out.symm hr3 hg3 hat3
      have hbl3 := (HN2.out.blk.alloc (.cells #[Value.slice a3 (k + 3) c3] 57 (0, 0))).chg (Chg.ofGrown hg3) (fun e => own_blk HN2.out.row HN2.out.blk (by decide) e.symm)
      have q3 : y3.cell? ⟨wb, 3, none⟩ = some (Value.slice (some ⟨g2, 0, none⟩) (gs.length + 1 + 1 + 1) cap2) := hbl3.cell 3 _ rfl
      have r3 := hbl3.frozen 3
      obtain ⟨z3, hz3⟩ : ∃ z : World, z = y3.setCell ⟨wb, 3, none⟩ (.slice (some ⟨g3, 0, none⟩) (gs.length + 1 + 1 + 1 + 1) cap3) := ⟨_, rfl⟩
      obtain ⟨G3, hG3⟩ : ∃ G : List Value, G = G2 ++ [Value.slice a3 (k + 3) c3] := ⟨_, rfl⟩
      rw [← hG3] at hns3
      simp only [show 1 + 2 = 3 from rfl] at hns3
      rw [← hz3] at hns3
      have HL3 : Hid (G3.length = gs.length + 1 + 1 + 1 + 1) := by show G3.length = _; rw [hG3, List.length_append, List.length_singleton, HL2.out]
      have HN3 := hidden hns3; have HG3 := hidden hG3
      have p3 : z3.cell? ⟨wb, 3, none⟩ = some (.slice (some ⟨g3, 0, none⟩) (gs.length + 1 + 1 + 1 + 1) cap3) := hns3.blk.cell 3 _ rfl
      have s3 := hns3.blk.frozen 3
      clear hr3 hg3 hat3 hlt3 hns3 hbl3 hG3 HW3 HV3 HU3 HT3 HS3 HH3 p2 s2
      go_wp2_with fail
      rw [← hz3]
      clear q3 r3 hz3 p3 s3
      go_end0
      have hF := HN3.out
      obtain ⟨M0, M1, M2, M3⟩ := HMM.out
      have tn : ∀ (u : Value) (q : Nat), MarkedJ 2 B w4 u q → MarkedJ 2 B z3 u q := fun u q hM => hM.chg hF.frm (fun b hb e => by
        obtain ⟨kk, _, hr⟩ := hM
        rcases e with e | e
        · subst e; exact own_blk hr (HB.out.chg HC3.out hwl) (by decide) hb
        · exact own_own hr (ownsRow_chg HR.out HC3.out (fun b hb e => hnl b hb e)) (by decide) hb e)
      refine ⟨rfl, _, .slice a1 (k + 1) c1, .slice a2 (k + 2) c2, .slice a3 (k + 3) c3, hF.blk, ?_, tn _ _ M0, tn _ _ M1, tn _ _ M2, tn _ _ M3, ?_, ?_, ?_⟩
      · have h := hF.row
        rw [HL3.out, HG3.out, HG2.out, HG1.out, HG0.out] at h
        simpa using h
      · rintro u (rfl | rfl | rfl)
        · exact HA1.out
        · exact HA2.out
        · exact HA3.out
      · exact hF.loc.mono HC3.out.size
      · exact (HC3.out.mono (fun b _ e => Or.inr (Or.inl e))).trans (hF.frm.mono (fun b _ e => e.imp id Or.inr))

end Go.Proofs.YtcphhbofjkenaaaGreatDoor
